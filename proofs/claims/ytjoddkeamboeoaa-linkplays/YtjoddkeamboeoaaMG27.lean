/- EHear3, EMeet, ETakS. -/
import Derived.Test.YtjoddkeamboeoaaMG26
set_option maxRecDepth 100000
namespace Go.Proofs.Ytjoddkeamboeoaa
open Go.RowKit
set_option maxHeartbeats 1000000 in
theorem heard_any(l:List UInt8)(w:World)(hl:l.length<=140737488351232):Calls Try.prog 39 #[.string ⟨l.toArray⟩] w (HdE l w):=by
 by_cases hc1:(onlyP l).2=true/\(onlyP l).1.rows.length=0/\(onlyP l).1.kind=1/\(onlyP l).1.nums.length=4/\(onlyP l).1.texts.length=1
 . exact heard_one l w hl hc1
 by_cases hc2:(onlyP l).2=true/\(onlyP l).1.rows.length=0/\(onlyP l).1.kind=2/\(onlyP l).1.nums.length=3/\(onlyP l).1.texts.length=0
 . exact heard_two l w hl hc2
 have HC1:=zA hc1;have HC2:=zA hc2;clear hc1 hc2;have C:Hid (Calls Try.prog 54 #[.string ⟨l.toArray⟩] (resH w) (OnE l (resH w))):=zA (only_any l (resH w) hl);unfold OnE at C;obtain⟨n,hn⟩:∃n,(onlyP l).1=n:=⟨_,rfl⟩
 obtain⟨ok,hok⟩:∃k,(onlyP l).2=k:=⟨_,rfl⟩
 rw[hn,hok]at C;have HM:Hid (ok=true->n.may):=zA (fun h=>by rw[<- hn];exact(onlyP_ok (by rw[hok,h])).1);have HN:=zA hn;have HOK:=zA hok;clear hn hok hl;have HRN:Hid ((resH w).heap.size=w.heap.size+1):=zA (by simp);go_enter Try.func39,Try.ntmps39;go_wp2_with fail;refine C.out.mono ?_;clear C;rintro x w1 ⟨v,rfl,hown,hb⟩;obtain⟨a0,l0,c0,a1,l1,c1,a2,l2,c2,rfl⟩:=own_parts hown;rw[HRN.out]at hown hb;have hb2:Below (w.heap.size+1) (resH w) (w1.alloc (.cells #[.int .i64 n.kind,.slice a0 l0 c0,.slice a1 l1 c1,.slice a2 l2 c2] 36)):=hb.alloc (zS (by rw[HRN.out];exact zC _) hb.size) _;have hown2:=hown.below ((zB w1.heap.size w1).alloc (zC _) (.cells #[.int .i64 n.kind,.slice a0 l0 c0,.slice a1 l1 c1,.slice a2 l2 c2] 36));obtain⟨e0,e1,e2,hrn,hrt⟩:=own_read hown2;have hbx:=box_at w1 (.cells #[.int .i64 n.kind,.slice a0 l0 c0,.slice a1 l1 c1,.slice a2 l2 c2] 36);have HE0:=zA e0;have HE1:=zA e1;have HE2:=zA e2;have HRNM:=zA hrn;have HRTX:=zA hrt;have HB2:=zA hb2;have HOWN:=zA hown2;have HB1:=zA hb;obtain⟨⟨q0,q1,q2,q3⟩,-⟩:=four_cells hbx;have HBX:=zA hbx;obtain⟨⟨r0,r1,r2,r3,r4,r5,r6,r7,r8⟩,⟨f0,f1,f2,f3,f4,f5,f6,f7,f8⟩⟩:=nine_cells (resH_block hb2);have HD:Hid (heardP l=none->HdE l w (.returned (.tuple #[.agg #[.int .i64 0,.int .i64 0,.int .i64 0,.bool false,.int .i64 0,.int .i64 0,.slice none 0 0,.slice none 0 0,.slice none 0 0],.bool false])) (set9 (w1.alloc (.cells #[.int .i64 n.kind,.slice a0 l0 c0,.slice a1 l1 c1,.slice a2 l2 c2] 36)) w.heap.size (.int .i64 0) (.int .i64 0) (.int .i64 0) (.bool false) (.int .i64 0) (.int .i64 0) (.slice none 0 0) (.slice none 0 0) (.slice none 0 0))):=zA (fun h=>hdE_none h (set9_below (resH_below HB2.out) (zC _) _ _ _ _ _ _ _ _ _));clear hown hb hb2 hown2 e0 e1 e2 hrn hrt hbx;cases ok with
 |false=>
  have HE:=zA (HD.out (by rw[heardP,HOK.out,HN.out];rfl));clear HD;obtain⟨⟨z0,z1,z2,z3,z4,z5,z6,z7,z8⟩,-⟩:=nine_cells (set9_block (resH_block HB2.out) (.int .i64 0) (.int .i64 0) (.int .i64 0) (.bool false) (.int .i64 0) (.int .i64 0) (.slice none 0 0) (.slice none 0 0) (.slice none 0 0));have Z0:=zA z0;have Z1:=zA z1;have Z2:=zA z2;have Z3:=zA z3;have Z4:=zA z4;have Z5:=zA z5;have Z6:=zA z6;have Z7:=zA z7;have Z8:=zA z8;clear z0 z1 z2 z3 z4 z5 z6 z7 z8;go_wp2;refine bodyPost_ret (v:=.tuple #[.agg #[.int .i64 0,.int .i64 0,.int .i64 0,.bool false,.int .i64 0,.int .i64 0,.slice none 0 0,.slice none 0 0,.slice none 0 0],.bool false]) ?_ rfl HE.out;simp[results,Try.results39,go_sem,Z0.out,Z1.out,Z2.out,Z3.out,Z4.out,Z5.out,Z6.out,Z7.out,Z8.out]
 |true=>
  have HMAY:=zA (HM.out rfl);clear HM;by_cases hr:l2=0
  . subst hr;by_cases hk1:n.kind=1
    . have hk1b:(n.kind==1)=true:=by simp;exact hk1
      have HKD:=zA hk1;clear hk1;by_cases h4:l0=4
      . subst h4;by_cases h5:l1=1
        . subst h5;exact absurd ⟨by rw[HOK.out],by rw[HN.out,<- HE2.out],by rw[HN.out];exact HKD.out,by rw[HN.out,<- HE0.out],by rw[HN.out,<- HE1.out]⟩ HC1.out
        . have h5a:((l1:Int)==1)=false:=by simp;omega
          have h5b:¬(l1:Int)=1:=by omega
          have k2:(n.kind==2)=false:=by simp;have:=HKD.out;omega
          have HE:=zA (HD.out (by rw[heardP,HOK.out,HN.out];exact heardN_one HKD.out (fun h=>h5 (HE1.out.trans h.2))));clear HD;clear h5;obtain⟨⟨z0,z1,z2,z3,z4,z5,z6,z7,z8⟩,-⟩:=nine_cells (set9_block (resH_block HB2.out) (.int .i64 0) (.int .i64 0) (.int .i64 0) (.bool false) (.int .i64 0) (.int .i64 0) (.slice none 0 0) (.slice none 0 0) (.slice none 0 0));have Z0:=zA z0;have Z1:=zA z1;have Z2:=zA z2;have Z3:=zA z3;have Z4:=zA z4;have Z5:=zA z5;have Z6:=zA z6;have Z7:=zA z7;have Z8:=zA z8;clear z0 z1 z2 z3 z4 z5 z6 z7 z8;go_wp2;refine bodyPost_ret (v:=.tuple #[.agg #[.int .i64 0,.int .i64 0,.int .i64 0,.bool false,.int .i64 0,.int .i64 0,.slice none 0 0,.slice none 0 0,.slice none 0 0],.bool false]) ?_ rfl HE.out;simp[results,Try.results39,go_sem,Z0.out,Z1.out,Z2.out,Z3.out,Z4.out,Z5.out,Z6.out,Z7.out,Z8.out]
      . have h4a:((l0:Int)==4)=false:=by simp;omega
        have h4b:¬(l0:Int)=4:=by omega
        have k2:(n.kind==2)=false:=by simp;have:=HKD.out;omega
        have HE:=zA (HD.out (by rw[heardP,HOK.out,HN.out];exact heardN_one HKD.out (fun h=>h4 (HE0.out.trans h.1))));clear HD;clear h4;obtain⟨⟨z0,z1,z2,z3,z4,z5,z6,z7,z8⟩,-⟩:=nine_cells (set9_block (resH_block HB2.out) (.int .i64 0) (.int .i64 0) (.int .i64 0) (.bool false) (.int .i64 0) (.int .i64 0) (.slice none 0 0) (.slice none 0 0) (.slice none 0 0));have Z0:=zA z0;have Z1:=zA z1;have Z2:=zA z2;have Z3:=zA z3;have Z4:=zA z4;have Z5:=zA z5;have Z6:=zA z6;have Z7:=zA z7;have Z8:=zA z8;clear z0 z1 z2 z3 z4 z5 z6 z7 z8;go_wp2;refine bodyPost_ret (v:=.tuple #[.agg #[.int .i64 0,.int .i64 0,.int .i64 0,.bool false,.int .i64 0,.int .i64 0,.slice none 0 0,.slice none 0 0,.slice none 0 0],.bool false]) ?_ rfl HE.out;simp[results,Try.results39,go_sem,Z0.out,Z1.out,Z2.out,Z3.out,Z4.out,Z5.out,Z6.out,Z7.out,Z8.out]
    . have hk1b:(n.kind==1)=false:=by simp;exact hk1
      by_cases hk2:n.kind=2
      . have hk2b:(n.kind==2)=true:=by simp;exact hk2
        have HKD:=zA hk2;clear hk1 hk2;by_cases h4:l0=3
        . subst h4;by_cases h5:l1=0
          . subst h5;exact absurd ⟨by rw[HOK.out],by rw[HN.out,<- HE2.out],by rw[HN.out];exact HKD.out,by rw[HN.out,<- HE0.out],by rw[HN.out,<- HE1.out]⟩ HC2.out
          . have h5a:((l1:Int)==0)=false:=by simp;omega
            have h5b:¬(l1:Int)=0:=by omega
            have HE:=zA (HD.out (by rw[heardP,HOK.out,HN.out];exact heardN_two HKD.out (fun h=>h5 (HE1.out.trans h.2))));clear HD;clear h5;obtain⟨⟨z0,z1,z2,z3,z4,z5,z6,z7,z8⟩,-⟩:=nine_cells (set9_block (resH_block HB2.out) (.int .i64 0) (.int .i64 0) (.int .i64 0) (.bool false) (.int .i64 0) (.int .i64 0) (.slice none 0 0) (.slice none 0 0) (.slice none 0 0));have Z0:=zA z0;have Z1:=zA z1;have Z2:=zA z2;have Z3:=zA z3;have Z4:=zA z4;have Z5:=zA z5;have Z6:=zA z6;have Z7:=zA z7;have Z8:=zA z8;clear z0 z1 z2 z3 z4 z5 z6 z7 z8;go_wp2;refine bodyPost_ret (v:=.tuple #[.agg #[.int .i64 0,.int .i64 0,.int .i64 0,.bool false,.int .i64 0,.int .i64 0,.slice none 0 0,.slice none 0 0,.slice none 0 0],.bool false]) ?_ rfl HE.out;simp[results,Try.results39,go_sem,Z0.out,Z1.out,Z2.out,Z3.out,Z4.out,Z5.out,Z6.out,Z7.out,Z8.out]
        . have h4a:((l0:Int)==3)=false:=by simp;omega
          have h4b:¬(l0:Int)=3:=by omega
          have HE:=zA (HD.out (by rw[heardP,HOK.out,HN.out];exact heardN_two HKD.out (fun h=>h4 (HE0.out.trans h.1))));clear HD;clear h4;obtain⟨⟨z0,z1,z2,z3,z4,z5,z6,z7,z8⟩,-⟩:=nine_cells (set9_block (resH_block HB2.out) (.int .i64 0) (.int .i64 0) (.int .i64 0) (.bool false) (.int .i64 0) (.int .i64 0) (.slice none 0 0) (.slice none 0 0) (.slice none 0 0));have Z0:=zA z0;have Z1:=zA z1;have Z2:=zA z2;have Z3:=zA z3;have Z4:=zA z4;have Z5:=zA z5;have Z6:=zA z6;have Z7:=zA z7;have Z8:=zA z8;clear z0 z1 z2 z3 z4 z5 z6 z7 z8;go_wp2;refine bodyPost_ret (v:=.tuple #[.agg #[.int .i64 0,.int .i64 0,.int .i64 0,.bool false,.int .i64 0,.int .i64 0,.slice none 0 0,.slice none 0 0,.slice none 0 0],.bool false]) ?_ rfl HE.out;simp[results,Try.results39,go_sem,Z0.out,Z1.out,Z2.out,Z3.out,Z4.out,Z5.out,Z6.out,Z7.out,Z8.out]
      . have hk2b:(n.kind==2)=false:=by simp;exact hk2
        have HE:=zA (HD.out (by rw[heardP,HOK.out,HN.out];exact heardN_kind hk1 hk2));clear HD;clear hk1 hk2;obtain⟨⟨z0,z1,z2,z3,z4,z5,z6,z7,z8⟩,-⟩:=nine_cells (set9_block (resH_block HB2.out) (.int .i64 0) (.int .i64 0) (.int .i64 0) (.bool false) (.int .i64 0) (.int .i64 0) (.slice none 0 0) (.slice none 0 0) (.slice none 0 0));have Z0:=zA z0;have Z1:=zA z1;have Z2:=zA z2;have Z3:=zA z3;have Z4:=zA z4;have Z5:=zA z5;have Z6:=zA z6;have Z7:=zA z7;have Z8:=zA z8;clear z0 z1 z2 z3 z4 z5 z6 z7 z8;go_wp2;refine bodyPost_ret (v:=.tuple #[.agg #[.int .i64 0,.int .i64 0,.int .i64 0,.bool false,.int .i64 0,.int .i64 0,.slice none 0 0,.slice none 0 0,.slice none 0 0],.bool false]) ?_ rfl HE.out;simp[results,Try.results39,go_sem,Z0.out,Z1.out,Z2.out,Z3.out,Z4.out,Z5.out,Z6.out,Z7.out,Z8.out]
  . have hr1:((l2:Int)!=0)=true:=by simp;omega
    have hr2:¬(l2:Int)=0:=by omega
    have HE:=zA (HD.out (by rw[heardP,HOK.out,HN.out];exact heardN_rows (by rw[<- HE2.out];exact hr)));clear HD;clear hr;obtain⟨⟨z0,z1,z2,z3,z4,z5,z6,z7,z8⟩,-⟩:=nine_cells (set9_block (resH_block HB2.out) (.int .i64 0) (.int .i64 0) (.int .i64 0) (.bool false) (.int .i64 0) (.int .i64 0) (.slice none 0 0) (.slice none 0 0) (.slice none 0 0));have Z0:=zA z0;have Z1:=zA z1;have Z2:=zA z2;have Z3:=zA z3;have Z4:=zA z4;have Z5:=zA z5;have Z6:=zA z6;have Z7:=zA z7;have Z8:=zA z8;clear z0 z1 z2 z3 z4 z5 z6 z7 z8;go_wp2;refine bodyPost_ret (v:=.tuple #[.agg #[.int .i64 0,.int .i64 0,.int .i64 0,.bool false,.int .i64 0,.int .i64 0,.slice none 0 0,.slice none 0 0,.slice none 0 0],.bool false]) ?_ rfl HE.out;simp[results,Try.results39,go_sem,Z0.out,Z1.out,Z2.out,Z3.out,Z4.out,Z5.out,Z6.out,Z7.out,Z8.out]
def MtE(S:Nat->Prop)(w:World)(b:Nat)(vq:Value)(e:En)(k:Nat)(x:Ending)(w':World):Prop:=x=.returned (.bool (meetE e k).2)/\∃vq',LB S w' b vq' (meetE e k).1/\Fr S w w'/\∀g,vq'.ownBlock=some g->vq.ownBlock=some g
section
variable {S:Nat->Prop} {w:World} {b:Nat} {vq:Value} {e:En}
theorem meetE_ok{e:En}(h:e.ok){k:Nat}(hk:k<=4611686018427387903):(meetE e k).1.ok:=by
 unfold meetE;split
 . exact { h with ot2:=hk,wt1:=zC _,wt2:=by simp }
 . exact { h with ot2:=hk,wt1:=zC _,wt2:=by simp,fs1:=zC _,fs2:=by simp,ql:=by simp,qs:=by simp }
theorem meet_any(h:LB S w b vq e)(hS:Low S w)(k:Nat)(hk:k<=4611686018427387903):
 Calls Try.prog 40 #[.pointer (some ⟨b,0,none⟩),.int .i64 (k:Int)] w (MtE S w b vq e k):=by
 have H:=zA h;have HOK:=zA (meetE_ok h.ok hk);by_cases h0:e.ot=0
 . obtain⟨⟨g0,g1,g2,g3,g4,g5⟩,⟨f0,f1,f2,f3,f4,f5⟩⟩:=six_cells h.blk;have HE:Hid (MtE S w b vq e k (.returned (.bool false)) ((w.setCell ⟨b,2,none⟩ (.int .i64 (k:Int))).setCell ⟨b,3,none⟩ (.int .i64 1))):=zA (by
    have hm:meetE e k=({ e with ot:=k,wt:=1 },false):=by rw[meetE,if_pos h0]
    have hok:=HOK.out;rw[hm]at hok;refine⟨by rw[hm],vq,?_,((Fr.refl S w).setCell h.out _).setCell h.out _,fun _ hg=>hg⟩;rw[hm];exact { h with blk:=six_set3 (six_set2 h.blk),row:=(h.row.set h.blk (by decide) _).set (six_set2 h.blk) (by decide) _,lowq:=fun g hg=>by simpa using h.lowq g hg,ok:=hok })
   rw[h0]at g2;clear h h0;go_enter Try.func40,Try.ntmps40;go_wp2;go_ret;exact HE.out
 . obtain⟨⟨g0,g1,g2,g3,g4,g5⟩,⟨f0,f1,f2,f3,f4,f5⟩⟩:=six_cells h.blk;have hot:((e.ot:Int)!=0)=true:=by simp;omega
   have hot2:¬(e.ot:Int)=0:=by omega
   have C:=zA (emptyQ_any w);have HM:Hid (meetE e k=({ e with ot:=k,wt:=1,fs:=1,q:=[] },true)):=zA (by rw[meetE,if_neg h0]);clear h h0;go_enter Try.func40,Try.ntmps40;go_wp2_with fail;refine C.out.mono ?_;rintro x w1 ⟨rfl,hb⟩;have h1:=H.out.below hb;have HF:=zA (fr_below hS hb);clear g0 g1 g2 g3 g4 g5 f0 f1 f2 f3 f4 f5 hb;obtain⟨⟨g0,g1,g2,g3,g4,g5⟩,⟨f0,f1,f2,f3,f4,f5⟩⟩:=six_cells h1.blk;have HE:Hid (MtE S w b vq e k (.returned (.bool true)) ((((w1.setCell ⟨b,4,none⟩ (.int .i64 1)).setCell ⟨b,5,none⟩ (.slice none 0 0)).setCell ⟨b,2,none⟩ (.int .i64 (k:Int))).setCell ⟨b,3,none⟩ (.int .i64 1))):=zA (by
    have hok:=HOK.out;rw[HM.out]at hok;refine⟨by rw[HM.out],.slice none 0 0,?_,(((HF.out.setCell h1.out _).setCell h1.out _).setCell h1.out _).setCell h1.out _,fun _ hg=>by cases hg⟩;rw[HM.out];exact { blk:=six_set3 (six_set2 (six_set5 (six_set4 h1.blk))),out:=h1.out,row:=.inl ⟨none,rfl,rfl⟩,outq:=fun g hg=>(by cases hg),lowq:=fun g hg=>(by cases hg),neb:=(by simp[Value.ownBlock]),ok:=hok })
   clear h1;go_wp2;go_ret;exact HE.out
end
def OneT(w:World)(B:Nat)(v:Value)(ls:List (List UInt8)):Prop:=
 (ls=[]/\v=.slice none 0 0)\/∃g t,ls=[t]/\v=.slice (some ⟨g,0,none⟩) 1 1/\B<=g/\w.heap[g]?=some (.cells #[.string ⟨t.toArray⟩] 9 (0,0))
def OneN(w:World)(B:Nat)(v:Value)(ns:List NoteD):Prop:=
 (ns=[]/\v=.slice none 0 0)\/∃g n a0 l0 c0 a1 l1 c1 a2 l2 c2,ns=[n]/\v=.slice (some ⟨g,0,none⟩) 1 1/\B<=g/\w.heap[g]?=some (.cells #[.int .i64 n.kind,.slice a0 l0 c0,.slice a1 l1 c1,.slice a2 l2 c2] 36 (0,0))/\NoteOwn w B (.agg #[.int .i64 n.kind,.slice a0 l0 c0,.slice a1 l1 c1,.slice a2 l2 c2]) n
theorem OneT.keep{w w':World}{B:Nat}{v:Value}{ls:List (List UInt8)}(h:OneT w B v ls)(hk:∀k o,B<=k->w.heap[k]?=some o->w'.heap[k]?=some o):OneT w' B v ls:=by
 rcases h with h|⟨g,t,h1,h2,h3,h4⟩
 . exact .inl h
 . exact .inr ⟨g,t,h1,h2,h3,hk g _ h3 h4⟩
theorem NoteOwn.keep{w w':World}{B:Nat}{v:Value}{n:NoteD}(h:NoteOwn w B v n)(hk:∀k o,B<=k->w.heap[k]?=some o->w'.heap[k]?=some o):NoteOwn w' B v n:=by
 have key:∀ {e:TypeId} {m:Nat} {u:Value} {xs:List Value},w.ownsRow B e 1 u m xs->w'.ownsRow B e 1 u m xs:=fun {e m u xs} h=>by
  refine⟨h.1,?_⟩;rcases h.2 with h0|⟨g,cap,cur,e1,e2,e3,e4⟩
  . exact .inl h0
  . exact .inr ⟨g,cap,cur,e1,e2,hk g _ e2 e3,e4⟩
 obtain⟨vn,vt,vr,e,h1,h2,⟨vs,h3,h4,h5⟩,b⟩:=h;exact⟨vn,vt,vr,e,h1.kept (fun g cur fz hB hg=>hk g _ hB hg),key h2,⟨vs,key h3,h4,fun j x r hx hr=>key (h5 j x r hx hr)⟩,b⟩
theorem OneN.keep{w w':World}{B:Nat}{v:Value}{ns:List NoteD}(h:OneN w B v ns)(hk:∀k o,B<=k->w.heap[k]?=some o->w'.heap[k]?=some o):OneN w' B v ns:=by
 rcases h with h|⟨g,n,a0,l0,c0,a1,l1,c1,a2,l2,c2,h1,h2,h3,h4,h5⟩
 . exact .inl h
 . exact .inr ⟨g,n,a0,l0,c0,a1,l1,c1,a2,l2,c2,h1,h2,h3,hk g _ h3 h4,h5.keep hk⟩
theorem three_cells{w:World}{b:Nat}{c0 c1 c2:Value}{t:TypeId}(h:w.heap[b]?=some (.cells #[c0,c1,c2] t (0,0))):
 (w.cell? ⟨b,0,none⟩=some c0/\w.cell? ⟨b,1,none⟩=some c1/\w.cell? ⟨b,2,none⟩=some c2)/\(w.frozen? ⟨b,0,none⟩=false/\w.frozen? ⟨b,1,none⟩=false/\w.frozen? ⟨b,2,none⟩=false):=by
 simp[World.cell?,World.frozen?,h]
section
variable {w:World} {b:Nat} {c0 c1 c2 v:Value} {t:TypeId} (h:w.heap[b]?=some (.cells #[c0,c1,c2] t (0,0)))
include h
theorem three_set0:(w.setCell ⟨b,0,none⟩ v).heap[b]?=some (.cells #[v,c1,c2] t (0,0)):=by simp[World.setCell,Array.getElem?_modify,h]
theorem three_set1:(w.setCell ⟨b,1,none⟩ v).heap[b]?=some (.cells #[c0,v,c2] t (0,0)):=by simp[World.setCell,Array.getElem?_modify,h]
theorem three_set2:(w.setCell ⟨b,2,none⟩ v).heap[b]?=some (.cells #[c0,c1,v] t (0,0)):=by simp[World.setCell,Array.getElem?_modify,h]
end
abbrev set3(w:World)(b:Nat)(u0 u1 u2:Value):World:=((w.setCell ⟨b,0,none⟩ u0).setCell ⟨b,1,none⟩ u1).setCell ⟨b,2,none⟩ u2
theorem set3_block{w:World}{b:Nat}{c0 c1 c2:Value}{t:TypeId}(h:w.heap[b]?=some (.cells #[c0,c1,c2] t (0,0)))(u0 u1 u2:Value):(set3 w b u0 u1 u2).heap[b]?=some (.cells #[u0,u1,u2] t (0,0)):=three_set2 (three_set1 (three_set0 h))
theorem set3_other{w:World}{b k:Nat}(hk:k≠b)(u0 u1 u2:Value):(set3 w b u0 u1 u2).heap[k]?=w.heap[k]?:=
 (zK _ ⟨b,2,none⟩ u2 k hk).trans ((zK _ ⟨b,1,none⟩ u1 k hk).trans (zK w ⟨b,0,none⟩ u0 k hk))
theorem set1_other{w:World}{b k i:Nat}(hk:k≠b)(u:Value):(w.setCell ⟨b,i,none⟩ u).heap[k]?=w.heap[k]?:=zK w ⟨b,i,none⟩ u k hk
theorem size_set1(w:World)(b i:Nat)(u:Value):(w.setCell ⟨b,i,none⟩ u).heap.size=w.heap.size:=by simp
structure LF (S:Nat->Prop) (w W:World) (b:Nat) (vq:Value) (e:En):Prop where
 lb:LB (fun k=>S k\/w.heap.size<=k) W b vq e
 fr:Fr S w W
def SN(S:Nat->Prop)(w W:World):Nat->Prop:=fun k=>S k\/(w.heap.size<=k/\k<W.heap.size)
section
variable {S:Nat->Prop} {w W W':World} {b:Nat} {vq vq':Value} {e e':En}
theorem LF.begin(h:LB S w b vq e):LF S w w b vq e:=
 ⟨h.more (fun k hk=>hk.elim .inl (fun h1=>.inr ⟨by have:=lt_of_block h.blk;omega,fun e=>by have:=h.lowq k e;omega⟩)),Fr.refl _ _⟩
theorem LF.b_lt(h:LF S w W b vq e):b<w.heap.size:=Nat.lt_of_not_le (fun h1=>h.lb.out (.inr h1))
theorem LF.q_lt(h:LF S w W b vq e){g:Nat}(hg:vq.ownBlock=some g):g<w.heap.size:=Nat.lt_of_not_le (fun h1=>h.lb.outq g hg (.inr h1))
theorem LF.low(h:LF S w W b vq e)(hS:Low S w):Low (SN S w W) W:=fun k hk=>hk.elim (fun h1=>zF (hS k h1) h.fr.size) (fun h1=>h1.2)
theorem LF.sn(h:LF S w W b vq e):LB (SN S w W) W b vq e:=h.lb.sub (fun _ hk=>hk.elim .inl (fun h1=>.inr h1.1))
theorem LF.below(h:LF S w W b vq e)(hS:Low S w)(hb:Below W.heap.size W W'):LF S w W' b vq e:=⟨h.lb.below hb,h.fr.next hS hb⟩
theorem LF.link(h:LF S w W b vq e)(hl:LB (SN S w W) W' b vq' e')(hf:Fr (SN S w W) W W')(hq:∀g,vq'.ownBlock=some g->vq.ownBlock=some g):LF S w W' b vq' e':=
 ⟨{ hl with out:=h.lb.out,outq:=fun g hg=>h.lb.outq g (hq g hg) },h.fr.trans (hf.sub (fun _ hk=>.inl hk))⟩
theorem LF.kp(hf:Fr (SN S w W) W W'){k:Nat}{o:Obj}(hk:w.heap.size<=k)(ho:W.heap[k]?=some o):W'.heap[k]?=some o:=(hf.block k (.inr ⟨hk,lt_of_block ho⟩)).trans ho
theorem kpB(hb:Below W.heap.size W W'){k:Nat}{o:Obj}(ho:W.heap[k]?=some o):W'.heap[k]?=some o:=(hb.block k (lt_of_block ho)).trans ho
theorem LF.set(h:LF S w W b vq e)(hS:Low S w){k i:Nat}(hk:w.heap.size<=k)(u:Value):LF S w (W.setCell ⟨k,i,none⟩ u) b vq e:=by
 have hb:=h.b_lt;refine⟨{ h.lb with blk:=(set1_other (by omega) u).trans h.lb.blk,row:=h.lb.row.keep (fun g o hg ho=>(set1_other (by have:=h.q_lt hg;omega) u).trans ho),lowq:=fun g hg=>by simpa using h.lb.lowq g hg },?_⟩;exact h.fr.setCell (fun h1=>by have:=hS k h1;omega) u
theorem LF.set3(h:LF S w W b vq e)(hS:Low S w){k:Nat}(hk:w.heap.size<=k)(u0 u1 u2:Value):LF S w (set3 W k u0 u1 u2) b vq e:=((h.set hS hk u0).set hS hk u1).set hS hk u2
theorem LF.drewN(h:LF S w W b vq e)(n:Nat):LF S w (W.drewN n) b vq e:=by
 have hb:Below W.heap.size W (W.drewN n):=below_drewN (zB _ _) n;exact⟨h.lb.below hb,⟨h.fr.os,h.fr.tape,h.fr.output,h.fr.size,h.fr.block⟩⟩
theorem LF.alloc(h:LF S w W b vq e)(hS:Low S w)(o:Obj):LF S w (W.alloc o) b vq e:=h.below hS ((zB _ _).alloc (zC _) _)
theorem LF.drew(h:LF S w W b vq e):LF S w W.drew b vq e:=⟨h.lb.below (below_drewE (zB _ _)),⟨h.fr.os,h.fr.tape,h.fr.output,h.fr.size,h.fr.block⟩⟩
theorem alloc_old{o o':Obj}{k:Nat}(h:W.heap[k]?=some o):(W.alloc o').heap[k]?=some o:=(Below.heap_alloc _ _ _ (lt_of_block h)).trans h
theorem LF.want(h:LF S w W b vq e)(hok:(En.mk e.ep e.ot e.fs (e.wt+1) e.q).ok):LF S w (W.setCell ⟨b,3,none⟩ (.int .i64 ((e.wt:Int)+1))) b vq { e with wt:=e.wt+1 }:=
 ⟨{ h.lb with blk:=six_set3 h.lb.blk,row:=h.lb.row.set h.lb.blk (by decide) _,lowq:=fun g hg=>by simpa using h.lb.lowq g hg,ok:=hok },h.fr.setCell (fun h1=>h.lb.out (.inl h1)) _⟩
def TakE(S:Nat->Prop)(w:World)(b:Nat)(e:En)(l:List UInt8)(x:Ending)(w':World):Prop:=
 (∃a0 l0 c0 a1 l1 c1,x=.returned (.agg #[.slice a0 l0 c0,.slice a1 l1 c1,.bool (takeE e l).2.2.2])/\OneN w' w.heap.size (.slice a0 l0 c0) (takeE e l).2.1/\OneT w' w.heap.size (.slice a1 l1 c1) (takeE e l).2.2.1)/\∃vq',LF S w w' b vq' (takeE e l).1
theorem takE_of{l:List UInt8}{ns:List NoteD}{ps:List (List UInt8)}{an:Bool}{a0 a1:Option Addr}{l0 c0 l1 c1:Nat}(ht:takeE e l=(e',ns,ps,an))(h1:OneN W w.heap.size (.slice a0 l0 c0) ns)(h2:OneT W w.heap.size (.slice a1 l1 c1) ps)(hl:LF S w W b vq' e'):
 TakE S w b e l (.returned (.agg #[.slice a0 l0 c0,.slice a1 l1 c1,.bool an])) W:=by
 unfold TakE;rw[ht];exact⟨⟨a0,l0,c0,a1,l1,c1,rfl,h1,h2⟩,vq',hl⟩
theorem oneN_nil(W:World)(B:Nat):OneN W B (.slice none 0 0) []:=.inl ⟨rfl,rfl⟩
theorem oneT_nil(W:World)(B:Nat):OneT W B (.slice none 0 0) []:=.inl ⟨rfl,rfl⟩
theorem oneT_one{B g:Nat}{t:List UInt8}(hB:B<=g)(h:W.heap[g]?=some (.cells #[.string ⟨t.toArray⟩] 9 (0,0))):OneT W B (.slice (some ⟨g,0,none⟩) 1 1) [t]:=.inr ⟨g,t,rfl,rfl,hB,h⟩
theorem NoteOwn.setT{B k i:Nat}{v u:Value}{n:NoteD}{cur:Array Value}{t:TypeId}{fz:Nat×Nat}(h:NoteOwn W B v n)(hk:W.heap[k]?=some (.cells cur t fz))(h1:t≠3)(h2:t≠9)(h3:t≠27):NoteOwn (W.setCell ⟨k,i,none⟩ u) B v n:=by
 have ne:∀ {g:Nat} {cr:Array Value} {e:TypeId} {fz':Nat×Nat},W.heap[g]?=some (.cells cr e fz')->t≠e->(W.setCell ⟨k,i,none⟩ u).heap[g]?=some (.cells cr e fz'):=fun {g cr e fz'} hg he=>(set1_other (fun hgk=>by
  subst hgk;rw[hg]at hk;simp only[Option.some.injEq,Obj.cells.injEq]at hk;exact he hk.2.1.symm) u).trans hg
 have key:∀ {e:TypeId} {m:Nat} {u':Value} {xs:List Value},t≠e->W.ownsRow B e 1 u' m xs->(W.setCell ⟨k,i,none⟩ u).ownsRow B e 1 u' m xs:=fun {e m u' xs} he h=>by
  refine⟨h.1,?_⟩;rcases h.2 with h0|⟨g,cap,cur,e1,e2,e3,e4⟩
  . exact .inl h0
  . exact .inr ⟨g,cap,cur,e1,e2,ne e3 he,e4⟩
 obtain⟨vn,vt,vr,e,g1,g2,⟨vs,g3,g4,g5⟩,b⟩:=h;exact⟨vn,vt,vr,e,g1.kept (fun g cur fz hB hg=>ne hg h1),key h2 g2,⟨vs,key h3 g3,g4,fun j x r hx hr=>key h2 (g5 j x r hx hr)⟩,b⟩
end
end Go.Proofs.Ytjoddkeamboeoaa
