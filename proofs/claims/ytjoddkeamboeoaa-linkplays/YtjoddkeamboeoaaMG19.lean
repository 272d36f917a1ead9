/- WSameN, WAwake, WTwice, WRShape. -/
import Derived.Test.YtjoddkeamboeoaaMG16
set_option maxRecDepth 100000
namespace Go.Proofs.Ytjoddkeamboeoaa
open Go.RowKit
theorem two_blocks(w:World)(o0 o1:Obj):((w.alloc o0).alloc o1).heap[w.heap.size]?=some o0/\((w.alloc o0).alloc o1).heap[w.heap.size+1]?=some o1/\Below w.heap.size w ((w.alloc o0).alloc o1):=by
 have s1:(w.alloc o0).heap.size=w.heap.size+1:=by simp
 have g0:=box_at w o0;have g1:=box_at (w.alloc o0) o1;rw[s1]at g1;exact⟨(Below.heap_alloc _ o1 _ (lt_of_block g0)).trans g0,g1,((zB _ _).alloc (zC _) _).alloc (by omega) _⟩
theorem note_ext{a b:NoteD}(h1:a.kind=b.kind)(h2:a.nums=b.nums)(h3:a.texts=b.texts)(h4:a.rows=b.rows):a=b:=by
 cases a;cases b;simp only at h1 h2 h3 h4;subst h1 h2 h3 h4;rfl
theorem IntsAt.parts{w:World}{v:Value}{ns:List Int}(h:IntsAt w v ns):
 ns.length<=9223372036854775807/\∃ao cap,v=.slice ao ns.length cap/\(ns=[]\/∃b o,ao=some ⟨b,o,none⟩/\b<w.heap.size/\∀(j:Nat) x,ns[j]?=some x->w.cell? ⟨b,o+j,none⟩=some (.int .i64 x)):=by
 obtain⟨h1,ao,cap,rfl,h2⟩:=h;rw[intCs_len]at h1;refine⟨h1,ao,cap,by rw[intCs_len],?_⟩;rcases h2 with h2|⟨b,o,e1,e2,e3⟩
 . left;have:=intCs_len ns;rw[h2]at this;exact zU.1 this.symm
 . exact .inr ⟨b,o,e1,e2,fun j x hx=>e3 j _ (by rw[intCs,zP,hx];rfl)⟩
set_option maxHeartbeats 2000000 in
theorem sameN_any(va vb:Value)(x y:NoteD)(w:World)(ha:NoteAt w va x)(hb:NoteAt w vb y):
 Calls Try.prog 45 #[va,vb] w fun e w'=>e=.returned (.bool (decide (x=y)))/\Below w.heap.size w w':=by
 obtain⟨vn,vt,vr,rfl,hn,ht,hr⟩:=ha;obtain⟨un,ut,ur,rfl,gn,gt,gr⟩:=hb;obtain⟨la,aa,ca,rfl,ha⟩:=hn.parts;obtain⟨lb,ab,cb,rfl,hb⟩:=gn.parts;clear hn gn;obtain⟨t0,t1,t2⟩:=two_blocks w (.cells #[.int .i64 x.kind,(.slice aa x.nums.length ca),vt,vr] 36) (.cells #[.int .i64 y.kind,(.slice ab y.nums.length cb),ut,ur] 36);obtain⟨W0,hW0⟩:∃W0,W0=(w.alloc (.cells #[.int .i64 x.kind,(.slice aa x.nums.length ca),vt,vr] 36)).alloc (.cells #[.int .i64 y.kind,(.slice ab y.nums.length cb),ut,ur] 36):=⟨_,rfl⟩
 rw[<- hW0]at t0 t1 t2;have T0:=zA t0;have T1:=zA t1;have T2:=zA t2;have HW0:=zA hW0;have hz:Hid (W0.heap.size=w.heap.size+2):=zA (by rw[hW0];simp);clear t0 t1 t2 hW0;have CELLS:Hid (∀wr,Below W0.heap.size W0 wr->(wr.cell? ⟨w.heap.size,1,none⟩=some (.slice aa x.nums.length ca)/\wr.cell? ⟨w.heap.size,2,none⟩=some vt/\wr.cell? ⟨w.heap.size,3,none⟩=some vr)/\(wr.cell? ⟨w.heap.size+1,1,none⟩=some (.slice ab y.nums.length cb)/\wr.cell? ⟨w.heap.size+1,2,none⟩=some ut/\wr.cell? ⟨w.heap.size+1,3,none⟩=some ur)/\Below w.heap.size w wr):=zA (fun wr h=>by
  have e0:=(h.block _ (lt_of_block T0.out)).trans T0.out;have e1:=(h.block _ (lt_of_block T1.out)).trans T1.out;exact⟨(four_cells e0).1.2,(four_cells e1).1.2,T2.out.trans (h.mono (by have:=hz.out;omega))⟩)
 by_cases hk:x.kind=y.kind
 . have HKE:=zA hk;by_cases hl:x.nums.length=y.nums.length
   . have HL:=zA hl;have HA:=zA ha;have HB:=zA hb;have hkI:(x.kind !=y.kind)=false:=by rw[hk];simp
     have hl2:((x.nums.length:Int)!=(y.nums.length:Int))=false:=by rw[hl];simp
     have hlI:(x.nums.length:Int)=(y.nums.length:Int):=by omega
     have HLI:=zA hlI;clear ha hb hk hl hlI;go_enter Try.func45,Try.ntmps45;go_wp2;go_loopw [5] (fun c wr=>∃i:Nat,i<=x.nums.length/\c=.int .i64 i/\x.nums.take i=y.nums.take i/\Below W0.heap.size W0 wr) (fun c _=>x.nums.length-(intOf c).toNat)
     case atStart=>exact⟨0,zO _,rfl,rfl,by rw[HW0.out];exact zB _ _⟩
     case round=>
      obtain⟨i,hi,rfl,htk,hbw⟩:=hrel;have HT:=zA htk;clear htk;obtain⟨⟨g1,g2,g3⟩,⟨k1,k2,k3⟩,hbb⟩:=CELLS.out _ hbw;by_cases hlt:i<x.nums.length
      . obtain⟨p,hx⟩:∃p,x.nums[i]?=some p:=⟨_,zD hlt⟩
        obtain⟨q,hy⟩:∃q,y.nums[i]?=some q:=⟨_,zD (by rw[<- HL.out];exact hlt)⟩
        rcases HA.out with hnil|⟨ba,oa,rfl,ha1,ha2⟩
        . rw[hnil]at hx;simp at hx
        . rcases HB.out with hnil|⟨bb,ob,rfl,hb1,hb2⟩
          . rw[hnil]at hy;simp at hy
          . have hcx:=(hbb.cell (p:=⟨ba,oa+i,none⟩) ha1).trans (ha2 i p hx);have hcy:=(hbb.cell (p:=⟨bb,ob+i,none⟩) hb1).trans (hb2 i q hy);have HX:=zA hx;have HY:=zA hy;have hltI:(i:Int)<(x.nums.length:Int):=by omega
            have hltJ:(i:Int)<(y.nums.length:Int):=by have:=HLI.out;omega
            clear hx hy ha2 hb2 hbb;by_cases hpq:p=q
            . subst hpq;have hnx:x.nums.take (i+1)=y.nums.take (i+1):=by
               rw[zW,zW,HT.out,HX.out,HY.out]
              have HN:=zA hnx;clear hnx;go_wp2;go_quiet (fail);have hbq:=below_drewN hbw nq;go_wp2;go_roundw
              case rel=>exact⟨i+1,by omega,by go_num,HN.out,hbq⟩
              case measure=>simp[intOf];omega
            . have hpq2:(p !=q)=true:=by rw[bne_iff_ne];exact hpq
              have hne:decide (x=y)=false:=by
               rw[decide_eq_false_iff_not];intro h;have a:=HX.out;rw[h,HY.out]at a;exact hpq (Option.some.inj a).symm
              have HN:=zA hne;clear hne;go_wp2;go_quiet (fail);have hbq:=below_drewN hbw nq;go_wp2;go_ret;exact⟨by rw[HN.out];rfl,(CELLS.out _ hbq).2.2⟩
      . have hnums:x.nums=y.nums:=by
         have:=HT.out;rw[zI (by omega),zI (by rw[<- HL.out];omega)]at this;exact this
        have HNU:=zA hnums;have hT1:=zA (ht.below hbb);have hT2:=zA (gt.below hbb);clear hnums;obtain⟨W1,hW1⟩:∃W,W=wr:=⟨_,rfl⟩
        subst hW1;by_cases htx:x.texts=y.texts
        . have HTX:=zA htx;have C:=zA (same_any vt ut x.texts y.texts W1 hT1.out hT2.out);rw[zM htx]at C;clear htx;go_wp2_with fail;refine C.out.mono ?_;rintro e w2 ⟨rfl,hb2⟩;have hbw2:=keepB hbw hb2 (zC _);clear g1 g2 g3 k1 k2 k3 hb2;obtain⟨⟨g1,g2,g3⟩,⟨k1,k2,k3⟩,hbb2⟩:=CELLS.out _ hbw2;have hR1:=zA (hr.below hbb2);have hR2:=zA (gr.below hbb2);have C2:=zA (sameRows_any vr ur x.rows y.rows w2 hR1.out hR2.out);have HV:Hid (decide (x.rows=y.rows)=decide (x=y)):=zA (by
           rw[Bool.eq_iff_iff,decide_eq_true_iff,decide_eq_true_iff];exact⟨fun h=>note_ext HKE.out HNU.out HTX.out h,fun h=>by rw[h]⟩)
          rw[HV.out]at C2;obtain⟨B,hB⟩:∃B,B=decide (x=y):=⟨_,rfl⟩
          rw[<- hB]at C2;have HB2:=zA hB;clear hB HV;go_wp2_with fail;refine C2.out.mono ?_;rintro e w3 ⟨rfl,hb3⟩;have hbw3:=keepB hbw2 hb3 (zC _);clear g1 g2 g3 k1 k2 k3 hb3;go_wp2;go_ret;exact⟨by rw[<- HB2.out];rfl,(CELLS.out _ hbw3).2.2⟩
        . have hne:decide (x=y)=false:=by
           rw[decide_eq_false_iff_not];intro h;exact htx (by rw[h])
          have HN:=zA hne;have C:=zA (same_any vt ut x.texts y.texts W1 hT1.out hT2.out);rw[decide_eq_false htx]at C;clear htx hne;go_wp2_with fail;refine C.out.mono ?_;rintro e w2 ⟨rfl,hb2⟩;have hbw2:=keepB hbw hb2 (zC _);clear g1 g2 g3 k1 k2 k3 hb2;go_wp2;go_ret;exact⟨by rw[HN.out];rfl,(CELLS.out _ hbw2).2.2⟩
   . have hne:decide (x=y)=false:=by
      rw[decide_eq_false_iff_not];intro h;exact hl (by rw[h])
     have HN:=zA hne;have hl2:((x.nums.length:Int)!=(y.nums.length:Int))=true:=by rw[bne_iff_ne];omega
     have hkI:(x.kind !=y.kind)=false:=by rw[hk];simp
     have HE:=zA (CELLS.out _ (zB _ _)).2.2;rw[HW0.out]at HE;clear hne hk ha hb hl;go_enter Try.func45,Try.ntmps45;go_wp2;go_ret;exact⟨by rw[HN.out];rfl,HE.out⟩
 . have hne:decide (x=y)=false:=by
    rw[decide_eq_false_iff_not];intro h;exact hk (by rw[h])
   have HN:=zA hne;have hkI:(x.kind !=y.kind)=true:=by rw[bne_iff_ne];exact hk
   have HE:=zA (CELLS.out _ (zB _ _)).2.2;rw[HW0.out]at HE;clear hne;go_enter Try.func45,Try.ntmps45;go_wp2;go_ret;exact⟨by rw[HN.out];rfl,HE.out⟩
def IsBool(e:Ending):Prop:=∃b,e=.returned (.bool b)
theorem isBool(b:Bool):IsBool (.returned (.bool b)):=⟨b,rfl⟩
def n1:NoteD:=⟨1,[],[],[]⟩
theorem packV_may{n:NoteD}(h:n.may):packV n=.tuple #[.string ⟨(sealB n.body).toArray⟩,.int .i64 0]:=if_pos h
theorem packV_not{n:NoteD}(h:¬n.may):packV n=.tuple #[.string ⟨#[]⟩,.int .i64 1]:=if_neg h
def NotesAt(w:World)(v:Value)(ns:List NoteD):Prop:=
 ns.length<=9223372036854775807/\∃ao cap,v=.slice ao ns.length cap/\(ns=[]\/∃b o,ao=some ⟨b,o,none⟩/\b<w.heap.size/\∀(j:Nat) n,ns[j]?=some n->∃c1 c2 c3,
  w.cell? ⟨b,o+j*4,none⟩=some (.int .i64 n.kind)/\w.cell? ⟨b,o+j*4+1,none⟩=some c1/\w.cell? ⟨b,o+j*4+2,none⟩=some c2/\w.cell? ⟨b,o+j*4+3,none⟩=some c3/\NoteAt w (.agg #[.int .i64 n.kind,c1,c2,c3]) n)
theorem NotesAt.below{w w':World}{v:Value}{ns:List NoteD}(h:NotesAt w v ns)(hb:Below w.heap.size w w'):NotesAt w' v ns:=by
 obtain⟨h1,ao,cap,h2,h3⟩:=h;refine⟨h1,ao,cap,h2,?_⟩;rcases h3 with h3|⟨b,o,ha,hl,hc⟩
 . exact .inl h3
 . refine .inr ⟨b,o,ha,zF hl hb.size,fun j n hj=>?_⟩;obtain⟨c1,c2,c3,a0,a1,a2,a3,a4⟩:=hc j n hj;have key:∀i u,w.cell? ⟨b,i,none⟩=some u->w'.cell? ⟨b,i,none⟩=some u:=fun i u h=>(hb.cell (p:=⟨b,i,none⟩) hl).trans h
   exact⟨c1,c2,c3,key _ _ a0,key _ _ a1,key _ _ a2,key _ _ a3,a4.below hb⟩
theorem cellAt_wide{w:World}{B g cap n i:Nat}{ao:Option Addr}{e:TypeId}{size:Nat}{xs:List Value}{x:Value}(h:w.ownsRow B e size (.slice ao n cap) n xs)(ha:ao=some ⟨g,0,none⟩)(hx:xs[i]?=some x):w.cell? ⟨g,i,none⟩=some x:=by
 subst ha;have hi:=(zG.1 hx).1;rcases h.2 with⟨h0,_⟩|⟨g',cap',cur,e1,e2,e3,e4,e5,e6,e7⟩
 . simp at h0
 . simp only[Value.slice.injEq,Option.some.injEq,Addr.mk.injEq,and_true]at e1;obtain⟨rfl,_,rfl⟩:=e1;rw[<- e7,List.getElem?_take]at hx;split at hx
   . simp only[World.cell?,e3];simpa using hx
   . simp at hx
theorem NotesOwn.at_{w:World}{B:Nat}{v:Value}{ns:List NoteD}(h:NotesOwn w B v ns)(hl:ns.length<=9223372036854775807):NotesAt w v ns:=by
 obtain⟨cs,h1,h2⟩:=h;have h10:=h1;rcases h1.2 with⟨rfl,h0⟩|⟨g,cap,cur,rfl,e2,e3,e4⟩
 . exact⟨hl,none,0,by rw[h0],.inl (zU.1 h0)⟩
 . refine⟨hl,_,cap,rfl,.inr ⟨g,0,rfl,lt_of_block e3,fun j n hj=>?_⟩⟩;obtain⟨c1,c2,c3,a0,a1,a2,a3,a4⟩:=h2 j n hj;simp only[Nat.zero_add];exact⟨c1,c2,c3,cellAt_wide h10 rfl a0,cellAt_wide h10 rfl a1,cellAt_wide h10 rfl a2,cellAt_wide h10 rfl a3,a4.at_⟩
def NoteD.shaped(n:NoteD):Prop:=n.numsOk/\n.textsOk
instance (n:NoteD):Decidable n.shaped:=inferInstanceAs (Decidable (_/\_))
set_option maxHeartbeats 400000 in
theorem rShort_any(v:Value)(ls:List (List UInt8))(w:World)(hv:StrsAt w v ls):
 Calls Try.prog 80 #[v] w fun e w'=>e=.returned (.bool (decide (shortL ls)))/\w'=w:=by
 obtain⟨hlen,ao,cap,rfl,hc⟩:=hv;have HC:=zA hc;clear hc;go_enter Try.func80,Try.ntmps80;go_wp2;go_loop [3] (fun c=>∃i:Nat,i<=ls.length/\c=.int .i64 i/\∀u∈ls.take i,u.length<=65536) (fun c=>ls.length-(intOf c).toNat)
 case atStart=>exact⟨0,zO _,rfl,by simp⟩
 case round=>
  obtain⟨i,hi,rfl,hall⟩:=hrel;have HALL:=zA hall;clear hall;by_cases hlt:i<ls.length
  . obtain⟨t,ht⟩:∃t,ls[i]?=some t:=⟨_,zD hlt⟩
    rcases HC.out with hnil|⟨b,o,rfl,hl,hc⟩
    . rw[hnil]at ht;simp at ht
    . have hcx:=hc i t ht;have HT:=zA ht;have hltI:(i:Int)<(ls.length:Int):=by omega
      have hts:=size_list t;clear hc ht;by_cases h6:t.length<=65536
      . have HA2:=zA (take_all HALL.out HT.out h6);go_wp2;go_round
        case rel=>exact⟨i+1,by omega,by go_num,HA2.out⟩
        case measure=>simp[intOf];omega
      . have HV:Hid (decide (shortL ls)=false):=zA (decide_eq_false (fun h=>h6 (h t (zJ HT.out))));go_wp2;go_ret;exact⟨by rw[HV.out];rfl,rfl⟩
  . have hall:=HALL.out;rw[zI (by omega)]at hall;have HV:Hid (decide (shortL ls)=true):=zA (zM hall);clear hall;go_wp2;go_ret;exact⟨by rw[HV.out];rfl,rfl⟩
set_option maxHeartbeats 2000000 in
theorem rShaped_any(v:Value)(n:NoteD)(w:World)(h:NoteAt w v n):
 Calls Try.prog 68 #[v] w fun e w'=>e=.returned (.bool (decide n.shaped))/\Below w.heap.size w w':=by
 obtain⟨vn,vt,vr,rfl,hn,ht,hr⟩:=h;obtain⟨hl1,a1,cp1,rfl,hc1⟩:=hn.parts;have HT:=zA ht;obtain⟨hl2,a2,cp2,rfl,_⟩:=ht;obtain⟨hl3,a3,cp3,vs,rfl,hvl,hc3,hrs⟩:=hr.parts;have H1:=zA hc1;have H3:=zA hc3;have HVL:=zA hvl;have HRS:=zA hrs;clear hn hr hc1 hc3 hvl hrs;have BEL:Hid (Below w.heap.size w (w.alloc (.cells #[.int .i64 n.kind,.slice a1 n.nums.length cp1,.slice a2 n.texts.length cp2,.slice a3 n.rows.length cp3] 36))):=zA ((zB _ _).alloc (zC _) _);by_cases g1:n.kind<1
 . have HV:Hid (decide n.shaped=false):=zA (decide_eq_false (fun h=>by have:=h.1.1;omega));go_enter Try.func68,Try.ntmps68;go_wp2;go_ret;exact⟨by rw[HV.out];rfl,BEL.out⟩
 . by_cases g2:255<n.kind
   . have HV:Hid (decide n.shaped=false):=zA (decide_eq_false (fun h=>by have:=h.1.2.1;omega));go_enter Try.func68,Try.ntmps68;go_wp2;go_ret;exact⟨by rw[HV.out];rfl,BEL.out⟩
   . by_cases g3:64<n.nums.length
     . have HV:Hid (decide n.shaped=false):=zA (decide_eq_false (fun h=>by have:=h.1.2.2.1;omega));go_enter Try.func68,Try.ntmps68;go_wp2;go_ret;exact⟨by rw[HV.out];rfl,BEL.out⟩
     . by_cases g4:4096<n.texts.length
       . have HV:Hid (decide n.shaped=false):=zA (decide_eq_false (fun h=>by have:=h.2.2.1;omega));go_enter Try.func68,Try.ntmps68;go_wp2;go_ret;exact⟨by rw[HV.out];rfl,BEL.out⟩
       . by_cases g5:4096<n.rows.length
         . have HV:Hid (decide n.shaped=false):=zA (decide_eq_false (fun h=>by have:=h.2.1;omega));go_enter Try.func68,Try.ntmps68;go_wp2;go_ret;exact⟨by rw[HV.out];rfl,BEL.out⟩
         . have C:=zA (rShort_any _ n.texts _ (HT.out.below BEL.out));by_cases g6:shortL n.texts
           . rw[zM g6]at C;have G6:=zA g6;clear g6;go_enter Try.func68,Try.ntmps68;go_wp2_with fail;refine C.out.mono ?_;rintro e w1 ⟨rfl,rfl⟩;go_wp2;go_loop [3] (fun c=>∃i:Nat,i<=n.nums.length/\c=.int .i64 i/\∀x∈n.nums.take i,goodNum x) (fun c=>n.nums.length-(intOf c).toNat)
             case atStart=>exact⟨0,zO _,rfl,by simp⟩
             case round=>
              obtain⟨i,hi,rfl,hall⟩:=hrel;have HALL:=zA hall;clear hall;by_cases hlt:i<n.nums.length
              . obtain⟨x,hx⟩:∃x,n.nums[i]?=some x:=⟨_,zD hlt⟩
                rcases H1.out with hnil|⟨b,o,rfl,hl,hc⟩
                . rw[hnil]at hx;simp at hx
                . have hcx:=hc i x hx;have HX:=zA hx;have hltI:(i:Int)<(n.nums.length:Int):=by omega
                  clear hc hx;by_cases hg:goodNum x
                  . have HA2:=zA (take_good HALL.out HX.out hg);obtain⟨q1,q2⟩:=hg;go_wp2;go_round
                    case rel=>exact⟨i+1,by omega,by go_num,HA2.out⟩
                    case measure=>simp[intOf];omega
                  . have HV:Hid (decide n.shaped=false):=zA (decide_eq_false (fun h=>hg (h.1.2.2.2 x (zJ HX.out))));by_cases q1:x<0
                    . clear hg;go_wp2;go_ret;exact⟨by rw[HV.out];rfl,BEL.out⟩
                    . have q2:4611686018427387903<x:=by rw[goodNum]at hg;omega
                      clear hg;go_wp2;go_ret;exact⟨by rw[HV.out];rfl,BEL.out⟩
              . have hall:=HALL.out;rw[zI (by omega)]at hall;have HNU:Hid n.numsOk:=zA ⟨by omega,by omega,by omega,hall⟩;clear hall HALL;go_wp2;go_loop [4,5] (fun k c=>∃j:Nat,j<=n.rows.length/\c=.int .i64 j/\k=.int .i64 ((n.texts.length+cntR (n.rows.take j):Nat):Int)/\n.texts.length+cntR (n.rows.take j)<=4096/\∀r∈n.rows.take j,shortL r) (fun _ c=>n.rows.length-(intOf c).toNat)
                case atStart=>exact⟨0,zO _,rfl,by simp[cntR],by simp[cntR];omega,by simp⟩
                case round=>
                 obtain⟨j,hj,rfl,rfl,hcn,hall⟩:=hrel;have HALL:=zA hall;clear hall;by_cases hlt2:j<n.rows.length
                 . obtain⟨r,hx⟩:∃x,n.rows[j]?=some x:=⟨_,zD hlt2⟩
                   obtain⟨x,hvx⟩:∃x,vs[j]?=some x:=⟨_,zD (by rw[HVL.out];exact hlt2)⟩
                   rcases H3.out with hnil|⟨b,o,rfl,hl,hc⟩
                   . rw[hnil]at hvx;simp at hvx
                   . have hcx:=hc j x hvx;have SX:=zA (HRS.out j x r hvx hx);obtain⟨hl4,a4,cp4,rfl,_⟩:=HRS.out j x r hvx hx;have HX:=zA hx;have hst:=zA (rows_step hx);have hltI:(j:Int)<(n.rows.length:Int):=by omega
                     clear hc hx hvx;obtain⟨T,hT⟩:∃T,T=n.texts.length+cntR (n.rows.take j):=⟨_,rfl⟩
                     rw[<- hT]at hcn ⊢;have HTT:=zA hT;clear hT;by_cases hc1:4096-T<r.length
                     . have HV:Hid (decide n.shaped=false):=zA (decide_eq_false (fun h=>by
                        have q:=h.2.2.1;have q2:=(cntR_take_le n.rows (j+1)).1;rw[hst.out.1]at q2;have:=HTT.out;omega))
                       have hcI:(4096:Int)-(T:Int)<(r.length:Int):=by omega
                       go_wp2;go_ret;exact⟨by rw[HV.out];rfl,BEL.out⟩
                     . have hcI:¬(4096:Int)-(T:Int)<(r.length:Int):=by omega
                       have C2:=zA (rShort_any _ r _ (SX.out.below BEL.out));by_cases hs:shortL r
                       . rw[zM hs]at C2;have HA2:=zA (take_rows HALL.out HX.out hs);clear hs;go_wp2_with fail;refine C2.out.mono ?_;rintro e w2 ⟨rfl,rfl⟩;go_wp2;go_round
                         case rel=>
                          have e1:=hst.out.1;have e2:=HTT.out;refine⟨j+1,by omega,by go_num,?_,by omega,HA2.out⟩;exact congrArg (Value.int .i64) (by omega)
                         case measure=>simp[intOf];omega
                       . rw[decide_eq_false hs]at C2;have HV:Hid (decide n.shaped=false):=zA (decide_eq_false (fun h=>hs (h.2.2.2.2 r (zJ HX.out))));clear hs;go_wp2_with fail;refine C2.out.mono ?_;rintro e w2 ⟨rfl,rfl⟩;go_wp2;go_ret;exact⟨by rw[HV.out];rfl,BEL.out⟩
                 . have hall:=HALL.out;have hcn2:=hcn;rw[zI (by omega)]at hall hcn2;have HV:Hid (decide n.shaped=true):=zA (zM ⟨HNU.out,by omega,hcn2,G6.out,hall⟩);clear hall hcn2;go_wp2;go_ret;exact⟨by rw[HV.out];rfl,BEL.out⟩
           . rw[decide_eq_false g6]at C;have HV:Hid (decide n.shaped=false):=zA (decide_eq_false (fun h=>g6 h.2.2.2.1));clear g6;go_enter Try.func68,Try.ntmps68;go_wp2_with fail;refine C.out.mono ?_;rintro e w1 ⟨rfl,rfl⟩;go_wp2;go_ret;exact⟨by rw[HV.out];rfl,BEL.out⟩
end Go.Proofs.Ytjoddkeamboeoaa
