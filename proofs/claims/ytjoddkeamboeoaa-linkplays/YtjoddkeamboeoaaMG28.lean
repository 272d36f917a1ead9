/- ETick, EPut, ETake0. -/
import Derived.Test.YtjoddkeamboeoaaMG27
set_option maxRecDepth 100000
namespace Go.Proofs.Ytjoddkeamboeoaa
open Go.RowKit
section
variable {S:Nat->Prop} {w:World} {b:Nat} {vq:Value} {e:En}
def TckE(w:World)(e:En)(x:Ending)(w':World):Prop:=(∃v,x=.returned v/\w'.ownsRow w.heap.size 9 1 v (tickE e).length (strCs (tickE e)))/\Below w.heap.size w w'
set_option maxHeartbeats 1000000 in
theorem tickL_any(h:LB S w b vq e):Calls Try.prog 16 #[.pointer (some ⟨b,0,none⟩)] w (TckE w e):=by
 obtain⟨i0,hi0,hz0,hz1,hz2⟩:=info_partsE infoT;obtain⟨⟨g0,g1,g2,g3,g4,g5⟩,-⟩:=six_cells h.blk;have CG:=zA (given_any b w g0);have CW:=zA (window_any h);have CC:Hid (∀W,Below w.heap.size w W->∀k t,Calls Try.prog 35 #[.pointer (some ⟨b,0,none⟩),.int .i64 ((k:Nat):Int),.string ⟨t.toArray⟩] W fun x w'=>x=.returned (.string ⟨(carB e k t).toArray⟩)/\Below W.heap.size W w'):=zA (fun W hW k t=>carry_any (h.below hW) k t);have K4:Hid (∀W,Below w.heap.size w W->W.cell? ⟨b,4,none⟩=some (.int .i64 e.fs)):=zA (fun W hW=>(six_cells (h.below hW).blk).1.2.2.2.2.1);have hfs:=h.ok.fs2;obtain⟨l,hl⟩:∃l,l=e.q.take 64:=⟨_,rfl⟩
 rw[<- hl]at CW;have hl64:l.length<=64:=by rw[hl,zQ];omega
 have HTL:Hid (tickE e=tickF e e.fs l):=zA (by rw[tickE,hl]);clear h hl g1 g2 g3 g4 g5;go_enter Try.func16,Try.ntmps16;go_wp2_with fail;refine CG.out.mono ?_;rintro x w1 ⟨rfl,hw⟩;rw[hw];clear hw CG w1;go_wp2_with fail;refine CW.out.mono ?_;rintro x w1 ⟨⟨v,rfl,hwin⟩,hw⟩;rw[hw];clear hw CW w1 g0;obtain⟨ao,hv,hcell⟩:=hwin;subst hv;have HCL:=zA hcell;clear hcell;go_wp2_with fail;go_loopw [3,14] (fun vl c wr=>∃(i:Nat) (u:Value),u=vl/\i<=l.length/\c=.int .i64 i/\wr.ownsRow w.heap.size 9 1 u i (strCs (tickF e e.fs (l.take i)))/\Below w.heap.size w wr) (fun _ c _=>l.length-(intOf c).toNat)
 case atStart=>exact⟨0,_,rfl,zO _,rfl,by simpa[tickF,strCs]using World.ownsRow_nil _ _ _ _,zB _ _⟩
 case round=>
  obtain⟨i,u,rfl,hi,rfl,hrow,hbq⟩:=hrel;obtain⟨wx,hwx⟩:∃wx,wx=wr:=⟨_,rfl⟩
  subst hwx;obtain⟨ua,uc,hu⟩:=own_slice hrow;subst hu;have HROW:=zA hrow;have HBQ:=zA hbq;have hsx:w.heap.size<=wx.heap.size:=hbq.size;clear hrow hbq;by_cases hlt:i<l.length
  . have hltI:(i:Int)<(l.length:Int):=by omega
    obtain⟨t,ht⟩:∃t,l[i]?=some t:=⟨_,zD hlt⟩
    obtain⟨g,off,rfl,hg,hc⟩:=HCL.out i t ht;have hc2:=(HBQ.out.cell (p:=⟨g,off+i,none⟩) hg).trans hc;have q4:=K4.out _ HBQ.out;have HT:=zA ht;have C:=zA (CC.out wx HBQ.out (e.fs+i) t);have hcast:((e.fs+i:Nat):Int)=(e.fs:Int)+(i:Int):=by omega
    rw[hcast]at C;obtain⟨p,HP⟩:∃p,Hid (p=carB e (e.fs+i) t):=⟨_,zA rfl⟩
    rw[<- HP.out]at C;clear ht hc hcast hg;go_wp2_with fail;refine C.out.mono ?_;rintro x w2 ⟨rfl,hb2⟩;have HB2:Hid (Below w.heap.size w w2):=zA (HBQ.out.trans (hb2.mono HBQ.out.size));have HR2:=zA (ownsRow_below HROW.out hb2);have hs2:w.heap.size<=w2.heap.size:=HB2.out.size;clear hb2 C q4 hc2;go_wp2_with (refine wpList_append_lies _ rfl _ _ _ rfl w.heap.size 9 i0 _ 1 16 Try.underlying27 hi0 hz0 hz1 hz2 rfl (by decide) (.slice ua i uc) _ _ (by rfl) (HR2.out.alloc _) ⟨w2.heap.size,0,none⟩ 1 1 [.string ⟨p.toArray⟩] (by rfl) (by rfl) ?d1 ?d2 (by decide) ?d3 ?d4 ?d5 (w2.heap.size+1) (by simp) ?_)
    case d1=>exact World.news_of_block (cs:=#[.string ⟨p.toArray⟩]) (t:=9) (fr:=(0,0)) (heap_alloc_new w2 _)
    case d2=>simp[Value.oneCell']
    case d3=>unfold maxLen;omega
    case d4=>omega
    case d5=>simp;omega
    intro gg cap2 w9 hown9 hgrow9 hat9 hlt9;have ba:Below w2.heap.size w2 (w2.alloc (.cells #[.string ⟨p.toArray⟩] 9)):=(zB _ _).alloc (zC _) _;have HB9:Hid (Below w.heap.size w w9):=zA ((HB2.out.trans (ba.mono HB2.out.size)).grown hgrow9 (by simp;omega) (fun k e=>(HR2.out.lt k e).1));have HR9:Hid (w9.ownsRow w.heap.size 9 1 (.slice (some ⟨gg,0,none⟩) (i+1) cap2) (i+1) (strCs (tickF e e.fs (l.take (i+1))))):=zA (by
     have h1:tickF e e.fs (l.take (i+1))=tickF e e.fs (l.take i)++[p]:=by
      rw[zW,HT.out,HP.out,zY,tickF_snoc,zQ,Nat.min_eq_left hi]
     rw[h1,strCs_snoc];exact hown9)
    clear hown9 hgrow9 hat9 hlt9 ba;go_wp2;go_roundw
    case rel=>exact⟨i+1,_,rfl,by omega,by go_num,HR9.out,HB9.out⟩
    case measure=>simp[intOf];omega
  . have hltI:¬(i:Int)<(l.length:Int):=by omega
    obtain rfl:i=l.length:=by omega
    have HE:Hid (TckE w e (.returned (.slice ua l.length uc)) wx):=zA ⟨⟨_,rfl,by
     have:=HROW.out;rw[List.take_length]at this;rw[HTL.out,tickF_len];exact this⟩,HBQ.out⟩
    go_wp2;go_ret;exact HE.out
end
section
variable {S:Nat->Prop} {w:World} {b:Nat} {vq:Value} {e:En}
def PtE(S:Nat->Prop)(w:World)(b:Nat)(e:En)(n:NoteD)(x:Ending)(w':World):Prop:=
 (∃a0 l0 c0,x=.returned (.tuple #[.slice a0 l0 c0,.int .i64 ((putE e n).2.2:Int)])/\OneT w' w.heap.size (.slice a0 l0 c0) (putE e n).2.1/\∃vq',LB (fun k=>S k\/(Value.slice a0 l0 c0).ownBlock=some k) w' b vq' (putE e n).1)/\Fr S w w'
theorem ptE_of{n:NoteD}{W:World}{e':En}{ps:List (List UInt8)}{r:Nat}{a0:Option Addr}{l0 c0:Nat}{vq':Value}(hp:putE e n=(e',ps,r))(h1:OneT W w.heap.size (.slice a0 l0 c0) ps)(hl:LB (fun k=>S k\/(Value.slice a0 l0 c0).ownBlock=some k) W b vq' e')(hf:Fr S w W):
 PtE S w b e n (.returned (.tuple #[.slice a0 l0 c0,.int .i64 (r:Int)])) W:=by
 unfold PtE;rw[hp];exact⟨⟨a0,l0,c0,rfl,h1,vq',hl⟩,hf⟩
theorem LB.none{S:Nat->Prop}{w:World}{b:Nat}{vq:Value}{e:En}(h:LB S w b vq e):LB (fun k=>S k\/(Value.slice none 0 0).ownBlock=some k) w b vq e:=h.sub (fun _ hk=>hk.elim id (fun h=>by cases h))
set_option maxHeartbeats 1000000 in
theorem putL_any(h:LB S w b vq e)(hS:Low S w)(v:Value)(n:NoteD)(hn:NoteAt w v n)(hs:n.sane):Calls Try.prog 13 #[.pointer (some ⟨b,0,none⟩),v] w (PtE S w b e n):=by
 have hN:=hn;obtain⟨vn,vt,vr,rfl,-,-,-⟩:=hn;have hbb:Below w.heap.size w (w.alloc (.cells #[.int .i64 n.kind,vn,vt,vr] 36)):=(zB _ _).alloc (zC _) _;have h1:=h.below hbb;have hF1:=fr_below hS hbb;have CG:=zA (given_any b _ (six_cells h1.blk).1.1);have CP:=zA (pack_any _ n _ (hN.below hbb) hs);have H1:=zA h1;have HF1:=zA hF1;have hS1:Hid (Low S (w.alloc (.cells #[.int .i64 n.kind,vn,vt,vr] 36))):=zA (hS.below hbb);have HSZ:Hid (w.heap.size<=(w.alloc (.cells #[.int .i64 n.kind,vn,vt,vr] 36)).heap.size):=zA hbb.size;clear h h1 hF1 hN hbb hs;by_cases hm:n.may
 . rw[packV,if_pos hm]at CP;obtain⟨t,ht⟩:∃t,sealB n.body=t:=⟨_,rfl⟩
   rw[ht]at CP;have HT:=zA ht;have HM:=zA hm;have hsz:(⟨t.toArray⟩:ByteArray).size=t.length:=by rw[size_list]
   clear ht hm;by_cases hl:32768<t.length
   . have hlI:(32768:Int)<(t.length:Int):=by omega
     have HPU:Hid (putE e n=(e,[],1)):=zA (by rw[putE,if_pos (fun h=>by have:=h.2;rw[HT.out]at this;omega)]);clear hl;go_enter Try.func13,Try.ntmps13;go_wp2_with fail;refine CG.out.mono ?_;rintro x w1 ⟨rfl,hw⟩;rw[hw];clear hw CG w1;go_wp2_with fail;refine CP.out.mono ?_;rintro x w2 ⟨rfl,hb2⟩;have HE:Hid (PtE S w b e n (.returned (.tuple #[.slice none 0 0,.int .i64 1])) w2):=zA (ptE_of (r:=1) HPU.out (oneT_nil _ _) (H1.out.below hb2).none (HF1.out.next hS hb2));clear hb2 CP;go_wp2;go_ret2;exact HE.out
   . have hlI:¬(32768:Int)<(t.length:Int):=by omega
     have HFN:Hid (fitsN n):=zA ⟨HM.out,by rw[HT.out];omega⟩;have HTL:Hid (t.length<=32768):=zA (by omega);clear hl;go_enter Try.func13,Try.ntmps13;go_wp2_with fail;refine CG.out.mono ?_;rintro x w1 ⟨rfl,hw⟩;rw[hw];clear hw CG w1;go_wp2_with fail;refine CP.out.mono ?_;rintro x w2 ⟨rfl,hb2⟩;have H2:=zA (H1.out.below hb2);have HF2:=zA (HF1.out.next hS hb2);have HS2:=zA (hS1.out.below hb2);have HZ2:Hid (w.heap.size<=w2.heap.size):=zA (zS HSZ.out hb2.size);have CC:=zA (count_any H2.out);clear hb2 CP H1 HF1 hS1 HSZ;by_cases hq:4096<=e.q.length
     . have hqI:(4096:Int)<=(e.q.length:Int):=by omega
       have HE:Hid (PtE S w b e n (.returned (.tuple #[.slice none 0 0,.int .i64 2])) w2):=zA (ptE_of (r:=2) (by rw[putE,if_neg (fun h=>h HFN.out),if_pos hq]) (oneT_nil _ _) H2.out.none HF2.out);go_wp2_with fail;refine CC.out.mono ?_;rintro x w3 ⟨rfl,hw⟩;rw[hw];clear hw CC w3;go_wp2;go_ret2;exact HE.out
     . have hqI:¬(4096:Int)<=(e.q.length:Int):=by omega
       have CQ:=zA (putQ_any H2.out HS2.out t HTL.out (by omega));go_wp2_with fail;refine CC.out.mono ?_;rintro x w3 ⟨rfl,hw⟩;rw[hw];clear hw CC w3;go_wp2_with fail;refine CQ.out.mono ?_;rintro x w3 ⟨rfl,vq3,h3,hf3⟩;have H3:=zA h3;have HF3:=zA (HF2.out.trans hf3);have HZ3:Hid (w.heap.size<=w3.heap.size):=zA (zS HZ2.out hf3.size);have CC:=zA (count_any h3);have hlen:(pushE e t).q.length=e.q.length+1:=by simp[pushE]
       rw[hlen]at CC;have CR:=zA (carry_any h3 (e.fs+e.q.length) t);obtain⟨p,hp⟩:∃p,carB (pushE e t) (e.fs+e.q.length) t=p:=⟨_,rfl⟩
       rw[hp]at CR;have HP:Hid (carB e (e.fs+e.q.length) t=p):=zA hp;clear h3 hf3 CQ hlen hp H2 HF2 HS2 HZ2;have hfs:=H3.out.ok.fs2;by_cases h64:64<e.q.length+1
       . have h64I:(64:Int)<((e.q.length+1:Nat):Int):=by omega
         have h64J:(64:Int)<(e.q.length:Int)+1:=by omega
         have HE:Hid (PtE S w b e n (.returned (.tuple #[.slice none 0 0,.int .i64 0])) w3):=zA (ptE_of (r:=0) (by rw[putE,if_neg (fun h=>h HFN.out),if_neg hq,if_pos h64,HT.out]) (oneT_nil _ _) H3.out.none HF3.out);go_wp2_with fail;refine CC.out.mono ?_;rintro x w4 ⟨rfl,hw⟩;rw[hw];clear hw CC w4;go_wp2;go_ret2;exact HE.out
       . have h64I:¬(64:Int)<((e.q.length+1:Nat):Int):=by omega
         have h64J:¬(64:Int)<(e.q.length:Int)+1:=by omega
         have HPU:Hid (putE e n=(pushE e t,[p],0)):=zA (by rw[putE,if_neg (fun h=>h HFN.out),if_neg hq,if_neg h64,HT.out,HP.out]);go_wp2_with fail;refine CC.out.mono ?_;rintro x w4 ⟨rfl,hw⟩;rw[hw];clear hw CC w4;go_wp2_with fail;refine CR.out.mono ?_;rintro x w5 ⟨rfl,hb5⟩;have ba:Below w5.heap.size w5 (w5.alloc (.cells #[.string ⟨p.toArray⟩] 9)):=(zB _ _).alloc (zC _) _;have HE:Hid (PtE S w b e n (.returned (.tuple #[.slice (some ⟨w5.heap.size,0,none⟩) 1 1,.int .i64 0])) (w5.alloc (.cells #[.string ⟨p.toArray⟩] 9))):=zA (ptE_of (r:=0) HPU.out (oneT_one (zS HZ3.out hb5.size) (box_at w5 _)) (((H3.out.below hb5).below ba).more (fun k hk=>hk.elim .inl (fun h=>.inr (by
          have hkk:w5.heap.size=k:=by simpa[Value.ownBlock]using h
          have h5:=lt_of_block (H3.out.below hb5).blk;exact⟨by omega,fun e=>by have:=(H3.out.below hb5).lowq k e;omega⟩)))) ((HF3.out.next hS hb5).next hS ba))
         clear hb5 ba CR;go_wp2;go_ret2;exact HE.out
 . rw[packV,if_neg hm]at CP;have HPU:Hid (putE e n=(e,[],1)):=zA (by rw[putE,if_pos (fun h=>hm h.1)]);clear hm;go_enter Try.func13,Try.ntmps13;go_wp2_with fail;refine CG.out.mono ?_;rintro x w1 ⟨rfl,hw⟩;rw[hw];clear hw CG w1;go_wp2_with fail;refine CP.out.mono ?_;rintro x w2 ⟨rfl,hb2⟩;have HE:Hid (PtE S w b e n (.returned (.tuple #[.slice none 0 0,.int .i64 1])) w2):=zA (ptE_of (r:=1) HPU.out (oneT_nil _ _) (H1.out.below hb2).none (HF1.out.next hS hb2));clear hb2 CP;go_wp2;go_ret2;exact HE.out
end
section
variable {S:Nat->Prop} {w:World} {b:Nat} {vq:Value} {e:En}
set_option maxHeartbeats 2000000 in
theorem take_none(h:LB S w b vq e)(hS:Low S w)(l:List UInt8)(hl:l.length<=140737488351232)(hh:heardP l=none):
 Calls Try.prog 19 #[.pointer (some ⟨b,0,none⟩),.string ⟨l.toArray⟩] w (TakE S w b e l):=by
 have HH:=zA hh;have HT:Hid (takeE e l=(e,[],[],false)):=zA (by rw[takeE,hh]);clear hh;have F0:LF S w (w.alloc (.cells #[.slice none 0 0,.slice none 0 0,.bool false] 50)) b vq e:=(LF.begin h).alloc hS _;have r0:=box_at w (.cells #[.slice none 0 0,.slice none 0 0,.bool false] 50);have hz0:(w.alloc (.cells #[.slice none 0 0,.slice none 0 0,.bool false] 50)).heap.size=w.heap.size+1:=by simp
 have CG:=zA (given_any b (w.alloc (.cells #[.slice none 0 0,.slice none 0 0,.bool false] 50)) (six_cells F0.lb.blk).1.1);have CH:=zA (heard_any l (w.alloc (.cells #[.slice none 0 0,.slice none 0 0,.bool false] 50)) hl);unfold HdE at CH;have HF0:=zA F0;have HR0:=zA r0;have HZ0:=zA hz0;clear F0 r0 hz0 h hl;go_enter Try.func19,Try.ntmps19;go_wp2_with fail;refine CG.out.mono ?_;rintro x w1 ⟨rfl,hw⟩;rw[hw];clear hw CG w1;go_wp2_with fail;refine CH.out.mono ?_;clear CH;rintro x w1 ⟨⟨a,bb,c,d,f,kk,a0,l0,c0,a1,l1,c1,a2,l2,c2,ok,rfl,hv⟩,hb⟩;unfold HdV at hv;rw[HH.out]at hv;simp only at hv;rw[HZ0.out]at hb;try rw[HZ0.out]at hv
 have hb':Below (w.alloc (.cells #[.slice none 0 0,.slice none 0 0,.bool false] 50)).heap.size (w.alloc (.cells #[.slice none 0 0,.slice none 0 0,.bool false] 50)) w1:=by rw[HZ0.out];exact hb
 have F2:LF S w (w1.alloc (.cells #[.int .i64 a,.int .i64 bb,.int .i64 c,.bool d,.int .i64 f,.int .i64 kk,.slice a0 l0 c0,.slice a1 l1 c1,.slice a2 l2 c2] 86)) b vq e:=(HF0.out.below hS hb').alloc hS _;have r2:(w1.alloc (.cells #[.int .i64 a,.int .i64 bb,.int .i64 c,.bool d,.int .i64 f,.int .i64 kk,.slice a0 l0 c0,.slice a1 l1 c1,.slice a2 l2 c2] 86)).heap[w.heap.size]?=some (.cells #[.slice none 0 0,.slice none 0 0,.bool false] 50):=alloc_old (kpB hb' HR0.out);have k2':=box_at w1 (.cells #[.int .i64 a,.int .i64 bb,.int .i64 c,.bool d,.int .i64 f,.int .i64 kk,.slice a0 l0 c0,.slice a1 l1 c1,.slice a2 l2 c2] 86);have hw1:w.heap.size+1<=w1.heap.size:=by rw[<- HZ0.out];exact hb.size
 have HF2:=zA F2;have HR2:=zA r2;have HK2:=zA k2';have HW1:=zA hw1;obtain⟨⟨g0,g1,g2,g3,g4,g5⟩,⟨f0,f1,f2,f3,f4,f5⟩⟩:=six_cells F2.lb.blk;obtain⟨⟨k0,k1,k2,k3,k4,k5,k6,k7,k8⟩,-⟩:=nine_cells k2';obtain⟨⟨r0,r1,r2⟩,⟨s0,s1,s2⟩⟩:=three_cells r2;clear F2 r2 k2' hw1 hb hb' HF0 HR0;subst hv;go_wp2_with fail;go_quiet (fail);obtain⟨W3,hW3⟩:∃W3:World,W3=(w1.alloc (.cells #[.int .i64 a,.int .i64 bb,.int .i64 c,.bool d,.int .i64 f,.int .i64 kk,.slice a0 l0 c0,.slice a1 l1 c1,.slice a2 l2 c2] 86)).drewN nq:=⟨_,rfl⟩
 rw[<- hW3];have HF3:LF S w W3 b vq e:=by rw[hW3];exact HF2.out.drewN nq
 have HR3:W3.heap[w.heap.size]?=some (.cells #[.slice none 0 0,.slice none 0 0,.bool false] 50):=by rw[hW3];exact HR2.out
 clear hW3 r0 r1 r2 s0 s1 s2 k0 k1 k2 k3 k4 k5 k6 k7 k8 g0 g1 g2 g3 g4 g5 f0 f1 f2 f3 f4 f5;have HE:Hid (TakE S w b e l (.returned (.agg #[.slice none 0 0,.slice none 0 0,.bool false])) (set3 W3 w.heap.size (.slice none 0 0) (.slice none 0 0) (.bool false))):=zA (takE_of HT.out (oneN_nil _ _) (oneT_nil _ _) (HF3.set3 hS (zC _) _ _ _));obtain⟨⟨z0,z1,z2⟩,-⟩:=three_cells (set3_block HR3 (.slice none 0 0) (.slice none 0 0) (.bool false));obtain⟨⟨r0,r1,r2⟩,⟨s0,s1,s2⟩⟩:=three_cells HR3;have Z0:=zA z0;have Z1:=zA z1;have Z2:=zA z2;clear z0 z1 z2 HF3 HR3;go_wp2;refine bodyPost_ret (v:=.agg #[.slice none 0 0,.slice none 0 0,.bool false]) ?_ rfl HE.out;simp[results,Try.results19,go_sem,Z0.out,Z1.out,Z2.out]
set_option maxHeartbeats 2000000 in
theorem take_old(h:LB S w b vq e)(hS:Low S w)(l:List UInt8)(hl:l.length<=140737488351232)(y:Hd)(hh:heardP l=some y)(ho:y.ep=0\/y.ep<(e.ot:Int)):
 Calls Try.prog 19 #[.pointer (some ⟨b,0,none⟩),.string ⟨l.toArray⟩] w (TakE S w b e l):=by
 have HH:=zA hh;have HT:Hid (takeE e l=(e,[],[],false)):=zA (by rw[takeE,hh];simp only;rw[if_pos ho]);clear hh;have F0:LF S w (w.alloc (.cells #[.slice none 0 0,.slice none 0 0,.bool false] 50)) b vq e:=(LF.begin h).alloc hS _;have r0:=box_at w (.cells #[.slice none 0 0,.slice none 0 0,.bool false] 50);have hz0:(w.alloc (.cells #[.slice none 0 0,.slice none 0 0,.bool false] 50)).heap.size=w.heap.size+1:=by simp
 have CG:=zA (given_any b (w.alloc (.cells #[.slice none 0 0,.slice none 0 0,.bool false] 50)) (six_cells F0.lb.blk).1.1);have CH:=zA (heard_any l (w.alloc (.cells #[.slice none 0 0,.slice none 0 0,.bool false] 50)) hl);unfold HdE at CH;have HF0:=zA F0;have HR0:=zA r0;have HZ0:=zA hz0;clear F0 r0 hz0 h hl;go_enter Try.func19,Try.ntmps19;go_wp2_with fail;refine CG.out.mono ?_;rintro x w1 ⟨rfl,hw⟩;rw[hw];clear hw CG w1;go_wp2_with fail;refine CH.out.mono ?_;clear CH;rintro x w1 ⟨⟨a,bb,c,d,f,kk,a0,l0,c0,a1,l1,c1,a2,l2,c2,ok,rfl,hv⟩,hb⟩;unfold HdV at hv;rw[HH.out]at hv;simp only at hv;rw[HZ0.out]at hb;try rw[HZ0.out]at hv
 have hb':Below (w.alloc (.cells #[.slice none 0 0,.slice none 0 0,.bool false] 50)).heap.size (w.alloc (.cells #[.slice none 0 0,.slice none 0 0,.bool false] 50)) w1:=by rw[HZ0.out];exact hb
 have F2:LF S w (w1.alloc (.cells #[.int .i64 a,.int .i64 bb,.int .i64 c,.bool d,.int .i64 f,.int .i64 kk,.slice a0 l0 c0,.slice a1 l1 c1,.slice a2 l2 c2] 86)) b vq e:=(HF0.out.below hS hb').alloc hS _;have r2:(w1.alloc (.cells #[.int .i64 a,.int .i64 bb,.int .i64 c,.bool d,.int .i64 f,.int .i64 kk,.slice a0 l0 c0,.slice a1 l1 c1,.slice a2 l2 c2] 86)).heap[w.heap.size]?=some (.cells #[.slice none 0 0,.slice none 0 0,.bool false] 50):=alloc_old (kpB hb' HR0.out);have k2':=box_at w1 (.cells #[.int .i64 a,.int .i64 bb,.int .i64 c,.bool d,.int .i64 f,.int .i64 kk,.slice a0 l0 c0,.slice a1 l1 c1,.slice a2 l2 c2] 86);have hw1:w.heap.size+1<=w1.heap.size:=by rw[<- HZ0.out];exact hb.size
 have HF2:=zA F2;have HR2:=zA r2;have HK2:=zA k2';have HW1:=zA hw1;obtain⟨⟨g0,g1,g2,g3,g4,g5⟩,⟨f0,f1,f2,f3,f4,f5⟩⟩:=six_cells F2.lb.blk;obtain⟨⟨k0,k1,k2,k3,k4,k5,k6,k7,k8⟩,-⟩:=nine_cells k2';obtain⟨⟨r0,r1,r2⟩,⟨s0,s1,s2⟩⟩:=three_cells r2;clear F2 r2 k2' hw1 hb hb' HF0 HR0;obtain⟨rfl,rfl,rfl,rfl,rfl,rfl,rfl,hown⟩:=hv;clear hown;by_cases h0:y.ep=0
 . have h0b:(y.ep==0)=true:=by simp;exact h0
   clear h0 ho;go_wp2_with fail;go_quiet (fail);obtain⟨W3,hW3⟩:∃W3:World,W3=(w1.alloc (.cells #[.int .i64 y.ep,.int .i64 y.ot,.int .i64 y.wt,.bool y.ca,.int .i64 y.nr,.int .i64 y.pl.kind,.slice a0 l0 c0,.slice a1 l1 c1,.slice a2 l2 c2] 86)).drewN nq:=⟨_,rfl⟩
   rw[<- hW3];have HF3:LF S w W3 b vq e:=by rw[hW3];exact HF2.out.drewN nq
   have HR3:W3.heap[w.heap.size]?=some (.cells #[.slice none 0 0,.slice none 0 0,.bool false] 50):=by rw[hW3];exact HR2.out
   clear hW3 r0 r1 r2 s0 s1 s2 k0 k1 k2 k3 k4 k5 k6 k7 k8 g0 g1 g2 g3 g4 g5 f0 f1 f2 f3 f4 f5;have HE:Hid (TakE S w b e l (.returned (.agg #[.slice none 0 0,.slice none 0 0,.bool false])) (set3 W3 w.heap.size (.slice none 0 0) (.slice none 0 0) (.bool false))):=zA (takE_of HT.out (oneN_nil _ _) (oneT_nil _ _) (HF3.set3 hS (zC _) _ _ _));obtain⟨⟨z0,z1,z2⟩,-⟩:=three_cells (set3_block HR3 (.slice none 0 0) (.slice none 0 0) (.bool false));obtain⟨⟨r0,r1,r2⟩,⟨s0,s1,s2⟩⟩:=three_cells HR3;have Z0:=zA z0;have Z1:=zA z1;have Z2:=zA z2;clear z0 z1 z2 HF3 HR3;go_wp2;refine bodyPost_ret (v:=.agg #[.slice none 0 0,.slice none 0 0,.bool false]) ?_ rfl HE.out;simp[results,Try.results19,go_sem,Z0.out,Z1.out,Z2.out]
 . have h0b:(y.ep==0)=false:=by simp;exact h0
   have h1:y.ep<(e.ot:Int):=ho.resolve_left h0;clear ho;go_wp2_with fail;go_quiet (fail);obtain⟨W3,hW3⟩:∃W3:World,W3=(w1.alloc (.cells #[.int .i64 y.ep,.int .i64 y.ot,.int .i64 y.wt,.bool y.ca,.int .i64 y.nr,.int .i64 y.pl.kind,.slice a0 l0 c0,.slice a1 l1 c1,.slice a2 l2 c2] 86)).drewN nq:=⟨_,rfl⟩
   rw[<- hW3];have HF3:LF S w W3 b vq e:=by rw[hW3];exact HF2.out.drewN nq
   have HR3:W3.heap[w.heap.size]?=some (.cells #[.slice none 0 0,.slice none 0 0,.bool false] 50):=by rw[hW3];exact HR2.out
   clear hW3 r0 r1 r2 s0 s1 s2 k0 k1 k2 k3 k4 k5 k6 k7 k8 g0 g1 g2 g3 g4 g5 f0 f1 f2 f3 f4 f5;have HE:Hid (TakE S w b e l (.returned (.agg #[.slice none 0 0,.slice none 0 0,.bool false])) (set3 W3 w.heap.size (.slice none 0 0) (.slice none 0 0) (.bool false))):=zA (takE_of HT.out (oneN_nil _ _) (oneT_nil _ _) (HF3.set3 hS (zC _) _ _ _));obtain⟨⟨z0,z1,z2⟩,-⟩:=three_cells (set3_block HR3 (.slice none 0 0) (.slice none 0 0) (.bool false));obtain⟨⟨r0,r1,r2⟩,⟨s0,s1,s2⟩⟩:=three_cells HR3;have Z0:=zA z0;have Z1:=zA z1;have Z2:=zA z2;clear z0 z1 z2 HF3 HR3;go_wp2;refine bodyPost_ret (v:=.agg #[.slice none 0 0,.slice none 0 0,.bool false]) ?_ rfl HE.out;simp[results,Try.results19,go_sem,Z0.out,Z1.out,Z2.out]
end
end Go.Proofs.Ytjoddkeamboeoaa
