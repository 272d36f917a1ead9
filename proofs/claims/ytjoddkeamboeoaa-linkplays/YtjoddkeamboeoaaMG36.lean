/- ELDo, ERPut. -/
import Derived.Test.YtjoddkeamboeoaaMG35
import Derived.Deep.DeepCutAuto
set_option maxRecDepth 100000
namespace Go.Proofs.Ytjoddkeamboeoaa
open Go.RowKit Go.Shelf
section
variable {N:Nat} {w0:World} {T:Nat->Prop} {W W':World} {x:Nat} {V:LV} {e:Nat->En} {U:Nat->List (List UInt8)} {n c:Nat->Nat}
theorem lose_txr{T:Nat->Prop}{w:World}{ao:Option Addr}{cap:Nat}{p:List UInt8}{l:List (List UInt8)}(h:TxR T w (.slice ao (p::l).length cap) (p::l)):∃g o,ao=some ⟨g,o,none⟩/\TxR T w (.slice (if cap=1 then some ⟨g,o,none⟩else some ⟨g,o+1,none⟩) l.length (cap-1)) l:=by
 obtain⟨ao',cap',e,h0,h1,h⟩:=h;injection e with e1 _ e2;subst e1 e2;rcases h with h|⟨g,o,cur,rfl,e2,e3,e4⟩
 . cases h
 . refine⟨g,o,rfl,?_⟩;rw[zR]at h1;by_cases hc:cap=1
   . rw[if_pos hc];have hl:l=[]:=zU.1 (by omega);subst hl;exact⟨_,_,rfl,fun h=>(by cases h),by simp,.inl rfl⟩
   . rw[if_neg hc];refine⟨_,_,rfl,fun h=>(by cases h),by omega,.inr ⟨g,o+1,cur,rfl,e2,e3,fun j t hj=>?_⟩⟩;rw[show o+1+j=o+(j+1) by omega];exact e4 (j+1) t (by rw[List.getElem?_cons_succ];exact hj)
end
section
variable {T:Nat->Prop} {w:World} {e:En} {vq:Value}
def RPutE(T:Nat->Prop)(w:World)(e:En)(n:NoteD)(x:Ending)(w':World):Prop:=
 ∃vq' a0 l0 c0,x=.returned (.tuple #[rvE (putE e n).1 vq',.slice a0 l0 c0,.int .i64 ((putE e n).2.2:Int)])/\TxR (Nw T w w') w' vq' (putE e n).1.q/\OneT w' w.heap.size (.slice a0 l0 c0) (putE e n).2.1/\Below w.heap.size w w'
abbrev putW(w:World)(e:En)(vq k vn vt vr:Value):World:=((w.alloc (.cells #[.int .i64 e.ep,.int .i64 e.ot,.int .i64 e.fs,.int .i64 e.wt,vq] 29)).alloc (.cells #[k,vn,vt,vr] 36)).alloc (.cells #[.int .i64 0,.int .i64 0,.int .i64 0,.int .i64 0,.slice none 0 0] 29)
set_option maxHeartbeats 1000000 in
theorem rPut_any(hq:TxR T w vq e.q)(hlow:Low T w)(hok:e.ok)(v:Value)(n:NoteD)(hn:NoteAt w v n):Calls Try.prog 14 #[rvE e vq,v] w (RPutE T w e n):=by
 obtain⟨i0,hi0,hz0,hz1,hz2⟩:=info_partsE infoT;have hfs:=hok.fs2;have hN:=hn;obtain⟨vn,vt,vr,rfl,-,-,-⟩:=hn;obtain⟨ao,cap,rfl,-,-,-⟩:=txr_cells hq;obtain⟨m,hm⟩:∃m,e.q.length=m:=⟨_,rfl⟩
 obtain⟨b,hb⟩:∃b,w.heap.size=b:=⟨_,rfl⟩
 have hbW:Below w.heap.size w (putW w e (.slice ao e.q.length cap) (.int .i64 n.kind) vn vt vr):=(((zB _ _).alloc (zC _) _).alloc (by simp) _).alloc (by simp;omega) _;have c1:(putW w e (.slice ao e.q.length cap) (.int .i64 n.kind) vn vt vr).heap[b]?=some (.cells #[.int .i64 e.ep,.int .i64 e.ot,.int .i64 e.fs,.int .i64 e.wt,.slice ao e.q.length cap] 29 (0,0)):=by
  rw[<- hb];exact(Below.heap_alloc _ _ _ (by simp;omega)).trans ((Below.heap_alloc _ _ _ (by simp)).trans (box_at w _))
 have c3:(putW w e (.slice ao e.q.length cap) (.int .i64 n.kind) vn vt vr).heap[b+1+1]?=some (.cells #[.int .i64 0,.int .i64 0,.int .i64 0,.int .i64 0,.slice none 0 0] 29 (0,0)):=by
  have h:=box_at ((w.alloc (.cells #[.int .i64 e.ep,.int .i64 e.ot,.int .i64 e.fs,.int .i64 e.wt,.slice ao e.q.length cap] 29)).alloc (.cells #[.int .i64 n.kind,vn,vt,vr] 36)) (.cells #[.int .i64 0,.int .i64 0,.int .i64 0,.int .i64 0,.slice none 0 0] 29);have hs:((w.alloc (.cells #[.int .i64 e.ep,.int .i64 e.ot,.int .i64 e.fs,.int .i64 e.wt,.slice ao e.q.length cap] 29)).alloc (.cells #[.int .i64 n.kind,vn,vt,vr] 36)).heap.size=b+1+1:=by simp;omega
  rw[hs]at h;exact h
 have C:=zA (rPack_any (.agg #[.int .i64 n.kind,vn,vt,vr]) n _ (hN.below hbW));have HQ:=zA (hq.below hbW);have HLOW:=zA hlow;have HC1:=zA c1;have HC3:=zA c3;have HBW:=zA hbW;rw[hm]at C HQ HC1 HC3 HBW ⊢;have HM:=zA hm;clear hq hlow hN hbW c1 c3 hm;go_enter Try.func14,Try.ntmps14;go_wp2_with fail;refine C.out.mono ?_;clear C;rintro x w1 ⟨rfl,hb1⟩;have HQ1:=zA (HQ.out.below hb1);have HC11:Hid (w1.heap[b]?=_):=zA ((hb1.block b (lt_of_block HC1.out)).trans HC1.out);have HC31:Hid (w1.heap[b+1+1]?=_):=zA ((hb1.block (b+1+1) (lt_of_block HC3.out)).trans HC3.out);have HBL:Hid (Below w.heap.size w w1):=zA (HBW.out.trans (hb1.mono HBW.out.size));obtain⟨⟨g0,g1,g2,g3,g4⟩,⟨-,-,-,-,gf4⟩⟩:=five_cells HC11.out;obtain⟨⟨r0,r1,r2,r3,r4⟩,⟨f0,f1,f2,f3,f4⟩⟩:=five_cells HC31.out;have HZ:=zA (five_cells (set5_block HC31.out (.int .i64 e.ep) (.int .i64 e.ot) (.int .i64 e.fs) (.int .i64 e.wt) (.slice ao m cap))).1;have HSAME:Hid (∀err:Nat,putE e n=(e,[],err)->RPutE T w e n (.returned (.tuple #[rvE e (.slice ao m cap),.slice none 0 0,.int .i64 (err:Int)])) (set5 w1 (b+1+1) (.int .i64 e.ep) (.int .i64 e.ot) (.int .i64 e.fs) (.int .i64 e.wt) (.slice ao m cap))):=zA (fun err he=>by
  unfold RPutE;rw[he];refine⟨_,_,_,_,rfl,HQ1.out.keep (fun g cur hg ho=>⟨.inl hg,?_⟩),.inl ⟨rfl,rfl⟩,set5_below HBL.out (by omega) _ _ _ _ _⟩;exact(set5_other (fun e=>by
   have hlt:=HLOW.out g hg;omega) _ _ _ _ _).trans ho)
 have HU0:Hid (ao=none->m=0/\cap=0):=zA (by
  obtain⟨ao2,cap2,e2,h2,-,-⟩:=txr_cells HQ1.out;injection e2 with e2 _ e3;subst e2 e3;rw[<- HM.out];exact h2)
 have HUC:Hid (∀ad,ao=some ad->∀(j:Nat) u,(strCs e.q)[j]?=some u->w1.cell? (ad.add j)=some u):=zA (by
  obtain⟨ao2,cap2,e2,-,-,h2⟩:=txr_cells HQ1.out;injection e2 with e2 _ e3;subst e2 e3;exact h2)
 clear hb1 HC1 HC3 HQ HBW;by_cases hmay:n.may
 . by_cases hlen:(sealB n.body).length<=32768
   . by_cases hfull:4096<=m
     . rw[packV_may hmay];have HPE:Hid (putE e n=(e,[],2)):=zA (by rw[putE,if_neg (fun h=>h ⟨hmay,hlen⟩),if_pos (by rw[HM.out];exact hfull)]);have h2:(4096:Int)<=(m:Int):=by omega
       obtain⟨s,hs⟩:∃s,sealB n.body=s:=⟨_,rfl⟩
       rw[hs]at hlen ⊢;have hsz:(⟨s.toArray⟩:ByteArray).size=s.length:=by rw[size_list]
       have h1:¬(32768:Int)<(s.length:Int):=by omega
       clear hmay hlen hfull hs;have HE:=zA (HSAME.out 2 HPE.out);go_wp2;obtain⟨z0,z1,z2,z3,z4⟩:=HZ.out;refine bodyPost_ret (v:=.tuple #[rvE e (.slice ao m cap),.slice none 0 0,.int .i64 2]) ?_ rfl HE.out;simp[results,Try.results14,go_sem,z0,z1,z2,z3,z4]
     . rw[packV_may hmay];obtain⟨s,hs⟩:∃s,sealB n.body=s:=⟨_,rfl⟩
       rw[hs]at hlen ⊢;have hsz:(⟨s.toArray⟩:ByteArray).size=s.length:=by rw[size_list]
       have h1:¬(32768:Int)<(s.length:Int):=by omega
       have h2:¬(4096:Int)<=(m:Int):=by omega
       have HPE:Hid (putE e n=if 64<m+1 then (pushE e s,[],0)else (pushE e s,[carB e (e.fs+m) s],0)):=zA (by rw[putE,if_neg (fun h=>h ⟨hmay,by rw[hs];exact hlen⟩),if_neg (by rw[HM.out];exact hfull),HM.out,hs]);have hm4:m<4096:=by omega
       clear hmay hlen hfull hs HSAME HZ;go_wp2_with (refine wpList_append_all rfl _ _ rfl Try.underlying27 hi0 hz0 hz1 hz2 rfl (by decide) (by rfl) (World.ownsRow_nil w1 w1.heap.size 9 1) ao (strCs e.q) m cap (by rfl) ?d0 HU0.out HUC.out (str_one _) ?d1 ?d2 ?d3 ?_)
       case d0=>rw[str_len,HM.out]
       case d1=>unfold maxLen;omega
       case d2=>omega
       case d3=>exact zC _
       intro v1 w2 hown2 hg2 hv2;obtain⟨va,vc,hv1s⟩:=own_slice hown2;subst hv1s;have hb2:Below w1.heap.size w1 w2:=⟨hg2.os,hg2.tape,hg2.output,hg2.size,fun j hj=>hg2.block j hj (by simp[Value.ownBlock])⟩
       have HO2:Hid (w2.ownsRow w1.heap.size 9 1 (.slice va m vc) m (strCs e.q)):=zA hown2;have HB2:Hid (Below w1.heap.size w1 w2):=zA hb2;have hs2:w1.heap.size<=w2.heap.size:=hb2.size;have HC12:Hid (w2.heap[b]?=_):=zA ((hb2.block b (lt_of_block HC11.out)).trans HC11.out);have HC32:Hid (w2.heap[b+1+1]?=_):=zA ((hb2.block (b+1+1) (lt_of_block HC31.out)).trans HC31.out);have HLT1:Hid (b<w1.heap.size/\b+1+1<w1.heap.size):=zA ⟨lt_of_block HC11.out,lt_of_block HC31.out⟩;clear hown2 hg2 hv2 hb2 HC11 HC31 g0 g1 g2 g3 g4 gf4 r0 r1 r2 r3 r4 f0 f1 f2 f3 f4 HU0 HUC;obtain⟨⟨g0,g1,g2,g3,g4⟩,⟨-,-,-,-,gf4⟩⟩:=five_cells HC12.out;go_wp2_with (refine wpList_append_lies _ rfl _ _ _ rfl w1.heap.size 9 i0 _ 1 16 Try.underlying27 hi0 hz0 hz1 hz2 rfl (by decide) (.slice va m vc) _ _ (by rfl) (HO2.out.alloc _) ⟨w2.heap.size,0,none⟩ 1 1 [.string ⟨s.toArray⟩] (by rfl) (by rfl) ?d1 ?d2 (by decide) ?d3 ?d4 ?d5 (w2.heap.size+1) (by simp) ?_)
       case d1=>exact World.news_of_block (cs:=#[.string ⟨s.toArray⟩]) (t:=9) (fr:=(0,0)) (heap_alloc_new w2 _)
       case d2=>simp[Value.oneCell']
       case d3=>unfold maxLen;omega
       case d4=>omega
       case d5=>simp;omega
       intro gg cap2 w9 hown9 hgrow9 hat9 hlt9;have ba:Below w2.heap.size w2 (w2.alloc (.cells #[.string ⟨s.toArray⟩] 9)):=(zB _ _).alloc (zC _) _;have HB9:Hid (Below w1.heap.size w1 w9):=zA ((HB2.out.trans (ba.mono HB2.out.size)).grown hgrow9 (by simp;omega) (fun k e=>(HO2.out.lt k e).1));have HO9:Hid (w9.ownsRow w1.heap.size 9 1 (.slice (some ⟨gg,0,none⟩) (m+1) cap2) (m+1) (strCs (e.q++[s]))):=zA (by rw[strCs_snoc];exact hown9);have HC19:Hid (w9.heap[b]?=_):=zA ((HB9.out.block b HLT1.out.1).trans ((HB2.out.block b HLT1.out.1).symm.trans HC12.out));have HC39:Hid (w9.heap[b+1+1]?=_):=zA ((HB9.out.block (b+1+1) HLT1.out.2).trans ((HB2.out.block (b+1+1) HLT1.out.2).symm.trans HC32.out));obtain⟨⟨y0,y1,y2,y3,y4⟩,⟨-,-,-,-,gf9⟩⟩:=five_cells HC19.out;have hs9:w1.heap.size<=w9.heap.size:=HB9.out.size;clear hown9 hgrow9 hat9 hlt9 ba g0 g1 g2 g3 g4 gf4 HC12 HC32 HO2 HB2 hs2;go_upto_region 9 with fail;obtain⟨W10,hW10⟩:∃W10,w9.setCell ⟨b,4,none⟩ (.slice (some ⟨gg,0,none⟩) (m+1) cap2)=W10:=⟨_,rfl⟩
       rw[hW10];have hgg:w1.heap.size<=gg/\gg<w9.heap.size:=HO9.out.lt gg rfl;have hc1:W10.heap[b]?=some (.cells #[.int .i64 e.ep,.int .i64 e.ot,.int .i64 e.fs,.int .i64 e.wt,.slice (some ⟨gg,0,none⟩) (m+1) cap2] 29 (0,0)):=by rw[<- hW10];simp[World.setCell,Array.getElem?_modify,HC19.out]
       have hc3:W10.heap[b+1+1]?=some (.cells #[.int .i64 0,.int .i64 0,.int .i64 0,.int .i64 0,.slice none 0 0] 29 (0,0)):=by rw[<- hW10,set1_other (by omega)];exact HC39.out
       have hbl:Below w.heap.size w W10:=by rw[<- hW10];exact(HBL.out.trans (HB9.out.mono HBL.out.size)).setCell (p:=⟨b,4,none⟩) (by rw[hb];exact zC _) _
       have hbz:w.heap.size<=w1.heap.size:=HBL.out.size;have hsz10:W10.heap.size=w9.heap.size:=by rw[<- hW10];simp
       have htx:TxR (Nw T w W10) W10 (.slice (some ⟨gg,0,none⟩) (m+1) cap2) (e.q++[s]):=by
        have hlq:(e.q++[s]).length=m+1:=by rw[zE,HM.out];rfl
        have h:=TxR.own (T:=Nw T w W10) (B:=w1.heap.size) (l:=e.q++[s]) (by rw[hlq];exact HO9.out) (fun g hg=>.inr (by
         have:=HO9.out.lt g hg;exact⟨by omega,by omega⟩))
        refine h.keep (fun g cur hg ho=>⟨hg,?_⟩);rw[<- hW10];refine(set1_other (fun e=>?_) _).trans ho;rw[e,HC19.out]at ho;simp only[Option.some.injEq,Obj.cells.injEq]at ho;exact absurd ho.2.1 (by decide)
       obtain⟨⟨y0,y1,y2,y3,y4⟩,-⟩:=five_cells hc1;obtain⟨⟨r0,r1,r2,r3,r4⟩,⟨f0,f1,f2,f3,f4⟩⟩:=five_cells hc3;have hbl3:b+1+1<W10.heap.size:=lt_of_block hc3;have HZ:Hid (∀W',Below W10.heap.size W10 W'->_):=zA (fun W' hW=>(five_cells (set5_block ((hW.block (b+1+1) hbl3).trans hc3) (.int .i64 e.ep) (.int .i64 e.ot) (.int .i64 e.fs) (.int .i64 e.wt) (.slice (some ⟨gg,0,none⟩) (m+1) cap2))).1);have HFIN:Hid (∀W' a0 l0 c0 ps,Below W10.heap.size W10 W'->OneT W' w.heap.size (.slice a0 l0 c0) ps->putE e n=(pushE e s,ps,0)->RPutE T w e n (.returned (.tuple #[rvE e (.slice (some ⟨gg,0,none⟩) (m+1) cap2),.slice a0 l0 c0,.int .i64 0])) (set5 W' (b+1+1) (.int .i64 e.ep) (.int .i64 e.ot) (.int .i64 e.fs) (.int .i64 e.wt) (.slice (some ⟨gg,0,none⟩) (m+1) cap2))):=zA (fun W' a0 l0 c0 ps hW ho he=>by
        have h3':=(hW.block (b+1+1) hbl3).trans hc3;have hnb:∀ {g:Nat} {cur:Array Value} {t:TypeId},W'.heap[g]?=some (.cells cur t (0,0))->t≠29->g≠b+1+1:=fun {g cur t} hg ht e=>by
         rw[e,h3']at hg;simp only[Option.some.injEq,Obj.cells.injEq]at hg;exact ht hg.2.1.symm
        unfold RPutE;rw[he];refine⟨_,_,_,_,rfl,?_,?_,set5_below (hbl.trans (hW.mono (zS hbz (by omega)))) (by omega) _ _ _ _ _⟩
        . refine htx.keep (fun g cur hg hgo=>⟨hg.imp id (fun h=>⟨h.1,by have:=hW.size;simp;omega⟩),?_⟩);have h':=(hW.block g (lt_of_block hgo)).trans hgo;exact(set5_other (hnb h' (by decide)) _ _ _ _ _).trans h'
        . rcases ho with ho|⟨g,t,h1,h2,h3,h4⟩
          . exact .inl ho
          . exact .inr ⟨g,t,h1,h2,h3,(set5_other (hnb h4 (by decide)) _ _ _ _ _).trans h4⟩)
       have HS10:Hid (∀u,Below W10.heap.size W10 u->u.cell? ⟨b,0,none⟩=some (.int .i64 e.ep)/\u.cell? ⟨b,1,none⟩=some (.int .i64 e.ot)/\u.cell? ⟨b,2,none⟩=some (.int .i64 e.fs)/\u.cell? ⟨b,3,none⟩=some (.int .i64 e.wt)/\u.cell? ⟨b,4,none⟩=some (.slice (some ⟨gg,0,none⟩) (m+1) cap2)):=zA (fun u hu=>(five_cells ((hu.block b (lt_of_block hc1)).trans hc1)).1);have HT10:=zA htx;have HS5:Hid (∀u,Below W10.heap.size W10 u->(set5 u (b+1+1) (.int .i64 e.ep) (.int .i64 e.ot) (.int .i64 e.fs) (.int .i64 e.wt) (.slice (some ⟨gg,0,none⟩) (m+1) cap2)).cell? ⟨b,0,none⟩=some (.int .i64 e.ep)/\(set5 u (b+1+1) (.int .i64 e.ep) (.int .i64 e.ot) (.int .i64 e.fs) (.int .i64 e.wt) (.slice (some ⟨gg,0,none⟩) (m+1) cap2)).cell? ⟨b,1,none⟩=some (.int .i64 e.ot)/\(set5 u (b+1+1) (.int .i64 e.ep) (.int .i64 e.ot) (.int .i64 e.fs) (.int .i64 e.wt) (.slice (some ⟨gg,0,none⟩) (m+1) cap2)).cell? ⟨b,2,none⟩=some (.int .i64 e.fs)/\(set5 u (b+1+1) (.int .i64 e.ep) (.int .i64 e.ot) (.int .i64 e.fs) (.int .i64 e.wt) (.slice (some ⟨gg,0,none⟩) (m+1) cap2)).cell? ⟨b,3,none⟩=some (.int .i64 e.wt)/\(set5 u (b+1+1) (.int .i64 e.ep) (.int .i64 e.ot) (.int .i64 e.fs) (.int .i64 e.wt) (.slice (some ⟨gg,0,none⟩) (m+1) cap2)).cell? ⟨b,4,none⟩=some (.slice (some ⟨gg,0,none⟩) (m+1) cap2)):=zA (fun u hu=>(five_cells ((set5_other (show b≠b+1+1 by omega) _ _ _ _ _).trans ((hu.block b (lt_of_block hc1)).trans hc1))).1);have HLT10:Hid (b+1+1<W10.heap.size):=zA hbl3;have HWZ:Hid (w.heap.size<=W10.heap.size):=zA hbl.size;have HBD:Hid (Below W10.heap.size W10 W10.drew):=zA (below_drewE (zB _ _));have HF10:Hid (∀u,Below W10.heap.size W10 u->u.cell? ⟨b+1+1,0,none⟩=some (.int .i64 0)/\u.cell? ⟨b+1+1,1,none⟩=some (.int .i64 0)/\u.cell? ⟨b+1+1,2,none⟩=some (.int .i64 0)/\u.cell? ⟨b+1+1,3,none⟩=some (.int .i64 0)/\u.cell? ⟨b+1+1,4,none⟩=some (.slice none 0 0)/\u.frozen? ⟨b+1+1,0,none⟩=false/\u.frozen? ⟨b+1+1,1,none⟩=false/\u.frozen? ⟨b+1+1,2,none⟩=false/\u.frozen? ⟨b+1+1,3,none⟩=false/\u.frozen? ⟨b+1+1,4,none⟩=false):=zA (fun u hu=>by
        obtain⟨⟨a1,a2,a3,a4,a5⟩,⟨b1,b2,b3,b4,b5⟩⟩:=five_cells ((hu.block (b+1+1) hbl3).trans hc3);exact⟨a1,a2,a3,a4,a5,b1,b2,b3,b4,b5⟩)
       clear hgg hc1 hc3 hbl hbz hsz10 htx hbl3 hW10 HC19 HC39 HO9 HB9 gf9 HBL hs9;by_cases h64:64<m+1
       . have h64I:(64:Int)<(m:Int)+1:=by omega
         rw[if_pos h64]at HPE;have HE:=zA (HFIN.out W10 none 0 0 [] (zB _ _) (.inl ⟨rfl,rfl⟩) HPE.out);clear h64 HFIN HF10 HS10;go_wp2;obtain⟨z0,z1,z2,z3,z4⟩:=HZ.out W10 (zB _ _);refine bodyPost_ret (v:=.tuple #[rvE e (.slice (some ⟨gg,0,none⟩) (m+1) cap2),.slice none 0 0,.int .i64 0]) ?_ rfl HE.out;simp[results,Try.results14,go_sem,z0,z1,z2,z3,z4]
       . have h64I:¬(64:Int)<(m:Int)+1:=by omega
         rw[if_neg h64]at HPE;have CP:Hid (∀u,Below W10.heap.size W10 u->Calls Try.prog 37 #[rvE e (.slice (some ⟨gg,0,none⟩) (m+1) cap2),.int .i64 (m:Int)] u fun x w'=>x=.returned (.string ⟨(carB e (e.fs+m) s).toArray⟩)/\Below u.heap.size u w'):=zA (fun u hu=>by
          have ht:=HT10.out.below hu;exact rPacket_any (e:={ e with q:=e.q++[s] }) ht (k:=m) (t:=s) (by simp[HM.out]) hfs (by omega))
         have hsub:IntKind.i64.wrap (m:Int)=(m:Int):=by rw[IntKind.wrap_i64];omega
         clear h64 r0 r1 r2 r3 r4 f0 f1 f2 f3 f4;go_upto_region 11 with fail;clear y0 y1 y2 y3 y4;refine wp_region_held_drew (S:=fun u=>u.cell? ⟨b,0,none⟩=some (.int .i64 e.ep)/\u.cell? ⟨b,1,none⟩=some (.int .i64 e.ot)/\u.cell? ⟨b,2,none⟩=some (.int .i64 e.fs)/\u.cell? ⟨b,3,none⟩=some (.int .i64 e.wt)/\u.cell? ⟨b,4,none⟩=some (.slice (some ⟨gg,0,none⟩) (m+1) cap2)) (by kernel_rfl) ?_ (fun hHeld=>?_)
         . exact HS10.out _ HBD.out
         refine tkH (i:=0) (oi:=⟨some 42,.load 29 (.tmp 2),29, "ref.go:50",#[],none⟩) (v:=?_) rfl ?_ hHeld ?_;rotate_left 1
         . rintro W ⟨s0,s1,s2,s3,s4⟩;go_simp;try with_reducible rfl
         simp only[Act.put,zIB,zSZ,zSS];refine tkH (i:=1) (oi:=⟨some 43,.load 29 (.tmp 2),29, "ref.go:50",#[],none⟩) (v:=?_) rfl ?_ hHeld ?_;rotate_left 1
         . rintro W ⟨s0,s1,s2,s3,s4⟩;go_simp;try with_reducible rfl
         simp only[Act.put,zIB,zSZ,zSS];refine tkH (i:=2) (oi:=⟨some 44,.fieldAddr 29 (.tmp 2) 4,0, "ref.go:50",#[],none⟩) (v:=?_) rfl ?_ hHeld ?_;rotate_left 1
         . rintro W ⟨s0,s1,s2,s3,s4⟩;go_simp;try with_reducible rfl
         simp only[Act.put,zIB,zSZ,zSS];refine tkH (i:=3) (oi:=⟨some 45,.load 27 (.tmp 44),27, "ref.go:50",#[⟨2,.data⟩],none⟩) (v:=?_) rfl ?_ hHeld ?_;rotate_left 1
         . rintro W ⟨s0,s1,s2,s3,s4⟩;go_simp;try with_reducible rfl
         simp only[Act.put,zIB,zSZ,zSS];refine tkH (i:=4) (oi:=⟨some 46,.call { callee:=.builtin .len,args:=#[.tmp 45],argTypes:=#[27] },3, "ref.go:50",#[⟨3,.data⟩],none⟩) (v:=?_) rfl ?_ hHeld ?_;rotate_left 1
         . rintro W ⟨s0,s1,s2,s3,s4⟩;go_simp;try with_reducible rfl
         simp only[Act.put,zIB,zSZ,zSS];refine tkH (i:=5) (oi:=⟨some 47,.binOp .sub 3 (.tmp 46) (.const (.int .i64 1)) 3,3, "ref.go:50",#[⟨4,.data⟩],none⟩) (v:=?_) rfl ?_ hHeld ?_;rotate_left 1
         . rintro W ⟨s0,s1,s2,s3,s4⟩;go_simp;try with_reducible rfl
         simp only[Act.put,zIB,zSZ,zSS];refine wpAnyH_ready (rs:=[6]) (by kernel_rfl) (by simp) ?_;refine AllReadyH.cons (o:=⟨some 48,.call { callee:=.value (.func 37),args:=#[.tmp 43,.tmp 47],argTypes:=#[29,3] },9, "ref.go:50",#[⟨1,.data⟩,⟨5,.data⟩],none⟩) rfl (fun K hK=>?_) AllReadyH.nil;go_simp;refine(CP.out _ HBD.out).mono ?_;rintro y w11 ⟨rfl,hb11⟩;have HB11:Hid (Below W10.heap.size W10 w11):=zA (HBD.out.trans (hb11.mono HBD.out.size));obtain⟨p,hp⟩:∃p,carB e (e.fs+m) s=p:=⟨_,rfl⟩
         rw[hp];rw[hp]at HPE;have HBA:Hid (Below W10.heap.size W10 (w11.alloc (.cells #[.string ⟨p.toArray⟩] 9))):=zA (HB11.out.alloc HB11.out.size _);have HE:=zA (HFIN.out _ (some ⟨w11.heap.size,0,none⟩) 1 1 [p] HBA.out (.inr ⟨w11.heap.size,p,rfl,rfl,by have h1:=HB11.out.size;have h2:=HWZ.out;omega,box_at w11 _⟩) HPE.out);clear hb11 hp CP HFIN HPE;refine hK.out _ _ (HS10.out _ HB11.out) (fun hHeld=>?_);clear hK K;have HEQ:Hid (set5 (w11.alloc (.cells #[.string ⟨p.toArray⟩] 9)) (b+1+1) (.int .i64 e.ep) (.int .i64 e.ot) (.int .i64 e.fs) (.int .i64 e.wt) (.slice (some ⟨gg,0,none⟩) (m+1) cap2)=(set5 w11 (b+1+1) (.int .i64 e.ep) (.int .i64 e.ot) (.int .i64 e.fs) (.int .i64 e.wt) (.slice (some ⟨gg,0,none⟩) (m+1) cap2)).alloc (.cells #[.string ⟨p.toArray⟩] 9)):=zA (by
          have hlt:b+1+1<w11.heap.size:=zF HLT10.out HB11.out.size;simp[set5,World.setCell_alloc_past,hlt])
         refine wpAnyH_ready (rs:=[7,8]) (by kernel_rfl) (by simp) ?_;refine AllReadyH.cons (o:=⟨some 49,.buildSlice 27 1 #[(0,.tmp 48)],27, "ref.go:50",#[⟨6,.data⟩,{ on:=8,ground:=.gcOnly .lateStores }],none⟩) rfl (fun K hK=>?_) (AllReadyH.cons (o:=⟨none,.store 29 (.tmp 4) (.tmp 42),0, "ref.go:50",#[⟨0,.data⟩,⟨6,.chain⟩,⟨0,.phase⟩,{ on:=1,ground:=.textOnly .lateStores },{ on:=2,ground:=.textOnly .lateStores },{ on:=3,ground:=.textOnly .lateStores },{ on:=4,ground:=.textOnly .lateStoresUnsure },{ on:=5,ground:=.textOnly .lateStores },{ on:=6,ground:=.textOnly .lateStoresUnsure },{ on:=7,ground:=.textOnly .lateStores }],none⟩) rfl (fun K hK=>?_) AllReadyH.nil)
         . go_simp;refine hK.out _ _ (HS10.out _ HBA.out) (fun hHeld=>?_);clear hK K;refine wpAnyH_ready (rs:=[8]) (by kernel_rfl) (by simp) ?_;refine AllReadyH.cons (o:=⟨none,.store 29 (.tmp 4) (.tmp 42),0, "ref.go:50",#[⟨0,.data⟩,⟨6,.chain⟩,⟨0,.phase⟩,{ on:=1,ground:=.textOnly .lateStores },{ on:=2,ground:=.textOnly .lateStores },{ on:=3,ground:=.textOnly .lateStores },{ on:=4,ground:=.textOnly .lateStoresUnsure },{ on:=5,ground:=.textOnly .lateStores },{ on:=6,ground:=.textOnly .lateStoresUnsure },{ on:=7,ground:=.textOnly .lateStores }],none⟩) rfl (fun K hK=>?_) AllReadyH.nil;obtain⟨r0,r1,r2,r3,r4,f0,f1,f2,f3,f4⟩:=HF10.out _ HBA.out;go_simp;refine hK.out _ _ (HS5.out _ HBA.out) (fun hHeld=>?_);clear hK K r0 r1 r2 r3 r4 f0 f1 f2 f3 f4;refine tkH (i:=9) (oi:=⟨some 5,.assign (.tmp 49),27, "ref.go:50",#[⟨7,.data⟩,⟨8,.chain⟩,⟨0,.phase⟩,⟨1,.phase⟩,⟨2,.phase⟩,⟨3,.phase⟩,⟨4,.phase⟩,⟨5,.phase⟩,⟨6,.phase⟩,⟨7,.phase⟩,⟨8,.phase⟩],none⟩) (v:=?_) rfl ?_ hHeld ?_;rotate_left 1
           . rintro W ⟨s0,s1,s2,s3,s4⟩;go_simp;try with_reducible rfl
           simp only[Act.put,zIB,zSZ,zSS];refine tkH (i:=10) (oi:=⟨some 6,.assign (.const (.int .i64 0)),24, "ref.go:50",#[⟨9,.chain⟩,⟨0,.phase⟩,⟨1,.phase⟩,⟨2,.phase⟩,⟨3,.phase⟩,⟨4,.phase⟩,⟨5,.phase⟩,⟨6,.phase⟩,⟨7,.phase⟩,⟨8,.phase⟩,⟨9,.phase⟩],none⟩) (v:=?_) rfl ?_ hHeld ?_;rotate_left 1
           . rintro W ⟨s0,s1,s2,s3,s4⟩;go_simp;try with_reducible rfl
           simp only[Act.put,zIB,zSZ,zSS];refine wpAnyH_done (by kernel_rfl) ?_ _;go_wp2;obtain⟨z0,z1,z2,z3,z4⟩:=HZ.out _ HBA.out;refine bodyPost_ret (v:=.tuple #[rvE e (.slice (some ⟨gg,0,none⟩) (m+1) cap2),.slice (some ⟨w11.heap.size,0,none⟩) 1 1,.int .i64 0]) ?_ rfl HE.out;simp[results,Try.results14,go_sem,z0,z1,z2,z3,z4]
         . obtain⟨r0,r1,r2,r3,r4,f0,f1,f2,f3,f4⟩:=HF10.out _ HB11.out;go_simp;refine hK.out _ _ (HS5.out _ HB11.out) (fun hHeld=>?_);clear hK K r0 r1 r2 r3 r4 f0 f1 f2 f3 f4;refine wpAnyH_ready (rs:=[7]) (by kernel_rfl) (by simp) ?_;refine AllReadyH.cons (o:=⟨some 49,.buildSlice 27 1 #[(0,.tmp 48)],27, "ref.go:50",#[⟨6,.data⟩,{ on:=8,ground:=.gcOnly .lateStores }],none⟩) rfl (fun K hK=>?_) AllReadyH.nil;go_simp;refine hK.out _ _ (by have h:=HS5.out _ HBA.out;rw[HEQ.out]at h;exact h) (fun hHeld=>?_);clear hK K;refine tkH (i:=9) (oi:=⟨some 5,.assign (.tmp 49),27, "ref.go:50",#[⟨7,.data⟩,⟨8,.chain⟩,⟨0,.phase⟩,⟨1,.phase⟩,⟨2,.phase⟩,⟨3,.phase⟩,⟨4,.phase⟩,⟨5,.phase⟩,⟨6,.phase⟩,⟨7,.phase⟩,⟨8,.phase⟩],none⟩) (v:=?_) rfl ?_ hHeld ?_;rotate_left 1
           . rintro W ⟨s0,s1,s2,s3,s4⟩;go_simp;try with_reducible rfl
           simp only[Act.put,zIB,zSZ,zSS];refine tkH (i:=10) (oi:=⟨some 6,.assign (.const (.int .i64 0)),24, "ref.go:50",#[⟨9,.chain⟩,⟨0,.phase⟩,⟨1,.phase⟩,⟨2,.phase⟩,⟨3,.phase⟩,⟨4,.phase⟩,⟨5,.phase⟩,⟨6,.phase⟩,⟨7,.phase⟩,⟨8,.phase⟩,⟨9,.phase⟩],none⟩) (v:=?_) rfl ?_ hHeld ?_;rotate_left 1
           . rintro W ⟨s0,s1,s2,s3,s4⟩;go_simp;try with_reducible rfl
           simp only[Act.put,zIB,zSZ,zSS];refine wpAnyH_done (by kernel_rfl) ?_ _;have hz:=HZ.out _ HBA.out;rw[HEQ.out]at hz HE;have HZB:=zA hz;clear hz;go_wp2;obtain⟨z0,z1,z2,z3,z4⟩:=HZB.out;refine bodyPost_ret (v:=.tuple #[rvE e (.slice (some ⟨gg,0,none⟩) (m+1) cap2),.slice (some ⟨w11.heap.size,0,none⟩) 1 1,.int .i64 0]) ?_ rfl HE.out;simp[results,Try.results14,go_sem,z0,z1,z2,z3,z4]
   . rw[packV_may hmay];have HPE:Hid (putE e n=(e,[],1)):=zA (by rw[putE,if_pos (fun h=>hlen h.2)]);obtain⟨s,hs⟩:∃s,sealB n.body=s:=⟨_,rfl⟩
     rw[hs]at hlen ⊢;have hsz:(⟨s.toArray⟩:ByteArray).size=s.length:=by rw[size_list]
     have h1:(32768:Int)<(s.length:Int):=by omega
     clear hmay hlen hs;have HE:=zA (HSAME.out 1 HPE.out);go_wp2;obtain⟨z0,z1,z2,z3,z4⟩:=HZ.out;refine bodyPost_ret (v:=.tuple #[rvE e (.slice ao m cap),.slice none 0 0,.int .i64 1]) ?_ rfl HE.out;simp[results,Try.results14,go_sem,z0,z1,z2,z3,z4]
 . rw[packV_not hmay];have HPE:Hid (putE e n=(e,[],1)):=zA (by rw[putE,if_pos (fun h=>hmay h.1)]);clear hmay;have HE:=zA (HSAME.out 1 HPE.out);go_wp2;obtain⟨z0,z1,z2,z3,z4⟩:=HZ.out;refine bodyPost_ret (v:=.tuple #[rvE e (.slice ao m cap),.slice none 0 0,.int .i64 1]) ?_ rfl HE.out;simp[results,Try.results14,go_sem,z0,z1,z2,z3,z4]
end
end Go.Proofs.Ytjoddkeamboeoaa
