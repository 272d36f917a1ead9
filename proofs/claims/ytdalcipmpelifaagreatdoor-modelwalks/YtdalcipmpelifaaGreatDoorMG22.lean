/- BAddA. -/
import Derived.Test.YtdalcipmpelifaaGreatDoorMG21
set_option maxRecDepth 100000
namespace Go.Proofs.YtdalcipmpelifaaGreatDoor
open Go.RowKit
def foldK(c:Prt->Prt->Prt)(e:Bool)(l:List Vt):Prt:=(l.map fun x=>prtOf x.pt).foldl c (prt0 e)
theorem foldK_succ{c:Prt->Prt->Prt}{e:Bool}{l:List Vt}{i:Nat}{x:Vt}(h:l[i]?=some x):foldK c e (l.take (i+1))=c (foldK c e (l.take i)) (prtOf x.pt):=by
 unfold foldK;rw[zT,h,yP,List.foldl_append];rfl
theorem foldK_words{c:Prt->Prt->Prt}(hc:∀x y,(c x y).words=x.words++y.words){e:Bool}(l:List Vt):(foldK c e l).words.length=(l.map fun x=>leaves x.pt).sum:=by
 unfold foldK;rw[fold_words hc];simp only[prt0,List.nil_append,List.length_flatten,List.map_map];congr 1;apply yQ;intro x _;exact prt_words_len x.pt
theorem leaves_take{l:List Vt}{i:Nat}{x:Vt}(h:l[i]?=some x):((l.take i).map fun x=>leaves x.pt).sum+leaves x.pt<=(l.map fun x=>leaves x.pt).sum:=by
 have:l.take i++(x::l.drop (i+1))=l:=by
  have h2:l.drop i=x::l.drop (i+1):=by
   rw[List.drop_eq_getElem_cons (zE.1 h).1];rw[(zE.1 h).2]
  rw[<- h2,List.take_append_drop]
 conv=>rhs;rw[<- this]
 rw[yP,List.sum_append,List.map_cons,List.sum_cons];omega
theorem round_end{S:Nat->Prop}{w W1 wr w1:World}{mb kb b hi:Nat}{ws:List Wd}{F:Nat->Nat}{wv c0 c1 c2:Value}(o ok:Obj)(hS:Low S w)(hsz:W1.heap.size=hi)(hb:b+1=hi)(hwb:w.heap.size<=b)(hFW:Fr S w W1)
 (hfr:Fr (Plus S w.heap.size b) W1 wr) (hfr1:Fr (Plus S w.heap.size hi) (wr.alloc ok) w1) (hm:MkAt (Plus S w.heap.size hi) w1 mb kb ws F wv) (hkb:S kb):
 MkAt (Plus S w.heap.size hi) ((set3P w1 b c0 c1 c2).alloc o) mb kb ws F wv/\Fr (Plus S w.heap.size b) W1 ((set3P w1 b c0 c1 c2).alloc o):=by
 have hk:=hS kb hkb;have hLowb:Low (Plus S w.heap.size b) W1:=fun k hk=>by
  rcases hk with hk|hk
  . have:=hS k hk;have:=hFW.size;omega
  . omega
 have hLow1:Low (Plus S w.heap.size hi) w1:=fun k hk=>by
  have h1:=hfr1.size;have h2:=hfr.size;simp at h1;rcases hk with hk|hk
  . have:=hS k hk;have:=hFW.size;omega
  . omega
 have hm2:=hm.set3P (b:=b) (.inr ⟨hwb,by omega⟩) (by omega) c0 c1 c2;have hz:(set3P w1 b c0 c1 c2).heap.size=w1.heap.size:=by simp[Go.Proofs.YtdalcipmpelifaaGreatDoor.set3P]
 refine⟨hm2.below (fun k hk=>by rw[hz];exact hLow1 k hk) ((zF _ _).alloc (zD _) o),?_⟩;refine Fr.alloc (Fr.set3P ((hfr.alloc hLowb ok).trans (hfr1.sub (fun k hk=>?_))) (fun h=>?_) c0 c1 c2) hLowb o
 . rcases hk with hk|hk
   . exact .inl hk
   . exact .inr ⟨hk.1,by omega⟩
 . rcases h with h|h
   . have:=hS _ h;omega
   . omega
set_option maxHeartbeats 4000000 in
theorem addAlt_any{k:Int}{wd:Wd}{v:Value}{kids:List Vt}(hx:∀x∈kids,AddF 35 x):AddG 57 ⟨k,wd,v,kids⟩ (foldK altC false kids) ((kids.map fun x=>leaves x.pt).sum):=by
 intro S w mb kb ws ps F wv hS hm hf hv hl;obtain⟨ao,cap,hvv⟩:=hv.parts.1.slice;have hkl:=hv.parts.2.2.1;dsimp only at hvv hkl;subst hvv;have HX:=zA hx;have HKIDS:=zA hv.parts.1;have HKV:=zA hv.parts.2.2.2;dsimp only at HKIDS HKV;obtain⟨n,hn⟩:∃n,n=kids.length:=⟨_,rfl⟩
 rw[<- hn]at HKIDS hkl ⊢;have HN:=zA hn;obtain⟨W1,hW1⟩:∃W,W=((w.alloc (.cells #[.int .i64 k,.string ⟨wd.toArray⟩,.slice ao n cap] 25)).alloc (.cells #[.int .u32 0,.int .u32 0,.bool false] 87)).alloc (.cells #[.int .u32 0,.int .u32 0,.bool false] 87):=⟨_,rfl⟩
 have hbW:Below w.heap.size w W1:=by rw[hW1];exact(((zF _ _).alloc (zD _) _).alloc (by simp) _).alloc (by simp;omega) _
 have hsz:W1.heap.size=w.heap.size+2+1:=by rw[hW1];simp
 have hcb1:W1.heap[w.heap.size+1]?=some (.cells #[.int .u32 0,.int .u32 0,.bool false] 87 (0,0)):=by
  rw[hW1,heap_alloc_old _ _ (by simp)];exact(by simpa using heap_alloc_new (w.alloc (.cells #[.int .i64 k,.string ⟨wd.toArray⟩,.slice ao n cap] 25)) _)
 have hcb2:W1.heap[w.heap.size+2]?=some (.cells #[.int .u32 0,.int .u32 0,.bool false] 87 (0,0)):=by
  rw[hW1];exact(by simpa using heap_alloc_new ((w.alloc (.cells #[.int .i64 k,.string ⟨wd.toArray⟩,.slice ao n cap] 25)).alloc (.cells #[.int .u32 0,.int .u32 0,.bool false] 87)) _)
 have HM1:=zA (hm.plus hS hbW (w.heap.size+2+1));have hFrW:Fr S w W1:=fr_below hS hbW;have HSUM:Hid (ws.length+(kids.map fun x=>leaves x.pt).sum<=24):=zA hl;have HSK:=zA hm.sk;have HW1:=zA hW1;have HFW:=zA hFrW;have HCB1:=zA hcb1;have HCB2:=zA hcb2;have HSZ:=zA hsz;have HLOW:=zA hS;have HF:=zA hf;obtain⟨R,hR⟩:∃R,R=foldK altC false kids:=⟨_,rfl⟩
 rw[<- hR];have HR:=zA hR;clear hv hm hf hl hx hbW hsz hcb1 hcb2 hFrW hW1 hS hn hR;show Calls Tryz.prog _ #[_,.agg #[.int .i64 k,.string ⟨wd.toArray⟩,.slice ao n cap]] w _;go_enter Tryz.func57,Tryz.ntmps57;go_wp2_with fail;rw[<- HW1.out];go_loopw [12] (fun c wr=>∃(i f l:Nat) (G:Nat->Nat) (wu:Value),i<=n/\c=.int .i64 i/\BitsOf f (up ws.length (foldK altC false (kids.take i)).first)/\BitsOf l (up ws.length (foldK altC false (kids.take i)).last)/\MkAt (Plus S w.heap.size (w.heap.size+2+1)) wr mb kb (ws++(foldK altC false (kids.take i)).words) G wu/\FolOf G (ps++upP ws.length (foldK altC false (kids.take i)).pairs)/\
  wr.heap[w.heap.size+2]?=some (.cells #[.int .u32 (f:Int),.int .u32 (l:Int),.bool (foldK altC false (kids.take i)).empty] 87 (0,0))/\Fr (Plus S w.heap.size (w.heap.size+2)) W1 wr) (fun c _=>n-(intOf c).toNat)
 case atStart=>
  refine⟨0,0,0,F,wv,zS _,rfl,?_,?_,?_,?_,?_,Fr.refl _ _⟩
  . exact BitsOf.none.congr (fun k=>by simp[foldK,prt0,up])
  . exact BitsOf.none.congr (fun k=>by simp[foldK,prt0,up])
  . simpa[foldK,prt0]using HM1.out
  . exact HF.out.congr (fun p=>by simp[foldK,prt0,upP])
  . exact HCB2.out
 case round=>
  obtain⟨i,f,l,G,wu,hi,rfl,hbf,hbl,hmk,hfo,hc2,hfr⟩:=hrel;obtain⟨X,hX⟩:∃X,X=foldK altC false (kids.take i):=⟨_,rfl⟩
  rw[<- hX]at hbf hbl hmk hfo hc2;have hXw:X.words.length=((kids.take i).map fun x=>leaves x.pt).sum:=by rw[hX];exact foldK_words (fun _ _=>rfl) _
  obtain⟨em,hem⟩:∃b,b=X.empty:=⟨_,rfl⟩
  rw[<- hem]at hc2;have HEM:=zA hem;have HXX:=zA hX;have HBF:=zA hbf;have HBL:=zA hbl;have HMK:=zA hmk;have HFO:=zA hfo;have HC2:=zA hc2;have HFR:=zA hfr;have HXW:=zA hXw;have HFS:Hid (Fr S w wr):=zA (HFW.out.trans (hfr.sub (fun k hk=>.inl hk)));clear hX hbf hbl hmk hfo hc2 hfr hXw hem;by_cases hlt:i<n
  . have hltI:(i:Int)<(n:Int):=by omega
    obtain⟨x,hx⟩:∃x,kids[i]?=some x:=⟨_,zB (by rw[<- HN.out];exact hlt)⟩
    have hxm:=zC hx;obtain⟨g,off,rfl,hgS,hgl,hcell⟩:=(HKIDS.out.fr HFS.out).get hx;obtain⟨q0,q1,q2⟩:=getN hcell;have hxv:=(HKV.out x hxm).fr HFS.out;obtain⟨xa,xc,hxs⟩:=hxv.parts.1.slice;have hsum:=leaves_take hx;have hstep:=foldK_succ (c:=altC) (e:=false) hx;have hadd:=HX.out x hxm;obtain⟨Y,hY⟩:∃Y,Y=prtOf x.pt:=⟨_,rfl⟩
    have hYw:Y.words.length=leaves x.pt:=by rw[hY];exact prt_words_len _
    have hkl2:=hxv.parts.2.2.1;have hszr:w.heap.size+2<wr.heap.size:=lt_of_block HC2.out;have hLr:Low (Plus S w.heap.size (w.heap.size+2+1)) wr:=fun k hk=>by
     rcases hk with hk|hk
     . have:=HLOW.out k hk;omega
     . omega
    obtain⟨ok,hok⟩:∃o,o=Obj.cells #[.int .i64 x.kind,.string ⟨x.word.toArray⟩,x.val] 25:=⟨_,rfl⟩
    have hC:=hadd (Plus S w.heap.size (w.heap.size+2+1)) (wr.alloc ok) mb kb (ws++X.words) (ps++upP ws.length X.pairs) G wu (fun k hk=>by have:=hLr k hk;simp;omega) (HMK.out.below hLr ((zF _ _).alloc (zD _) ok)) HFO.out ((hxv.below ((zF _ _).alloc (zD _) ok)).sub (fun b hb _=>.inl hb)) (by
     have h1:=HXW.out;have h2:=HSUM.out;rw[zG];omega)
    rw[<- hY]at hC hstep;obtain⟨kk,kw,kv,kks⟩:=x;dsimp only at hxs q0 q1 q2 hok hkl2;subst hxs;have C:=zA hC;rw[hok]at C;have HOK:=zA hok;have HSTEP:=zA hstep;have HLR:=zA hLr;clear hx hxm hcell hxv hsum hstep hadd hY hYw hC hok hLr;go_wp2_with fail;refine C.out.mono ?_;rintro e w1 ⟨f2,l2,F2,wv2,rfl,hb1,hb2,hm2,hf2,hfr2⟩;have e2:=(hfr2.block (w.heap.size+2) (.inr ⟨by omega,by omega⟩)).trans ((heap_alloc_old _ _ hszr).trans HC2.out);have hsz1:w.heap.size+2<w1.heap.size:=lt_of_block e2;obtain⟨⟨r0,r1,r2⟩,⟨p0,p1,p2⟩⟩:=three_cells e2;have ho1:bits .or .u32 (f:Int) (f2:Int)=((f ||| f2:Nat):Int):=u32_or_nat f f2 (by have:=HBF.out.1;omega) (by have:=hb1.1;omega);have ho2:bits .or .u32 (l:Int) (l2:Int)=((l ||| l2:Nat):Int):=u32_or_nat l l2 (by have:=HBL.out.1;omega) (by have:=hb2.1;omega);obtain⟨f3,hf3⟩:∃q,q=f ||| f2:=⟨_,rfl⟩
    obtain⟨l3,hl3⟩:∃q,q=l ||| l2:=⟨_,rfl⟩
    rw[<- hf3]at ho1;rw[<- hl3]at ho2;obtain⟨ey,hey⟩:∃b,b=Y.empty:=⟨_,rfl⟩
    rw[<- hey];have hEND:∀b,b=(em||ey)->(∃(f l:Nat) (G:Nat->Nat) (wu:Value),Value.int .u32 (f3:Int)=.int .u32 (f:Int)/\BitsOf f (up ws.length (foldK altC false (kids.take (i+1))).first)/\BitsOf l (up ws.length (foldK altC false (kids.take (i+1))).last)/\MkAt (Plus S w.heap.size (w.heap.size+2+1)) ((set3P w1 (w.heap.size+2) (.int .u32 (f3:Int)) (.int .u32 (l3:Int)) (.bool b)).alloc (.cells #[.int .u32 (f2:Int),.int .u32 (l2:Int),.bool ey] 87)) mb kb (ws++(foldK altC false (kids.take (i+1))).words) G wu/\FolOf G (ps++upP ws.length (foldK altC false (kids.take (i+1))).pairs)/\
     ((set3P w1 (w.heap.size+2) (.int .u32 (f3:Int)) (.int .u32 (l3:Int)) (.bool b)).alloc (.cells #[.int .u32 (f2:Int),.int .u32 (l2:Int),.bool ey] 87)).heap[w.heap.size+2]?=some (.cells #[.int .u32 (f:Int),.int .u32 (l:Int),.bool (foldK altC false (kids.take (i+1))).empty] 87 (0,0))/\Fr (Plus S w.heap.size (w.heap.size+2)) W1 ((set3P w1 (w.heap.size+2) (.int .u32 (f3:Int)) (.int .u32 (l3:Int)) (.bool b)).alloc (.cells #[.int .u32 (f2:Int),.int .u32 (l2:Int),.bool ey] 87))):=fun b hbe=>by
     obtain⟨hmE,hfE⟩:=round_end (c0:=.int .u32 (f3:Int)) (c1:=.int .u32 (l3:Int)) (c2:=.bool b) (.cells #[.int .u32 (f2:Int),.int .u32 (l2:Int),.bool ey] 87) _ HLOW.out HSZ.out rfl (by omega) HFW.out HFR.out hfr2 hm2 HSK.out;rw[HSTEP.out,<- HXX.out];refine⟨f3,l3,F2,wv2,rfl,?_,?_,?_,?_,?_,hfE⟩
     . rw[hf3];exact(HBF.out.or hb1).congr (fun k=>by rw[altC,up_append,up_up,zG])
     . rw[hl3];exact(HBL.out.or hb2).congr (fun k=>by rw[altC,up_append,up_up,zG])
     . rw[show (altC X Y).words=X.words++Y.words from rfl,<- List.append_assoc];exact hmE
     . exact hf2.congr (fun p=>by rw[altC,upP_append,upP_upP,zG,List.append_assoc])
     . have hz:(set3P w1 (w.heap.size+2) (.int .u32 (f3:Int)) (.int .u32 (l3:Int)) (.bool b)).heap.size=w1.heap.size:=by simp[set3P]
       rw[heap_alloc_old _ _ (by rw[hz];exact hsz1),hbe,HEM.out,hey];exact set3P_at e2
    have HEND:=zA hEND;clear hEND hb1 hb2 hm2 hf2 hfr2 e2 hf3 hl3 hey C;unfold set3P at HEND;cases em with
    |true=>
     go_wp2;go_roundw
     case rel=>
      obtain⟨f,l,G,wu,_,h1,h2,h3,h4,h5,h6⟩:=HEND.out true rfl;exact⟨i+1,f,l,G,wu,by omega,by go_num,h1,h2,h3,h4,h5,h6⟩
     case measure=>simp[intOf];omega
    |false=>
     go_wp2;go_roundw
     case rel=>
      obtain⟨f,l,G,wu,_,h1,h2,h3,h4,h5,h6⟩:=HEND.out ey (by simp);exact⟨i+1,f,l,G,wu,by omega,by go_num,h1,h2,h3,h4,h5,h6⟩
     case measure=>simp[intOf];omega
  . have hltI:¬(i:Int)<(n:Int):=by omega
    have HXR:Hid (X=R):=zA (by rw[HXX.out,HR.out,zK (by rw[<- HN.out];omega)]);have e1:=(HFR.out.block (w.heap.size+1) (.inr ⟨by omega,by omega⟩)).trans HCB1.out;obtain⟨⟨r0,r1,r2⟩,⟨p0,p1,p2⟩⟩:=three_cells e1;obtain⟨⟨s0,s1,s2⟩,_⟩:=three_cells HC2.out;obtain⟨hmF,hfF⟩:=add_end2 (b:=w.heap.size+1) (hi:=w.heap.size+2) (c0:=.int .u32 (f:Int)) (c1:=.int .u32 (l:Int)) (c2:=.bool em) HLOW.out HFW.out HFR.out (HMK.out.sub (fun k hk=>by
     rcases hk with hk|hk
     . exact .inl hk
     . exact .inr ⟨hk.1,by omega⟩) (.inl HSK.out)) HSK.out (by omega) (by omega)
    have hE:AddE S w mb kb ws ps R (.returned (ptV f l em)) (set3P wr (w.heap.size+1) (.int .u32 (f:Int)) (.int .u32 (l:Int)) (.bool em)):=by
     rw[<- HXR.out];exact⟨f,l,G,wu,by rw[HEM.out],HBF.out,HBL.out,hmF,HFO.out,hfF⟩
    obtain⟨⟨z0,z1,z2⟩,_⟩:=three_cells (set3P_at (c0:=.int .u32 (f:Int)) (c1:=.int .u32 (l:Int)) (c2:=.bool em) e1);have HE:=zA hE;have Z0:=zA z0;have Z1:=zA z1;have Z2:=zA z2;clear hE z0 z1 z2 hmF hfF e1;unfold set3P at HE Z0 Z1 Z2;go_wp2;refine bodyPost_ret (v:=ptV f l em) ?_ rfl HE.out;simp[results,Tryz.results57,go_sem,Z0.out,Z1.out,Z2.out]
end Go.Proofs.YtdalcipmpelifaaGreatDoor
