/- BAddI, BOf, GLead, BWill, BWill2. -/
import Derived.Test.YtdalcipmpelifaaGreatDoorMG24
import Derived.Test.YtdalcipmpelifaaGreatDoorMG25
import Derived.Test.YtdalcipmpelifaaGreatDoorMG12
import Derived.Test.YtdalcipmpelifaaGreatDoorMG20
set_option maxRecDepth 100000
namespace Go.Proofs.YtdalcipmpelifaaGreatDoor
open Go.RowKit
theorem formed_cases{k:Int}{w:List UInt8}{n:Nat}(h:formedP k w n=true):(k=1/\n=0/\isW w=true)\/(k=2/\2<=n)\/(k=3/\2<=n)\/(k=4/\n=1)\/(k=5/\n=1)\/(k=6/\n=1):=by
 unfold formedP at h;split at h
 . simp at h;rename_i hk;exact .inl ⟨hk,h.1,h.2⟩
 . split at h
   . simp at h;rename_i hk;rcases hk with hk|hk
     . exact .inr (.inl ⟨hk,h.1⟩)
     . exact .inr (.inr (.inl ⟨hk,h.1⟩))
   . split at h
     . simp at h;rename_i hk;rcases hk with hk|hk|hk
       . exact .inr (.inr (.inr (.inl ⟨hk,h.1⟩)))
       . exact .inr (.inr (.inr (.inr (.inl ⟨hk,h.1⟩))))
       . exact .inr (.inr (.inr (.inr (.inr ⟨hk,h.1⟩))))
     . cases h
theorem foldK_eq(c:Prt->Prt->Prt)(e:Bool)(l:List Vt):foldK c e l=((l.map Vt.pt).map prtOf).foldl c (prt0 e):=by
 unfold foldK;rw[List.map_map];rfl
theorem sum_eq(l:List Vt):((l.map Vt.pt).map leaves).sum=(l.map fun x=>leaves x.pt).sum:=by
 rw[List.map_map];rfl
theorem add_any:∀(t:Vt) (d:Nat),shapedP d t.pt=true->AddF 35 t:=by
 apply Vt.ind;intro k wd v kids ih d hsh;cases d with
 |zero=>simp[shapedP]at hsh
 |succ d=>
  rw[Vt.pt_mk,shapedP,Bool.and_eq_true,Bool.and_eq_true,yJ]at hsh;obtain⟨⟨hfo,_⟩,hk⟩:=hsh;rw[zH]at hfo;have hkids:∀x∈kids,AddF 35 x:=fun x hx=>ih x hx d (hk x.pt (zU hx))
  rcases formed_cases hfo with⟨rfl,hn,hw⟩|⟨rfl,hn⟩|⟨rfl,hn⟩|⟨rfl,hn⟩|⟨rfl,hn⟩|⟨rfl,hn⟩
  . obtain rfl:kids=[]:=yG.1 hn;exact add_of1 rfl (addWord_any rfl (by have:=isW_len hw;omega))
  . refine add_of2 rfl ?_;have h:=addSeq_any (k:=2) (wd:=wd) (v:=v) hkids;rw[foldK_eq]at h;unfold AddF;rw[Vt.pt_mk,prtOf_mk,leaves_mk,kindC,if_neg (by decide),if_pos rfl,if_neg (by decide),sum_eq];exact h
  . refine add_of3 rfl ?_;have h:=addAlt_any (k:=3) (wd:=wd) (v:=v) hkids;rw[foldK_eq]at h;unfold AddF;rw[Vt.pt_mk,prtOf_mk,leaves_mk,kindC,if_neg (by decide),if_neg (by decide),if_neg (by decide),if_neg (by decide),if_neg (by decide),if_neg (by decide),sum_eq];exact h
  . obtain⟨x,rfl⟩:=List.length_eq_one_iff.1 hn;refine add_of4 rfl ?_;unfold AddF;rw[prt_one (.inl rfl),if_pos rfl,leaves_one (by decide)];exact addStar_any (hkids x (by simp))
  . obtain⟨x,rfl⟩:=List.length_eq_one_iff.1 hn;refine add_of5 rfl ?_;unfold AddF;rw[prt_one (.inr (.inl rfl)),if_neg (by decide),if_pos rfl,leaves_one (by decide)];exact addPlus_any (hkids x (by simp))
  . obtain⟨x,rfl⟩:=List.length_eq_one_iff.1 hn;refine add_of6 rfl ?_;unfold AddF;rw[prt_one (.inr (.inr rfl)),if_neg (by decide),if_neg (by decide),leaves_one (by decide)];exact addMaybe_any (hkids x (by simp))
def au0:Au:=⟨[],[],[],[],false⟩
def ofA(t:Pt):Au:=if mayP t=true then autoOf t else au0
theorem UOk.sub{S T:Nat->Prop}{w:World}{m:Mu}(h:UOk S w m)(hs:∀b,S b->T b):UOk T w m:=h.keep (zD _) (fun b hb _=>⟨hs b hb,rfl⟩)
theorem uok_nil(S:Nat->Prop)(w:World):UOk S w ⟨.slice none 0 0,[],.slice none 0 0,[],.slice none 0 0,[],.slice none 0 0,[],false⟩:=
 ⟨SlS.nil _ _,by simp,by simp,SlS.nil _ _,by simp,SlS.nil _ _,by simp,SlS.nil _ _,by simp,by simp⟩
theorem mk_new{w:World}{mb:Nat}(h0:w.heap[mb]?=some (.cells (#[.slice none 0 0]++Array.replicate 24 (.int .u32 0)++#[.map (some (mb+1))]) 129 (0,0)))(h1:w.heap[mb+1]?=some (.map (kindsE mb) 6)):MkAt (fun k=>k<w.heap.size/\k≠mb) w mb (mb+1) [] (fun _=>0) (.slice none 0 0):=by
 refine⟨fun h=>h.2 rfl,⟨lt_of_block h1,by omega⟩,lt_of_block h0,h1,?_,?_,?_,fun j hj=>?_,World.ownsRow_nil _ _ _ _,by simp[Value.ownBlock]⟩
 . simp[World.cell?,h0]
 . simp[World.frozen?,h0]
 . simp only[World.cell?,h0];rfl
 . refine⟨?_,by simp[World.frozen?,h0]⟩;simp only[World.cell?,h0];show (#[Value.slice none 0 0]++Array.replicate 24 (.int .u32 0)++#[.map (some (mb+1))])[1+j]?=some (.int .u32 ((0:Nat):Int));rw[Array.getElem?_append_left (by simp;omega),Array.getElem?_append_right (by simp)];simp[hj]
set_option maxHeartbeats 4000000 in
theorem of_any{S:Nat->Prop}{w:World}{t:Vt}(h:VOk S w t):
 Calls Tryz.prog 18 #[encN t] w fun e w'=>∃m:Mu,e=.returned (.tuple #[encU m,.int .i64 (if mayP t.pt=true then 0 else 1)])/\UOk (fun g=>w.heap.size<=g) w' m/\m.au=ofA t.pt/\Below w.heap.size w w':=by
 obtain⟨ao,cap,hv⟩:=h.parts.1.slice;have hkl:=h.parts.2.2.1;obtain⟨P,hP⟩:∃P,P=t.pt:=⟨_,rfl⟩
 rw[<- hP];obtain⟨b,hb⟩:∃b,b=mayP P:=⟨_,rfl⟩
 have CM:Hid (∀u,Below w.heap.size w u->Calls Tryz.prog 33 #[encN t] u fun e w'=>e=.returned (.bool b)/\Below u.heap.size u w'):=zA (fun u hu=>by rw[hb,hP];exact pathMay_any (h.below hu));have HV:=zA h;have HP:=zA hP;have HB:=zA hb;obtain⟨k,wd,v,l⟩:=t;dsimp only at hv hkl;subst hv;obtain⟨n,hn⟩:∃n,n=l.length:=⟨_,rfl⟩
 have HN:=zA hn;rw[<- hn]at CM HV hkl ⊢;obtain⟨ec,hec⟩:∃e:Int,e=if mayP P=true then 0 else 1:=⟨_,rfl⟩
 rw[<- hec];rw[<- hb]at hec;clear h hP hb hn;show Calls Tryz.prog _ #[.agg #[.int .i64 k,.string ⟨wd.toArray⟩,.slice ao n cap]] w _;obtain⟨W1,hW1⟩:∃W,W=(w.alloc (.cells #[.int .i64 k,.string ⟨wd.toArray⟩,.slice ao n cap] 25)).alloc (.cells #[.slice none 0 0,.slice none 0 0,.slice none 0 0,.slice none 0 0,.bool false] 59):=⟨_,rfl⟩
 have hbW:Below w.heap.size w W1:=by rw[hW1];exact((zF _ _).alloc (zD _) _).alloc (by simp) _
 have hcp:W1.heap[w.heap.size]?=some (.cells #[.int .i64 k,.string ⟨wd.toArray⟩,.slice ao n cap] 25 (0,0)):=by rw[hW1,heap_alloc_old _ _ (by simp),heap_alloc_new]
 have hcb:W1.heap[w.heap.size+1]?=some (.cells #[.slice none 0 0,.slice none 0 0,.slice none 0 0,.slice none 0 0,.bool false] 59 (0,0)):=by rw[hW1];exact(by simpa using heap_alloc_new (w.alloc (.cells #[.int .i64 k,.string ⟨wd.toArray⟩,.slice ao n cap] 25)) _)
 have HW1:=zA hW1;have HBW:=zA hbW;have HCP:=zA hcp;have HCB:=zA hcb;clear hW1 hbW hcp hcb;cases b with
 |false=>
  have HEC:Hid (ec=1):=zA (by rw[hec];rfl);clear hec;go_enter Tryz.func18,Tryz.ntmps18;go_wp2_with fail;rw[<- HW1.out];refine(CM.out _ HBW.out).mono ?_;rintro e w1 ⟨rfl,hb1⟩;have e1:=(hb1.block (w.heap.size+1) (lt_of_block HCB.out)).trans HCB.out;obtain⟨⟨r0,r1,r2,r3,r4⟩,⟨x0,x1,x2,x3,x4⟩⟩:=five_cells e1;obtain⟨⟨z0,z1,z2,z3,z4⟩,_⟩:=five_cells (set5P_at (c0:=.slice none 0 0) (c1:=.slice none 0 0) (c2:=.slice none 0 0) (c3:=.slice none 0 0) (c4:=.bool false) e1);have HE:Hid (∃m:Mu,Ending.returned (.tuple #[.agg #[.slice none 0 0,.slice none 0 0,.slice none 0 0,.slice none 0 0,.bool false],.int .i64 1])=.returned (.tuple #[encU m,.int .i64 ec])/\UOk (fun g=>w.heap.size<=g) (set5P w1 (w.heap.size+1) (.slice none 0 0) (.slice none 0 0) (.slice none 0 0) (.slice none 0 0) (.bool false)) m/\m.au=ofA P/\Below w.heap.size w (set5P w1 (w.heap.size+1) (.slice none 0 0) (.slice none 0 0) (.slice none 0 0) (.slice none 0 0) (.bool false))):=zA (by
   refine⟨⟨.slice none 0 0,[],.slice none 0 0,[],.slice none 0 0,[],.slice none 0 0,[],false⟩,by rw[HEC.out],uok_nil _ _,?_,Below.set5P (HBW.out.trans (hb1.mono HBW.out.size)) (by omega) _ _ _ _ _⟩;rw[ofA,<- HB.out];rfl)
  have Z0:=zA z0;have Z1:=zA z1;have Z2:=zA z2;have Z3:=zA z3;have Z4:=zA z4;clear z0 z1 z2 z3 z4 e1 hb1;unfold set5P at HE Z0 Z1 Z2 Z3 Z4;go_wp2;refine bodyPost_ret (v:=.tuple #[.agg #[.slice none 0 0,.slice none 0 0,.slice none 0 0,.slice none 0 0,.bool false],.int .i64 1]) ?_ rfl HE.out;simp[results,Tryz.results18,go_sem,Z0.out,Z1.out,Z2.out,Z3.out,Z4.out]
 |true=>
  have HEC:Hid (ec=0):=zA (by rw[hec];rfl);clear hec;have HSH:Hid (shapedP 12 P=true/\leaves P<=24):=zA (by
   have:=HB.out.symm;simp only[mayP,Bool.and_eq_true,decide_eq_true_eq]at this;exact this)
  have HPV:Hid (Vt.pt ⟨k,wd,.slice ao n cap,l⟩=P):=zA (by rw[HP.out,<- HN.out]);go_enter Tryz.func18,Tryz.ntmps18;go_wp2_with fail;rw[<- HW1.out];refine(CM.out _ HBW.out).mono ?_;rintro e w1 ⟨rfl,hb1⟩;have HB1:=zA (HBW.out.trans (hb1.mono HBW.out.size));have HC1:=zA ((hb1.block (w.heap.size+1) (lt_of_block HCB.out)).trans HCB.out);have HP1:=zA ((hb1.block w.heap.size (lt_of_block HCP.out)).trans HCP.out);clear hb1;go_wp2_with fail;refine(newMaker_any w1).mono ?_;rintro e w2 ⟨rfl,hmk,hmp,hb2⟩;have hB2:=HB1.out.trans (hb2.mono HB1.out.size);have hlt1:=lt_of_block HC1.out;have HC2:=zA ((hb2.block (w.heap.size+1) hlt1).trans HC1.out);have hP2:=(hb2.block w.heap.size (lt_of_block HP1.out)).trans HP1.out;obtain⟨⟨b0,b1,b2⟩,_⟩:=three_cells hP2;have hM2:=mk_new hmk hmp;have hS2:Low (fun k=>k<w2.heap.size/\k≠w1.heap.size) w2:=fun k hk=>hk.1
  have hV2:VOk (fun k=>k<w2.heap.size/\k≠w1.heap.size) w2 ⟨k,wd,.slice ao n cap,l⟩:=VOk.keep hB2.size (fun b _ hlb=>⟨⟨zO hlb hB2.size,by have:=HB1.out.size;omega⟩,hB2.block b hlb⟩) _ HV.out;have CA:=zA (add_any ⟨k,wd,.slice ao n cap,l⟩ 12 (by rw[HPV.out];exact HSH.out.1) _ w2 w1.heap.size (w1.heap.size+1) [] [] (fun _=>0) (.slice none 0 0) hS2 hM2 (fun i hi=>⟨by show (0:Nat)<16777216;omega,fun j=>by simp⟩) hV2 (by rw[HPV.out];simpa using HSH.out.2));rw[HPV.out]at CA;have HB2:=zA hB2;have HS2:=zA hS2;have hmb:w1.heap.size<w2.heap.size:=lt_of_block hmk;have hlt2:=lt_of_block HC2.out;clear hmk hmp hb2 hB2 hP2 hM2 hS2 hV2;go_wp2_with fail;refine CA.out.mono ?_;rintro e w3 ⟨f,lx,F3,wv3,rfl,hbf,hbl,hm3,hf3,hfr3⟩;have hC3:=(hfr3.block (w.heap.size+1) ⟨hlt2,by omega⟩).trans HC2.out;have hB3:Below w.heap.size w w3:=⟨hfr3.os.trans HB2.out.os,hfr3.tape.trans HB2.out.tape,hfr3.output.trans HB2.out.output,zQ HB2.out.size hfr3.size,fun b hlb=>(hfr3.block b ⟨zO hlb HB2.out.size,by have:=HB1.out.size;omega⟩).trans (HB2.out.block b hlb)⟩
  obtain⟨o4,ho4⟩:∃o,o=Obj.cells #[.int .u32 (f:Int),.int .u32 (lx:Int),.bool (prtOf P).empty] 87:=⟨_,rfl⟩
  have hS3:Low (fun k=>k<w2.heap.size/\k≠w1.heap.size) w3:=HS2.out.fr hfr3;have hS4:Low (fun k=>k<w2.heap.size/\k≠w1.heap.size) (w3.alloc o4):=fun k hk=>by have:=hS3 k hk;simp;omega
  have hm4:=hm3.below hS3 ((zF _ _).alloc (zD _) o4);have hfits:=(prtOf_reads P).1;have hwords:=prt_words P;rw[List.nil_append]at hm4 hf3;have hlen:(prtOf P).words.length<=24:=by rw[hwords.2];exact HSH.out.2
  have CU:=zA (auto_any (em:=(prtOf P).empty) hS4 hm4 hf3 hbf hbl hlen (fun i hi=>by
   obtain⟨y,hy,e⟩:=mem_up.1 hi;have:=hfits.first y hy
   simp at e;omega) (fun i hi=>by
   obtain⟨y,hy,e⟩:=mem_up.1 hi;have:=hfits.last y hy;simp at e;omega) (fun p hp=>by
   obtain⟨p1,p2⟩:=p;obtain⟨a,b,hab,e1,e2⟩:=mem_upP.1 hp;have:=(hfits.pairs a b hab).2;simp at e2;simp only;omega) (fun s hs=>by
   have h1:=hwords.1 12 HSH.out.1;have:=isW_len (yJ.1 h1 s hs);omega) w1.heap.size (fun g hg=>by
   have h1:=(hm4.rno g hg).1;rcases Nat.lt_or_ge g w1.heap.size with h2|h2
   . exact absurd ⟨by omega,by omega⟩ h1
   . exact h2) (by have:=hfr3.size;simp;omega))
  have HAU:Hid ((⟨(prtOf P).words,rise (prtOf P).words.length (up ([]:List Wd).length (prtOf P).first),rise (prtOf P).words.length (up ([]:List Wd).length (prtOf P).last),(List.range (prtOf P).words.length).map (fun k=>rise (prtOf P).words.length (folN (upP ([]:List Wd).length (prtOf P).pairs) k)),(prtOf P).empty⟩:Au)=autoOf P):=zA (by
   have h1:∀l,up ([]:List Wd).length l=l:=fun l=>by simp[up]
   have h2:∀l,upP ([]:List Wd).length l=l:=fun l=>by simp[upP]
   simp only[h1,h2];rfl)
  obtain⟨em,hem⟩:∃b,b=(prtOf P).empty:=⟨_,rfl⟩
  have HO4:=zA ho4;have HC3:=zA hC3;have HB3:=zA hB3;rw[HAU.out]at CU;rw[<- hem]at CU HO4 ⊢;rw[HO4.out]at CU;clear hem hfits hwords hlen hm4 hS4 hS3 ho4 hC3 hB3 hm3 hf3 hfr3 hbf hbl b0 b1 b2;go_wp2_with fail;refine CU.out.mono ?_;rintro e w5 ⟨m,rfl,hu5,ha5,hb5⟩;have hlt3:=lt_of_block HC3.out;have hC5:=(hb5.block (w.heap.size+1) (by simp;omega)).trans ((heap_alloc_old _ _ hlt3).trans HC3.out);have hB5:Below w.heap.size w w5:=(HB3.out.alloc HB3.out.size _).trans (hb5.mono (by have:=HB3.out.size;simp;omega));obtain⟨wa,wc,fa,fc,la,lc,oa,oc,e1,e2,e3,e4⟩:=hu5.slices;obtain⟨mv,mws,mfv,mfs,mlv,mls,mov,mos,mem⟩:=m;dsimp only at e1 e2 e3 e4;subst e1 e2 e3 e4;obtain⟨⟨r0,r1,r2,r3,r4⟩,⟨x0,x1,x2,x3,x4⟩⟩:=five_cells hC5;obtain⟨⟨z0,z1,z2,z3,z4⟩,_⟩:=five_cells (set5P_at (c0:=.slice wa mws.length wc) (c1:=.slice fa mfs.length fc) (c2:=.slice la mls.length lc) (c3:=.slice oa mos.length oc) (c4:=.bool mem) hC5);have HE:Hid (∃m:Mu,Ending.returned (.tuple #[.agg #[.slice wa mws.length wc,.slice fa mfs.length fc,.slice la mls.length lc,.slice oa mos.length oc,.bool mem],.int .i64 0])=.returned (.tuple #[encU m,.int .i64 ec])/\UOk (fun g=>w.heap.size<=g) (set5P w5 (w.heap.size+1) (.slice wa mws.length wc) (.slice fa mfs.length fc) (.slice la mls.length lc) (.slice oa mos.length oc) (.bool mem)) m/\m.au=ofA P/\Below w.heap.size w (set5P w5 (w.heap.size+1) (.slice wa mws.length wc) (.slice fa mfs.length fc) (.slice la mls.length lc) (.slice oa mos.length oc) (.bool mem))):=zA (by
   refine⟨_,by rw[HEC.out],hu5.keep (by rw[set5P_size];exact zD _) (fun b hb _=>⟨by have:=HB1.out.size;omega,set5P_other (by omega) _ _ _ _ _⟩),?_,Below.set5P hB5 (by omega) _ _ _ _ _⟩;rw[ha5,ofA,<- HB.out];rfl)
  have Z0:=zA z0;have Z1:=zA z1;have Z2:=zA z2;have Z3:=zA z3;have Z4:=zA z4;clear z0 z1 z2 z3 z4 hC5 hB5 hb5 hu5 ha5;unfold set5P at HE Z0 Z1 Z2 Z3 Z4;go_wp2;refine bodyPost_ret (v:=.tuple #[.agg #[.slice wa mws.length wc,.slice fa mfs.length fc,.slice la mls.length lc,.slice oa mos.length oc,.bool mem],.int .i64 0]) ?_ rfl HE.out;simp[results,Tryz.results18,go_sem,Z0.out,Z1.out,Z2.out,Z3.out,Z4.out]
end Go.Proofs.YtdalcipmpelifaaGreatDoor
namespace Go.Proofs.YtdalcipmpelifaaGreatDoor
open Go.RowKit Go.Shelf
def goE(E:List Eg):Nat->List Wd->Nat->Prop
 |x,[],y=>x=y
 |x,p::r,y=>∃z,(x,p,z)∈E/\goE E z r y
theorem goE_snoc{E:List Eg}:∀(l:List Wd) (x y z:Nat) (p:Wd),goE E x l y->(y,p,z)∈E->goE E x (l++[p]) z
 |[],x,y,z,p,h,h2=>by
  have h:x=y:=h;subst h;exact⟨z,h2,rfl⟩
 |q::l,x,y,z,p,⟨u,h1,h3⟩,h2=>⟨u,h1,goE_snoc l u y z p h3 h2⟩
def rdA(a:Au):Int->List Wd->Int->Prop
 |s,[],t=>s=t
 |s,w::l,t=>∃y∈nextA a s w,rdA a y l t
theorem rdA_snoc{a:Au}:∀(l:List Wd) (s u t:Int) (w:Wd),rdA a s l u->t∈nextA a u w->rdA a s (l++[w]) t
 |[],s,u,t,w,h,h2=>by
  have h:s=u:=h;subst h;exact⟨t,h2,rfl⟩
 |q::l,s,u,t,w,⟨y,hy,h⟩,h2=>⟨y,hy,rdA_snoc l y u t w h h2⟩
theorem rdA_acc{a:Au}:∀(l:List Wd) (s:Int),accW a s l↔∃t,rdA a s l t/\endsA a t=true
 |[],s=>⟨fun h=>⟨s,rfl,h⟩,fun⟨t,h,h2⟩=>by
  have h:s=t:=h;subst h;exact h2⟩
 |w::l,s=>by
  constructor
  . rintro⟨y,hy,h⟩;obtain⟨t,h1,h2⟩:=(rdA_acc l y).1 h;exact⟨t,⟨y,hy,h1⟩,h2⟩
  . rintro⟨t,⟨y,hy,h1⟩,h2⟩;exact⟨y,hy,(rdA_acc l y).2 ⟨t,h1,h2⟩⟩
def plz(p:Nat):Int:=if p=24 then -1 else (p:Int)
def pln(z:Int):Nat:=if z<0 then 24 else z.toNat
theorem pln_plz(p:Nat):pln (plz p)=p:=by
 unfold pln plz;by_cases h:p=24
 . rw[if_pos h,if_pos (by omega),h]
 . rw[if_neg h,if_neg (by omega)];omega
section
variable {a:Au} (hm:mayA a=true) {kp:Nat->Prop} {n:Nat} {E:List Eg}
include hm
theorem isPl_plz{p:Nat}(hp:p=24\/p<a.words.length):isPl a (plz p)=true:=by
 simp only[isPl,Bool.and_eq_true,decide_eq_true_eq];have:=(may_len hm).1;unfold plz;by_cases h:p=24
 . rw[if_pos h];omega
 . rw[if_neg h];rcases hp with hp|hp<;>omega
theorem out_beh{p q:Nat}:(behA a p).testBit q=true↔(q:Int)∈outA a (plz p):=by
 unfold behA outA plz;by_cases h:p=24
 . rw[if_pos h,if_pos h,if_pos (by omega),setN_bit (fun z hz=>(good_mem (may_first hm) hz).1)]
 . rw[if_neg h,if_neg h,if_neg (by omega),Int.toNat_natCast,setN_bit];intro z hz;rw[List.getD]at hz;cases hg:a.follow[p]? with
   |none=>rw[hg]at hz;simp at hz
   |some l=>rw[hg]at hz;exact(good_mem (may_follow hm (zC hg)) hz).1
omit hm in
theorem at_bit{s:Wd}{q:Nat}:(atW a s).testBit q=true↔q<a.words.length/\a.words[q]?=some s:=wset_bit _ _ _ _
theorem rch_sound{x v q:Nat}(h:(sdOf kp n E a).Rch [x] v q):(q=24\/q<a.words.length)/\∃l,goE E x l v/\rdA a (-1) l (plz q):=by
 have h24:=(may_len hm).1;induction h with
 |start hv=>
  rw[zJ.1 hv];exact⟨.inl rfl,[],rfl,rfl⟩
 |step _ hs ih=>
  rename_i v p v' q _;obtain⟨hp,l,hg,hr⟩:=ih;obtain⟨⟨t,ht,e1,hb⟩,hbe⟩:=hs;have hout:∃e∈E,e.1=v/\t=(e.2.2,atW a e.2.1):=by
   unfold Sd.out sdOf at ht;rw[List.getD,zI]at ht;by_cases hv:v<n
   . rw[yO hv]at ht;obtain⟨e,he,h2⟩:=List.mem_filterMap.1 (show t∈stepsOf a E v from ht);split at h2
     . rename_i hc;injection h2 with h2;exact⟨e,he,hc.1,h2.symm⟩
     . cases h2
   . rw[yB (by simp;omega)]at ht;simp at ht
  obtain⟨e,he,ev,et⟩:=hout;rw[et]at hb e1;dsimp only at hb e1;obtain⟨hq,hw⟩:=at_bit.1 hb;refine⟨.inr hq,l++[e.2.1],goE_snoc l x v v' _ hg ?_,rdA_snoc l _ (plz p) _ _ hr ?_⟩
  . rw[<- ev,<- e1];exact he
  . have hqz:plz q=(q:Int):=by unfold plz;rw[if_neg (by omega)]
    rw[hqz,nextA,if_pos ⟨hm,isPl_plz hm hp⟩,zV];exact⟨(out_beh hm).1 hbe,yC (by rw[wordA,Int.toNat_natCast];exact hw)⟩
theorem rch_all(hE:∀e∈E,e.1<n/\e.2.2<n){x y:Nat}{t:Int}:∀(l:List Wd) (v p:Nat),(p=24\/p<a.words.length)->(sdOf kp n E a).Rch [x] v p->goE E v l y->rdA a (plz p) l t->(sdOf kp n E a).Rch [x] y (pln t)
 |[],v,p,_,hr,hg,hd=>by
  have hg:v=y:=hg;have hd:plz p=t:=hd;rw[<- hg,<- hd,pln_plz];exact hr
 |w::l,v,p,hp,hr,⟨z,hz,hg⟩,⟨u,hu,hd⟩=>by
  rw[nextA,if_pos ⟨hm,isPl_plz hm hp⟩,zV]at hu;obtain⟨hu1,hu2⟩:=hu;have hu2:=of_decide_eq_true hu2;have hu0:0<=u/\u<a.words.length:=by
   unfold outA at hu1;split at hu1
   . exact good_mem (may_first hm) hu1
   . rw[List.getD]at hu1;cases hg2:a.follow[(plz p).toNat]? with
     |none=>rw[hg2]at hu1;simp at hu1
     |some l2=>rw[hg2]at hu1;exact good_mem (may_follow hm (zC hg2)) hu1
  obtain⟨q,rfl⟩:∃q:Nat,u=q:=⟨u.toNat,by omega⟩
  have h24:=(may_len hm).1;have hqz:plz q=(q:Int):=by unfold plz;rw[if_neg (by omega)]
  rw[wordA,Int.toNat_natCast]at hu2;have hb:(atW a w).testBit q=true:=at_bit.2 ⟨by omega,hu2⟩;refine rch_all hE l z q (.inr (by omega)) (.step hr ⟨⟨(z,atW a w),?_,rfl,hb⟩,(out_beh hm).2 hu1⟩) hg (by rw[hqz];exact hd);unfold Sd.out sdOf;rw[List.getD,zI,yO (hE _ hz).1];show _∈stepsOf a E v;refine List.mem_filterMap.2 ⟨(v,w,z),hz,?_⟩;rw[if_pos ⟨rfl,fun e=>by dsimp only at e;rw[e]at hb;simp at hb⟩]
theorem last_ends{t:Nat}(ht:t=24\/t<a.words.length):(lastA a).testBit t=true↔endsA a (plz t)=true:=by
 have h24:=(may_len hm).1;have hl:=setN_bit (L:=a.last) (fun z hz=>(good_mem (may_last hm) hz).1) t;have hb:(16777216:Nat).testBit t=decide (24=t):=Nat.testBit_two_pow (n:=24) (m:=t);have hno:(24:Int)∉a.last:=fun h=>by have:=good_mem (may_last hm) h;omega
 have e1:endsA a (plz t)=if t=24 then a.empty else decide ((t:Int)∈a.last):=by
  rw[endsA,hm,isPl_plz hm ht,Bool.true_and,Bool.true_and];by_cases h:t=24
  . have h1:plz t= -1:=by unfold plz;rw[if_pos h]
    rw[if_pos h,h1,if_pos (by omega)]
  . have h1:plz t=(t:Int):=by unfold plz;rw[if_neg h]
    rw[if_neg h,h1,if_neg (by omega)]
 rw[e1];by_cases h:t=24
 . rw[if_pos h];unfold lastA;have hf:(setN a.last).testBit t=false:=by
    cases hb2:(setN a.last).testBit t with
    |false=>rfl
    |true=>
     have:=hl.1 hb2;rw[h]at this;exact absurd this hno
   cases he:a.empty with
   |true=>rw[if_pos rfl,Nat.testBit_or,hb,hf,yC h.symm];simp
   |false=>rw[if_neg (by decide),hf]
 . rw[if_neg h,decide_eq_true_eq,<- hl];unfold lastA;split
   . rw[Nat.testBit_or,hb,decide_eq_false (fun e=>h e.symm),Bool.or_false]
   . exact Iff.rfl
theorem leads_iff(hE:∀e∈E,e.1<n/\e.2.2<n)(x y:Nat):(sdOf kp n E a).leads [x] y↔∃l,goE E x l y/\accA a l:=by
 have h24:=(may_len hm).1;constructor
 . rintro⟨p,hr,hl⟩;obtain⟨hp,l,hg,hd⟩:=rch_sound hm hr;exact⟨l,hg,hm,(rdA_acc l _).2 ⟨_,hd,(last_ends hm hp).1 hl⟩⟩
 . rintro⟨l,hg,_,ha⟩;obtain⟨t,hd,he⟩:=(rdA_acc l _).1 ha;have h1:plz 24= -1:=rfl;have hr:=rch_all hm (kp:=kp) hE l x 24 (.inl rfl) (.start (zJ.2 rfl)) hg (by rw[h1];exact hd);obtain⟨hp,_⟩:=rch_sound hm hr;refine⟨_,hr,(last_ends hm hp).2 ?_⟩;have:plz (pln t)=t:=by
    simp only[endsA,Bool.and_eq_true,isPl,decide_eq_true_eq]at he;unfold plz pln;by_cases h:t<0
    . rw[if_pos h,if_pos rfl];omega
    . rw[if_neg h,if_neg (by omega)];omega
   rw[this];exact he
end
theorem goE_go{fs:List Fa}{V:List Wd}(hV:V.Nodup)(hf:∀f∈fs,f.1∈V/\f.2.2∈V):∀(l:List Wd) (x y:Nat) (X Y:Wd),V[x]?=some X->V[y]?=some Y->(goE (fs.map (egOf V)) x l y↔goF fs X l Y)
 |[],x,y,X,Y,hx,hy=>by
  constructor
  . intro h;have h:x=y:=h;subst h;rw[hx]at hy;injection hy
  . intro h;have h:X=Y:=h;subst h;exact(List.getElem?_inj (zE.1 hx).1 hV).1 (by rw[hx,hy])
 |w::l,x,y,X,Y,hx,hy=>by
  have huniq:∀ {s:Wd} {i:Nat},V[i]?=some s->V.idxOf s=i:=fun {s i} hi=>by
   have h1:=idx_at (zC hi);exact(List.getElem?_inj (zE.1 h1).1 hV).1 (by rw[h1,hi])
  constructor
  . rintro⟨z,hz,hg⟩;obtain⟨f,hff,e⟩:=zR.1 hz;unfold egOf at e;simp only[Prod.mk.injEq]at e;obtain⟨e1,e2,e3⟩:=e;have h1:=idx_at (hf f hff).1;rw[e1,hx]at h1;injection h1 with h1;have h3:=idx_at (hf f hff).2;rw[e3]at h3;refine⟨f.2.2,?_,(goE_go hV hf l z y f.2.2 Y h3 hy).1 hg⟩;rw[h1,<- e2];exact hff
  . rintro⟨Z,hz,hg⟩;have h3:=idx_at (hf _ hz).2;refine⟨V.idxOf Z,zR.2 ⟨_,hz,?_⟩,(goE_go hV hf l _ y Z Y h3 hy).2 hg⟩;unfold egOf;rw[huniq hx]
theorem verts_nodup(fs:List Fa):(vertsL fs).Nodup:=(verts_rise fs).imp (fun h=>ordW.ne h)
theorem edge_in(fs:List Fa):∀e∈fs.map (egOf (vertsL fs)),e.1<(vertsL fs).length/\e.2.2<(vertsL fs).length:=fun e he=>by
 obtain⟨f,hf,rfl⟩:=zR.1 he;exact⟨zZ (mem_verts.2 ⟨f,hf,.inl rfl⟩),zZ (mem_verts.2 ⟨f,hf,.inr rfl⟩)⟩
theorem search_lead{kp:Nat->Prop}{fs:List Fa}{p:Pt}(hp:mayP p=true){x y:Nat}{X Y:Wd}(hx:(vertsL fs)[x]?=some X)(hy:(vertsL fs)[y]?=some Y):(sdOf kp (vertsL fs).length (fs.map (egOf (vertsL fs))) (autoOf p)).leads [x] y↔leadP fs p X Y:=by
 obtain⟨hm,hw⟩:=auto_will hp;rw[leads_iff hm (edge_in fs)];unfold leadP leadF;constructor
 . rintro⟨l,hg,ha⟩;exact⟨zC hx,l,(hw l).1 ha,(goE_go (verts_nodup fs) (fun f hf=>⟨mem_verts.2 ⟨f,hf,.inl rfl⟩,mem_verts.2 ⟨f,hf,.inr rfl⟩⟩) l x y X Y hx hy).1 hg⟩
 . rintro⟨_,l,ha,hg⟩;exact⟨l,(goE_go (verts_nodup fs) (fun f hf=>⟨mem_verts.2 ⟨f,hf,.inl rfl⟩,mem_verts.2 ⟨f,hf,.inr rfl⟩⟩) l x y X Y hx hy).2 hg,(hw l).2 ha⟩
set_option maxHeartbeats 4000000 in
theorem rW_word{S T:Nat->Prop}{wd:Wd}{v:Value}:WillC S T ⟨1,wd,v,[]⟩:=by
 intro w wv L hok htx hcap hL;obtain⟨ao,cap,hv⟩:=hok.parts.1.slice;dsimp only at hv;subst hv;obtain⟨wa,wcap,rfl,hwc⟩:=hcap;have HX:Hid (willL (Vt.pt ⟨1,wd,.slice ao 0 cap,[]⟩) L↔L=[wd]):=zA (by rw[Vt.pt_mk,willL_mk];rfl);obtain⟨n,hn⟩:∃n,n=L.length:=⟨_,rfl⟩
 have HTX:=zA htx;rw[<- hn]at HTX hL hwc ⊢;have HN:=zA hn;obtain⟨o,ho⟩:∃o,o=Obj.cells #[.int .i64 1,.string ⟨wd.toArray⟩,.slice ao 0 cap] 25:=⟨_,rfl⟩
 have HOB:=zA ho;have HB0:Hid (Below (w.alloc o).heap.size (w.alloc o) (w.alloc (.cells #[.int .i64 1,.string ⟨wd.toArray⟩,.slice ao 0 cap] 25))):=zA (by rw[HOB.out];exact zF _ _);clear hok htx hn ho;show Calls Tryz.prog _ #[.agg #[.int .i64 1,.string ⟨wd.toArray⟩,.slice ao 0 cap],_] w _;by_cases h1:n=1
 . obtain⟨y,hy⟩:∃y,L=[y]:=List.length_eq_one_iff.1 (by rw[<- HN.out];exact h1);obtain⟨g,off,rfl,_,hgl,hcell⟩:=HTX.out.get (j:=0) (x:=y) (by rw[hy];rfl);have q0:=getTx hcell;rw[Nat.zero_mul,yF]at q0;have HY:=zA hy;subst h1;clear hy hcell;by_cases e:y=wd
   . have HT:Hid (willL (Vt.pt ⟨1,wd,.slice ao 0 cap,[]⟩) L):=zA (HX.out.2 (by rw[HY.out,e]));subst e;go_enter Tryz.func10,Tryz.ntmps10;go_wp2_with fail;go_quiet (fail);go_wp2;go_ret;exact⟨true,rfl,⟨fun _=>HT.out,fun _=>rfl⟩,below_drewN (below_boxQ HB0.out) _⟩
   . have HT:Hid (¬willL (Vt.pt ⟨1,wd,.slice ao 0 cap,[]⟩) L):=zA (fun h=>e (by have:=HX.out.1 h;rw[HY.out]at this;simpa using this));have e1:(y==wd)=false:=by simpa using e
     go_enter Tryz.func10,Tryz.ntmps10;go_wp2_with fail;go_quiet (fail);go_wp2;go_ret;exact⟨false,rfl,⟨fun h=>(by cases h),fun h=>absurd h HT.out⟩,below_drewN (below_boxQ HB0.out) _⟩
 . have HT:Hid (¬willL (Vt.pt ⟨1,wd,.slice ao 0 cap,[]⟩) L):=zA (fun h=>h1 (by rw[HN.out,HX.out.1 h];rfl));obtain⟨d1,d2⟩:=not_both (a:=(n:Int)) (b:=1) (by omega);have d3:decide ((n:Int)=1)=false:=decide_eq_false d1;clear h1;go_enter Tryz.func10,Tryz.ntmps10;go_wp2_with fail;go_quiet (fail);go_wp2;go_ret;exact⟨false,rfl,⟨fun h=>(by cases h),fun h=>absurd h HT.out⟩,below_drewN (below_boxQ HB0.out) _⟩
set_option maxHeartbeats 4000000 in
theorem rW_seq{S T:Nat->Prop}{wd:Wd}{v:Value}{l:List Vt}(hk:∀x∈l,WillC S T x)(hc:CapS v l.length)(hl:l.length<=1000):WillC S T ⟨2,wd,v,l⟩:=by
 intro w wv L hok htx hcap hL;have hok2:=hok.parts;obtain⟨ao,cap,hv,hcc⟩:=hc;dsimp only at hok2;subst hv;obtain⟨ans,hans⟩:=known_some (willL (Vt.pt ⟨2,wd,.slice ao l.length cap,l⟩) L);have HANS:=zA hans;have C:Hid (∀u,Below w.heap.size w u->Calls Tryz.prog 26 #[.slice ao l.length cap,wv] u fun e w'=>e=.returned (.bool ans)/\Below u.heap.size u w'):=zA (fun u hu=>Calls.known (rRow_any l hk u _ wv L (hok2.1.below hu) ⟨_,_,rfl,hcc⟩ (fun x hx=>(hok2.2.2.2 x hx).below hu) (htx.below hu) hcap hL (by omega)) (by
  rw[hans,Vt.pt_mk,willL_mk,List.map_map];rfl))
 obtain⟨wa,wcap,rfl,hwc⟩:=hcap;obtain⟨n,hn⟩:∃n,n=l.length:=⟨_,rfl⟩
 obtain⟨m,hm⟩:∃n,n=L.length:=⟨_,rfl⟩
 rw[<- hn]at C ⊢;rw[<- hm]at C ⊢;clear hok htx hok2 hn hm hans hk;obtain⟨o,ho⟩:∃o,o=Obj.cells #[.int .i64 2,.string ⟨wd.toArray⟩,.slice ao n cap] 25:=⟨_,rfl⟩
 have HOB:=zA ho;have HB0:Hid (Below (w.alloc o).heap.size (w.alloc o) (w.alloc (.cells #[.int .i64 2,.string ⟨wd.toArray⟩,.slice ao n cap] 25))):=zA (by rw[HOB.out];exact zF _ _);clear ho;suffices hgoal:Calls Tryz.prog 10 #[.agg #[.int .i64 2,.string ⟨wd.toArray⟩,.slice ao n cap],.slice wa m wcap] w fun e w'=>e=.returned (.bool ans)/\Below w.heap.size w w' by
  refine hgoal.mono ?_;rintro e w' ⟨rfl,hb⟩;refine⟨ans,rfl,?_,hb⟩;have:=HANS.out;simpa[Vt.pt_mk]using this
 go_enter Tryz.func10,Tryz.ntmps10;go_wp2_with fail;refine(C.out _ (below_boxQ HB0.out)).mono ?_;rintro e w2 ⟨rfl,hb2⟩;have HB2:=zA (HB0.out.trans (hb2.mono HB0.out.size));clear hb2;go_wp2;go_ret;exact⟨rfl,below_boxQ HB2.out⟩
set_option maxHeartbeats 4000000 in
theorem rW_alt{S T:Nat->Prop}{wd:Wd}{v:Value}{l:List Vt}(hk:∀x∈l,WillC S T x):WillC S T ⟨3,wd,v,l⟩:=by
 intro w wv L hok htx hcap hL;have hok2:=hok.parts;obtain⟨ao,cap,hv⟩:=hok2.1.slice;dsimp only at hok2 hv;subst hv;obtain⟨ans,hans⟩:=known_some (willL (Vt.pt ⟨3,wd,.slice ao l.length cap,l⟩) L);have HANS:Hid (ans=true↔∃x∈l,willL x.pt L):=zA (by
  rw[hans,Vt.pt_mk,willL_mk,kindL,if_neg (by decide),if_neg (by decide),if_neg (by decide),if_neg (by decide),if_neg (by decide)];constructor
  . rintro⟨f,hf,h⟩;obtain⟨p,hp,rfl⟩:=zR.1 hf;obtain⟨x,hx,rfl⟩:=zR.1 hp;exact⟨x,hx,h⟩
  . rintro⟨x,hx,h⟩;exact⟨_,zU (zU hx),h⟩)
 have HANS0:=zA hans;have HKI:=zA hok2.1;have HKV:=zA hok2.2.2.2;have hkl:=hok2.2.2.1;have HK:=zA hk;have HTX:=zA htx;have HCAP:=zA hcap;have HL:=zA hL;obtain⟨wa,wcap,rfl,hwc⟩:=hcap;obtain⟨n,hn⟩:∃n,n=l.length:=⟨_,rfl⟩
 obtain⟨m,hm⟩:∃n,n=L.length:=⟨_,rfl⟩
 rw[<- hn]at HKI hkl ⊢;rw[<- hm]at HTX HCAP ⊢;have HN:=zA hn;have HM:=zA hm;clear hok htx hok2 hn hm hans hk hL;obtain⟨o,ho⟩:∃o,o=Obj.cells #[.int .i64 3,.string ⟨wd.toArray⟩,.slice ao n cap] 25:=⟨_,rfl⟩
 have HOB:=zA ho;have HC:Hid (∀wr,Below (w.alloc o).heap.size (w.alloc o) wr->wr.cell? ⟨w.heap.size,2,none⟩=some (.slice ao n cap)):=zA (fun wr hb=>by
  have h:=box_keptQ hb;rw[HOB.out]at h;simp[World.cell?,h])
 have HB0:Hid (Below (w.alloc o).heap.size (w.alloc o) (w.alloc (.cells #[.int .i64 3,.string ⟨wd.toArray⟩,.slice ao n cap] 25))):=zA (by rw[HOB.out];exact zF _ _);clear ho;suffices hgoal:Calls Tryz.prog 10 #[.agg #[.int .i64 3,.string ⟨wd.toArray⟩,.slice ao n cap],.slice wa m wcap] w fun e w'=>e=.returned (.bool ans)/\Below w.heap.size w w' by
  refine hgoal.mono ?_;rintro e w' ⟨rfl,hb⟩;refine⟨ans,rfl,?_,hb⟩;have:=HANS0.out;simpa[Vt.pt_mk]using this
 clear HANS0;go_enter Tryz.func10,Tryz.ntmps10;go_wp2_with fail;go_loopw [5] (fun c wr=>∃i:Nat,i<=n/\c=.int .i64 i/\(∀x∈l.take i,¬willL x.pt L)/\Below (w.alloc o).heap.size (w.alloc o) wr) (fun c _=>n-(intOf c).toNat)
 case atStart=>exact⟨0,zS _,rfl,by simp,HB0.out⟩
 case round=>
  obtain⟨i,hi,rfl,hall,hbq⟩:=hrel;have HBQ:=zA hbq;have HAll:=zA hall;have c2:=HC.out _ hbq;clear hbq hall;by_cases hlt:i<n
  . have hltI:(i:Int)<(n:Int):=by omega
    obtain⟨x,hx⟩:∃x,l[i]?=some x:=⟨_,zB (by rw[<- HN.out];exact hlt)⟩
    obtain⟨g,off,rfl,_,_,hcell⟩:=(HKI.out.below (below_boxQ HBQ.out)).get hx;obtain⟨q0,q1,q2⟩:=getN hcell;have hxm:=zC hx;obtain⟨b,hb⟩:=known_some (willL x.pt L);have C:=zA (Calls.known (HK.out x hxm wr (.slice wa m wcap) L ((HKV.out x hxm).below (below_boxQ HBQ.out)) (HTX.out.below (below_boxQ HBQ.out)) (by rw[<- HM.out];exact HCAP.out) HL.out) hb);obtain⟨xa,xc,hxv⟩:=(HKV.out x hxm).parts.1.slice;have HXX:=zA hx;have HBB:=zA hb;have HXM:=zA hxm;obtain⟨xn,hxn⟩:∃n,n=x.kids.length:=⟨_,rfl⟩
    rw[<- hxn]at hxv;obtain⟨xk,xw,xv,xl⟩:=x;dsimp only at q0 q1 q2 hxv;subst hxv;clear hxn hx hcell hxm hb;cases b with
    |true=>
     have HT:Hid (ans=true):=zA (HANS.out.2 ⟨_,HXM.out,HBB.out.1 rfl⟩);go_wp2_with fail;refine C.out.mono ?_;rintro e w2 ⟨rfl,hb2⟩;have HB2:=zA (HBQ.out.trans (hb2.mono HBQ.out.size));clear hb2;go_wp2;go_ret;exact⟨by rw[HT.out];rfl,below_boxQ HB2.out⟩
    |false=>
     have HA2:Hid (∀y∈l.take (i+1),¬willL y.pt L):=zA (fun y hy=>by
      rw[zT,HXX.out]at hy;rcases zN.1 hy with hy|hy
      . exact HAll.out y hy
      . simp at hy;subst hy;exact fun h=>by have:=HBB.out.2 h;cases this)
     go_wp2_with fail;refine C.out.mono ?_;rintro e w2 ⟨rfl,hb2⟩;have HB2:=zA (HBQ.out.trans (hb2.mono HBQ.out.size));clear hb2;go_wp2;go_roundw
     case rel=>exact⟨i+1,by omega,by go_num,HA2.out,HB2.out⟩
     case measure=>simp[intOf];omega
  . have hltI:¬(i:Int)<(n:Int):=by omega
    have HT:Hid (ans=false):=zA (by
     cases ha:ans with
     |false=>rfl
     |true=>
      obtain⟨x,hx,hw⟩:=HANS.out.1 ha;exact absurd hw (HAll.out x (by rw[zK (by rw[<- HN.out];omega)];exact hx)))
    go_wp2;go_ret;exact⟨by rw[HT.out];rfl,below_boxQ HBQ.out⟩
theorem bool_same{a b:Bool}(h:a=true↔b=true):a=b:=by
 cases a<;>cases b<;>simp at h ⊢
set_option maxHeartbeats 4000000 in
theorem rW_maybe{S T:Nat->Prop}{wd:Wd}{v:Value}{x:Vt}(hk:WillC S T x):WillC S T ⟨6,wd,v,[x]⟩:=by
 intro w wv L hok htx hcap hL;have hok2:=hok.parts;obtain⟨ao,cap,hv⟩:=hok2.1.slice;dsimp only at hok2 hv;subst hv;have hxo:=hok2.2.2.2 x (by simp);obtain⟨ans,hans⟩:=known_some (willL (Vt.pt ⟨6,wd,.slice ao [x].length cap,[x]⟩) L);obtain⟨b,hb⟩:=known_some (willL x.pt L);have HANS:Hid (ans=true↔L=[]\/b=true):=zA (by
  rw[hans,hb,Vt.pt_mk,willL_mk,List.map_cons,List.map_nil,List.map_cons,List.map_nil,kindL,if_neg (by decide),if_neg (by decide),if_neg (by decide),if_neg (by decide),if_pos rfl,alt_one])
 have HANS0:=zA hans;have C:=zA (fun u (hu:Below w.heap.size w u)=>Calls.known (hk u wv L (hxo.below hu) (htx.below hu) hcap hL) hb);obtain⟨g,off,rfl,_,hgl,hcell⟩:=hok2.1.get (j:=0) (x:=x) rfl;obtain⟨q0,q1,q2⟩:=getN hcell;rw[Nat.zero_mul,yF]at q0 q1 q2;obtain⟨wa,wcap,rfl,hwc⟩:=hcap;obtain⟨xa,xc,hxv⟩:=hxo.parts.1.slice;obtain⟨xn,hxn⟩:∃n,n=x.kids.length:=⟨_,rfl⟩
 rw[<- hxn]at hxv;obtain⟨m,hm⟩:∃n,n=L.length:=⟨_,rfl⟩
 rw[<- hm]at C ⊢;have HM:=zA hm;obtain⟨xk,xw,xv,xl⟩:=x;dsimp only at q0 q1 q2 hxv;subst hxv;clear hok htx hok2 hm hans hk hL hb hcell hxn hxo;suffices hgoal:Calls Tryz.prog 10 #[.agg #[.int .i64 6,.string ⟨wd.toArray⟩,.slice (some ⟨g,off,none⟩) 1 cap],.slice wa m wcap] w fun e w'=>e=.returned (.bool ans)/\Below w.heap.size w w' by
  refine hgoal.mono ?_;rintro e w' ⟨rfl,hb⟩;exact⟨ans,rfl,HANS0.out,hb⟩
 clear HANS0;have HB:Hid (∀a:Obj,Below w.heap.size w (w.alloc a)):=zA (fun a=>(zF _ _).alloc (zD _) _);by_cases h0:m=0
 . have HT:Hid (ans=true):=zA (HANS.out.2 (.inl (yG.1 (by rw[<- HM.out];exact h0))));subst h0;go_enter Tryz.func10,Tryz.ntmps10;go_wp2;go_ret;exact⟨by rw[HT.out];rfl,HB.out _⟩
 . have HT:Hid (ans=b):=zA (by
    have hL0:¬L=[]:=fun h=>h0 (by rw[HM.out,h];rfl)
    exact bool_same (by rw[HANS.out];exact⟨fun h=>h.elim (fun e=>absurd e hL0) id,.inr⟩))
   obtain⟨d1,d2⟩:=not_both (a:=(m:Int)) (b:=0) (by omega);clear h0;go_enter Tryz.func10,Tryz.ntmps10;go_wp2_with fail;refine(C.out _ (HB.out _)).mono ?_;rintro e w2 ⟨rfl,hb2⟩;have HB2:=zA ((HB.out _).trans (hb2.mono (by simp)));clear hb2;go_wp2;go_ret;exact⟨by rw[HT.out];rfl,HB2.out⟩
def oftL(k:Int)(f:List Wd->Prop)(l:List Wd):Prop:=if k=4 then starL f l else plusL f l
theorem oft_nil{k:Int}{f:List Wd->Prop}:oftL k f []↔k=4\/f []:=by
 unfold oftL;split
 . rename_i h;exact⟨fun _=>.inl h,fun _=>star_nil f⟩
 . rename_i h;rw[plus_nil];exact⟨.inr,fun h2=>h2.elim (fun e=>absurd e h) id⟩
theorem oft_cut{k:Int}{f:List Wd->Prop}{l:List Wd}(hl:l≠[]):oftL k f l↔∃i,1<=i/\i<=l.length/\f (l.take i)/\(i=l.length\/oftL k f (l.drop i)):=by
 unfold oftL;split
 . exact star_cut2 l hl
 . exact plus_cut l hl
theorem will_oft{k:Int}{wd:Wd}{P:Pt}(hk:k=4\/k=5):willL ⟨k,wd,[P]⟩=oftL k (willL P):=by
 rw[willL_mk,List.map_cons,List.map_nil];funext l;rcases hk with rfl|rfl
 . rw[kindL,if_neg (by decide),if_neg (by decide),if_pos rfl,oftL,if_pos rfl,alt_one]
 . rw[kindL,if_neg (by decide),if_neg (by decide),if_neg (by decide),if_pos rfl,oftL,if_neg (by decide),alt_one]
end Go.Proofs.YtdalcipmpelifaaGreatDoor
