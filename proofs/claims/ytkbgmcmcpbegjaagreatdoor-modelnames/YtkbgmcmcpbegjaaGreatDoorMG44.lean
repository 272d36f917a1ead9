/- BOf, GLead, XMath4, XTurnP, XTurnQ, GPairs1, XStrike, XStrk, XPool, XNi, XQueue, XNarrow, XNarW, XState, XVertex, XChoose, XLinked. -/
import Derived.Test.YtkbgmcmcpbegjaaGreatDoorMG30
import Derived.Test.YtkbgmcmcpbegjaaGreatDoorMG21
import Derived.Test.YtkbgmcmcpbegjaaGreatDoorMG13
import Derived.Test.YtkbgmcmcpbegjaaGreatDoorMG32
import Derived.Test.YtkbgmcmcpbegjaaGreatDoorMG36
import Derived.Test.YtkbgmcmcpbegjaaGreatDoorMG33
import Derived.Laws.MakeOwn
import Derived.ArgAppend
set_option maxRecDepth 100000
namespace Go.Proofs.YtkbgmcmcpbegjaaGreatDoor
open Go.RowKit
def au0:Au:=⟨[],[],[],[],false⟩
def ofA(t:Pt):Au:=if mayP t=true then autoOf t else au0
theorem UOk.sub{S T:Nat->Prop}{w:World}{m:Mu}(h:UOk S w m)(hs:∀b,S b->T b):UOk T w m:=h.keep (zD _) (fun b hb _=>⟨hs b hb,rfl⟩)
theorem uok_nil(S:Nat->Prop)(w:World):UOk S w ⟨.slice none 0 0,[],.slice none 0 0,[],.slice none 0 0,[],.slice none 0 0,[],false⟩:=
 ⟨SlS.nil _ _,by simp,by simp,SlS.nil _ _,by simp,SlS.nil _ _,by simp,SlS.nil _ _,by simp,by simp⟩
theorem mk_new{w:World}{mb:Nat}(h0:w.heap[mb]?=some (.cells (#[.slice none 0 0]++Array.replicate 24 (.int .u32 0)++#[.map (some (mb+1))]) 150 (0,0)))(h1:w.heap[mb+1]?=some (.map (kindsE mb) 6)):MkAt (fun k=>k<w.heap.size/\k≠mb) w mb (mb+1) [] (fun _=>0) (.slice none 0 0):=by
 refine⟨fun h=>h.2 rfl,⟨lt_of_block h1,by omega⟩,lt_of_block h0,h1,?_,?_,?_,fun j hj=>?_,World.ownsRow_nil _ _ _ _,by simp[Value.ownBlock]⟩
 . simp[World.cell?,h0]
 . simp[World.frozen?,h0]
 . simp only[World.cell?,h0];rfl
 . refine⟨?_,by simp[World.frozen?,h0]⟩;simp only[World.cell?,h0];show (#[Value.slice none 0 0]++Array.replicate 24 (.int .u32 0)++#[.map (some (mb+1))])[1+j]?=some (.int .u32 ((0:Nat):Int));rw[Array.getElem?_append_left (by simp;omega),Array.getElem?_append_right (by simp)];simp[hj]
set_option maxHeartbeats 4000000 in
theorem of_any{S:Nat->Prop}{w:World}{t:Vt}(h:VOk S w t):
 Calls Tryz.prog 28 #[encN t] w fun e w'=>∃m:Mu,e=.returned (.tuple #[encU m,.int .i64 (if mayP t.pt=true then 0 else 1)])/\UOk (fun g=>w.heap.size<=g) w' m/\m.au=ofA t.pt/\Below w.heap.size w w':=by
 obtain⟨ao,cap,hv⟩:=h.parts.1.slice;have hkl:=h.parts.2.2.1;obtain⟨P,hP⟩:∃P,P=t.pt:=⟨_,rfl⟩
 rw[<- hP];obtain⟨b,hb⟩:∃b,b=mayP P:=⟨_,rfl⟩
 have CM:Hid (∀u,Below w.heap.size w u->Calls Tryz.prog 51 #[encN t] u fun e w'=>e=.returned (.bool b)/\Below u.heap.size u w'):=zA (fun u hu=>by rw[hb,hP];exact pathMay_any (h.below hu));have HV:=zA h;have HP:=zA hP;have HB:=zA hb;obtain⟨k,wd,v,l⟩:=t;dsimp only at hv hkl;subst hv;obtain⟨n,hn⟩:∃n,n=l.length:=⟨_,rfl⟩
 have HN:=zA hn;rw[<- hn]at CM HV hkl ⊢;obtain⟨ec,hec⟩:∃e:Int,e=if mayP P=true then 0 else 1:=⟨_,rfl⟩
 rw[<- hec];rw[<- hb]at hec;clear h hP hb hn;show Calls Tryz.prog _ #[.agg #[.int .i64 k,.string ⟨wd.toArray⟩,.slice ao n cap]] w _;obtain⟨W1,hW1⟩:∃W,W=(w.alloc (.cells #[.int .i64 k,.string ⟨wd.toArray⟩,.slice ao n cap] 25)).alloc (.cells #[.slice none 0 0,.slice none 0 0,.slice none 0 0,.slice none 0 0,.bool false] 62):=⟨_,rfl⟩
 have hbW:Below w.heap.size w W1:=by rw[hW1];exact((zE _ _).alloc (zD _) _).alloc (by simp) _
 have hcp:W1.heap[w.heap.size]?=some (.cells #[.int .i64 k,.string ⟨wd.toArray⟩,.slice ao n cap] 25 (0,0)):=by rw[hW1,heap_alloc_old _ _ (by simp),heap_alloc_new]
 have hcb:W1.heap[w.heap.size+1]?=some (.cells #[.slice none 0 0,.slice none 0 0,.slice none 0 0,.slice none 0 0,.bool false] 62 (0,0)):=by rw[hW1];exact(by simpa using heap_alloc_new (w.alloc (.cells #[.int .i64 k,.string ⟨wd.toArray⟩,.slice ao n cap] 25)) _)
 have HW1:=zA hW1;have HBW:=zA hbW;have HCP:=zA hcp;have HCB:=zA hcb;clear hW1 hbW hcp hcb;cases b with
 |false=>
  have HEC:Hid (ec=1):=zA (by rw[hec];rfl);clear hec;go_enter Tryz.func28,Tryz.ntmps28;go_wp2_with fail;rw[<- HW1.out];refine(CM.out _ HBW.out).mono ?_;rintro e w1 ⟨rfl,hb1⟩;have e1:=(hb1.block (w.heap.size+1) (lt_of_block HCB.out)).trans HCB.out;obtain⟨⟨r0,r1,r2,r3,r4⟩,⟨x0,x1,x2,x3,x4⟩⟩:=five_cells e1;obtain⟨⟨z0,z1,z2,z3,z4⟩,_⟩:=five_cells (set5P_at (c0:=.slice none 0 0) (c1:=.slice none 0 0) (c2:=.slice none 0 0) (c3:=.slice none 0 0) (c4:=.bool false) e1);have HE:Hid (∃m:Mu,Ending.returned (.tuple #[.agg #[.slice none 0 0,.slice none 0 0,.slice none 0 0,.slice none 0 0,.bool false],.int .i64 1])=.returned (.tuple #[encU m,.int .i64 ec])/\UOk (fun g=>w.heap.size<=g) (set5P w1 (w.heap.size+1) (.slice none 0 0) (.slice none 0 0) (.slice none 0 0) (.slice none 0 0) (.bool false)) m/\m.au=ofA P/\Below w.heap.size w (set5P w1 (w.heap.size+1) (.slice none 0 0) (.slice none 0 0) (.slice none 0 0) (.slice none 0 0) (.bool false))):=zA (by
   refine⟨⟨.slice none 0 0,[],.slice none 0 0,[],.slice none 0 0,[],.slice none 0 0,[],false⟩,by rw[HEC.out],uok_nil _ _,?_,Below.set5P (HBW.out.trans (hb1.mono HBW.out.size)) (by omega) _ _ _ _ _⟩;rw[ofA,<- HB.out];rfl)
  have Z0:=zA z0;have Z1:=zA z1;have Z2:=zA z2;have Z3:=zA z3;have Z4:=zA z4;clear z0 z1 z2 z3 z4 e1 hb1;unfold set5P at HE Z0 Z1 Z2 Z3 Z4;go_wp2;refine bodyPost_ret (v:=.tuple #[.agg #[.slice none 0 0,.slice none 0 0,.slice none 0 0,.slice none 0 0,.bool false],.int .i64 1]) ?_ rfl HE.out;simp[results,Tryz.results28,go_sem,Z0.out,Z1.out,Z2.out,Z3.out,Z4.out]
 |true=>
  have HEC:Hid (ec=0):=zA (by rw[hec];rfl);clear hec;have HSH:Hid (shapedP 12 P=true/\leaves P<=24):=zA (by
   have:=HB.out.symm;simp only[mayP,Bool.and_eq_true,decide_eq_true_eq]at this;exact this)
  have HPV:Hid (Vt.pt ⟨k,wd,.slice ao n cap,l⟩=P):=zA (by rw[HP.out,<- HN.out]);go_enter Tryz.func28,Tryz.ntmps28;go_wp2_with fail;rw[<- HW1.out];refine(CM.out _ HBW.out).mono ?_;rintro e w1 ⟨rfl,hb1⟩;have HB1:=zA (HBW.out.trans (hb1.mono HBW.out.size));have HC1:=zA ((hb1.block (w.heap.size+1) (lt_of_block HCB.out)).trans HCB.out);have HP1:=zA ((hb1.block w.heap.size (lt_of_block HCP.out)).trans HCP.out);clear hb1;go_wp2_with fail;refine(newMaker_any w1).mono ?_;rintro e w2 ⟨rfl,hmk,hmp,hb2⟩;have hB2:=HB1.out.trans (hb2.mono HB1.out.size);have hlt1:=lt_of_block HC1.out;have HC2:=zA ((hb2.block (w.heap.size+1) hlt1).trans HC1.out);have hP2:=(hb2.block w.heap.size (lt_of_block HP1.out)).trans HP1.out;obtain⟨⟨b0,b1,b2⟩,_⟩:=three_cells hP2;have hM2:=mk_new hmk hmp;have hS2:Low (fun k=>k<w2.heap.size/\k≠w1.heap.size) w2:=fun k hk=>hk.1
  have hV2:VOk (fun k=>k<w2.heap.size/\k≠w1.heap.size) w2 ⟨k,wd,.slice ao n cap,l⟩:=VOk.keep hB2.size (fun b _ hlb=>⟨⟨zQ hlb hB2.size,by have:=HB1.out.size;omega⟩,hB2.block b hlb⟩) _ HV.out;have CA:=zA (add_any ⟨k,wd,.slice ao n cap,l⟩ 12 (by rw[HPV.out];exact HSH.out.1) _ w2 w1.heap.size (w1.heap.size+1) [] [] (fun _=>0) (.slice none 0 0) hS2 hM2 (fun i hi=>⟨by show (0:Nat)<16777216;omega,fun j=>by simp⟩) hV2 (by rw[HPV.out];simpa using HSH.out.2));rw[HPV.out]at CA;have HB2:=zA hB2;have HS2:=zA hS2;have hmb:w1.heap.size<w2.heap.size:=lt_of_block hmk;have hlt2:=lt_of_block HC2.out;clear hmk hmp hb2 hB2 hP2 hM2 hS2 hV2;go_wp2_with fail;refine CA.out.mono ?_;rintro e w3 ⟨f,lx,F3,wv3,rfl,hbf,hbl,hm3,hf3,hfr3⟩;have hC3:=(hfr3.block (w.heap.size+1) ⟨hlt2,by omega⟩).trans HC2.out;have hB3:Below w.heap.size w w3:=⟨hfr3.os.trans HB2.out.os,hfr3.tape.trans HB2.out.tape,hfr3.output.trans HB2.out.output,zT HB2.out.size hfr3.size,fun b hlb=>(hfr3.block b ⟨zQ hlb HB2.out.size,by have:=HB1.out.size;omega⟩).trans (HB2.out.block b hlb)⟩
  obtain⟨o4,ho4⟩:∃o,o=Obj.cells #[.int .u32 (f:Int),.int .u32 (lx:Int),.bool (prtOf P).empty] 103:=⟨_,rfl⟩
  have hS3:Low (fun k=>k<w2.heap.size/\k≠w1.heap.size) w3:=HS2.out.fr hfr3;have hS4:Low (fun k=>k<w2.heap.size/\k≠w1.heap.size) (w3.alloc o4):=fun k hk=>by have:=hS3 k hk;simp;omega
  have hm4:=hm3.below hS3 ((zE _ _).alloc (zD _) o4);have hfits:=(prtOf_reads P).1;have hwords:=prt_words P;rw[List.nil_append]at hm4 hf3;have hlen:(prtOf P).words.length<=24:=by rw[hwords.2];exact HSH.out.2
  have CU:=zA (auto_any (em:=(prtOf P).empty) hS4 hm4 hf3 hbf hbl hlen (fun i hi=>by
   obtain⟨y,hy,e⟩:=mem_up.1 hi;have:=hfits.first y hy
   simp at e;omega) (fun i hi=>by
   obtain⟨y,hy,e⟩:=mem_up.1 hi;have:=hfits.last y hy;simp at e;omega) (fun p hp=>by
   obtain⟨p1,p2⟩:=p;obtain⟨a,b,hab,e1,e2⟩:=mem_upP.1 hp;have:=(hfits.pairs a b hab).2;simp at e2;simp only;omega) (fun s hs=>by
   have h1:=hwords.1 12 HSH.out.1;have:=isW_len (yI.1 h1 s hs);omega) w1.heap.size (fun g hg=>by
   have h1:=(hm4.rno g hg).1;rcases Nat.lt_or_ge g w1.heap.size with h2|h2
   . exact absurd ⟨by omega,by omega⟩ h1
   . exact h2) (by have:=hfr3.size;simp;omega))
  have HAU:Hid ((⟨(prtOf P).words,rise (prtOf P).words.length (up ([]:List Wd).length (prtOf P).first),rise (prtOf P).words.length (up ([]:List Wd).length (prtOf P).last),(List.range (prtOf P).words.length).map (fun k=>rise (prtOf P).words.length (folN (upP ([]:List Wd).length (prtOf P).pairs) k)),(prtOf P).empty⟩:Au)=autoOf P):=zA (by
   have h1:∀l,up ([]:List Wd).length l=l:=fun l=>by simp[up]
   have h2:∀l,upP ([]:List Wd).length l=l:=fun l=>by simp[upP]
   simp only[h1,h2];rfl)
  obtain⟨em,hem⟩:∃b,b=(prtOf P).empty:=⟨_,rfl⟩
  have HO4:=zA ho4;have HC3:=zA hC3;have HB3:=zA hB3;rw[HAU.out]at CU;rw[<- hem]at CU HO4 ⊢;rw[HO4.out]at CU;clear hem hfits hwords hlen hm4 hS4 hS3 ho4 hC3 hB3 hm3 hf3 hfr3 hbf hbl b0 b1 b2;go_wp2_with fail;refine CU.out.mono ?_;rintro e w5 ⟨m,rfl,hu5,ha5,hb5⟩;have hlt3:=lt_of_block HC3.out;have hC5:=(hb5.block (w.heap.size+1) (by simp;omega)).trans ((heap_alloc_old _ _ hlt3).trans HC3.out);have hB5:Below w.heap.size w w5:=(HB3.out.alloc HB3.out.size _).trans (hb5.mono (by have:=HB3.out.size;simp;omega));obtain⟨wa,wc,fa,fc,la,lc,oa,oc,e1,e2,e3,e4⟩:=hu5.slices;obtain⟨mv,mws,mfv,mfs,mlv,mls,mov,mos,mem⟩:=m;dsimp only at e1 e2 e3 e4;subst e1 e2 e3 e4;obtain⟨⟨r0,r1,r2,r3,r4⟩,⟨x0,x1,x2,x3,x4⟩⟩:=five_cells hC5;obtain⟨⟨z0,z1,z2,z3,z4⟩,_⟩:=five_cells (set5P_at (c0:=.slice wa mws.length wc) (c1:=.slice fa mfs.length fc) (c2:=.slice la mls.length lc) (c3:=.slice oa mos.length oc) (c4:=.bool mem) hC5);have HE:Hid (∃m:Mu,Ending.returned (.tuple #[.agg #[.slice wa mws.length wc,.slice fa mfs.length fc,.slice la mls.length lc,.slice oa mos.length oc,.bool mem],.int .i64 0])=.returned (.tuple #[encU m,.int .i64 ec])/\UOk (fun g=>w.heap.size<=g) (set5P w5 (w.heap.size+1) (.slice wa mws.length wc) (.slice fa mfs.length fc) (.slice la mls.length lc) (.slice oa mos.length oc) (.bool mem)) m/\m.au=ofA P/\Below w.heap.size w (set5P w5 (w.heap.size+1) (.slice wa mws.length wc) (.slice fa mfs.length fc) (.slice la mls.length lc) (.slice oa mos.length oc) (.bool mem))):=zA (by
   refine⟨_,by rw[HEC.out],hu5.keep (by rw[set5P_size];exact zD _) (fun b hb _=>⟨by have:=HB1.out.size;omega,set5P_other (by omega) _ _ _ _ _⟩),?_,Below.set5P hB5 (by omega) _ _ _ _ _⟩;rw[ha5,ofA,<- HB.out];rfl)
  have Z0:=zA z0;have Z1:=zA z1;have Z2:=zA z2;have Z3:=zA z3;have Z4:=zA z4;clear z0 z1 z2 z3 z4 hC5 hB5 hb5 hu5 ha5;unfold set5P at HE Z0 Z1 Z2 Z3 Z4;go_wp2;refine bodyPost_ret (v:=.tuple #[.agg #[.slice wa mws.length wc,.slice fa mfs.length fc,.slice la mls.length lc,.slice oa mos.length oc,.bool mem],.int .i64 0]) ?_ rfl HE.out;simp[results,Tryz.results28,go_sem,Z0.out,Z1.out,Z2.out,Z3.out,Z4.out]
end Go.Proofs.YtkbgmcmcpbegjaaGreatDoor
namespace Go.Proofs.YtkbgmcmcpbegjaaGreatDoor
open Go.RowKit Go.Shelf
def goE(E:List Eg):Nat->List Wd->Nat->Prop
 |x,[],y=>x=y
 |x,p::r,y=>∃z,(x,p,z)∈E/\goE E z r y
theorem goE_snoc{E:List Eg}:∀(l:List Wd) (x y z:Nat) (p:Wd),goE E x l y->(y,p,z)∈E->goE E x (l++[p]) z
 |[],x,y,z,p,h,h2=>by
  have h:x=y:=h;subst h;exact⟨z,h2,rfl⟩
 |q::l,x,y,z,p,⟨u,h1,h3⟩,h2=>⟨u,h1,goE_snoc l u y z p h3 h2⟩
def rdA(a:Au):Int->List Wd->Int->Prop
 |s,[],t=>s=t
 |s,w::l,t=>∃y∈nextA a s w,rdA a y l t
theorem rdA_snoc{a:Au}:∀(l:List Wd) (s u t:Int) (w:Wd),rdA a s l u->t∈nextA a u w->rdA a s (l++[w]) t
 |[],s,u,t,w,h,h2=>by
  have h:s=u:=h;subst h;exact⟨t,h2,rfl⟩
 |q::l,s,u,t,w,⟨y,hy,h⟩,h2=>⟨y,hy,rdA_snoc l y u t w h h2⟩
theorem rdA_acc{a:Au}:∀(l:List Wd) (s:Int),accW a s l↔∃t,rdA a s l t/\endsA a t=true
 |[],s=>⟨fun h=>⟨s,rfl,h⟩,fun⟨t,h,h2⟩=>by
  have h:s=t:=h;subst h;exact h2⟩
 |w::l,s=>by
  constructor
  . rintro⟨y,hy,h⟩;obtain⟨t,h1,h2⟩:=(rdA_acc l y).1 h;exact⟨t,⟨y,hy,h1⟩,h2⟩
  . rintro⟨t,⟨y,hy,h1⟩,h2⟩;exact⟨y,hy,(rdA_acc l y).2 ⟨t,h1,h2⟩⟩
def plz(p:Nat):Int:=if p=24 then -1 else (p:Int)
def pln(z:Int):Nat:=if z<0 then 24 else z.toNat
theorem pln_plz(p:Nat):pln (plz p)=p:=by
 unfold pln plz;by_cases h:p=24
 . rw[if_pos h,if_pos (by omega),h]
 . rw[if_neg h,if_neg (by omega)];omega
section
variable {a:Au} (hm:mayA a=true) {kp:Nat->Prop} {n:Nat} {E:List Eg}
include hm
theorem isPl_plz{p:Nat}(hp:p=24\/p<a.words.length):isPl a (plz p)=true:=by
 simp only[isPl,Bool.and_eq_true,decide_eq_true_eq];have:=(may_len hm).1;unfold plz;by_cases h:p=24
 . rw[if_pos h];omega
 . rw[if_neg h];rcases hp with hp|hp<;>omega
theorem out_beh{p q:Nat}:(behA a p).testBit q=true↔(q:Int)∈outA a (plz p):=by
 unfold behA outA plz;by_cases h:p=24
 . rw[if_pos h,if_pos h,if_pos (by omega),setN_bit (fun z hz=>(good_mem (may_first hm) hz).1)]
 . rw[if_neg h,if_neg h,if_neg (by omega),Int.toNat_natCast,setN_bit];intro z hz;rw[List.getD]at hz;cases hg:a.follow[p]? with
   |none=>rw[hg]at hz;simp at hz
   |some l=>rw[hg]at hz;exact(good_mem (may_follow hm (zC hg)) hz).1
omit hm in
theorem at_bit{s:Wd}{q:Nat}:(atW a s).testBit q=true↔q<a.words.length/\a.words[q]?=some s:=wset_bit _ _ _ _
theorem rch_sound{x v q:Nat}(h:(sdOf kp n E a).Rch [x] v q):(q=24\/q<a.words.length)/\∃l,goE E x l v/\rdA a (-1) l (plz q):=by
 have h24:=(may_len hm).1;induction h with
 |start hv=>
  rw[zK.1 hv];exact⟨.inl rfl,[],rfl,rfl⟩
 |step _ hs ih=>
  rename_i v p v' q _;obtain⟨hp,l,hg,hr⟩:=ih;obtain⟨⟨t,ht,e1,hb⟩,hbe⟩:=hs;have hout:∃e∈E,e.1=v/\t=(e.2.2,atW a e.2.1):=by
   unfold Sd.out sdOf at ht;rw[List.getD,zI]at ht;by_cases hv:v<n
   . rw[yQ hv]at ht;obtain⟨e,he,h2⟩:=List.mem_filterMap.1 (show t∈stepsOf a E v from ht);split at h2
     . rename_i hc;injection h2 with h2;exact⟨e,he,hc.1,h2.symm⟩
     . cases h2
   . rw[yE (by simp;omega)]at ht;simp at ht
  obtain⟨e,he,ev,et⟩:=hout;rw[et]at hb e1;dsimp only at hb e1;obtain⟨hq,hw⟩:=at_bit.1 hb;refine⟨.inr hq,l++[e.2.1],goE_snoc l x v v' _ hg ?_,rdA_snoc l _ (plz p) _ _ hr ?_⟩
  . rw[<- ev,<- e1];exact he
  . have hqz:plz q=(q:Int):=by unfold plz;rw[if_neg (by omega)]
    rw[hqz,nextA,if_pos ⟨hm,isPl_plz hm hp⟩,zY];exact⟨(out_beh hm).1 hbe,zU (by rw[wordA,Int.toNat_natCast];exact hw)⟩
theorem rch_all(hE:∀e∈E,e.1<n/\e.2.2<n){x y:Nat}{t:Int}:∀(l:List Wd) (v p:Nat),(p=24\/p<a.words.length)->(sdOf kp n E a).Rch [x] v p->goE E v l y->rdA a (plz p) l t->(sdOf kp n E a).Rch [x] y (pln t)
 |[],v,p,_,hr,hg,hd=>by
  have hg:v=y:=hg;have hd:plz p=t:=hd;rw[<- hg,<- hd,pln_plz];exact hr
 |w::l,v,p,hp,hr,⟨z,hz,hg⟩,⟨u,hu,hd⟩=>by
  rw[nextA,if_pos ⟨hm,isPl_plz hm hp⟩,zY]at hu;obtain⟨hu1,hu2⟩:=hu;have hu2:=of_decide_eq_true hu2;have hu0:0<=u/\u<a.words.length:=by
   unfold outA at hu1;split at hu1
   . exact good_mem (may_first hm) hu1
   . rw[List.getD]at hu1;cases hg2:a.follow[(plz p).toNat]? with
     |none=>rw[hg2]at hu1;simp at hu1
     |some l2=>rw[hg2]at hu1;exact good_mem (may_follow hm (zC hg2)) hu1
  obtain⟨q,rfl⟩:∃q:Nat,u=q:=⟨u.toNat,by omega⟩
  have h24:=(may_len hm).1;have hqz:plz q=(q:Int):=by unfold plz;rw[if_neg (by omega)]
  rw[wordA,Int.toNat_natCast]at hu2;have hb:(atW a w).testBit q=true:=at_bit.2 ⟨by omega,hu2⟩;refine rch_all hE l z q (.inr (by omega)) (.step hr ⟨⟨(z,atW a w),?_,rfl,hb⟩,(out_beh hm).2 hu1⟩) hg (by rw[hqz];exact hd);unfold Sd.out sdOf;rw[List.getD,zI,yQ (hE _ hz).1];show _∈stepsOf a E v;refine List.mem_filterMap.2 ⟨(v,w,z),hz,?_⟩;rw[if_pos ⟨rfl,fun e=>by dsimp only at e;rw[e]at hb;simp at hb⟩]
theorem last_ends{t:Nat}(ht:t=24\/t<a.words.length):(lastA a).testBit t=true↔endsA a (plz t)=true:=by
 have h24:=(may_len hm).1;have hl:=setN_bit (L:=a.last) (fun z hz=>(good_mem (may_last hm) hz).1) t;have hb:(16777216:Nat).testBit t=decide (24=t):=Nat.testBit_two_pow (n:=24) (m:=t);have hno:(24:Int)∉a.last:=fun h=>by have:=good_mem (may_last hm) h;omega
 have e1:endsA a (plz t)=if t=24 then a.empty else decide ((t:Int)∈a.last):=by
  rw[endsA,hm,isPl_plz hm ht,Bool.true_and,Bool.true_and];by_cases h:t=24
  . have h1:plz t= -1:=by unfold plz;rw[if_pos h]
    rw[if_pos h,h1,if_pos (by omega)]
  . have h1:plz t=(t:Int):=by unfold plz;rw[if_neg h]
    rw[if_neg h,h1,if_neg (by omega)]
 rw[e1];by_cases h:t=24
 . rw[if_pos h];unfold lastA;have hf:(setN a.last).testBit t=false:=by
    cases hb2:(setN a.last).testBit t with
    |false=>rfl
    |true=>
     have:=hl.1 hb2;rw[h]at this;exact absurd this hno
   cases he:a.empty with
   |true=>rw[if_pos rfl,Nat.testBit_or,hb,hf,zU h.symm];simp
   |false=>rw[if_neg (by decide),hf]
 . rw[if_neg h,decide_eq_true_eq,<- hl];unfold lastA;split
   . rw[Nat.testBit_or,hb,decide_eq_false (fun e=>h e.symm),Bool.or_false]
   . exact Iff.rfl
theorem leads_iff(hE:∀e∈E,e.1<n/\e.2.2<n)(x y:Nat):(sdOf kp n E a).leads [x] y↔∃l,goE E x l y/\accA a l:=by
 have h24:=(may_len hm).1;constructor
 . rintro⟨p,hr,hl⟩;obtain⟨hp,l,hg,hd⟩:=rch_sound hm hr;exact⟨l,hg,hm,(rdA_acc l _).2 ⟨_,hd,(last_ends hm hp).1 hl⟩⟩
 . rintro⟨l,hg,_,ha⟩;obtain⟨t,hd,he⟩:=(rdA_acc l _).1 ha;have h1:plz 24= -1:=rfl;have hr:=rch_all hm (kp:=kp) hE l x 24 (.inl rfl) (.start (zK.2 rfl)) hg (by rw[h1];exact hd);obtain⟨hp,_⟩:=rch_sound hm hr;refine⟨_,hr,(last_ends hm hp).2 ?_⟩;have:plz (pln t)=t:=by
    simp only[endsA,Bool.and_eq_true,isPl,decide_eq_true_eq]at he;unfold plz pln;by_cases h:t<0
    . rw[if_pos h,if_pos rfl];omega
    . rw[if_neg h,if_neg (by omega)];omega
   rw[this];exact he
end
theorem goE_go{fs:List Fa}{V:List Wd}(hV:V.Nodup)(hf:∀f∈fs,f.1∈V/\f.2.2∈V):∀(l:List Wd) (x y:Nat) (X Y:Wd),V[x]?=some X->V[y]?=some Y->(goE (fs.map (egOf V)) x l y↔goF fs X l Y)
 |[],x,y,X,Y,hx,hy=>by
  constructor
  . intro h;have h:x=y:=h;subst h;rw[hx]at hy;injection hy
  . intro h;have h:X=Y:=h;subst h;exact(List.getElem?_inj (zF.1 hx).1 hV).1 (by rw[hx,hy])
 |w::l,x,y,X,Y,hx,hy=>by
  have huniq:∀ {s:Wd} {i:Nat},V[i]?=some s->V.idxOf s=i:=fun {s i} hi=>by
   have h1:=idx_at (zC hi);exact(List.getElem?_inj (zF.1 h1).1 hV).1 (by rw[h1,hi])
  constructor
  . rintro⟨z,hz,hg⟩;obtain⟨f,hff,e⟩:=zV.1 hz;unfold egOf at e;simp only[Prod.mk.injEq]at e;obtain⟨e1,e2,e3⟩:=e;have h1:=idx_at (hf f hff).1;rw[e1,hx]at h1;injection h1 with h1;have h3:=idx_at (hf f hff).2;rw[e3]at h3;refine⟨f.2.2,?_,(goE_go hV hf l z y f.2.2 Y h3 hy).1 hg⟩;rw[h1,<- e2];exact hff
  . rintro⟨Z,hz,hg⟩;have h3:=idx_at (hf _ hz).2;refine⟨V.idxOf Z,zV.2 ⟨_,hz,?_⟩,(goE_go hV hf l _ y Z Y h3 hy).2 hg⟩;unfold egOf;rw[huniq hx]
theorem verts_nodup(fs:List Fa):(vertsL fs).Nodup:=(verts_rise fs).imp (fun h=>ordW.ne h)
theorem edge_in(fs:List Fa):∀e∈fs.map (egOf (vertsL fs)),e.1<(vertsL fs).length/\e.2.2<(vertsL fs).length:=fun e he=>by
 obtain⟨f,hf,rfl⟩:=zV.1 he;exact⟨yC (mem_verts.2 ⟨f,hf,.inl rfl⟩),yC (mem_verts.2 ⟨f,hf,.inr rfl⟩)⟩
theorem search_lead{kp:Nat->Prop}{fs:List Fa}{p:Pt}(hp:mayP p=true){x y:Nat}{X Y:Wd}(hx:(vertsL fs)[x]?=some X)(hy:(vertsL fs)[y]?=some Y):(sdOf kp (vertsL fs).length (fs.map (egOf (vertsL fs))) (autoOf p)).leads [x] y↔leadP fs p X Y:=by
 obtain⟨hm,hw⟩:=auto_will hp;rw[leads_iff hm (edge_in fs)];unfold leadP leadF;constructor
 . rintro⟨l,hg,ha⟩;exact⟨zC hx,l,(hw l).1 ha,(goE_go (verts_nodup fs) (fun f hf=>⟨mem_verts.2 ⟨f,hf,.inl rfl⟩,mem_verts.2 ⟨f,hf,.inr rfl⟩⟩) l x y X Y hx hy).1 hg⟩
 . rintro⟨_,l,ha,hg⟩;exact⟨l,(goE_go (verts_nodup fs) (fun f hf=>⟨mem_verts.2 ⟨f,hf,.inl rfl⟩,mem_verts.2 ⟨f,hf,.inr rfl⟩⟩) l x y X Y hx hy).2 hg,(hw l).2 ha⟩
end Go.Proofs.YtkbgmcmcpbegjaaGreatDoor
namespace Go.Proofs.YtkbgmcmcpbegjaaGreatDoor
open Go.RowKit
def turnP:Pt->Pt
 |⟨k,w,kids⟩=>⟨k,w,if k=2 then (kids.map turnP).reverse else kids.map turnP⟩
theorem turnP_mk(k:Int)(w:List UInt8)(kids:List Pt):turnP ⟨k,w,kids⟩=⟨k,w,if k=2 then (kids.map turnP).reverse else kids.map turnP⟩:=by rw[turnP]
theorem turn_len(k:Int)(kids:List Pt):(if k=2 then (kids.map turnP).reverse else kids.map turnP).length=kids.length:=by
 split<;>simp
theorem turn_mem(k:Int)(kids:List Pt)(y:Pt):y∈(if k=2 then (kids.map turnP).reverse else kids.map turnP)↔∃x∈kids,y=turnP x:=by
 split<;>simp[eq_comm]
theorem shaped_turn:∀(d:Nat) (t:Pt),shapedP d t=true->shapedP d (turnP t)=true
 |0,_,h=>by simp[shapedP]at h
 |d+1,⟨k,w,kids⟩,h=>by
  rw[turnP_mk,shapedP,turn_len];rw[shapedP]at h;simp only[Bool.and_eq_true,yI]at h ⊢;refine⟨h.1,fun y hy=>?_⟩;obtain⟨x,hx,rfl⟩:=(turn_mem k kids y).1 hy;exact shaped_turn d x (h.2 x hx)
theorem leaves_turn:∀t,leaves (turnP t)=leaves t:=by
 intro t;induction t using Pt.ind with
 |h k w kids ih=>
  rw[turnP_mk,leaves_mk,leaves_mk];have e:(kids.map turnP).map leaves=kids.map leaves:=by
   rw[List.map_map];exact yS fun x hx=>ih x hx
  by_cases h1:k=1
  . rw[if_pos h1,if_pos h1]
  . rw[if_neg h1,if_neg h1];by_cases h2:k=2
    . rw[if_pos h2,List.map_reverse,List.sum_reverse,e]
    . rw[if_neg h2,e]
theorem may_turn{t:Pt}(h:mayP t=true):mayP (turnP t)=true:=by
 simp only[mayP,Bool.and_eq_true,decide_eq_true_eq]at h ⊢;rw[leaves_turn];exact⟨shaped_turn 12 t h.1,h.2⟩
theorem seqL_snoc(f:List Wd->Prop):∀(fs:List (List Wd->Prop)) (l:List Wd),seqL (fs++[f]) l↔∃a b,l=a++b/\seqL fs a/\f b
 |[],l=>by
  constructor
  . rintro⟨a,b,e,h1,h2⟩;have h2:b=[]:=h2;exact⟨[],a,by rw[e,h2];simp,rfl,h1⟩
  . rintro⟨a,b,e,h1,h2⟩;have h1:a=[]:=h1;exact⟨b,[],by rw[e,h1];simp,h2,rfl⟩
 |g::fs,l=>by
  constructor
  . rintro⟨a,b,e,h1,h2⟩;obtain⟨c,d,e2,h3,h4⟩:=(seqL_snoc f fs b).1 h2;exact⟨a++c,d,by rw[e,e2,List.append_assoc],⟨a,c,rfl,h1,h3⟩,h4⟩
  . rintro⟨a,b,e,⟨c,d,e2,h1,h2⟩,h4⟩;exact⟨c,d++b,by rw[e,e2,List.append_assoc],h1,(seqL_snoc f fs _).2 ⟨d,b,rfl,h2,h4⟩⟩
def RevL(f g:List Wd->Prop):Prop:=∀l,g l↔f l.reverse
theorem seqL_rev:∀(fs gs:List (List Wd->Prop)),fs.length=gs.length->(∀(i:Nat) f g,fs[i]?=some f->gs[i]?=some g->RevL f g)->∀l,seqL gs.reverse l↔seqL fs l.reverse
 |[],[],_,_,l=>by simp[seqL]
 |[],g::gs,h,_,_=>by simp at h
 |f::fs,[],h,_,_=>by simp at h
 |f::fs,g::gs,h,hr,l=>by
  have ih:=seqL_rev fs gs (by simpa using h) (fun i a b ha hb=>hr (i+1) a b (by simpa using ha) (by simpa using hb));have h0:=hr 0 f g rfl rfl;rw[List.reverse_cons,seqL_snoc];constructor
  . rintro⟨a,b,e,h1,h2⟩;exact⟨b.reverse,a.reverse,by rw[e,List.reverse_append],(h0 b).1 h2,(ih a).1 h1⟩
  . rintro⟨a,b,e,h1,h2⟩;refine⟨b.reverse,a.reverse,?_,(ih _).2 (by rw[List.reverse_reverse];exact h2),(h0 _).2 (by rw[List.reverse_reverse];exact h1)⟩;rw[<- List.reverse_append,<- e,List.reverse_reverse]
theorem starL_rev{f g:List Wd->Prop}(h:RevL f g):RevL (starL f) (starL g):=fun l=>by
 constructor
 . rintro⟨ls,e,h1⟩;refine⟨(ls.map List.reverse).reverse,?_,fun x hx=>?_⟩
   . rw[e,List.reverse_flatten]
   . obtain⟨y,hy,rfl⟩:=zV.1 (List.mem_reverse.1 hx);exact(h y).1 (h1 y hy)
 . rintro⟨ls,e,h1⟩;refine⟨(ls.map List.reverse).reverse,?_,fun x hx=>?_⟩
   . rw[<- List.reverse_flatten,<- e,List.reverse_reverse]
   . obtain⟨y,hy,rfl⟩:=zV.1 (List.mem_reverse.1 hx);exact(h _).2 (by rw[List.reverse_reverse];exact h1 y hy)
theorem starL_snoc{f:List Wd->Prop}{l:List Wd}:plusL f l↔∃a b,l=a++b/\starL f a/\f b:=by
 constructor
 . rintro⟨a,b,e,h1,ls,e2,h2⟩;obtain⟨ms,hms⟩:∃ms,ms=a::ls:=⟨_,rfl⟩
   have hall:∀x∈ms,f x:=fun x hx=>by
    rw[hms]at hx;rcases yB.1 hx with rfl|hx
    . exact h1
    . exact h2 x hx
   have hne:ms≠[]:=by rw[hms];simp
   refine⟨ms.dropLast.flatten,ms.getLast hne,?_,⟨ms.dropLast,rfl,fun x hx=>hall x (List.dropLast_subset ms hx)⟩,hall _ (List.getLast_mem hne)⟩;have h3:ms.dropLast++[ms.getLast hne]=ms:=List.dropLast_concat_getLast hne;have h4:ms.flatten=l:=by rw[hms,List.flatten_cons,e,e2]
   rw[<- h4];conv=>lhs;rw[<- h3]
   simp
 . rintro⟨a,b,e,⟨ls,e2,h2⟩,h1⟩;cases ls with
   |nil=>
    refine⟨b,[],?_,h1,[],rfl,fun x hx=>by simp at hx⟩;rw[e,e2];simp
   |cons c ls=>
    refine⟨c,(ls++[b]).flatten,?_,h2 c (zL ..),ls++[b],rfl,fun x hx=>?_⟩
    . rw[e,e2];simp
    . rcases zM.1 hx with hx|hx
      . exact h2 x (zP _ hx)
      . rw[zK.1 hx];exact h1
theorem plusL_rev{f g:List Wd->Prop}(h:RevL f g):RevL (plusL f) (plusL g):=fun l=>by
 rw[starL_snoc];constructor
 . rintro⟨a,b,e,h1,h2⟩;exact⟨b.reverse,a.reverse,by rw[e,List.reverse_append],(h b).1 h2,(starL_rev h a).1 h1⟩
 . rintro⟨a,b,e,h1,h2⟩;refine⟨b.reverse,a.reverse,?_,(starL_rev h _).2 (by rw[List.reverse_reverse];exact h2),(h _).2 (by rw[List.reverse_reverse];exact h1)⟩;rw[<- List.reverse_append,<- e,List.reverse_reverse]
theorem altL_rev{kids:List Pt}(ih:∀x∈kids,RevL (willL x) (willL (turnP x))):RevL (altL (kids.map willL)) (altL ((kids.map turnP).map willL)):=fun l=>by
 constructor
 . rintro⟨f,hf,h⟩;obtain⟨y,hy,rfl⟩:=zV.1 hf;obtain⟨x,hx,rfl⟩:=zV.1 hy;exact⟨willL x,zW hx,(ih x hx l).1 h⟩
 . rintro⟨f,hf,h⟩;obtain⟨x,hx,rfl⟩:=zV.1 hf;exact⟨willL (turnP x),zW (zW hx),(ih x hx l).2 h⟩
theorem will_turn:∀t,RevL (willL t) (willL (turnP t)):=by
 intro t;induction t using Pt.ind with
 |h k w kids ih=>
  intro l;have ha:=altL_rev ih;rw[turnP_mk,willL_mk,willL_mk];unfold kindL;by_cases h1:k=1
  . rw[if_pos h1,if_pos h1];constructor
    . rintro rfl;rfl
    . intro h;rw[<- List.reverse_reverse l,h];rfl
  . rw[if_neg h1,if_neg h1];by_cases h2:k=2
    . rw[if_pos h2,if_pos h2,if_pos h2,List.map_reverse];refine seqL_rev _ _ (by simp) (fun i f g hf hg=>?_) l;rw[zI]at hf hg;rw[zI]at hg;cases hx:kids[i]? with
      |none=>rw[hx]at hf;simp at hf
      |some x=>
       rw[hx]at hf hg;simp at hf hg;subst hf hg;exact ih x (zC hx)
    . rw[if_neg h2,if_neg h2,if_neg h2];split
      . exact starL_rev ha l
      . split
        . exact plusL_rev ha l
        . split
          . have h3:(l=[]↔l.reverse=[]):=by simp
            rw[h3,ha l]
          . exact ha l
theorem goE_turn{E:List Eg}:∀(l:List Wd) (x y:Nat),goE (E.map turnE) x l y↔goE E y l.reverse x:=by
 have key:∀(E:List Eg) (l:List Wd) (x y:Nat),goE E x l y->goE (E.map turnE) y l.reverse x:=by
  intro E l;induction l with
  |nil=>intro x y h;exact Eq.symm h
  |cons p l ih=>
   rintro x y ⟨z,hz,h⟩;rw[List.reverse_cons];exact goE_snoc _ _ _ _ _ (ih z y h) (zV.2 ⟨(x,p,z),hz,rfl⟩)
 have hE:(E.map turnE).map turnE=E:=by
  rw[List.map_map];conv=>rhs;rw[<- List.map_id E]
  exact yS fun e _=>rfl
 intro l x y;constructor
 . intro h;have:=key (E.map turnE) l x y h;rw[hE]at this;exact this
 . intro h;have:=key E l.reverse y x h;rw[List.reverse_reverse]at this;exact this
theorem search_back{kp:Nat->Prop}{fs:List Fa}{p:Pt}(hp:mayP p=true){x y:Nat}{X Y:Wd}(hx:(vertsL fs)[x]?=some X)(hy:(vertsL fs)[y]?=some Y):(sdOf kp (vertsL fs).length ((fs.map (egOf (vertsL fs))).map turnE) (autoOf (turnP p))).leads [y] x↔leadP fs p X Y:=by
 obtain⟨hm,hw⟩:=auto_will (may_turn hp);rw[leads_iff hm (fun e he=>by
  obtain⟨e',he',rfl⟩:=zV.1 he;have:=edge_in fs e' he';exact⟨this.2,this.1⟩)]
 have hf:∀f∈fs,f.1∈vertsL fs/\f.2.2∈vertsL fs:=fun f hf=>⟨mem_verts.2 ⟨f,hf,.inl rfl⟩,mem_verts.2 ⟨f,hf,.inr rfl⟩⟩
 unfold leadP leadF;constructor
 . rintro⟨l,hg,ha⟩;exact⟨zC hx,l.reverse,(will_turn p l).1 ((hw l).1 ha),(goE_go (verts_nodup fs) hf _ x y X Y hx hy).1 ((goE_turn l y x).1 hg)⟩
 . rintro⟨_,l,ha,hg⟩;refine⟨l.reverse,(goE_turn _ y x).2 (by rw[List.reverse_reverse];exact(goE_go (verts_nodup fs) hf _ x y X Y hx hy).2 hg),(hw _).2 ((will_turn p _).2 ?_)⟩;rw[List.reverse_reverse];exact ha
theorem sol_narrow{ls:List Lk}{m:Nat}(hl:∀l∈ls,l.fr<m/\l.to<m){c:Ch}{s:Nat->Nat}:SolC ls m (narrowC ls c) s↔SolC ls m c s:=by
 constructor
 . rintro⟨h1,h2⟩;exact⟨fun k hk=>narrow_sub (h1 k hk),h2⟩
 . rintro⟨h1,h2⟩;refine⟨fun k hk=>?_,h2⟩;refine narrow_all (D:=fun j x=>j<m/\x=s j) (fun l hl2=>⟨fun v hv=>⟨s l.fr,⟨(hl l hl2).1,rfl⟩,by rw[hv.2];exact h2 l hl2⟩,fun u hu=>⟨s l.to,⟨(hl l hl2).2,rfl⟩,by rw[hu.2];exact h2 l hl2⟩⟩) (fun j x hx=>?_) k (s k) ⟨hk,rfl⟩;rw[hx.2];exact h1 j hx.1
noncomputable def ringB (l:Lk) (v:Nat):Bool:=@decide (l.R v v) (Classical.propDecidable _)
theorem ringB_iff{l:Lk}{v:Nat}:ringB l v=true↔l.R v v:=@decide_eq_true_iff _ (Classical.propDecidable _)
noncomputable def ringC (c:Ch) (l:Lk):Ch:=c.set l.fr ((atC c l.fr).filter (ringB l))
theorem ring_len(c:Ch)(l:Lk):(ringC c l).length=c.length:=by simp[ringC]
theorem rings_len(rs:List Lk):∀(c:Ch),(rs.foldl ringC c).length=c.length:=by
 induction rs with
 |nil=>intro c;rfl
 |cons r rs ih=>intro c;rw[yM,ih,ring_len]
theorem sol_ring{ls:List Lk}{m:Nat}{c:Ch}(hc:c.length=m){r:Lk}(hr:r.fr<m){s:Nat->Nat}:SolC ls m (ringC c r) s↔SolC ls m c s/\r.R (s r.fr) (s r.fr):=by
 have hat:∀k,atC (ringC c r) k=if r.fr=k then (atC c r.fr).filter (ringB r)else atC c k:=fun k=>atC_set c _ k (by omega)
 constructor
 . rintro⟨h1,h2⟩;refine⟨⟨fun k hk=>?_,h2⟩,?_⟩
   . have:=h1 k hk;rw[hat]at this;split at this
     . rename_i e;subst e;exact(zY.1 this).1
     . exact this
   . have:=h1 r.fr hr;rw[hat,if_pos rfl]at this;exact ringB_iff.1 (zY.1 this).2
 . rintro⟨⟨h1,h2⟩,h3⟩;refine⟨fun k hk=>?_,h2⟩;rw[hat];split
   . rename_i e;subst e;exact zY.2 ⟨h1 _ hk,ringB_iff.2 h3⟩
   . exact h1 k hk
theorem sol_rings{ls:List Lk}{m:Nat}{s:Nat->Nat}:∀(rs:List Lk) (c:Ch),c.length=m->(∀r∈rs,r.fr<m)->(SolC ls m (rs.foldl ringC c) s↔SolC ls m c s/\∀r∈rs,r.R (s r.fr) (s r.fr))
 |[],c,_,_=>by simp
 |r::rs,c,hc,hr=>by
  rw[yM,sol_rings rs (ringC c r) (by rw[ring_len];exact hc) (fun x hx=>hr x (zP _ hx)),sol_ring hc (hr r (zL ..))];simp only[List.forall_mem_cons];constructor
  . rintro⟨⟨h1,h2⟩,h3⟩;exact⟨h1,h2,h3⟩
  . rintro⟨h1,h2,h3⟩;exact⟨⟨h1,h2⟩,h3⟩
theorem ring_rise{c:Ch}(h:∀k,(atC c k).Pairwise (·<·))(r:Lk)(hr:r.fr<c.length):∀k,(atC (ringC c r) k).Pairwise (·<·):=fun k=>by
 rw[ringC,atC_set c _ k hr];split
 . exact(h _).filter _
 . exact h k
theorem narrow_rise{ls:List Lk}{c:Ch}(h:∀k,(atC c k).Pairwise (·<·)):∀k,(atC (narrowC ls c) k).Pairwise (·<·):=fun k=>by
 rw[narrow_at];exact(h k).filter _
theorem rings_rise:∀(rs:List Lk) (c:Ch),(∀r∈rs,r.fr<c.length)->(∀k,(atC c k).Pairwise (·<·))->∀k,(atC (rs.foldl ringC c) k).Pairwise (·<·)
 |[],_,_,h=>h
 |r::rs,c,hr,h=>by
  rw[yM];exact rings_rise rs _ (fun x hx=>by rw[ring_len];exact hr x (zP _ hx)) (ring_rise h r (hr r (zL ..)))
noncomputable def rowsN (ls rs:List Lk) (m:Nat) (us:List Nat) (c:Ch):List (List Nat):=fillL ls m us (narrowC ls (rs.foldl ringC (narrowC ls c))) []
theorem mem_rowsN{ls rs:List Lk}{m:Nat}{us:List Nat}{c:Ch}(hl:∀l∈ls,l.fr<m/\l.to<m)(hr:∀r∈rs,r.fr<m)(hu:∀u∈us,u<m)(hc:c.length=m)(r:List Nat):r∈rowsN ls rs m us c↔∃s,SolC ls m c s/\(∀r∈rs,r.R (s r.fr) (s r.fr))/\r=us.map s:=by
 have h2:(narrowC ls c).length=m:=by rw[narrow_len];exact hc
 rw[rowsN,mem_fill hl us _ _ _ hu (by rw[narrow_len,rings_len];exact h2)];constructor
 . rintro⟨s,h,e⟩;rw[sol_narrow hl,sol_rings rs _ h2 hr,sol_narrow hl]at h;exact⟨s,h.1,h.2,by simpa using e⟩
 . rintro⟨s,h,h1,e⟩;refine⟨s,?_,by simpa using e⟩;rw[sol_narrow hl,sol_rings rs _ h2 hr,sol_narrow hl];exact⟨h,h1⟩
theorem rowsN_rise{ls rs:List Lk}{m:Nat}{us:List Nat}{c:Ch}(hr:∀r∈rs,r.fr<m)(hu:∀u∈us,u<m)(hc:c.length=m)(hp:∀k,(atC c k).Pairwise (·<·)):(rowsN ls rs m us c).Pairwise (fun a b=>lessN a b=true):=by
 refine fill_rise us _ _ (narrow_rise (rings_rise rs _ (fun r h=>by rw[narrow_len];have:=hr r h;omega) (narrow_rise hp))) (fun u h=>?_);rw[narrow_len,rings_len,narrow_len];have:=hu u h;omega
def firstT(V:List Wd)(t:Tm):List Nat:=if t.1=true then List.range V.length else if t.2∈V then [V.idxOf t.2]else []
def lkOf(fs:List Fa)(ts:List Tm)(a:Pa):Lk:=⟨ts.idxOf a.1,ts.idxOf a.2.2,fun u v=>leadP fs a.2.1 ((vertsL fs).getD u []) ((vertsL fs).getD v [])⟩
def isRing(ts:List Tm)(a:Pa):Bool:=decide (ts.idxOf a.1=ts.idxOf a.2.2)
theorem firstT_lt(V:List Wd)(t:Tm):∀u∈firstT V t,u<V.length:=fun u hu=>by
 unfold firstT at hu;split at hu
 . exact yJ.1 hu
 . split at hu
   . rename_i h;rw[zK.1 hu];exact yC h
   . simp at hu
theorem firstT_len(V:List Wd)(t:Tm):(firstT V t).length<=V.length+1:=by
 unfold firstT;split
 . simp
 . split<;>simp
theorem firstT_rise(V:List Wd)(t:Tm):(firstT V t).Pairwise (·<·):=by
 unfold firstT;split
 . exact List.pairwise_lt_range
 . split<;>simp
theorem getD_idx{V:List Wd}{x:Wd}(h:x∈V):V.getD (V.idxOf x) []=x:=by
 have:=yC h;rw[List.getD,zB this];simp
theorem rowsN_spec(fs:List Fa){vars:List Wd}{ats:List Pa}{ts:List Tm}(hts:ts.Nodup)(hmem:∀t,t∈ts↔∃a∈ats,t=a.1\/t=a.2.2)(hv:∀v∈vars,v∈namesP ats):
 RiseL lessR ((rowsN ((ats.filter fun a=> !isRing ts a).map (lkOf fs ts)) ((ats.filter (isRing ts)).map (lkOf fs ts)) ts.length (vars.map fun v=>ts.idxOf ((true,v):Tm)) (ts.map (firstT (vertsL fs)))).map fun r=>r.map fun i=>(vertsL fs).getD i [])/\
 ∀r,r∈((rowsN ((ats.filter fun a=> !isRing ts a).map (lkOf fs ts)) ((ats.filter (isRing ts)).map (lkOf fs ts)) ts.length (vars.map fun v=>ts.idxOf ((true,v):Tm)) (ts.map (firstT (vertsL fs)))).map fun r=>r.map fun i=>(vertsL fs).getD i [])↔RowP fs vars ats r:=by
 obtain⟨V,hV⟩:∃V,V=vertsL fs:=⟨_,rfl⟩
 have hidx:∀a∈ats,ts.idxOf a.1<ts.length/\ts.idxOf a.2.2<ts.length:=fun a ha=>⟨yC ((hmem _).2 ⟨a,ha,.inl rfl⟩),yC ((hmem _).2 ⟨a,ha,.inr rfl⟩)⟩
 have hl:∀l∈(ats.filter fun a=> !isRing ts a).map (lkOf fs ts),l.fr<ts.length/\l.to<ts.length:=fun l hl=>by
  obtain⟨a,ha,rfl⟩:=zV.1 hl;exact hidx a (zY.1 ha).1
 have hr:∀l∈(ats.filter (isRing ts)).map (lkOf fs ts),l.fr<ts.length:=fun l hl=>by
  obtain⟨a,ha,rfl⟩:=zV.1 hl;exact(hidx a (zY.1 ha).1).1
 have hvt:∀v∈vars,((true,v):Tm)∈ts:=fun v h=>by
  obtain⟨a,ha,⟨h1,e⟩|⟨h1,e⟩⟩:=mem_namesP_iff.1 (hv v h)
  . exact(hmem _).2 ⟨a,ha,.inl (by rw[e,<- h1])⟩
  . exact(hmem _).2 ⟨a,ha,.inr (by rw[e,<- h1])⟩
 have hu:∀u∈vars.map (fun v=>ts.idxOf ((true,v):Tm)),u<ts.length:=fun u h=>by
  obtain⟨v,hv2,rfl⟩:=zV.1 h;exact yC (hvt v hv2)
 have hcl:(ts.map (firstT V)).length=ts.length:=by simp
 have hat:∀k t,ts[k]?=some t->atC (ts.map (firstT V)) k=firstT V t:=fun k t h=>by
  unfold atC;rw[List.getD,zI,h];rfl
 have hp:∀k,(atC (ts.map (firstT V)) k).Pairwise (·<·):=fun k=>by
  by_cases hk:k<ts.length
  . rw[hat k _ (zB hk)];exact firstT_rise V _
  . unfold atC;rw[List.getD,yE (by simpa using hk)];simp
 have hti:∀t∈ts,ts[ts.idxOf t]?=some t:=fun t ht=>by
  rw[zB (yC ht)];simp
 rw[<- hV];have hmemN:=mem_rowsN (c:=ts.map (firstT V)) hl hr hu hcl;have hsol:∀s,SolC ((ats.filter fun a=> !isRing ts a).map (lkOf fs ts)) ts.length (ts.map (firstT V)) s->(∀r∈(ats.filter (isRing ts)).map (lkOf fs ts),r.R (s r.fr) (s r.fr))->∀a∈ats,leadP fs a.2.1 (V.getD (s (ts.idxOf a.1)) []) (V.getD (s (ts.idxOf a.2.2)) []):=fun s h1 h2 a ha=>by
  cases hri:isRing ts a with
  |true=>
   have h3:=h2 _ (zW (zY.2 ⟨ha,hri⟩));have h4:ts.idxOf a.1=ts.idxOf a.2.2:=of_decide_eq_true hri;rw[hV,<- h4];exact h3
  |false=>
   rw[hV];exact h1.2 _ (zW (zY.2 ⟨ha,by rw[hri];rfl⟩))
 constructor
 . have h1:=rowsN_rise (ls:=(ats.filter fun a=> !isRing ts a).map (lkOf fs ts)) hr hu hcl hp;have hlt:∀r∈rowsN ((ats.filter fun a=> !isRing ts a).map (lkOf fs ts)) ((ats.filter (isRing ts)).map (lkOf fs ts)) ts.length (vars.map fun v=>ts.idxOf ((true,v):Tm)) (ts.map (firstT V)),∀x∈r,x<V.length:=fun r hr2 x hx=>by
    obtain⟨s,hs,_,e⟩:=(hmemN r).1 hr2;rw[e]at hx;obtain⟨u,hu2,rfl⟩:=zV.1 hx;have h3:=hs.1 u (hu u hu2);rw[hat u _ (zB (hu u hu2))]at h3;exact firstT_lt V _ _ h3
   unfold RiseL;rw[List.pairwise_map];refine List.Pairwise.imp_of_mem (fun {a b} ha hb hab=>?_) h1;rw[hV];exact less_names (verts_rise fs) a b (by rw[<- hV];exact hlt a ha) (by rw[<- hV];exact hlt b hb) hab
 . intro r;rw[zV];constructor
   . rintro⟨r0,hr0,rfl⟩;obtain⟨s,h1,h2,rfl⟩:=(hmemN r0).1 hr0;have h3:=hsol s h1 h2;refine⟨fun v=>V.getD (s (ts.idxOf ((true,v):Tm))) [],fun a ha=>?_,by rw[List.map_map,List.map_map];rfl⟩;have htv:∀t∈ts,tv (fun v=>V.getD (s (ts.idxOf ((true,v):Tm))) []) t=V.getD (s (ts.idxOf t)) []:=fun t ht=>by
      obtain⟨b,x⟩:=t;cases b with
      |true=>rfl
      |false=>
       have h4:=h1.1 (ts.idxOf ((false,x):Tm)) (yC ht);rw[hat _ _ (hti _ ht)]at h4;unfold firstT at h4;rw[if_neg (by simp)]at h4;split at h4
       . rename_i hx;rw[zK.1 h4,getD_idx hx];rfl
       . simp at h4
     rw[htv _ ((hmem _).2 ⟨a,ha,.inl rfl⟩),htv _ ((hmem _).2 ⟨a,ha,.inr rfl⟩)];exact h3 a ha
   . rintro⟨g,hg,e⟩;obtain⟨s,hs⟩:∃s:Nat->Nat,s=fun k=>V.idxOf (tv g (ts.getD k (false,[]))):=⟨_,rfl⟩
     have hst:∀t∈ts,s (ts.idxOf t)=V.idxOf (tv g t):=fun t ht=>by
      rw[hs];dsimp only;rw[List.getD,hti t ht];rfl
     have htv:∀t∈ts,tv g t∈V:=fun t ht=>by
      obtain⟨a,ha,rfl|rfl⟩:=(hmem t).1 ht
      . rw[hV];exact(hg a ha).1
      . rw[hV];exact lead_vert (hg a ha)
     have hget:∀t∈ts,V.getD (s (ts.idxOf t)) []=tv g t:=fun t ht=>by
      rw[hst t ht];exact getD_idx (htv t ht)
     have hlead:∀a∈ats,(lkOf fs ts a).R (s (lkOf fs ts a).fr) (s (lkOf fs ts a).to):=fun a ha=>by
      show leadP fs a.2.1 ((vertsL fs).getD (s (ts.idxOf a.1)) []) ((vertsL fs).getD (s (ts.idxOf a.2.2)) []);rw[<- hV,hget _ ((hmem _).2 ⟨a,ha,.inl rfl⟩),hget _ ((hmem _).2 ⟨a,ha,.inr rfl⟩)];exact hg a ha
     refine⟨vars.map fun v=>s (ts.idxOf ((true,v):Tm)),(hmemN _).2 ⟨s,⟨fun k hk=>?_,fun l hl2=>?_⟩,fun l hl2=>?_,by rw[List.map_map];rfl⟩,?_⟩
     . have hk2:ts[k]?=some ts[k]:=zB hk;have hidk:ts.idxOf ts[k]=k:=by
        have:=hti ts[k] (List.getElem_mem hk);exact(List.getElem?_inj (yC (List.getElem_mem hk)) hts).1 (by rw[this,hk2])
       rw[hat k _ hk2];have h5:=hst ts[k] (List.getElem_mem hk);rw[hidk]at h5;rw[h5];have h6:=htv ts[k] (List.getElem_mem hk);unfold firstT;obtain⟨t,ht⟩:∃t,t=ts[k]:=⟨_,rfl⟩
       rw[<- ht]at h6 ⊢;obtain⟨b,x⟩:=t;cases b with
       |true=>
        rw[if_pos rfl];exact yJ.2 (yC h6)
       |false=>
        have h7:tv g (false,x)=x:=rfl;rw[h7]at h6 ⊢;rw[if_neg (by simp),if_pos h6];exact zK.2 rfl
     . obtain⟨a,ha,rfl⟩:=zV.1 hl2;exact hlead a (zY.1 ha).1
     . obtain⟨a,ha,rfl⟩:=zV.1 hl2;have h8:=hlead a (zY.1 ha).1;have h9:(lkOf fs ts a).fr=(lkOf fs ts a).to:=of_decide_eq_true (zY.1 ha).2;rw[<- h9]at h8;exact h8
     . rw[e,List.map_map];refine yS fun v hv2=>?_
       exact hget _ (hvt v hv2)
end Go.Proofs.YtkbgmcmcpbegjaaGreatDoor
namespace Go.Proofs.YtkbgmcmcpbegjaaGreatDoor
open Go.RowKit Go.Shelf
theorem wpList_make_many(w:World){ops:Array Oper}{rest:List Oper}{o:Oper}{a:Act}{Q:Exit->Act->World->Prop}
 (hg:o.guard=none) (l c:Operand) (t:TypeId) (hop:o.op=Op.makeSlice t l c)
 (e:TypeId) (i:TypeInfo) (z:Value) (ht:Tryz.prog.underlying t=some (.slice e)) (hi:Tryz.prog.info? e=some i) (hz:i.zero=some z) (k:Nat) (hsize:i.size=k) (zs:Array Value) (hz1:z.cells=zs)
 (kl kc:IntKind) (n:Nat) (hl:a.eval l=.int kl (n:Int)) (hc:a.eval c=.int kc (n:Int)) (hbytes:i.bytes*n<=281474976710656) (h63:n<=9223372036854775807)
 (hK:wpList Tryz.prog ops Q rest (a.put o.dst (.slice (some ⟨w.heap.size,0,none⟩) n n)) (w.alloc (.cells (madeCells zs (n*k)) e))):
 wpList Tryz.prog ops Q (o::rest) a w:=by
 refine wpList_plain hg fun K hK'=>?_
 have hb':(i.bytes:Int)*(n:Int)<=281474976710656:=by
  have h:((i.bytes*n:Nat):Int)<=281474976710656:=by omega
  rwa[Int.natCast_mul]at h
 have hrun:=run_make (P:=Tryz.prog) w t e i z ht hi hz kl kc n n (by omega) (Int.le_refl _) hb' (by omega);simp only[Int.toNat_natCast,hsize,hz1]at hrun;unfold Oper.wp;simp[execOp,hop,hl,hc,hrun,Result.andThen];exact hK' _ _ hK
def KF(w:World)(kb n:Nat)(f:Nat->Vt):Prop:=
 ∃cur:Array Value,w.heap[kb]?=some (.cells cur 25 (0,0))/\cur.size=n*3/\∀p,p<n->cur[p*3]?=some (.int .i64 (f p).kind)/\cur[p*3+1]?=some (.string ⟨(f p).word.toArray⟩)/\cur[p*3+2]?=some (f p).val
theorem KF.lt{w:World}{kb n:Nat}{f:Nat->Vt}(h:KF w kb n f):kb<w.heap.size:=by
 obtain⟨cur,h1,_⟩:=h;exact lt_of_block h1
theorem KF.get{w:World}{kb n:Nat}{f:Nat->Vt}(h:KF w kb n f){p:Nat}(hp:p<n):(w.cell? ⟨kb,p*3,none⟩=some (.int .i64 (f p).kind)/\w.cell? ⟨kb,p*3+1,none⟩=some (.string ⟨(f p).word.toArray⟩)/\w.cell? ⟨kb,p*3+2,none⟩=some (f p).val)/\w.frozen? ⟨kb,p*3,none⟩=false/\w.frozen? ⟨kb,p*3+1,none⟩=false/\w.frozen? ⟨kb,p*3+2,none⟩=false:=by
 obtain⟨cur,h1,_,h3⟩:=h;obtain⟨a1,a2,a3⟩:=h3 p hp;exact⟨⟨by simp only[World.cell?,h1];exact a1,by simp only[World.cell?,h1];exact a2,by simp only[World.cell?,h1];exact a3⟩,by simp[World.frozen?,h1],by simp[World.frozen?,h1],by simp[World.frozen?,h1]⟩
theorem KF.keep{w w':World}{kb n:Nat}{f:Nat->Vt}(h:KF w kb n f)(hk:w'.heap[kb]?=w.heap[kb]?):KF w' kb n f:=by
 obtain⟨cur,h1,h2⟩:=h;exact⟨cur,hk.trans h1,h2⟩
def set3K(w:World)(b o:Nat)(c0 c1 c2:Value):World:=((w.setCell ⟨b,o,none⟩ c0).setCell ⟨b,o+1,none⟩ c1).setCell ⟨b,o+2,none⟩ c2
theorem set3K_size(w:World)(b o:Nat)(c0 c1 c2:Value):(set3K w b o c0 c1 c2).heap.size=w.heap.size:=by simp[set3K]
theorem set3K_other(w:World)(b o:Nat)(c0 c1 c2:Value){k:Nat}(hk:k≠b):(set3K w b o c0 c1 c2).heap[k]?=w.heap[k]?:=by
 unfold set3K;rw[zN _ ⟨b,o+2,none⟩ _ _ hk,zN _ ⟨b,o+1,none⟩ _ _ hk,zN _ ⟨b,o,none⟩ _ _ hk]
theorem set3K_at{w:World}{b o:Nat}{c0 c1 c2:Value}{cur:Array Value}{t:TypeId}(h:w.heap[b]?=some (.cells cur t (0,0))):(set3K w b o c0 c1 c2).heap[b]?=some (.cells (((cur.setIfInBounds o c0).setIfInBounds (o+1) c1).setIfInBounds (o+2) c2) t (0,0)):=by
 simp[set3K,World.setCell,Array.getElem?_modify,h]
theorem below_set3K{B:Nat}{w w':World}(h:Below B w w'){b:Nat}(hb:B<=b)(o:Nat)(c0 c1 c2:Value):Below B w (set3K w' b o c0 c1 c2):=by
 refine⟨h.os,h.tape,h.output,by rw[set3K_size];exact h.size,fun k hk=>?_⟩;rw[set3K_other _ _ _ _ _ _ (by omega)];exact h.block k hk
theorem KF.set{w:World}{kb n:Nat}{f:Nat->Vt}(h:KF w kb n f)(i:Nat)(hi:i<n)(x:Vt):KF (set3K w kb (i*3) (.int .i64 x.kind) (.string ⟨x.word.toArray⟩) x.val) kb n (fun p=>if p=i then x else f p):=by
 obtain⟨cur,h1,h2,h3⟩:=h;refine⟨_,set3K_at h1,by simp[h2],fun p hp=>?_⟩;simp only[Array.getElem?_setIfInBounds,Array.size_setIfInBounds];by_cases e:p=i
 . subst e;simp only[if_pos];refine⟨?_,?_,?_⟩
   . rw[if_neg (by omega),if_neg (by omega),if_pos (by omega)]
   . rw[if_neg (by omega),if_pos (by omega)]
   . rw[if_pos (by omega)]
 . rw[if_neg e];refine⟨?_,?_,?_⟩
   . rw[if_neg (by omega),if_neg (by omega),if_neg (by omega)];exact(h3 p hp).1
   . rw[if_neg (by omega),if_neg (by omega),if_neg (by omega)];exact(h3 p hp).2.1
   . rw[if_neg (by omega),if_neg (by omega),if_neg (by omega)];exact(h3 p hp).2.2
abbrev vt0:Vt:=⟨0,[],.slice none 0 0,[]⟩
theorem KF.made(w:World)(n:Nat):KF (w.alloc (.cells (madeCells #[.int .i64 0,.string ⟨#[]⟩,.slice none 0 0] (n*3)) 25)) w.heap.size n (fun _=>vt0):=by
 refine⟨_,heap_alloc_new _ _,size_madeCells _ _,fun p hp=>?_⟩;have h0:∀j,j<n*3->(madeCells #[.int .i64 0,.string ⟨#[]⟩,.slice none 0 0] (n*3))[j]?=some (#[Value.int .i64 0,.string ⟨#[]⟩,.slice none 0 0][j%3]!):=fun j hj=>by
  unfold madeCells;rw[Array.getElem?_map,Array.getElem?_range,if_pos hj];rfl
 refine⟨?_,?_,?_⟩
 . rw[h0 _ (by omega),show p*3%3=0 by omega];rfl
 . rw[h0 _ (by omega),show (p*3+1)%3=1 by omega];rfl
 . rw[h0 _ (by omega),show (p*3+2)%3=2 by omega];rfl
theorem KF.sl{w:World}{kb n:Nat}{f:Nat->Vt}(h:KF w kb n f):NodS (fun k=>k=kb) w (.slice (some ⟨kb,0,none⟩) n n) ((List.range n).map f):=by
 refine⟨_,n,by simp,.inr ⟨kb,0,rfl,rfl,h.lt,fun j x hx c u hu=>?_⟩⟩;rw[zI]at hx;have hj:j<n:=by
  by_cases hj:j<n
  . exact hj
  . rw[yE (by simp;omega)]at hx;simp at hx
 rw[yQ hj]at hx;simp at hx;subst hx;obtain⟨⟨a1,a2,a3⟩,_⟩:=h.get hj
 match c,hu with
 |0,hu=>simp at hu;subst hu;simpa using a1
 |1,hu=>simp at hu;subst hu;simpa using a2
 |2,hu=>simp at hu;subst hu;simpa using a3
 |c+3,hu=>simp at hu
def revF(f:Nat->Vt)(n i:Nat)(p:Nat):Vt:=if p<i\/n-i<=p then f (n-1-p)else f p
theorem revF_zero(f:Nat->Vt)(n:Nat):∀p,p<n->revF f n 0 p=f p:=fun p hp=>by
 unfold revF;rw[if_neg (by omega)]
theorem KF.congr{w:World}{kb n:Nat}{f g:Nat->Vt}(h:KF w kb n f)(hfg:∀p,p<n->g p=f p):KF w kb n g:=by
 obtain⟨cur,h1,h2,h3⟩:=h;exact⟨cur,h1,h2,fun p hp=>by rw[hfg p hp];exact h3 p hp⟩
set_option maxHeartbeats 8000000 in
theorem revP_any{w:World}{kb n:Nat}{f:Nat->Vt}(h:KF w kb n f)(hn:n<=1000)(hv:∀p,p<n->∃a k c,(f p).val=.slice a k c):
 Calls Tryz.prog 97 #[.slice (some ⟨kb,0,none⟩) n n] w fun e w'=>e=.returned (.tuple #[])/\KF w' kb n (fun p=>f (n-1-p))/\Below kb w w'/\(∀k,k≠kb->w'.heap[k]?=w.heap[k]?)/\w'.heap.size=w.heap.size:=by
 have H:=zA h;have HV:=zA hv;clear h hv;go_enter Tryz.func97,Tryz.ntmps97;go_wp2_with fail;go_loopw [2,3] (fun a b wr=>∃(i:Nat) (z:Int),2*i<=n+1/\a=.int .i64 i/\b=.int .i64 z/\Hid (z=(n:Int)-1-i)/\Hid (KF wr kb n (revF f n i))/\Hid (Below kb w wr)/\Hid (∀k,k≠kb->wr.heap[k]?=w.heap[k]?)/\Hid (wr.heap.size=w.heap.size)) (fun a _ _=>n-(intOf a).toNat)
 case atStart=>exact⟨0,_,by omega,rfl,rfl,zA (by go_num),zA (H.out.congr (revF_zero f n)),zA (zE _ _),zA (fun _ _=>rfl),zA rfl⟩
 case round=>
  obtain⟨i,z,hi,rfl,rfl,HZ,HK,HB,HO,HS⟩:=hrel;obtain⟨wx,hwx⟩:∃wx,wx=wr:=⟨_,rfl⟩
  subst hwx;by_cases hlt:(i:Int)<z
  . obtain⟨j,hj⟩:∃j:Nat,z=j:=⟨z.toNat,by omega⟩
    have hjn:j+i+1=n:=by have:=HZ.out;omega
    subst hj;have hij:i<j:=by omega
    have hjn2:j<n:=by omega
    have hin2:i<n:=by omega
    have hiI:(i:Int)<(n:Int):=by omega
    have hjI:(j:Int)<(n:Int):=by omega
    have ei:revF f n i i=f i:=by unfold revF;rw[if_neg (by omega)]
    have ej:revF f n i j=f j:=by unfold revF;rw[if_neg (by omega)]
    obtain⟨⟨a1,a2,a3⟩,b1,b2,b3⟩:=HK.out.get hin2;obtain⟨⟨d1,d2,d3⟩,e1,e2,e3⟩:=HK.out.get hjn2;obtain⟨va,vk,vc,hvi⟩:=HV.out i hin2;obtain⟨ua,uk,uc,huj⟩:=HV.out j hjn2;rw[ei,hvi]at a3;rw[ei]at a1 a2;rw[ej,huj]at d3;rw[ej]at d1 d2;obtain⟨W1,hW1⟩:∃W,W=set3K wx kb (i*3) (.int .i64 (f j).kind) (.string ⟨(f j).word.toArray⟩) (.slice ua uk uc):=⟨_,rfl⟩
    have hk1:KF W1 kb n (fun p=>if p=i then f j else revF f n i p):=by
     rw[hW1,<- huj];exact HK.out.set i hin2 (f j)
    obtain⟨⟨x1,x2,x3⟩,y1,y2,y3⟩:=hk1.get hjn2;rw[if_neg (by omega),ej]at x1 x2 x3;rw[huj]at x3;obtain⟨W2,hW2⟩:∃W,W=set3K W1 kb (j*3) (.int .i64 (f i).kind) (.string ⟨(f i).word.toArray⟩) (.slice va vk vc):=⟨_,rfl⟩
    have HK2:Hid (KF W2 kb n (revF f n (i+1))):=zA (by
     have h2:=hk1.set j hjn2 (f i);rw[hvi,<- hW2]at h2;refine h2.congr (fun p hp=>?_);unfold revF;by_cases p1:p=j
     . subst p1;rw[if_pos rfl,if_pos (by omega),show n-1-p=i by omega]
     . rw[if_neg p1];by_cases p2:p=i
       . subst p2;rw[if_pos rfl,if_pos (by omega),show n-1-p=j by omega]
       . rw[if_neg p2];by_cases p3:p<i\/n-i<=p
         . rw[if_pos p3,if_pos (by omega)]
         . rw[if_neg p3,if_neg (by omega)])
    have HB2:Hid (Below kb w W2):=zA (by rw[hW2,hW1];exact below_set3K (below_set3K HB.out (zD _) _ _ _ _) (zD _) _ _ _ _);have HO2:Hid (∀k,k≠kb->W2.heap[k]?=w.heap[k]?):=zA (fun k hk=>by rw[hW2,set3K_other _ _ _ _ _ _ hk,hW1,set3K_other _ _ _ _ _ _ hk];exact HO.out k hk);have HS2:Hid (W2.heap.size=w.heap.size):=zA (by rw[hW2,set3K_size,hW1,set3K_size];exact HS.out);have HW2:Hid (W2=((((((wx.setCell ⟨kb,i*3,none⟩ (.int .i64 (f j).kind)).setCell ⟨kb,i*3+1,none⟩ (.string ⟨(f j).word.toArray⟩)).setCell ⟨kb,i*3+2,none⟩ (.slice ua uk uc)).setCell ⟨kb,j*3,none⟩ (.int .i64 (f i).kind)).setCell ⟨kb,j*3+1,none⟩ (.string ⟨(f i).word.toArray⟩)).setCell ⟨kb,j*3+2,none⟩ (.slice va vk vc))):=zA (by rw[hW2,hW1];rfl);rw[hW1]at x1 x2 x3 y1 y2 y3;unfold set3K at x1 x2 x3 y1 y2 y3;obtain⟨ki,hki⟩:∃q,q=(f i).kind:=⟨_,rfl⟩
    obtain⟨kj,hkj⟩:∃q,q=(f j).kind:=⟨_,rfl⟩
    obtain⟨si,hsi⟩:∃q,q=(f i).word.toArray:=⟨_,rfl⟩
    obtain⟨sj,hsj⟩:∃q,q=(f j).word.toArray:=⟨_,rfl⟩
    rw[<- hki,<- hkj,<- hsi,<- hsj]at HW2;rw[<- hki]at a1;rw[<- hsi]at a2;rw[<- hkj]at d1;rw[<- hsj]at d2;rw[<- hkj,<- hsj]at x1 x2 x3 y1 y2 y3;have h2i:2*(i+1)<=n+1:=by omega
    clear hk1 hW1 hW2 hki hkj hsi hsj ei ej hvi huj hjn;go_wp2_with fail;go_region;all_goals (
     go_wp2;go_roundw
     case rel=>exact⟨i+1,_,h2i,by go_num,rfl,zA (by have:=HZ.out;go_num),by rw[<- HW2.out];exact zA (HK2.out.keep rfl),by rw[<- HW2.out];exact zA HB2.out.drew,by rw[<- HW2.out];exact zA HO2.out,by rw[<- HW2.out];exact zA HS2.out⟩
     case measure=>simp[intOf];omega)
  . have hni:n-i<=i+1:=by have:=HZ.out;omega
    have HK2:Hid (KF wx kb n (fun p=>f (n-1-p))):=zA (HK.out.congr (fun p hp=>by
     unfold revF;by_cases p1:p<i\/n-i<=p
     . rw[if_pos p1]
     . rw[if_neg p1,show n-1-p=p by omega]))
    go_wp2;go_end0;exact⟨rfl,HK2.out,HB.out,HO.out,HS.out⟩
def TurnPE(w:World)(t:Vt)(e:Ending)(w':World):Prop:=
 ∃(kb n:Nat) (kids:List Vt),e=.returned (.agg #[.int .i64 t.kind,.string ⟨t.word.toArray⟩,.slice (some ⟨kb,0,none⟩) n n])/\VOk (fun g=>w.heap.size<=g) w' ⟨t.kind,t.word,.slice (some ⟨kb,0,none⟩) n n,kids⟩/\Vt.pt ⟨t.kind,t.word,.slice (some ⟨kb,0,none⟩) n n,kids⟩=turnP t.pt/\Below w.heap.size w w'
theorem range_turn{l:List Vt}{f:Nat->Vt}{n:Nat}(hn:n=l.length)(h:∀p,p<n->∃x,l[p]?=some x/\(f p).pt=turnP x.pt):((List.range n).map f).map Vt.pt=(l.map Vt.pt).map turnP:=by
 apply List.ext_getElem?;intro p;rw[zI,zI,zI,zI];by_cases hp:p<n
 . obtain⟨x,h1,h2⟩:=h p hp;rw[yQ hp,h1];simp[h2]
 . rw[yE (by simp;omega),yE (by omega)];rfl
theorem range_back{l:List Vt}{f:Nat->Vt}{n:Nat}(hn:n=l.length)(h:∀p,p<n->∃x,l[p]?=some x/\(f p).pt=turnP x.pt):((List.range n).map fun p=>f (n-1-p)).map Vt.pt=((l.map Vt.pt).map turnP).reverse:=by
 rw[<- range_turn hn h];apply List.ext_getElem?;intro p;by_cases hp:p<n
 . rw[List.getElem?_reverse (by simp;exact hp)];simp only[zH,List.length_range];rw[zI,zI,zI,zI,yQ hp,yQ (by omega)];rfl
 . rw[yE (by simp;omega),yE (by simp;omega)]
theorem three_cellsT{w:World}{b:Nat}{c0 c1 c2:Value}{t:TypeId}(h:w.heap[b]?=some (.cells #[c0,c1,c2] t (0,0))):(w.cell? ⟨b,0,none⟩=some c0/\w.cell? ⟨b,1,none⟩=some c1/\w.cell? ⟨b,2,none⟩=some c2)/\w.frozen? ⟨b,0,none⟩=false/\w.frozen? ⟨b,1,none⟩=false/\w.frozen? ⟨b,2,none⟩=false:=by
 simp[World.cell?,World.frozen?,h]
structure TkI (l:List Vt) (kb n:Nat) (w3:World) (i:Nat) (f:Nat->Vt) (wr:World):Prop where
 kf:KF wr kb n f
 bel:Below kb w3 wr
 sz:w3.heap.size<=wr.heap.size
 ok:∀p,p<i->∃x,l[p]?=some x/\VOk (fun g=>kb<g) wr (f p)/\(f p).pt=turnP x.pt/\∃a k c,(f p).val=.slice a k c
theorem TkI.step{l:List Vt}{kb n:Nat}{w3:World}{i:Nat}{f:Nat->Vt}{wr wz w5:World}(h:TkI l kb n w3 i f wr)(hi:i<n){x:Vt}(hx:l[i]?=some x)(hbz:Below wr.heap.size wr wz)(hb5:Below wz.heap.size wz w5){kb' n':Nat}{kids:List Vt}(hv:VOk (fun g=>wz.heap.size<=g) w5 ⟨x.kind,x.word,.slice (some ⟨kb',0,none⟩) n' n',kids⟩)(hp:Vt.pt ⟨x.kind,x.word,.slice (some ⟨kb',0,none⟩) n' n',kids⟩=turnP x.pt):
 (KF w5 kb n f)/\TkI l kb n w3 (i+1) (fun p=>if p=i then⟨x.kind,x.word,.slice (some ⟨kb',0,none⟩) n' n',kids⟩else f p) (set3K w5 kb (i*3) (.int .i64 x.kind) (.string ⟨x.word.toArray⟩) (.slice (some ⟨kb',0,none⟩) n' n')):=by
 have hkb:=h.kf.lt;have hz:=hbz.size;have hz5:=hb5.size;have h5:∀k,k<wr.heap.size->w5.heap[k]?=wr.heap[k]?:=fun k hk=>(hb5.block k (by omega)).trans (hbz.block k hk)
 have hk5:KF w5 kb n f:=h.kf.keep (h5 kb hkb);refine⟨hk5,hk5.set i hi ⟨x.kind,x.word,.slice (some ⟨kb',0,none⟩) n' n',kids⟩,below_set3K ⟨(hb5.os.trans hbz.os).trans h.bel.os,(hb5.tape.trans hbz.tape).trans h.bel.tape,(hb5.output.trans hbz.output).trans h.bel.output,by have:=h.sz;omega,fun k hk=>(h5 k (by omega)).trans (h.bel.block k hk)⟩ (zD _) _ _ _ _,by rw[set3K_size];have:=h.sz;omega,fun p hp2=>?_⟩;have hset:∀ {y:Vt} {Y:Nat->Prop},VOk Y w5 y->(∀g,Y g->kb<g)->VOk (fun g=>kb<g) (set3K w5 kb (i*3) (.int .i64 x.kind) (.string ⟨x.word.toArray⟩) (.slice (some ⟨kb',0,none⟩) n' n')) y:=fun {y Y} hy hY=>VOk.keep (by rw[set3K_size];exact zD _) (fun b hb _=>⟨hY b hb,set3K_other _ _ _ _ _ _ (by have:=hY b hb;omega)⟩) y hy
 by_cases e:p=i
 . subst e;rw[if_pos rfl];exact⟨x,hx,hset hv (fun g hg=>by omega),hp,_,_,_,rfl⟩
 . rw[if_neg e];obtain⟨y,h1,h2,h3,h4⟩:=h.ok p (by omega);exact⟨y,h1,hset (VOk.keep (T:=fun g=>kb<g) (by omega) (fun b hb hl=>⟨hb,h5 b hl⟩) _ h2) (fun g hg=>hg),h3,h4⟩
set_option maxHeartbeats 16000000 in
theorem turnedP_any:∀(t:Vt) (d:Nat) (S:Nat->Prop) (w:World),shapedP d t.pt=true->VOk S w t->Calls Tryz.prog 74 #[encN t] w (TurnPE w t):=by
 intro t;induction t using Vt.ind with
 |h k wd v l ih=>
 intro d S w hsh hv;obtain⟨i0,hi0,hz0,hz1,hz2⟩:=info_partsG infoN;obtain⟨d',rfl⟩:∃d',d=d'+1:=by
  cases d with
  |zero=>simp[shapedP]at hsh
  |succ d'=>exact⟨d',rfl⟩
 rw[Vt.pt_mk,shapedP]at hsh;simp only[Bool.and_eq_true,decide_eq_true_eq,yI,zH]at hsh;obtain⟨⟨_,hl24⟩,hall⟩:=hsh;obtain⟨h1,h2,h3,h4⟩:=vok_mk.1 hv;obtain⟨ka,kc,hke⟩:=h1.slice;obtain⟨n,hn⟩:∃n,n=l.length:=⟨_,rfl⟩
 rw[<- hn]at hke hl24;subst hke;have IH:Hid (∀(x:Vt) (u:World),x∈l->Below w.heap.size w u->Calls Tryz.prog 74 #[encN x] u (TurnPE u x)):=zA (fun x u hx hu=>ih x hx d' S u (hall x.pt (zW hx)) ((h4 x hx).below hu));have HKS:=zA h1;have HVX:=zA (fun x hx=>(h4 x hx).parts.1.slice);have HN:=zA hn;have HWD:=zA h2;obtain⟨kb,hkb⟩:∃b,b=w.heap.size+2:=⟨_,rfl⟩
 obtain⟨o1,ho1⟩:∃o,o=Obj.cells #[.int .i64 k,.string ⟨wd.toArray⟩,.slice ka n kc] 25 (0,0):=⟨_,rfl⟩
 obtain⟨o2,ho2⟩:∃o,o=Obj.cells #[.int .i64 0,.string ⟨#[]⟩,.slice none 0 0] 25 (0,0):=⟨_,rfl⟩
 obtain⟨w2,hw2⟩:∃W,W=(w.alloc o1).alloc o2:=⟨_,rfl⟩
 have hs2:w2.heap.size=w.heap.size+2:=by rw[hw2];simp
 have hb2:Below w.heap.size w w2:=by rw[hw2];exact((zE _ _).alloc (zD _) _).alloc (by simp) _
 have g1:w2.heap[w.heap.size]?=some o1:=by rw[hw2];exact get_atG [o1,o2] w 0 (by simp)
 have g2:w2.heap[w.heap.size+1]?=some o2:=by rw[hw2];exact get_atG [o1,o2] w 1 (by simp)
 obtain⟨w3,hw3⟩:∃W,W=w2.alloc (.cells (madeCells #[.int .i64 0,.string ⟨#[]⟩,.slice none 0 0] (n*3)) 25):=⟨_,rfl⟩
 have hb3:Below w2.heap.size w2 w3:=by rw[hw3];exact(zE _ _).alloc (zD _) _
 have hs3:w3.heap.size=w.heap.size+3:=by rw[hw3];simp;omega
 have hkf:KF w3 kb n (fun _=>vt0):=by rw[hw3,hkb,<- hs2];exact KF.made w2 n
 have HT0:Hid (TkI l kb n w3 0 (fun _=>vt0) w3):=zA ⟨hkf,zE _ _,zD _,fun p hp=>absurd hp (Nat.not_lt_zero _)⟩;have HB3:Hid (Below w.heap.size w w3):=zA (hb2.trans (hb3.mono (by omega)));have HKB:Hid (w.heap.size+2=kb):=zA hkb.symm;have HS3:=zA hs3;have HC:Hid (∀u:World,Below kb w3 u->(u.cell? ⟨w.heap.size,0,none⟩=some (.int .i64 k)/\u.cell? ⟨w.heap.size,1,none⟩=some (.string ⟨wd.toArray⟩)/\u.cell? ⟨w.heap.size,2,none⟩=some (.slice ka n kc))/\u.heap[w.heap.size+1]?=some (.cells #[.int .i64 0,.string ⟨#[]⟩,.slice none 0 0] 25 (0,0))):=zA (fun u hu=>by
  have x1:=(hu.block w.heap.size (by omega)).trans ((hb3.block _ (lt_of_block g1)).trans g1);have x2:=(hu.block (w.heap.size+1) (by omega)).trans ((hb3.block _ (lt_of_block g2)).trans g2);rw[ho1]at x1;rw[ho2]at x2;exact⟨(three_cellsT x1).1,x2⟩)
 have q2:w2.cell? ⟨w.heap.size,2,none⟩=some (.slice ka n kc):=by
  rw[ho1]at g1;exact(three_cellsT g1).1.2.2
 have q3:w3.cell? ⟨w.heap.size,2,none⟩=some (.slice ka n kc):=(HC.out w3 (zE _ _)).1.2.2;have HW2:Hid (((w.alloc (.cells #[.int .i64 k,.string ⟨wd.toArray⟩,.slice ka n kc] 25)).alloc (.cells #[.int .i64 0,.string ⟨#[]⟩,.slice none 0 0] 25))=w2):=zA (by rw[hw2,ho1,ho2]);have HW3:Hid (w2.alloc (.cells (madeCells #[.int .i64 0,.string ⟨#[]⟩,.slice none 0 0] (n*3)) 25)=w3):=zA hw3.symm;have HS2:Hid (w2.heap.size=kb):=zA (by rw[hkb];exact hs2);obtain⟨Q,hQ⟩:∃Q,Q=TurnPE w ⟨k,wd,.slice ka n kc,l⟩:=⟨_,rfl⟩
 rw[<- hQ];have HFIN:Hid (∀(f:Nat->Vt) (u:World),KF u kb n f->Below kb w3 u->w3.heap.size<=u.heap.size->(∀p,p<n->VOk (fun g=>kb<g) u (f p))->((List.range n).map f).map Vt.pt=(if k=2 then ((l.map Vt.pt).map turnP).reverse else (l.map Vt.pt).map turnP)->
  Q (.returned (.agg #[.int .i64 k,.string ⟨wd.toArray⟩,.slice (some ⟨kb,0,none⟩) n n])) (set3K u (w.heap.size+1) 0 (.int .i64 k) (.string ⟨wd.toArray⟩) (.slice (some ⟨kb,0,none⟩) n n))):=zA (fun f u hf hb hs hok hpt=>by
  rw[hQ];have hoth:∀b,b≠w.heap.size+1->(set3K u (w.heap.size+1) 0 (.int .i64 k) (.string ⟨wd.toArray⟩) (.slice (some ⟨kb,0,none⟩) n n)).heap[b]?=u.heap[b]?:=fun b hb2=>set3K_other _ _ _ _ _ _ hb2
  refine⟨kb,n,(List.range n).map f,rfl,vok_mk.2 ⟨?_,h2,by simp;omega,fun x hx=>?_⟩,?_,?_⟩
  . exact hf.sl.keep (by rw[set3K_size];exact zD _) (fun b hb2 _=>⟨by omega,hoth b (by omega)⟩)
  . obtain⟨p,hp,rfl⟩:=zV.1 hx;exact VOk.keep (by rw[set3K_size];exact zD _) (fun b hb2 _=>⟨by omega,hoth b (by omega)⟩) _ (hok p (yJ.1 hp))
  . rw[Vt.pt_mk,Vt.pt_mk,turnP_mk,hpt]
  . refine below_set3K ?_ (by omega) _ _ _ _;exact HB3.out.trans (hb.mono (by omega)))
 clear ih hv hall h1 h2 h3 h4 hn hQ hb2 hb3 hkf hs2 hs3 hw2 hw3 g1 g2 ho1 ho2 hkb;show Calls Tryz.prog _ #[.agg #[.int .i64 k,.string ⟨wd.toArray⟩,.slice ka n kc]] w _;go_enter Tryz.func74,Tryz.ntmps74;go_wp2_with (at_make;rw[HW2.out];refine wpList_make_many _ rfl _ _ 23 rfl 25 i0 _ Tryz.underlying23 hi0 hz0 3 hz1 #[.int .i64 0,.string ⟨#[]⟩,.slice none 0 0] rfl _ _ n rfl rfl (by rw[hz2];omega) (by omega) ?_;rw[HW3.out,HS2.out]);go_loopw [13] (fun c wr=>∃(i:Nat) (f:Nat->Vt),i<=n/\c=.int .i64 i/\Hid (TkI l kb n w3 i f wr)) (fun c _=>n-(intOf c).toNat)
 case atStart=>exact⟨0,_,zO _,rfl,HT0⟩
 case round=>
  obtain⟨i,f,hi,rfl,HT⟩:=hrel;obtain⟨wx,hwx⟩:∃wx,wx=wr:=⟨_,rfl⟩
  subst hwx;clear q2 q3;by_cases hlt:i<n
  . have hltI:(i:Int)<(n:Int):=by omega
    obtain⟨x,hx⟩:∃x,l[i]?=some x:=⟨_,zB (by rw[<- HN.out];exact hlt)⟩
    have hbw:Below w.heap.size w wx:=HB3.out.trans (HT.out.bel.mono (by have:=HKB.out;omega));obtain⟨ga,goff,hka,_,hgl,hcell⟩:=HKS.out.get hx;subst hka;obtain⟨c0,c1,c2⟩:=getN hcell;have c0:=(hbw.cell (p:=⟨ga,goff+i*3,none⟩) hgl).trans c0;have c1:=(hbw.cell (p:=⟨ga,goff+i*3+1,none⟩) hgl).trans c1;have c2:=(hbw.cell (p:=⟨ga,goff+i*3+2,none⟩) hgl).trans c2;obtain⟨xa,xc,hxv⟩:=HVX.out x (zC hx);have HX:Hid (l[i]?=some x):=zA hx;have CX:=IH.out x;have hxm:=zC hx;obtain⟨xk,xw,xv,xl⟩:=x;dsimp only at hxv c0 c1 c2;obtain⟨xn,hxn⟩:∃q,q=xl.length:=⟨_,rfl⟩
    rw[<- hxn]at hxv;subst hxv;obtain⟨wz,hwz⟩:∃W,W=wx.alloc (.cells #[.int .i64 xk,.string ⟨xw.toArray⟩,.slice xa xn xc] 25):=⟨_,rfl⟩
    have hbz:Below wx.heap.size wx wz:=by rw[hwz];exact(zE _ _).alloc (zD _) _
    have hbox:wz.heap[wx.heap.size]?=some (.cells #[.int .i64 xk,.string ⟨xw.toArray⟩,.slice xa xn xc] 25 (0,0)):=by rw[hwz];exact heap_alloc_new _ _
    obtain⟨⟨b0,b1,b2⟩,_⟩:=three_cellsT hbox;have CT:=zA (CX wz hxm (hbw.trans (hbz.mono hbw.size)));have HBZ:=zA hbz;have HWZ:=zA hwz;rw[hwz]at b0 b1 b2;clear hx hcell hbw hxn CX hxm hbox hbz hwz;go_wp2_with fail;rw[<- HWZ.out];clear b0 b1 b2 c0 c1 c2;refine CT.out.mono ?_;rintro e w5 ⟨kb',n',kids',rfl,hv5,hp5,hb5⟩;obtain⟨hk5,ht5⟩:=HT.out.step hlt HX.out HBZ.out hb5 hv5 hp5;obtain⟨⟨a0,a1,a2⟩,z0,z1,z2⟩:=hk5.get hlt;obtain⟨m0,hm0⟩:∃q,q=(f i).kind:=⟨_,rfl⟩
    obtain⟨m1,hm1⟩:∃q,q=(f i).word.toArray:=⟨_,rfl⟩
    obtain⟨m2,hm2⟩:∃q,q=(f i).val:=⟨_,rfl⟩
    rw[<- hm0]at a0;rw[<- hm1]at a1;rw[<- hm2]at a2;have HT5:=zA ht5;unfold set3K at HT5;dsimp only at HT5;clear hk5 ht5 hv5 hp5 hb5 hm0 hm1 hm2 CT;go_wp2;go_roundw
    case rel=>exact⟨i+1,_,by omega,by go_num,HT5⟩
    case measure=>simp[intOf];omega
  . have hltI:¬(i:Int)<(n:Int):=by omega
    have hin:i=n:=by omega
    rw[hin]at HT;clear hin;obtain⟨⟨p0,p1,p2⟩,hrb⟩:=HC.out wx HT.out.bel;have hok:∀p,p<n->∃x,l[p]?=some x/\(f p).pt=turnP x.pt:=fun p hp=>by
     obtain⟨x,h1,_,h3,_⟩:=HT.out.ok p hp;exact⟨x,h1,h3⟩
    by_cases hk2:k=2
    . have CR:=zA (revP_any HT.out.kf (by omega) (fun p hp=>by obtain⟨_,_,_,_,h5⟩:=HT.out.ok p hp;exact h5));have HPT:=zA (range_back HN.out hok);subst hk2;clear hok hrb;go_wp2_with fail;refine CR.out.mono ?_;rintro e w6 ⟨rfl,h6,hb6,ho6,hs6⟩;have hbel6:Below kb w3 w6:=HT.out.bel.trans hb6;obtain⟨⟨y0,y1,y2⟩,hrb⟩:=HC.out w6 hbel6;obtain⟨⟨r0,r1,r2⟩,s0,s1,s2⟩:=three_cellsT hrb;have HE:=zA (HFIN.out (fun p=>f (n-1-p)) w6 h6 hbel6 (by rw[hs6];exact HT.out.sz) (fun p hp=>by
       obtain⟨_,_,h7,_⟩:=HT.out.ok (n-1-p) (by omega);exact VOk.keep (by omega) (fun b hb _=>⟨hb,ho6 b (by omega)⟩) _ h7) (by first|(rw [if_pos rfl];exact HPT.out)|(rw [if_pos trivial];exact HPT.out)))
      have hat:=set3K_at (o:=0) (c0:=.int .i64 2) (c1:=.string ⟨wd.toArray⟩) (c2:=.slice (some ⟨kb,0,none⟩) n n) hrb;obtain⟨⟨t0,t1,t2⟩,_⟩:=three_cellsT hat;have Z0:=zA t0;have Z1:=zA t1;have Z2:=zA t2;unfold set3K at HE Z0 Z1 Z2;clear h6 hb6 ho6 hs6 hbel6 hrb hat t0 t1 t2 CR p0 p1 p2;go_wp2;refine bodyPost_ret (v:=.agg #[.int .i64 2,.string ⟨wd.toArray⟩,.slice (some ⟨kb,0,none⟩) n n]) ?_ rfl HE.out;simp[results,Tryz.results74,go_sem,Z0.out,Z1.out,Z2.out]
    . have hk2B:(k==2)=false:=by simp[hk2]
      obtain⟨⟨r0,r1,r2⟩,s0,s1,s2⟩:=three_cellsT hrb;have HE:=zA (HFIN.out f wx HT.out.kf HT.out.bel HT.out.sz (fun p hp=>by obtain⟨_,_,h7,_⟩:=HT.out.ok p hp;exact h7) (by rw[if_neg hk2];exact range_turn HN.out hok));have hat:=set3K_at (o:=0) (c0:=.int .i64 k) (c1:=.string ⟨wd.toArray⟩) (c2:=.slice (some ⟨kb,0,none⟩) n n) hrb;obtain⟨⟨t0,t1,t2⟩,_⟩:=three_cellsT hat;have Z0:=zA t0;have Z1:=zA t1;have Z2:=zA t2;unfold set3K at HE Z0 Z1 Z2;clear hrb hat t0 t1 t2 hok;go_wp2;refine bodyPost_ret (v:=.agg #[.int .i64 k,.string ⟨wd.toArray⟩,.slice (some ⟨kb,0,none⟩) n n]) ?_ rfl HE.out;simp[results,Tryz.results74,go_sem,Z0.out,Z1.out,Z2.out]
theorem RowO.keep{B:Nat}{w w':World}{u:Value}{gs:List (Nat×Rw)}(h:RowO B w u gs)(h1:∀g,u.ownBlock=some g->w'.heap[g]?=w.heap[g]?)(h2:∀p∈gs,w'.heap[p.1]?=w.heap[p.1]?):RowO B w' u gs:=
 ⟨owns_key h.row (fun g _ hg ho=>(h1 g hg).trans ho),fun p hp=>(h2 p hp).trans (h.blk p hp)⟩
structure PInv (w0:World) (S0:Nat->Prop) (vl:Nat) (V:List Wd) (mt:Mt) (i:Nat) (S:Nat->Prop) (w:World):Prop where
 sub:∀k,S0 k->S k
 fr:Fr S0 w0 w
 svl:S vl
 ex:∃lv gs,w.heap[vl]?=some (.cells #[lv] 28 (0,0))/\RowO w0.heap.size w lv gs/\(∀g,lv.ownBlock=some g->S g)/\(∀p∈gs,S p.1)/\gs.map (·.2)=pairsTo V mt i
theorem PInv.keep{w0:World}{S0:Nat->Prop}{vl:Nat}{V:List Wd}{mt:Mt}{i:Nat}{S:Nat->Prop}{w w':World}(h:PInv w0 S0 vl V mt i S w)(hf:Fr S w w'):PInv w0 S0 vl V mt i S w':=by
 obtain⟨lv,gs,h1,h2,h3,h4,h5⟩:=h.ex;exact⟨h.sub,h.fr.trans (hf.sub h.sub),h.svl,lv,gs,(hf.block vl h.svl).trans h1,h2.keep (fun g hg=>hf.block g (h3 g hg)) (fun p hp=>hf.block p.1 (h4 p hp)),h3,h4,h5⟩
theorem nodup_len:∀(n:Nat) {l:List Nat},l.Nodup->(∀v∈l,v<n)->l.length<=n
 |0,[],_,_=>zD _
 |0,v::l,_,h=>absurd (h v (zL ..)) (Nat.not_lt_zero _)
 |n+1,l,h1,h2=>by
  have h3:=nodup_len n (h1.erase n) (fun v hv=>by
   have h4:=h2 v (List.mem_of_mem_erase hv);have h5:v≠n:=fun e=>by
    subst e;exact(List.Nodup.not_mem_erase h1) hv
   omega)
  rw[List.length_erase]at h3;split at h3<;>omega
theorem ordN:Ords (fun(a b:Nat)=>decide (a<b)):=⟨fun a=>by simp,fun a b c h1 h2=>by simp at *;omega,fun a b h1 h2=>by simp at *;omega⟩
theorem ends_row{d:Sd}{s:Ss}(hr:Rest d s){i:Nat}(hd:∀v p,(s.came.getD v 0).testBit p=true↔d.Rch [i] v p){P:Nat->Bool}(hP:∀j,j<d.n->(P j=true↔d.leads [i] j)):endsL d s=(List.range d.n).filter P:=by
 obtain⟨h1,h2⟩:=endsL_spec hr;refine riseL_ext ordN (h1.imp (fun h=>zU h)) ((List.pairwise_lt_range (n:=d.n)).filter _ |>.imp (fun h=>zU h)) (fun t=>?_);rw[h2,zY,yJ];constructor
 . intro h;obtain⟨p,hp1,hp2⟩:=and_some h;have hlt:t<d.n:=hr.slt t (hr.sn t (fun e=>by rw[e]at hp1;simp at hp1));exact⟨hlt,(hP t hlt).2 ⟨p,(hd t p).1 hp1,hp2⟩⟩
 . rintro⟨hlt,h⟩ e;obtain⟨p,hp1,hp2⟩:=(hP t hlt).1 h;have:=and_none e p ((hd t p).2 hp1);rw[hp2]at this;cases this
set_option maxHeartbeats 32000000 in
theorem pairs1_any{w0:World}{S0:Nat->Prop}{vs vl vg gb sb:Nat}{V:List Wd}{mt:Mt}{L:List (Value×List Nat)}{d:Sd}{E:List Eg}{mb:Nat}{nv ev:Value}{D:DataW Unit}{c:Nat}
 (hlow:Low S0 w0) (hvl:¬S0 vl) (hs:w0.heap[vs]?=some (.cells #[.pointer (some ⟨sb,0,none⟩)] 67 (0,0))) (hvs:S0 vs) (hg:w0.heap[vg]?=some (.cells #[.pointer (some ⟨gb,0,none⟩)] 65 (0,0))) (hvg:S0 vg)
 (hG:GrS S0 w0 gb V E mb nv ev D c) (hn:d.n=V.length) (hVl:V.length<=10000) (hL:L.map (·.2)=(List.range V.length).map (fun x=>[x])) (hmt:∀i j,i<d.n->j<d.n->(mt i j=true↔d.leads [i] j)) (hkp:∀k,d.kp k->S0 k):
 FoundC 34 #[.pointer (some ⟨vs,0,none⟩),.pointer (some ⟨vl,0,none⟩),.pointer (some ⟨vg,0,none⟩)] sb d L (PInv w0 S0 vl V mt):=by
 intro i r S w s m hri hSl hsr hre hdo hinv;obtain⟨i0,hi0,hz0,hz1,hz2⟩:=info_partsG infoRw;have hin:r.2=[i]/\i<V.length:=by
  have h1:(L.map (·.2))[i]?=some r.2:=by rw[zI,hri];rfl
  rw[hL,zI]at h1;by_cases hi:i<V.length
  . rw[yQ hi]at h1;simp at h1;exact⟨h1.symm,hi⟩
  . rw[yE (by simp;omega)]at h1;simp at h1
 obtain⟨hr2,hiV⟩:=hin;rw[hr2]at hdo;obtain⟨T,hT⟩:∃T,T=(List.range V.length).filter (mt i):=⟨_,rfl⟩
 have hends:endsL d s=T:=by
  rw[hT,<- hn];exact ends_row hre hdo (fun j hj=>hmt i j (by omega) hj)
 have hTl:T.length<=10000:=by
  rw[hT];have:=yF (mt i) (List.range V.length);rw[List.length_range]at this;omega
 have hTv:∀j∈T,j<V.length:=fun j hj=>by
  rw[hT,zY,yJ]at hj;exact hj.1
 have HROWM:Hid (T.map (fun j=>[V.getD i [],V.getD j []])=pairRow V mt i V.length):=zA (by rw[hT];rfl);have hsl:s.seen.length<=1000000:=by
  have h1:=hre.nd;have h2:=nodup_len d.n h1 hre.slt;omega
 obtain⟨lv,gs,e1,e2,e3,e4,e5⟩:=hinv.ex;have C:=zA (ends_any hsr hre hsl);rw[hends]at C;have HSR:=zA hsr;have HINV:=zA hinv;have HSL:=zA hSl;have HVLB:=zA e1;have HRO:=zA e2;have HLVS:=zA e3;have HGSS:=zA e4;have HGSM:=zA e5;have HTV:=zA hTv;obtain⟨X,hX⟩:∃X,X=V.getD i []:=⟨_,rfl⟩
 have hXi:V[i]?=some X:=by rw[hX,List.getD,zB hiV];rfl
 obtain⟨na,ncap,hnv⟩:=hG.names.slice;obtain⟨nV,hnV⟩:∃n,n=V.length:=⟨_,rfl⟩
 rw[<- hnV]at hnv;have hsz0:w0.heap.size<=w.heap.size:=hinv.fr.size;have hG2:=hG.fr hinv.fr;have HGW:=zA hG2;have HS0:Hid (∀u:World,(∀b,S0 b->u.heap[b]?=w.heap[b]?)->u.cell? ⟨vs,0,none⟩=some (.pointer (some ⟨sb,0,none⟩))/\u.cell? ⟨vg,0,none⟩=some (.pointer (some ⟨gb,0,none⟩))/\u.cell? ⟨gb,0,none⟩=some (.slice na nV ncap)/\∀j y,V[j]?=some y->∃g off,na=some ⟨g,off,none⟩/\u.cell? ⟨g,off+j,none⟩=some (.string ⟨y.toArray⟩)):=zA (fun u hu=>by
  have h1:=(hu vs hvs).trans ((hinv.fr.block vs hvs).trans hs);have h2:=(hu vg hvg).trans ((hinv.fr.block vg hvg).trans hg);have h3:=(hu gb hG2.sg).trans hG2.blk;obtain⟨⟨h4,_,_⟩,_⟩:=cells3G h3;rw[hnv]at h4;refine⟨by simp[World.cell?,h1],by simp[World.cell?,h2],h4,fun j y hy=>?_⟩;have h5:=hG2.names;rw[hnv]at h5;obtain⟨g,off,e,hsg,_,hc⟩:=h5.get hy;have h6:=hc 0 _ rfl;rw[yD,yA]at h6;exact⟨g,off,e,by simpa only[World.cell?,hu g hsg]using h6⟩)
 have HKP:=zA hkp;have HLOW:=zA hlow;have HVL:=zA hvl;have hvlw:vl<w.heap.size:=lt_of_block e1;have qs:=(HS0.out w (fun _ _=>rfl)).1;have hiI:(i:Int)<(nV:Int):=by omega
 obtain⟨nt,hnt⟩:∃n,n=T.length:=⟨_,rfl⟩
 rw[<- hnt]at hTl C;have HNT:=zA hnt;have HX:=zA hX;have HXI:=zA hXi;have hgl:gs.length<=100000000:=by
  have h1:=pairsTo_len V mt i;rw[<- e5,zH]at h1;have h2:i*V.length<=10000*10000:=Nat.mul_le_mul (by omega) hVl;omega
 have HIV:=zA hiV;have HNV:=zA hnV;clear hri hSl hsr hre hdo hinv hr2 hends hTv e1 e2 e3 e4 e5 hT hX hXi hnv hG2 hG hs hg hvs hvg hL hmt hkp hlow hvl hn hVl hnt hnV hiV;show Calls Tryz.prog _ #[.int .i64 (i:Int),.pointer (some ⟨vs,0,none⟩),.pointer (some ⟨vl,0,none⟩),.pointer (some ⟨vg,0,none⟩)] w _;go_enter Tryz.func34,Tryz.ntmps34;go_wp2_with fail;refine C.out.mono ?_;rintro e w1 ⟨tv,rfl,hown,hb1⟩;obtain⟨ta,tc,htv⟩:=own_slice hown;subst htv;have HOW:=zA hown;have HB1:=zA hb1;have HBS:=zA hb1.size;obtain⟨S1,hS1⟩:∃S1:Nat->Prop,S1=fun b=>b<w1.heap.size/\b≠vl/\lv.ownBlock≠some b:=⟨_,rfl⟩
 have HS1:Hid (∀b,S1 b↔(b<w1.heap.size/\b≠vl/\lv.ownBlock≠some b)):=zA (fun b=>by rw[hS1]);have HS01:Hid (∀b,S0 b->S1 b/\w1.heap[b]?=w.heap[b]?):=zA (fun b hb=>by
  have h1:=HLOW.out b hb;refine⟨(HS1.out b).2 ⟨by have:=HBS.out;omega,fun e=>HVL.out (e▸hb),fun e=>?_⟩,HB1.out.block b (by omega)⟩;have:=(HRO.out.row.lt b e).1;omega)
 clear hown hb1 hS1 qs;go_wp2_with fail;go_loopw [10] (fun c wr=>∃(k:Nat) (lv':Value) (gs':List (Nat×Rw)),k<=nt/\c=.int .i64 k/\Hid (wr.heap[vl]?=some (.cells #[lv'] 28 (0,0)))/\Hid (RowO w0.heap.size wr lv' gs')/\Hid (gs'.map (·.2)=pairsTo V mt i++(T.take k).map (fun j=>[X,V.getD j []]))/\Hid (Fr S1 w1 wr)/\Hid (∀g,lv'.ownBlock=some g->lv.ownBlock=some g\/w1.heap.size<=g)/\Hid (∀p∈gs',p∈gs\/w1.heap.size<=p.1)/\Hid (gs'.length=gs.length+k)) (fun c _=>nt-(intOf c).toNat)
 case atStart=>exact⟨0,lv,gs,zO _,rfl,zA ((HB1.out.block vl hvlw).trans HVLB.out),zA (HRO.out.below HB1.out),zA (by rw[HGSM.out];simp),zA (Fr.refl _ _),zA (fun g hg=>.inl hg),zA (fun p hp=>.inl hp),zA rfl⟩
 case round=>
  obtain⟨k,lx,gx,hk,rfl,HVB,HR,HGM,HFR,HLX,HGX,HGL⟩:=hrel;obtain⟨wy,hwy⟩:∃wy,wy=wr:=⟨_,rfl⟩
  subst hwy;have hwk:∀b,S0 b->wy.heap[b]?=w.heap[b]?:=fun b hb=>(HFR.out.block b (HS01.out b hb).1).trans (HS01.out b hb).2
  obtain⟨_,p1,p2,p3⟩:=HS0.out wy hwk;by_cases hlt:k<nt
  . have hltI:(k:Int)<(nt:Int):=by omega
    obtain⟨y,hy⟩:∃y,T[k]?=some y:=⟨_,zB (by rw[<- HNT.out];exact hlt)⟩
    have hyV:=HTV.out y (zC hy);obtain⟨Y,hY⟩:∃Y,Y=V.getD y []:=⟨_,rfl⟩
    have hYi:V[y]?=some Y:=by rw[hY,List.getD,zB hyV];rfl
    have hyI:(y:Int)<(nV:Int):=by have:=HNV.out;omega
    obtain⟨tg,toff,hta,q0⟩:∃g off,ta=some ⟨g,off,none⟩/\wy.cell? ⟨g,off+k,none⟩=some (.int .i64 (y:Int)):=by
     have h1:=own_nat (by have:=HOW.out;rw[HNT.out]at this;exact this);obtain⟨g,off,ea,hob,hgl2,hc⟩:=h1.get hy;have e5:=getI hc;rw[yD]at e5;have hgB:=(HOW.out.lt g (by rw[HNT.out];exact hob)).1;have hs1:S1 g:=(HS1.out g).2 ⟨hgl2,by omega,fun e=>by have:=(HRO.out.row.lt g e).2;omega⟩;exact⟨g,off,ea,by simpa only[World.cell?,HFR.out.block g hs1]using e5⟩
    subst hta;obtain⟨ng,noff,hna,p4⟩:=p3 i X HXI.out;obtain⟨ng2,noff2,hna2,p5⟩:=p3 y Y hYi;rw[hna]at hna2;injection hna2 with hna2;injection hna2 with e1 e2;subst e1 e2;have HVN:Hid (∀b,S0 b->b<wy.heap.size):=zA (fun b hb=>by
     have:=HLOW.out b hb;have:=HFR.out.size;have:=HBS.out;omega)
    have hsz1:w1.heap.size<=wy.heap.size:=HFR.out.size;have HZ:Hid (w0.heap.size<=wy.heap.size):=zA (by have:=HBS.out;omega);have HYY:=zA hY;have HTK:Hid ((T.take (k+1)).map (fun j=>[X,V.getD j []])=(T.take k).map (fun j=>[X,V.getD j []])++[[X,Y]]):=zA (by
     rw[zS,hy,yR,yK,hY];rfl)
    obtain⟨ua,uc,hlx⟩:=own_slice HR.out.row;obtain⟨nu,hnu⟩:∃n,n=gx.length:=⟨_,rfl⟩
    rw[<- hnu]at hlx;subst hlx;have hnul:nu<=100010000:=by rw[hnu,HGL.out];omega
    have HNU:=zA hnu;have hcv:wy.cell? ⟨vl,0,none⟩=some (.slice ua nu uc)/\wy.frozen? ⟨vl,0,none⟩=false:=by
     have:=HVB.out;simp[World.cell?,World.frozen?,this]
    subst hna;have hcz:∀u,Below wy.heap.size wy u->u.cell? ⟨vl,0,none⟩=some (.slice ua nu uc):=fun u hu=>(hu.cell (p:=⟨vl,0,none⟩) (lt_of_block HVB.out)).trans hcv.1
    have KS:Hid (∀u,Below wy.heap.size wy u->u.cell? ⟨vg,0,none⟩=some (.pointer (some ⟨gb,0,none⟩))/\u.cell? ⟨gb,0,none⟩=some (.slice (some ⟨ng,noff,none⟩) nV ncap)/\u.cell? ⟨ng,noff+i,none⟩=some (.string ⟨X.toArray⟩)/\u.cell? ⟨ng,noff+y,none⟩=some (.string ⟨Y.toArray⟩)):=zA (fun u hu=>by
     have l1:=World.block_lt_of_cell? _ _ p1;have l2:=World.block_lt_of_cell? _ _ p2;have l3:=World.block_lt_of_cell? _ _ p4;exact⟨(hu.cell (p:=⟨vg,0,none⟩) l1).trans p1,(hu.cell (p:=⟨gb,0,none⟩) l2).trans p2,(hu.cell (p:=⟨ng,noff+i,none⟩) l3).trans p4,(hu.cell (p:=⟨ng,noff+y,none⟩) l3).trans p5⟩)
    have HA0:Hid (Below wy.heap.size wy wy.drew):=zA (zE _ _).drew;have HA1:Hid (Below wy.heap.size wy (wy.drew.alloc (.cells #[.string ⟨X.toArray⟩,.string ⟨Y.toArray⟩] 9))):=zA ((zE _ _).drew.alloc (zD _) _);have HA2:Hid (Below wy.heap.size wy ((wy.drew.alloc (.cells #[.string ⟨X.toArray⟩,.string ⟨Y.toArray⟩] 9)).alloc (.cells #[.slice (some ⟨wy.heap.size,0,none⟩) 2 2] 34))):=zA (HA1.out.alloc (by simp) _);have hl0:wy.cell? ⟨vl,0,none⟩=some (.slice ua nu uc):=hcv.1;have hl1:(wy.alloc (.cells #[.string ⟨X.toArray⟩,.string ⟨Y.toArray⟩] 9)).cell? ⟨vl,0,none⟩=some (.slice ua nu uc):=by
     have h:=hcz _ HA1.out;exact h
    have hl2:((wy.alloc (.cells #[.string ⟨X.toArray⟩,.string ⟨Y.toArray⟩] 9)).alloc (.cells #[.slice (some ⟨wy.heap.size,0,none⟩) 2 2] 34)).cell? ⟨vl,0,none⟩=some (.slice ua nu uc):=by
     have h:=hcz _ HA2.out;exact h
    have HOE2:Hid (((wy.drew.alloc (.cells #[.string ⟨X.toArray⟩,.string ⟨Y.toArray⟩] 9)).alloc (.cells #[.slice (some ⟨wy.heap.size,0,none⟩) 2 2] 34)).ownsRow w0.heap.size 34 1 (.slice ua nu uc) nu (gx.flatMap csGr)):=zA (by
     have:=owns_below HR.out.row HA2.out;rw[<- HNU.out]at this;exact this)
    have HNW:Hid (∀(j:Nat) u,[Value.slice (some ⟨wy.heap.size,0,none⟩) 2 2][j]?=some u->((wy.drew.alloc (.cells #[.string ⟨X.toArray⟩,.string ⟨Y.toArray⟩] 9)).alloc (.cells #[.slice (some ⟨wy.heap.size,0,none⟩) 2 2] 34)).cell? ((⟨wy.heap.size+1,0,none⟩:Addr).add j)=some u):=zA (by
     have h1:=heap_alloc_new (wy.drew.alloc (.cells #[.string ⟨X.toArray⟩,.string ⟨Y.toArray⟩] 9)) (.cells #[.slice (some ⟨wy.heap.size,0,none⟩) 2 2] 34 (0,0));have h2:(wy.drew.alloc (.cells #[.string ⟨X.toArray⟩,.string ⟨Y.toArray⟩] 9)).heap.size=wy.heap.size+1:=by simp
     rw[h2]at h1;exact World.news_of_block (cs:=#[.slice (some ⟨wy.heap.size,0,none⟩) 2 2]) (t:=34) (fr:=(0,0)) h1)
    have HNB:Hid (((wy.drew.alloc (.cells #[.string ⟨X.toArray⟩,.string ⟨Y.toArray⟩] 9)).alloc (.cells #[.slice (some ⟨wy.heap.size,0,none⟩) 2 2] 34)).heap[wy.heap.size]?=some (.cells #[.string ⟨X.toArray⟩,.string ⟨Y.toArray⟩] 9 (0,0))):=zA (by
     rw[heap_alloc_old _ _ (by simp)];exact heap_alloc_new wy.drew _)
    have HKG:Hid (∀gg cap2 w9,w9.ownsRow w0.heap.size 34 1 (.slice (some ⟨gg,0,none⟩) (nu+1) cap2) (nu+1) (gx.flatMap csGr++[.slice (some ⟨wy.heap.size,0,none⟩) 2 2])->((wy.drew.alloc (.cells #[.string ⟨X.toArray⟩,.string ⟨Y.toArray⟩] 9)).alloc (.cells #[.slice (some ⟨wy.heap.size,0,none⟩) 2 2] 34)).grownBy w9 (Value.slice ua nu uc).ownBlock->((Value.slice ua nu uc).ownBlock=some gg\/gg=wy.heap.size+2)->
     (w9.cell? ⟨vg,0,none⟩=some (.pointer (some ⟨gb,0,none⟩))/\w9.cell? ⟨gb,0,none⟩=some (.slice (some ⟨ng,noff,none⟩) nV ncap)/\w9.cell? ⟨ng,noff+i,none⟩=some (.string ⟨X.toArray⟩)/\w9.cell? ⟨ng,noff+y,none⟩=some (.string ⟨Y.toArray⟩))/\((w9.setCell ⟨vl,0,none⟩ (.slice (some ⟨gg,0,none⟩) (nu+1) cap2)).cell? ⟨vg,0,none⟩=some (.pointer (some ⟨gb,0,none⟩))/\(w9.setCell ⟨vl,0,none⟩ (.slice (some ⟨gg,0,none⟩) (nu+1) cap2)).cell? ⟨gb,0,none⟩=some (.slice (some ⟨ng,noff,none⟩) nV ncap)/\(w9.setCell ⟨vl,0,none⟩ (.slice (some ⟨gg,0,none⟩) (nu+1) cap2)).cell? ⟨ng,noff+i,none⟩=some (.string ⟨X.toArray⟩)/\(w9.setCell ⟨vl,0,none⟩ (.slice (some ⟨gg,0,none⟩) (nu+1) cap2)).cell? ⟨ng,noff+y,none⟩=some (.string ⟨Y.toArray⟩))/\(w9.cell? ⟨vl,0,none⟩=some (.slice ua nu uc)/\w9.frozen? ⟨vl,0,none⟩=false)/\Hid ((w9.setCell ⟨vl,0,none⟩ (.slice (some ⟨gg,0,none⟩) (nu+1) cap2)).heap[vl]?=some (.cells #[.slice (some ⟨gg,0,none⟩) (nu+1) cap2] 28 (0,0)))/\Hid (RowO w0.heap.size (w9.setCell ⟨vl,0,none⟩ (.slice (some ⟨gg,0,none⟩) (nu+1) cap2)) (.slice (some ⟨gg,0,none⟩) (nu+1) cap2) (gx++[(wy.heap.size,[X,Y])]))/\Hid (Fr S1 w1 (w9.setCell ⟨vl,0,none⟩ (.slice (some ⟨gg,0,none⟩) (nu+1) cap2)))/\Hid (∀g,(Value.slice (some ⟨gg,0,none⟩) (nu+1) cap2).ownBlock=some g->lv.ownBlock=some g\/w1.heap.size<=g)):=zA (fun gg cap2 w9 h1 h2 h3=>by
     have hrow:=HOE2.out;have hvb2:=(HA2.out.block vl (lt_of_block HVB.out)).trans HVB.out;have hvb9:=blk_grownG hvb2 h2 (own_neG hrow hvb2 (by decide));have hset:∀b,b≠vl->(w9.setCell ⟨vl,0,none⟩ (.slice (some ⟨gg,0,none⟩) (nu+1) cap2)).heap[b]?=w9.heap[b]?:=fun b hb=>zN _ _ _ _ hb
     have hk9:∀b,b<wy.heap.size->(Value.slice ua nu uc).ownBlock≠some b->w9.heap[b]?=wy.heap[b]?:=fun b hb hne=>(h2.block b (by simp;omega) (fun e=>hne e.symm)).trans (HA2.out.block b hb)
     have hS0k:∀b,S0 b->w9.heap[b]?=w.heap[b]?/\(w9.setCell ⟨vl,0,none⟩ (.slice (some ⟨gg,0,none⟩) (nu+1) cap2)).heap[b]?=w.heap[b]?:=fun b hb=>by
      have e1:(Value.slice ua nu uc).ownBlock≠some b:=fun e=>by
       have:=(HR.out.row.lt b e).1;have:=HLOW.out b hb;omega
      have e2:=(hk9 b (HVN.out b hb) e1).trans (hwk b hb);exact⟨e2,(hset b (fun e=>HVL.out (e▸hb))).trans e2⟩
     obtain⟨_,a1,a2,a3⟩:=HS0.out w9 (fun b hb=>(hS0k b hb).1);obtain⟨_,b1,b2,b3⟩:=HS0.out (w9.setCell ⟨vl,0,none⟩ (.slice (some ⟨gg,0,none⟩) (nu+1) cap2)) (fun b hb=>(hS0k b hb).2);obtain⟨_,_,c1,a4⟩:=a3 i X HXI.out;obtain⟨_,_,c2,a5⟩:=a3 y Y hYi;obtain⟨_,_,c3,b4⟩:=b3 i X HXI.out;obtain⟨_,_,c4,b5⟩:=b3 y Y hYi;injection c1 with c1;injection c1 with c1 c1';subst c1 c1';injection c2 with c2;injection c2 with c2 c2';subst c2 c2';injection c3 with c3;injection c3 with c3 c3';subst c3 c3';injection c4 with c4;injection c4 with c4 c4';subst c4 c4';have hvf:(w9.setCell ⟨vl,0,none⟩ (.slice (some ⟨gg,0,none⟩) (nu+1) cap2)).heap[vl]?=some (.cells #[.slice (some ⟨gg,0,none⟩) (nu+1) cap2] 28 (0,0)):=by
      simp[World.setCell,Array.getElem?_modify,hvb9]
     have hold:∀p∈gx,p.1<wy.heap.size:=fun p hp=>lt_of_block (HR.out.blk p hp)
     refine⟨⟨a1,a2,a4,a5⟩,⟨b1,b2,b4,b5⟩,by simp[World.cell?,World.frozen?,hvb9],zA hvf,zA ⟨?_,fun p hp=>?_⟩,zA ?_,zA (fun g hg=>?_)⟩
     . have h4:w9.ownsRow w0.heap.size 34 1 (.slice (some ⟨gg,0,none⟩) (nu+1) cap2) (gx++[(wy.heap.size,[X,Y])]).length ((gx++[(wy.heap.size,[X,Y])]).flatMap csGr):=by
        rw[zG,<- HNU.out,zR];exact h1
       exact owns_key h4 (fun g o hg ho=>(hset g (fun e=>own_neG h4 hvb9 (by decide) (by rw[hg,e]))).trans ho)
     . rcases zM.1 hp with hp|hp
       . have hb2:=HR.out.blk p hp;have hb3:RBlk ((wy.drew.alloc (.cells #[.string ⟨X.toArray⟩,.string ⟨Y.toArray⟩] 9)).alloc (.cells #[.slice (some ⟨wy.heap.size,0,none⟩) 2 2] 34)) p:=(HA2.out.block p.1 (hold p hp)).trans hb2;have hb9:RBlk w9 p:=blk_grownG hb3 h2 (own_neG hrow hb3 (by decide));exact(hset p.1 (blk_neG hb9 hvb9 (by decide))).trans hb9
       . rw[zK.1 hp];have hb9:RBlk w9 (wy.heap.size,[X,Y]):=blk_grownG HNB.out h2 (own_neG hrow HNB.out (by decide));exact(hset wy.heap.size (blk_neG hb9 hvb9 (by decide))).trans hb9
     . refine HFR.out.trans ⟨?_,?_,?_,?_,fun b hb=>?_⟩
       . exact h2.os
       . exact h2.tape
       . exact h2.output
       . have:=h2.size;simp at this ⊢;omega
       . obtain⟨h5,h6,h7⟩:=(HS1.out b).1 hb;refine(hset b h6).trans (hk9 b (by omega) (fun e=>?_));rcases HLX.out b e with h8|h8
         . exact h7 h8
         . omega
     . have e1:gg=g:=by simpa[Value.ownBlock]using hg
       subst e1;rcases h3 with h3|h3
       . exact HLX.out gg h3
       . right;omega)
    have HGM2:Hid ((gx++[(wy.heap.size,[X,Y])]).map (·.2)=pairsTo V mt i++(T.take (k+1)).map (fun j=>[X,V.getD j []])):=zA (by
     rw[HTK.out,yK,HGM.out,List.append_assoc];rfl)
    have HGX2:Hid (∀p∈gx++[(wy.heap.size,[X,Y])],p∈gs\/w1.heap.size<=p.1):=zA (fun p hp=>by
     rcases zM.1 hp with hp|hp
     . exact HGX.out p hp
     . rw[zK.1 hp];exact .inr hsz1)
    have HGL2:Hid ((gx++[(wy.heap.size,[X,Y])]).length=gs.length+(k+1)):=zA (by rw[zG,HGL.out];rfl);clear hy hY hYi hnu hcz hcv hwk p3 hyV;go_wp2_with fail;refine wp_region_held_drew (S:=fun u=>u.cell? ⟨vg,0,none⟩=some (.pointer (some ⟨gb,0,none⟩))/\u.cell? ⟨gb,0,none⟩=some (.slice (some ⟨ng,noff,none⟩) nV ncap)/\u.cell? ⟨ng,noff+i,none⟩=some (.string ⟨X.toArray⟩)/\u.cell? ⟨ng,noff+y,none⟩=some (.string ⟨Y.toArray⟩)) (by kernel_rfl) ?_ (fun hHeld=>?_)
    . exact KS.out _ HA0.out
    refine tkH (i:=1) (oi:=⟨some 15,.load 65 (.tmp 3),65, "model.go:29",#[],none⟩) (v:=?_) rfl ?_ hHeld ?_;rotate_left 1
    . rintro W ⟨l1,l2,l3,l4⟩;go_simp;try with_reducible rfl
    simp only[Act.put,zIB,zSZ,zSS];refine tkH (i:=2) (oi:=⟨some 16,.nilCheck (.tmp 15),0, "model.go:29",#[⟨1,.data⟩],none⟩) (v:=?_) rfl ?_ hHeld ?_;rotate_left 1
    . rintro W ⟨l1,l2,l3,l4⟩;go_simp;try with_reducible rfl
    simp only[Act.put,zIB,zSZ,zSS];refine tkH (i:=3) (oi:=⟨some 17,.fieldAddr 75 (.tmp 16) 0,0, "model.go:29",#[⟨2,.data⟩],none⟩) (v:=?_) rfl ?_ hHeld ?_;rotate_left 1
    . rintro W ⟨l1,l2,l3,l4⟩;go_simp;try with_reducible rfl
    simp only[Act.put,zIB,zSZ,zSS];refine tkH (i:=4) (oi:=⟨some 18,.load 34 (.tmp 17),34, "model.go:29",#[⟨3,.data⟩],none⟩) (v:=?_) rfl ?_ hHeld ?_;rotate_left 1
    . rintro W ⟨l1,l2,l3,l4⟩;go_simp;try with_reducible rfl
    simp only[Act.put,zIB,zSZ,zSS];refine tkH (i:=5) (oi:=⟨some 19,.move (.tmp 0),3, "model.go:29",#[],none⟩) (v:=?_) rfl ?_ hHeld ?_;rotate_left 1
    . rintro W ⟨l1,l2,l3,l4⟩;go_simp;try with_reducible rfl
    simp only[Act.put,zIB,zSZ,zSS];refine tkH (i:=6) (oi:=⟨some 20,.indexAddr 34 (.tmp 18) (.tmp 19),0, "model.go:29",#[⟨4,.data⟩,⟨5,.data⟩],none⟩) (v:=?_) rfl ?_ hHeld ?_;rotate_left 1
    . rintro W ⟨l1,l2,l3,l4⟩;go_simp;try with_reducible rfl
    simp only[Act.put,zIB,zSZ,zSS];refine tkH (i:=7) (oi:=⟨some 21,.load 9 (.tmp 20),9, "model.go:29",#[⟨6,.data⟩],none⟩) (v:=?_) rfl ?_ hHeld ?_;rotate_left 1
    . rintro W ⟨l1,l2,l3,l4⟩;go_simp;try with_reducible rfl
    simp only[Act.put,zIB,zSZ,zSS];refine tkH (i:=8) (oi:=⟨some 22,.load 65 (.tmp 3),65, "model.go:29",#[],none⟩) (v:=?_) rfl ?_ hHeld ?_;rotate_left 1
    . rintro W ⟨l1,l2,l3,l4⟩;go_simp;try with_reducible rfl
    simp only[Act.put,zIB,zSZ,zSS];refine tkH (i:=9) (oi:=⟨some 23,.nilCheck (.tmp 22),0, "model.go:29",#[⟨8,.data⟩],none⟩) (v:=?_) rfl ?_ hHeld ?_;rotate_left 1
    . rintro W ⟨l1,l2,l3,l4⟩;go_simp;try with_reducible rfl
    simp only[Act.put,zIB,zSZ,zSS];refine tkH (i:=10) (oi:=⟨some 24,.fieldAddr 75 (.tmp 23) 0,0, "model.go:29",#[⟨9,.data⟩],none⟩) (v:=?_) rfl ?_ hHeld ?_;rotate_left 1
    . rintro W ⟨l1,l2,l3,l4⟩;go_simp;try with_reducible rfl
    simp only[Act.put,zIB,zSZ,zSS];refine tkH (i:=11) (oi:=⟨some 25,.load 34 (.tmp 24),34, "model.go:29",#[⟨10,.data⟩],none⟩) (v:=?_) rfl ?_ hHeld ?_;rotate_left 1
    . rintro W ⟨l1,l2,l3,l4⟩;go_simp;try with_reducible rfl
    simp only[Act.put,zIB,zSZ,zSS];refine tkH (i:=12) (oi:=⟨some 26,.move (.tmp 6),3, "model.go:29",#[],none⟩) (v:=?_) rfl ?_ hHeld ?_;rotate_left 1
    . rintro W ⟨l1,l2,l3,l4⟩;go_simp;try with_reducible rfl
    simp only[Act.put,zIB,zSZ,zSS];refine tkH (i:=13) (oi:=⟨some 27,.indexAddr 34 (.tmp 25) (.tmp 26),0, "model.go:29",#[⟨11,.data⟩,⟨12,.data⟩],none⟩) (v:=?_) rfl ?_ hHeld ?_;rotate_left 1
    . rintro W ⟨l1,l2,l3,l4⟩;go_simp;try with_reducible rfl
    simp only[Act.put,zIB,zSZ,zSS];refine tkH (i:=14) (oi:=⟨some 28,.load 9 (.tmp 27),9, "model.go:29",#[⟨13,.data⟩],none⟩) (v:=?_) rfl ?_ hHeld ?_;rotate_left 1
    . rintro W ⟨l1,l2,l3,l4⟩;go_simp;try with_reducible rfl
    simp only[Act.put,zIB,zSZ,zSS];refine wpAnyH_ready (rs:=[0,15]) (by kernel_rfl) (by simp) ?_;refine AllReadyH.cons (o:=⟨some 14,.load 28 (.tmp 2),28, "model.go:29",#[],none⟩) rfl (fun K hK=>?_) (AllReadyH.cons (o:=⟨some 29,.buildSlice 34 2 #[(0,.tmp 21),(1,.tmp 28)],34, "model.go:29",#[⟨7,.data⟩,⟨14,.data⟩],none⟩) rfl (fun K hK=>?_) AllReadyH.nil)
    . go_simp;refine hK.out _ _ (KS.out _ HA0.out) (fun hHeld=>?_);clear hK K;refine wpAnyH_ready (rs:=[15]) (by kernel_rfl) (by simp) ?_;refine AllReadyH.cons (o:=⟨some 29,.buildSlice 34 2 #[(0,.tmp 21),(1,.tmp 28)],34, "model.go:29",#[⟨7,.data⟩,⟨14,.data⟩],none⟩) rfl (fun K hK=>?_) AllReadyH.nil;go_simp;refine hK.out _ _ (KS.out _ HA1.out) (fun hHeld=>?_);clear hK K;refine wpAnyH_ready (rs:=[16]) (by kernel_rfl) (by simp) ?_;refine AllReadyH.cons (o:=⟨some 30,.buildSlice 28 1 #[(0,.tmp 29)],28, "model.go:29",#[⟨15,.data⟩],none⟩) rfl (fun K hK=>?_) AllReadyH.nil;go_simp;refine hK.out _ _ (KS.out _ HA2.out) (fun hHeld=>?_);clear hK K;refine wpAnyH_ready (rs:=[17]) (by kernel_rfl) (by simp) ?_;refine AllReadyH.cons (o:=⟨some 31,.call { callee:=.builtin .append,args:=#[.tmp 14,.tmp 30],argTypes:=#[28,28] },28, "model.go:29",#[⟨0,.data⟩,⟨16,.data⟩],none⟩) rfl (fun K hK=>?_) AllReadyH.nil;refine step_append_lies _ (by rfl) _ _ _ (by rfl) w0.heap.size 34 i0 _ 1 24 Tryz.underlying28 hi0 hz0 hz1 hz2 rfl (by decide) (.slice ua nu uc) _ _ (by rfl) HOE2.out ⟨wy.heap.size+1,0,none⟩ 1 1 [.slice (some ⟨wy.heap.size,0,none⟩) 2 2] (by rfl) (by rfl) HNW.out (by simp[Value.oneCell']) (by decide) (by unfold maxLen;omega) (by omega) (by have:=HZ.out;simp;omega) (wy.heap.size+2) (by simp) ?_;intro gg cap2 w9 hown9 hgrow9 hat9 hlt9;have HW9:=zA (HKG.out gg cap2 w9 hown9 hgrow9 hat9);refine hK.out _ _ HW9.out.1 (fun hHeld=>?_);clear hK K hown9 hgrow9 hat9 hlt9;obtain⟨c2,c8⟩:=HW9.out.2.2.1;refine wpAnyH_ready (rs:=[18]) (by kernel_rfl) (by simp) ?_;refine AllReadyH.cons (o:=⟨none,.store 28 (.tmp 2) (.tmp 31),0, "model.go:29",#[⟨17,.data⟩,⟨17,.chain⟩,⟨0,.phase⟩,⟨1,.phase⟩,⟨2,.phase⟩,⟨3,.phase⟩,⟨4,.phase⟩,⟨5,.phase⟩,⟨6,.phase⟩,⟨7,.phase⟩,⟨8,.phase⟩,⟨9,.phase⟩,⟨10,.phase⟩,⟨11,.phase⟩,⟨12,.phase⟩,⟨13,.phase⟩,⟨14,.phase⟩,⟨15,.phase⟩,⟨16,.phase⟩,⟨17,.phase⟩],none⟩) rfl (fun K hK=>?_) AllReadyH.nil;go_simp;refine hK.out _ _ HW9.out.2.1 (fun hHeld=>?_);clear hK K c2 c8;refine wpAnyH_done (by kernel_rfl) ?_ _;go_wp2;go_roundw
      case rel=>exact⟨k+1,_,_,by omega,by go_num,HW9.out.2.2.2.1,HW9.out.2.2.2.2.1,HGM2,HW9.out.2.2.2.2.2.1,HW9.out.2.2.2.2.2.2,HGX2,HGL2⟩
      case measure=>simp[intOf];omega
    . go_simp;refine hK.out _ _ (KS.out _ HA1.out) (fun hHeld=>?_);clear hK K;refine wpAnyH_ready (rs:=[0,16]) (by kernel_rfl) (by simp) ?_;refine AllReadyH.cons (o:=⟨some 14,.load 28 (.tmp 2),28, "model.go:29",#[],none⟩) rfl (fun K hK=>?_) (AllReadyH.cons (o:=⟨some 30,.buildSlice 28 1 #[(0,.tmp 29)],28, "model.go:29",#[⟨15,.data⟩],none⟩) rfl (fun K hK=>?_) AllReadyH.nil)
      . go_simp;refine hK.out _ _ (KS.out _ HA1.out) (fun hHeld=>?_);clear hK K;refine wpAnyH_ready (rs:=[16]) (by kernel_rfl) (by simp) ?_;refine AllReadyH.cons (o:=⟨some 30,.buildSlice 28 1 #[(0,.tmp 29)],28, "model.go:29",#[⟨15,.data⟩],none⟩) rfl (fun K hK=>?_) AllReadyH.nil;go_simp;refine hK.out _ _ (KS.out _ HA2.out) (fun hHeld=>?_);clear hK K;refine wpAnyH_ready (rs:=[17]) (by kernel_rfl) (by simp) ?_;refine AllReadyH.cons (o:=⟨some 31,.call { callee:=.builtin .append,args:=#[.tmp 14,.tmp 30],argTypes:=#[28,28] },28, "model.go:29",#[⟨0,.data⟩,⟨16,.data⟩],none⟩) rfl (fun K hK=>?_) AllReadyH.nil;refine step_append_lies _ (by rfl) _ _ _ (by rfl) w0.heap.size 34 i0 _ 1 24 Tryz.underlying28 hi0 hz0 hz1 hz2 rfl (by decide) (.slice ua nu uc) _ _ (by rfl) HOE2.out ⟨wy.heap.size+1,0,none⟩ 1 1 [.slice (some ⟨wy.heap.size,0,none⟩) 2 2] (by rfl) (by rfl) HNW.out (by simp[Value.oneCell']) (by decide) (by unfold maxLen;omega) (by omega) (by have:=HZ.out;simp;omega) (wy.heap.size+2) (by simp) ?_;intro gg cap2 w9 hown9 hgrow9 hat9 hlt9;have HW9:=zA (HKG.out gg cap2 w9 hown9 hgrow9 hat9);refine hK.out _ _ HW9.out.1 (fun hHeld=>?_);clear hK K hown9 hgrow9 hat9 hlt9;obtain⟨c2,c8⟩:=HW9.out.2.2.1;refine wpAnyH_ready (rs:=[18]) (by kernel_rfl) (by simp) ?_;refine AllReadyH.cons (o:=⟨none,.store 28 (.tmp 2) (.tmp 31),0, "model.go:29",#[⟨17,.data⟩,⟨17,.chain⟩,⟨0,.phase⟩,⟨1,.phase⟩,⟨2,.phase⟩,⟨3,.phase⟩,⟨4,.phase⟩,⟨5,.phase⟩,⟨6,.phase⟩,⟨7,.phase⟩,⟨8,.phase⟩,⟨9,.phase⟩,⟨10,.phase⟩,⟨11,.phase⟩,⟨12,.phase⟩,⟨13,.phase⟩,⟨14,.phase⟩,⟨15,.phase⟩,⟨16,.phase⟩,⟨17,.phase⟩],none⟩) rfl (fun K hK=>?_) AllReadyH.nil;go_simp;refine hK.out _ _ HW9.out.2.1 (fun hHeld=>?_);clear hK K c2 c8;refine wpAnyH_done (by kernel_rfl) ?_ _;go_wp2;go_roundw
        case rel=>exact⟨k+1,_,_,by omega,by go_num,HW9.out.2.2.2.1,HW9.out.2.2.2.2.1,HGM2,HW9.out.2.2.2.2.2.1,HW9.out.2.2.2.2.2.2,HGX2,HGL2⟩
        case measure=>simp[intOf];omega
      . go_simp;refine hK.out _ _ (KS.out _ HA2.out) (fun hHeld=>?_);clear hK K;refine wpAnyH_ready (rs:=[0]) (by kernel_rfl) (by simp) ?_;refine AllReadyH.cons (o:=⟨some 14,.load 28 (.tmp 2),28, "model.go:29",#[],none⟩) rfl (fun K hK=>?_) AllReadyH.nil;go_simp;refine hK.out _ _ (KS.out _ HA2.out) (fun hHeld=>?_);clear hK K;refine wpAnyH_ready (rs:=[17]) (by kernel_rfl) (by simp) ?_;refine AllReadyH.cons (o:=⟨some 31,.call { callee:=.builtin .append,args:=#[.tmp 14,.tmp 30],argTypes:=#[28,28] },28, "model.go:29",#[⟨0,.data⟩,⟨16,.data⟩],none⟩) rfl (fun K hK=>?_) AllReadyH.nil;refine step_append_lies _ (by rfl) _ _ _ (by rfl) w0.heap.size 34 i0 _ 1 24 Tryz.underlying28 hi0 hz0 hz1 hz2 rfl (by decide) (.slice ua nu uc) _ _ (by rfl) HOE2.out ⟨wy.heap.size+1,0,none⟩ 1 1 [.slice (some ⟨wy.heap.size,0,none⟩) 2 2] (by rfl) (by rfl) HNW.out (by simp[Value.oneCell']) (by decide) (by unfold maxLen;omega) (by omega) (by have:=HZ.out;simp;omega) (wy.heap.size+2) (by simp) ?_;intro gg cap2 w9 hown9 hgrow9 hat9 hlt9;have HW9:=zA (HKG.out gg cap2 w9 hown9 hgrow9 hat9);refine hK.out _ _ HW9.out.1 (fun hHeld=>?_);clear hK K hown9 hgrow9 hat9 hlt9;obtain⟨c2,c8⟩:=HW9.out.2.2.1;refine wpAnyH_ready (rs:=[18]) (by kernel_rfl) (by simp) ?_;refine AllReadyH.cons (o:=⟨none,.store 28 (.tmp 2) (.tmp 31),0, "model.go:29",#[⟨17,.data⟩,⟨17,.chain⟩,⟨0,.phase⟩,⟨1,.phase⟩,⟨2,.phase⟩,⟨3,.phase⟩,⟨4,.phase⟩,⟨5,.phase⟩,⟨6,.phase⟩,⟨7,.phase⟩,⟨8,.phase⟩,⟨9,.phase⟩,⟨10,.phase⟩,⟨11,.phase⟩,⟨12,.phase⟩,⟨13,.phase⟩,⟨14,.phase⟩,⟨15,.phase⟩,⟨16,.phase⟩,⟨17,.phase⟩],none⟩) rfl (fun K hK=>?_) AllReadyH.nil;go_simp;refine hK.out _ _ HW9.out.2.1 (fun hHeld=>?_);clear hK K c2 c8;refine wpAnyH_done (by kernel_rfl) ?_ _;go_wp2;go_roundw
        case rel=>exact⟨k+1,_,_,by omega,by go_num,HW9.out.2.2.2.1,HW9.out.2.2.2.2.1,HGM2,HW9.out.2.2.2.2.2.1,HW9.out.2.2.2.2.2.2,HGX2,HGL2⟩
        case measure=>simp[intOf];omega
  . have hltI:¬(k:Int)<(nt:Int):=by omega
    have HFM:Hid (gx.map (·.2)=pairsTo V mt (i+1)):=zA (by
     rw[HGM.out,zJ (by rw[<- HNT.out];omega),pairsTo_succ,<- HROWM.out,HX.out])
    have hsz:w.heap.size<=wy.heap.size:=zT HBS.out HFR.out.size;have hsame:∀b,b<w.heap.size->b≠vl->lv.ownBlock≠some b->wy.heap[b]?=w.heap[b]?:=fun b hb h1 h2=>(HFR.out.block b ((HS1.out b).2 ⟨by have:=HBS.out;omega,h1,h2⟩)).trans (HB1.out.block b hb)
    have HFIN:Hid (∃T2:Nat->Prop,(∀k,S k->T2 k)/\Low T2 wy/\SrS T2 wy sb d s m/\PInv w0 S0 vl V mt (i+1) T2 wy):=zA (by
     refine⟨Plus S w.heap.size wy.heap.size,fun k hk=>.inl hk,HSL.out.plus hsz,?_,?_⟩
     . refine HSR.out.keep hsz (fun b hb ho=>⟨fun hp=>?_,?_⟩) (fun b hb hkb=>?_) (fun b hb=>.inl (HSR.out.kS b hb))
       . rcases hp with hp|hp
         . exact HSR.out.own_no ho hp
         . omega
       . exact hsame b hb (fun e=>HSR.out.own_no ho (e▸HINV.out.svl)) (fun e=>HSR.out.own_no ho (HLVS.out b e))
       . have h0:=HKP.out b hkb;exact(HFR.out.block b (HS01.out b h0).1).trans (HS01.out b h0).2
     . have hfr0:Fr S0 w wy:=⟨(HFR.out.os).trans HB1.out.os,(HFR.out.tape).trans HB1.out.tape,(HFR.out.output).trans HB1.out.output,hsz,fun b hb=>(HFR.out.block b (HS01.out b hb).1).trans (HS01.out b hb).2⟩
       refine⟨fun k hk=>.inl (HINV.out.sub k hk),HINV.out.fr.trans hfr0,.inl HINV.out.svl,lx,gx,HVB.out,HR.out,fun g hg=>?_,fun p hp=>?_,HFM.out⟩
       . rcases HLX.out g hg with h1|h1
         . exact .inl (HLVS.out g h1)
         . exact .inr ⟨zT HBS.out h1,(HR.out.row.lt g hg).2⟩
       . rcases HGX.out p hp with h1|h1
         . exact .inl (HGSS.out p h1)
         . exact .inr ⟨zT HBS.out h1,lt_of_block (HR.out.blk p hp)⟩)
    go_wp2;go_end0;exact⟨rfl,HFIN.out⟩
structure ChO (S:Nat->Prop) (w:World) (v:Value) (rows:List (Value×List Nat)):Prop where
 row:w.ownsRow 0 59 1 v rows.length (rows.flatMap csRow)
 own:∀g,v.ownBlock=some g->S g
 ats:∀r∈rows,NatC (fun k=>S k/\v.ownBlock≠some k) w r.1 r.2
theorem ChO.at_{S:Nat->Prop}{w:World}{v:Value}{rows:List (Value×List Nat)}(h:ChO S w v rows){i:Nat}{r:Value×List Nat}(hi:rows[i]?=some r):∃g cap,v=.slice (some ⟨g,0,none⟩) rows.length cap/\w.cell? ⟨g,i,none⟩=some r.1/\w.frozen? ⟨g,i,none⟩=false:=by
 have hil:=(zF.1 hi).1;have hrow:=h.row;rcases h.row.2 with⟨_,h0⟩|⟨g,cap,cur,e,_⟩
 . omega
 . rw[e]at hrow;have hc:=hrow.cellAt i (by omega);have hf:=flat_at csRow_len rows i 0 r hi (by omega);rw[yD,yA]at hf;exact⟨g,cap,e,by rw[hc,hf];rfl,hrow.frozenAt i⟩
structure SInv (w0:World) (S0:Nat->Prop) (vl:Nat) (M:List Nat) (i:Nat) (S:Nat->Prop) (w:World):Prop where
 sub:∀k,S0 k->S k
 fr:Fr S0 w0 w
 svl:S vl
 ex:∃lv,w.heap[vl]?=some (.cells #[lv] 59 (0,0))/\(∀g,lv.ownBlock=some g->S g/\w0.heap.size<=g)/\((i=0/\lv=.slice none 0 0)\/(i=1/\w.ownsRow 0 3 1 lv M.length (M.flatMap csI)))
theorem SInv.keep{w0:World}{S0:Nat->Prop}{vl:Nat}{M:List Nat}{i:Nat}{S:Nat->Prop}{w w':World}(h:SInv w0 S0 vl M i S w)(hf:Fr S w w'):SInv w0 S0 vl M i S w':=by
 obtain⟨lv,h1,h2,h3⟩:=h.ex;refine⟨h.sub,h.fr.trans (hf.sub h.sub),h.svl,lv,(hf.block vl h.svl).trans h1,h2,?_⟩;rcases h3 with h3|⟨h3,h4⟩
 . exact .inl h3
 . exact .inr ⟨h3,owns_key h4 (fun g o hg ho=>(hf.block g (h2 g hg).1).trans ho)⟩
theorem ends_P{d:Sd}{s:Ss}{al:List Nat}(hd:∀v p,(s.came.getD v 0).testBit p=true↔d.Rch al v p){P:Nat->Bool}{x:Nat}(hP:P x=true↔d.leads al x):decide (s.came.getD x 0 &&& d.last≠0)=P x:=by
 cases hp:P x with
 |true=>
  apply zU;intro e;obtain⟨p,h1,h2⟩:=hP.1 hp;have:=and_none e p ((hd x p).2 h1);rw[h2]at this;cases this
 |false=>
  apply decide_eq_false;intro h;obtain⟨p,h1,h2⟩:=and_some h;have:=hP.2 ⟨p,(hd x p).1 h1,h2⟩;rw[hp]at this;cases this
set_option maxHeartbeats 16000000 in
theorem strike1_any{w0:World}{S0:Nat->Prop}{vc vt vs vl hb sb nr cap b:Nat}{d:Sd}{av bv:Value}{al bl:List Nat}{P:Nat->Bool}
 (hlow:Low S0 w0) (hvl:¬S0 vl) (hvc:w0.heap[vc]?=some (.cells #[.slice (some ⟨hb,0,none⟩) nr cap] 132 (0,0))/\S0 vc) (hvt:w0.heap[vt]?=some (.cells #[.int .i64 (b:Int)] 3 (0,0))/\S0 vt) (hvs:w0.heap[vs]?=some (.cells #[.pointer (some ⟨sb,0,none⟩)] 67 (0,0))/\S0 vs)
 (hcell:w0.cell? ⟨hb,b,none⟩=some bv/\S0 hb) (hb2:b<nr) (hbv:NatC S0 w0 bv bl) (hbl:∀x∈bl,x<d.n) (hbll:bl.length<=10000) (hP:∀x,x<d.n->(P x=true↔d.leads al x)) (hkp:∀k,d.kp k->S0 k):
 FoundC 130 #[.pointer (some ⟨vc,0,none⟩),.pointer (some ⟨vt,0,none⟩),.pointer (some ⟨vs,0,none⟩),.pointer (some ⟨vl,0,none⟩)] sb d [(av,al)] (SInv w0 S0 vl (bl.filter P)):=by
 intro i r S w s m hri hSl hsr hre hdo hinv;obtain⟨i0,hi0,hz0,hz1,hz2⟩:=info_partsG infoZG;obtain⟨rfl,rfl⟩:i=0/\r=(av,al):=by
  match i,hri with
  |0,h=>simp at h;exact⟨rfl,h.symm⟩
  |i+1,h=>simp at h
 dsimp only at hdo;obtain⟨lv,e1,e2,e3⟩:=hinv.ex;have hlv:lv=.slice none 0 0:=by
  rcases e3 with e3|⟨e3,_⟩
  . exact e3.2
  . omega
 subst hlv;have HSR:=zA hsr;have HRE:=zA hre;have HINV:=zA hinv;have HSL:=zA hSl;have HLOW:=zA hlow;have HVL:=zA hvl;have HVLB:=zA e1;have HKP:=zA hkp;have hsz0:w0.heap.size<=w.heap.size:=hinv.fr.size;obtain⟨ba,bc,hbe⟩:=hbv.1.slice;obtain⟨nb,hnb⟩:∃n,n=bl.length:=⟨_,rfl⟩
 rw[<- hnb]at hbe hbll;subst hbe;have HNB:=zA hnb;have HBL:=zA hbl;have HBV:Hid (NatS S0 w (.slice ba nb bc) bl):=zA (hbv.1.fr hinv.fr);have HC:Hid (∀wr x,Fr (fun k=>k<w.heap.size/\k≠vl) w wr->x<d.n->Calls Tryz.prog 62 #[.pointer (some ⟨sb,0,none⟩),.int .i64 (x:Int)] wr fun e w'=>e=.returned (.bool (P x))/\w'=wr.drew):=zA (fun wr x hf hx=>by
  rw[<- ends_P hdo (hP x hx)];have hkeep:SrS S wr sb d s m:=hsr.keep hf.size (fun k hk ho=>⟨hsr.own_no ho,hf.block k ⟨hk,fun e=>hsr.own_no ho (e▸hinv.svl)⟩⟩) (fun k hk hkp2=>hf.block k ⟨hk,fun e=>hvl (e▸hkp k hkp2)⟩) hsr.kS;exact endsAt_any hkeep hre.cl hre.cb hx)
 have hS0:∀k,S0 k->k<w.heap.size/\k≠vl:=fun k hk=>⟨zQ (hlow k hk) hsz0,fun e=>hvl (e▸hk)⟩
 have HS0:=zA hS0;have qc:w.cell? ⟨vc,0,none⟩=some (.slice (some ⟨hb,0,none⟩) nr cap):=by
  have h1:=(hinv.fr.block vc hvc.2).trans hvc.1;simp[World.cell?,h1]
 have qt:w.cell? ⟨vt,0,none⟩=some (.int .i64 (b:Int)):=by
  have h1:=(hinv.fr.block vt hvt.2).trans hvt.1;simp[World.cell?,h1]
 have HVS:Hid (∀u:World,Fr (fun k=>k<w.heap.size/\k≠vl) w u->u.cell? ⟨vs,0,none⟩=some (.pointer (some ⟨sb,0,none⟩))):=zA (fun u hu=>by
  have h1:=(hu.block vs (hS0 vs hvs.2)).trans ((hinv.fr.block vs hvs.2).trans hvs.1);simp[World.cell?,h1])
 have qb:w.cell? ⟨hb,b,none⟩=some (.slice ba nb bc):=by
  have h1:=hinv.fr.block hb hcell.2;simpa only[World.cell?,h1]using hcell.1
 have hbI:(b:Int)<(nr:Int):=by omega
 have hvlw:vl<w.heap.size:=lt_of_block e1;obtain⟨M,hM⟩:∃M,M=bl.filter P:=⟨_,rfl⟩
 rw[<- hM]at HINV ⊢;have HM:=zA hM;clear hri hSl hsr hre hdo hinv e1 e2 e3 hlow hvl hvc hvt hvs hcell hbv hbl hP hkp hS0 hM hnb;show Calls Tryz.prog _ #[.int .i64 0,.pointer (some ⟨vc,0,none⟩),.pointer (some ⟨vt,0,none⟩),.pointer (some ⟨vs,0,none⟩),.pointer (some ⟨vl,0,none⟩)] w _;go_enter Tryz.func130,Tryz.ntmps130;go_wp2_with fail;go_loopw [13] (fun c wr=>∃(k:Nat) (lx:Value),k<=nb/\c=.int .i64 k/\Hid (wr.heap[vl]?=some (.cells #[lx] 59 (0,0)))/\Hid (wr.ownsRow w.heap.size 3 1 lx ((bl.take k).filter P).length (((bl.take k).filter P).flatMap csI))/\Hid (Fr (fun k=>k<w.heap.size/\k≠vl) w wr)) (fun c _=>nb-(intOf c).toNat)
 case atStart=>exact⟨0,.slice none 0 0,zO _,rfl,HVLB,zA (World.ownsRow_nil _ _ _ _),zA (Fr.refl _ _)⟩
 case round=>
  obtain⟨k,lx,hk,rfl,HVB,HROW,HFR⟩:=hrel;obtain⟨wx,hwx⟩:∃wx,wx=wr:=⟨_,rfl⟩
  subst hwx;obtain⟨X,hX⟩:∃X,X=(bl.take k).filter P:=⟨_,rfl⟩
  rw[<- hX]at HROW;have HX:=zA hX;have hXl:X.length<=10000:=by
   rw[hX];have h1:=yF P (bl.take k);rw[zX,<- HNB.out]at h1;omega
  clear hX;have hszx:w.heap.size<=wx.heap.size:=HFR.out.size;by_cases hlt:k<nb
  . have hltI:(k:Int)<(nb:Int):=by omega
    obtain⟨x,hx⟩:∃x,bl[k]?=some x:=⟨_,zB (by rw[<- HNB.out];exact hlt)⟩
    obtain⟨g,off,hba,hsg,hgl,hcell⟩:=HBV.out.get hx;subst hba;have q0:=getI hcell;rw[yD]at q0;have q0x:wx.cell? ⟨g,off+k,none⟩=some (.int .i64 (x:Int)):=by simpa only[World.cell?,HFR.out.block g (HS0.out g hsg)]using q0
    have qs:=HVS.out wx HFR.out;have C:=zA (HC.out wx x HFR.out (HBL.out x (zC hx)));have HT:=zA (filt_take (p:=P) hx);rw[<- HX.out]at HT;clear hx hcell q0;cases hp:P x with
    |true=>
     rw[hp]at C HT;rw[if_pos rfl]at HT;clear hp;obtain⟨ua,uc,hlx⟩:=own_slice HROW.out;obtain⟨nu,hnu⟩:∃n,n=X.length:=⟨_,rfl⟩
     rw[<- hnu]at hlx hXl;subst hlx;have HNU:=zA hnu;obtain⟨wy,hwy⟩:∃wy,wy=wx.drew:=⟨_,rfl⟩
     have HRY:Hid (wy.ownsRow w.heap.size 3 1 (.slice ua nu uc) nu (X.flatMap csI)):=zA (by
      have:=HROW.out.drew;rw[<- hwy,<- hnu]at this;exact this)
     have HVY:Hid (wy.heap[vl]?=some (.cells #[.slice ua nu uc] 59 (0,0))):=zA (by rw[hwy];exact HVB.out);have HFY:Hid (Fr (fun k=>k<w.heap.size/\k≠vl) w wy):=zA (by rw[hwy];exact⟨HFR.out.os,HFR.out.tape,HFR.out.output,HFR.out.size,HFR.out.block⟩);have hszy:w.heap.size<=wy.heap.size:=HFY.out.size;have qly:wy.cell? ⟨vl,0,none⟩=some (.slice ua nu uc):=by
      have:=HVY.out;simp[World.cell?,this]
     clear hnu;go_wp2_with fail;refine C.out.mono ?_;rintro e w1 ⟨rfl,rfl⟩;rw[<- hwy];clear hwy q0x qs;go_wp2_with (at_builtin;refine wpList_append_lies _ rfl _ _ _ rfl w.heap.size 3 i0 _ 1 8 Tryz.underlying59 hi0 hz0 hz1 hz2 rfl (by decide) (.slice ua nu uc) _ _ (by rfl) (HRY.out.alloc _) ⟨wy.heap.size,0,none⟩ 1 1 (csI x) (by rfl) (by rfl) ?d1 ?d2 (by decide) ?d3 ?d4 ?d5 (wy.heap.size+1) (by simp) ?_)
     case d1=>exact World.news_of_block (cs:=#[.int .i64 (x:Int)]) (t:=3) (fr:=(0,0)) (heap_alloc_new wy _)
     case d2=>simp[Value.oneCell']
     case d3=>unfold maxLen;omega
     case d4=>omega
     case d5=>simp;omega
     intro gg cap2 w9 hown9 hgrow9 hat9 hlt9;have hkeep9:=grown_keep hgrow9;have hv9:w9.heap[vl]?=some (.cells #[.slice ua nu uc] 59 (0,0)):=(hkeep9 vl (lt_of_block HVY.out) (own_neG HRY.out HVY.out (by decide))).trans HVY.out;have c9:w9.cell? ⟨vl,0,none⟩=some (.slice ua nu uc)/\w9.frozen? ⟨vl,0,none⟩=false:=by simp[World.cell?,World.frozen?,hv9]
     have hset:∀b,b≠vl->(w9.setCell ⟨vl,0,none⟩ (.slice (some ⟨gg,0,none⟩) (nu+1) cap2)).heap[b]?=w9.heap[b]?:=fun b hb=>zN _ _ _ _ hb
     have HVF:Hid ((w9.setCell ⟨vl,0,none⟩ (.slice (some ⟨gg,0,none⟩) (nu+1) cap2)).heap[vl]?=some (.cells #[.slice (some ⟨gg,0,none⟩) (nu+1) cap2] 59 (0,0))):=zA (by simp[World.setCell,Array.getElem?_modify,hv9]);have HRF:Hid ((w9.setCell ⟨vl,0,none⟩ (.slice (some ⟨gg,0,none⟩) (nu+1) cap2)).ownsRow w.heap.size 3 1 (.slice (some ⟨gg,0,none⟩) (nu+1) cap2) ((bl.take (k+1)).filter P).length (((bl.take (k+1)).filter P).flatMap csI)):=zA (by
      have h4:w9.ownsRow w.heap.size 3 1 (.slice (some ⟨gg,0,none⟩) (nu+1) cap2) ((bl.take (k+1)).filter P).length (((bl.take (k+1)).filter P).flatMap csI):=by
       rw[HT.out,zG,<- HNU.out,zR];exact hown9
      exact owns_key h4 (fun g o hg ho=>(hset g (fun e=>own_neG h4 hv9 (by decide) (by rw[hg,e]))).trans ho))
     have HFF:Hid (Fr (fun k=>k<w.heap.size/\k≠vl) w (w9.setCell ⟨vl,0,none⟩ (.slice (some ⟨gg,0,none⟩) (nu+1) cap2))):=zA (HFY.out.trans ⟨hgrow9.os,hgrow9.tape,hgrow9.output,by have:=hgrow9.size;simp at this ⊢;omega,fun b hb=>(hset b hb.2).trans (hkeep9 b (by omega) (fun e=>by have:=(HRY.out.lt b e).1;omega))⟩);obtain⟨c9a,c9b⟩:=c9;clear hown9 hgrow9 hat9 hlt9 hkeep9 hv9 hset qly;go_wp2;go_roundw
     case rel=>exact⟨k+1,_,by omega,by go_num,HVF,HRF,HFF⟩
     case measure=>simp[intOf];omega
    |false=>
     rw[hp]at C HT;rw[if_neg (by decide),List.append_nil]at HT;clear hp;have HVF:Hid (wx.drew.heap[vl]?=some (.cells #[lx] 59 (0,0))):=HVB;have HRF:Hid (wx.drew.ownsRow w.heap.size 3 1 lx ((bl.take (k+1)).filter P).length (((bl.take (k+1)).filter P).flatMap csI)):=zA (by rw[HT.out];exact HROW.out.drew);have HFF:Hid (Fr (fun k=>k<w.heap.size/\k≠vl) w wx.drew):=zA ⟨HFR.out.os,HFR.out.tape,HFR.out.output,HFR.out.size,HFR.out.block⟩;go_wp2_with fail;refine C.out.mono ?_;rintro e w1 ⟨rfl,rfl⟩;go_wp2;go_roundw
     case rel=>exact⟨k+1,_,by omega,by go_num,HVF,HRF,HFF⟩
     case measure=>simp[intOf];omega
  . have hltI:¬(k:Int)<(nb:Int):=by omega
    have HXM:Hid (X=M):=zA (by rw[HX.out,HM.out,zJ (by rw[<- HNB.out];omega)]);have HFIN:Hid (∃T2:Nat->Prop,(∀k,S k->T2 k)/\Low T2 wx/\SrS T2 wx sb d s m/\SInv w0 S0 vl M (0+1) T2 wx):=zA (by
     refine⟨Plus S w.heap.size wx.heap.size,fun k hk=>.inl hk,HSL.out.plus hszx,?_,?_⟩
     . refine HSR.out.keep hszx (fun b hb ho=>⟨fun hp=>?_,?_⟩) (fun b hb hkb=>?_) (fun b hb=>.inl (HSR.out.kS b hb))
       . rcases hp with hp|hp
         . exact HSR.out.own_no ho hp
         . omega
       . exact HFR.out.block b ⟨hb,fun e=>HSR.out.own_no ho (e▸HINV.out.svl)⟩
       . exact HFR.out.block b (HS0.out b (HKP.out b hkb))
     . refine⟨fun k hk=>.inl (HINV.out.sub k hk),HINV.out.fr.trans (HFR.out.sub (fun k hk=>HS0.out k hk)),.inl HINV.out.svl,lx,HVB.out,fun g hg=>?_,.inr ⟨rfl,?_⟩⟩
       . have h1:=HROW.out.lt g hg;exact⟨.inr h1,by omega⟩
       . rw[<- HXM.out];have h2:=HROW.out;exact⟨h2.1,by
          rcases h2.2 with h3|⟨g,c,cur,a1,a2,a3⟩
          . exact .inl h3
          . exact .inr ⟨g,c,cur,a1,zO _,a3⟩⟩)
    go_wp2;go_end0;exact⟨rfl,HFIN.out⟩
def StrE(S Z:Nat->Prop)(w:World)(sb:Nat)(d:Sd)(v:Value)(rows:List (Value×List Nat))(b:Nat)(bl M:List Nat)(e:Ending)(w':World):Prop:=
 e=.returned (.bool (decide (M.length≠bl.length)))/\∃(T:Nat->Prop) (s':Ss) (m':Sp) (rows':List (Value×List Nat)),(∀k,S k->T k)/\Low T w'/\SrS T w' sb d s' m'/\Rest d s'/\ChO (fun k=>(Z k\/w.heap.size<=k)/\T k) w' v rows'/\rows'.map (·.2)=(rows.map (·.2)).set b M/\Fr (fun k=>S k/\v.ownBlock≠some k) w w'
theorem flat_set{rows:List (Value×List Nat)}{b:Nat}(x:Value×List Nat):(rows.set b x).flatMap csRow=(rows.flatMap csRow).set b x.1:=by
 rw[flat_row,flat_row,List.map_set]
set_option maxHeartbeats 16000000 in
theorem strike_any{S Z:Nat->Prop}{w:World}{sb:Nat}{d:Sd}{s:Ss}{m:Sp}{v:Value}{rows:List (Value×List Nat)}{a b:Nat}{ra rb:Value×List Nat}{P:Nat->Bool}
 (h:SrS S w sb d s m) (hS:Low S w) (hr:Rest d s) (hn:d.n<=10000) (hol:∀u,(d.out u).length<=1000000) (hT:TabG w) (h0:S 0) (h0v:v.ownBlock≠some 0) (hZ:∀k,Z k->S k) (hc:ChO Z w v rows) (hra:rows[a]?=some ra) (hrb:rows[b]?=some rb) (hl:∀r∈rows,(∀u∈r.2,u<d.n)/\r.2.length<=10000) (hP:∀x,x<d.n->(P x=true↔d.leads ra.2 x)) (hkv:∀k,d.kp k->v.ownBlock≠some k):
 Calls Tryz.prog 99 #[v,.pointer (some ⟨sb,0,none⟩),.int .i64 (a:Int),.int .i64 (b:Int)] w (StrE S Z w sb d v rows b rb.2 (rb.2.filter P)):=by
 obtain⟨hb,cap,hv,cb,fb⟩:=hc.at_ hrb;obtain⟨hb2,cap2,hv2,ca,_⟩:=hc.at_ hra;rw[hv]at hv2;injection hv2 with hv2 _ hv3;injection hv2 with hv2;injection hv2 with hv2;subst hv2 hv3;subst hv;have hbo:(Value.slice (some ⟨hb,0,none⟩) rows.length cap).ownBlock=some hb:=rfl;have hbZ:=hc.own hb hbo;have hbS:=hZ hb hbZ;have hbl:=hS hb hbS;obtain⟨nr,hnr⟩:∃n,n=rows.length:=⟨_,rfl⟩
 have hal:=(zF.1 hra).1;have hbl2:=(zF.1 hrb).1;rw[<- hnr]at hal hbl2 hc ⊢;have hna:=hc.ats ra (zC hra);have hnb:=hc.ats rb (zC hrb);have hla:=hl ra (zC hra);have hlb:=hl rb (zC hrb);obtain⟨av,al⟩:=ra;obtain⟨bv,bl⟩:=rb;dsimp only at ca cb hna hnb hla hlb hP ⊢;obtain⟨aa,ac,hav⟩:=hna.1.slice;obtain⟨ba,bc,hbv⟩:=hnb.1.slice;obtain⟨na,hnae⟩:∃n,n=al.length:=⟨_,rfl⟩
 obtain⟨nb,hnbe⟩:∃n,n=bl.length:=⟨_,rfl⟩
 rw[<- hnae]at hav;rw[<- hnbe]at hbv;subst hav hbv;obtain⟨o1,ho1⟩:∃o,o=Obj.cells #[.slice (some ⟨hb,0,none⟩) nr cap] 132 (0,0):=⟨_,rfl⟩
 obtain⟨o2,ho2⟩:∃o,o=Obj.cells #[.pointer (some ⟨sb,0,none⟩)] 67 (0,0):=⟨_,rfl⟩
 obtain⟨o3,ho3⟩:∃o,o=Obj.cells #[.int .i64 (b:Int)] 3 (0,0):=⟨_,rfl⟩
 obtain⟨o4,ho4⟩:∃o,o=Obj.cells #[.slice none 0 0] 59 (0,0):=⟨_,rfl⟩
 obtain⟨o5,ho5⟩:∃o,o=Obj.cells #[.slice aa na ac] 59 (0,0):=⟨_,rfl⟩
 obtain⟨w4,hw4⟩:∃W,W=(((w.alloc o1).alloc o2).alloc o3).alloc o4:=⟨_,rfl⟩
 have hs4:w4.heap.size=w.heap.size+4:=by rw[hw4];simp
 have hb4:Below w.heap.size w w4:=by rw[hw4];exact((((zE _ _).alloc (zD _) _).alloc (by simp) _).alloc (by simp;omega) _).alloc (by simp;omega) _
 obtain⟨w5,hw5⟩:∃W,W=w4.drew.alloc o5:=⟨_,rfl⟩
 have hs5:w5.heap.size=w.heap.size+5:=by rw[hw5];simp;omega
 have hb45:Below w4.heap.size w4 w5:=by rw[hw5];exact(zE _ _).drew.alloc (zD _) _
 have hb5:Below w.heap.size w w5:=hb4.trans (hb45.mono hb4.size);have g1:w4.heap[w.heap.size]?=some o1:=by rw[hw4];exact get_atG [o1,o2,o3,o4] w 0 (by simp)
 have g2:w4.heap[w.heap.size+1]?=some o2:=by rw[hw4];exact get_atG [o1,o2,o3,o4] w 1 (by simp)
 have g3:w4.heap[w.heap.size+2]?=some o3:=by rw[hw4];exact get_atG [o1,o2,o3,o4] w 2 (by simp)
 have g4:w4.heap[w.heap.size+3]?=some o4:=by rw[hw4];exact get_atG [o1,o2,o3,o4] w 3 (by simp)
 have g5:w5.heap[w.heap.size+4]?=some o5:=by
  rw[hw5,<- hs4];exact heap_alloc_new w4.drew o5
 obtain⟨T0,hT0⟩:∃T:Nat->Prop,T=Plus S w.heap.size w5.heap.size:=⟨_,rfl⟩
 obtain⟨S0,hS0⟩:∃T:Nat->Prop,T=fun k=>Plus S w.heap.size w5.heap.size k/\k≠w.heap.size+3:=⟨_,rfl⟩
 have HT0:Hid (∀k,T0 k↔(S k\/(w.heap.size<=k/\k<w5.heap.size))):=zA (fun k=>by rw[hT0];exact Iff.rfl);have HS0:Hid (∀k,S0 k↔((S k\/(w.heap.size<=k/\k<w5.heap.size))/\k≠w.heap.size+3)):=zA (fun k=>by rw[hS0];exact Iff.rfl);have hSS0:∀k,S k->S0 k:=fun k hk=>(HS0.out k).2 ⟨.inl hk,by have:=hS k hk;omega⟩
 have hLow0:Low S0 w5:=fun k hk=>by
  rcases ((HS0.out k).1 hk).1 with h1|h1
  . have:=hS k h1;omega
  . exact h1.2
 have hSR5:SrS T0 w5 sb d s m:=by rw[hT0];exact h.plus hb5
 have hbv5:NatC S0 w5 (.slice ba nb bc) bl:=hnb.keep hb5.size (fun k hk hlk=>⟨hSS0 k (hZ k hk.1),hb5.block k hlk⟩);have hav5:NatC S0 w5 (.slice aa na ac) al:=hna.keep hb5.size (fun k hk hlk=>⟨hSS0 k (hZ k hk.1),hb5.block k hlk⟩);have hLS:LstS S0 w5 (.slice (some ⟨w.heap.size+4,0,none⟩) 1 1) [(.slice aa na ac,al)]:=by
  refine⟨?_,fun r hr2=>by rw[zK.1 hr2];exact hav5.1⟩;have hvr:VRow w5 (w.heap.size+4) 59 ([((.slice aa na ac:Value),al)].flatMap csRow):=by
   rw[ho5]at g5;exact g5
  exact(hvr.sl csRow_len rfl).sub (fun k hk _=>by subst hk;exact(HS0.out _).2 ⟨.inr ⟨by omega,by omega⟩,by omega⟩)
 have g1':=(hb45.block _ (lt_of_block g1)).trans g1;have g2':=(hb45.block _ (lt_of_block g2)).trans g2;have g3':=(hb45.block _ (lt_of_block g3)).trans g3;have g4':=(hb45.block _ (lt_of_block g4)).trans g4;rw[ho1]at g1';rw[ho2]at g2';rw[ho3]at g3';rw[ho4]at g4';have hfound:=strike1_any (av:=.slice aa na ac) (al:=al) (P:=P) (d:=d) hLow0 (fun hk=>((HS0.out _).1 hk).2 rfl) ⟨g1',(HS0.out _).2 ⟨.inr ⟨zD _,by omega⟩,by omega⟩⟩ ⟨g3',(HS0.out _).2 ⟨.inr ⟨by omega,by omega⟩,by omega⟩⟩ ⟨g2',(HS0.out _).2 ⟨.inr ⟨by omega,by omega⟩,by omega⟩⟩ ⟨(hb5.cell (p:=⟨hb,b,none⟩) hbl).trans cb,hSS0 hb hbS⟩ hbl2 hbv5 hlb.1 hlb.2 hP (fun k hk=>hSS0 k (h.kS k hk));have hT5:TabG w5:=hT.below (B:=w.heap.size) (hS 0 h0) hb5;have CE:=zA (each_any (fn:=130) (Inv:=SInv w5 S0 (w.heap.size+3) (bl.filter P)) (v:=.slice (some ⟨w.heap.size+4,0,none⟩) 1 1) (enters_of Tryz.func130 (by kernel_rfl) rfl) hSR5 (fun k hk=>by
  rcases (HT0.out k).1 hk with h1|h1
  . have:=hS k h1;omega
  . exact h1.2) hr hn hol (by simp) (fun r hr2=>by rw[zK.1 hr2];exact hla) (fun i T x y hi hf=>hi.keep hf) (fun i T x hi=>⟨(hLS.fr hi.fr).sub (fun k hk _=>hi.sub k hk),hT5.fr (hSS0 0 h0) hi.fr,hi.sub 0 (hSS0 0 h0)⟩) hfound ⟨fun k hk=>(HT0.out k).2 ((HS0.out k).1 hk).1,Fr.refl _ _,(HT0.out _).2 (.inr ⟨by omega,by omega⟩),.slice none 0 0,g4',by intro g hg;simp[Value.ownBlock]at hg,.inl ⟨rfl,rfl⟩⟩)
 have KC:Hid (∀u:World,Fr S0 w5 u->u.cell? ⟨w.heap.size,0,none⟩=some (.slice (some ⟨hb,0,none⟩) nr cap)/\u.cell? ⟨w.heap.size+1,0,none⟩=some (.pointer (some ⟨sb,0,none⟩))/\u.cell? ⟨w.heap.size+2,0,none⟩=some (.int .i64 (b:Int))/\u.cell? ⟨hb,a,none⟩=some (.slice aa na ac)/\u.cell? ⟨hb,b,none⟩=some (.slice ba nb bc)/\u.frozen? ⟨hb,b,none⟩=false):=zA (fun u hu=>by
  have x1:=(hu.block _ ((HS0.out (w.heap.size)).2 ⟨.inr ⟨zD _,by omega⟩,by omega⟩)).trans g1';have x2:=(hu.block _ ((HS0.out (w.heap.size+1)).2 ⟨.inr ⟨by omega,by omega⟩,by omega⟩)).trans g2';have x3:=(hu.block _ ((HS0.out (w.heap.size+2)).2 ⟨.inr ⟨by omega,by omega⟩,by omega⟩)).trans g3';have x4:=(hu.block hb (hSS0 hb hbS)).trans (hb5.block hb hbl);exact⟨by simp[World.cell?,x1],by simp[World.cell?,x2],by simp[World.cell?,x3],by simpa only[World.cell?,x4]using ca,by simpa only[World.cell?,x4]using cb,by simpa only[World.frozen?,x4]using fb⟩)
 have KS:Hid (∀u,Below w4.heap.size w4 u->u.cell? ⟨w.heap.size,0,none⟩=some (.slice (some ⟨hb,0,none⟩) nr cap)/\u.cell? ⟨w.heap.size+1,0,none⟩=some (.pointer (some ⟨sb,0,none⟩))/\u.cell? ⟨hb,a,none⟩=some (.slice aa na ac)):=zA (fun u hu=>by
  have x1:=(hu.block _ (lt_of_block g1)).trans g1;have x2:=(hu.block _ (lt_of_block g2)).trans g2;rw[ho1]at x1;rw[ho2]at x2;have x4:=(hu.block hb (by omega)).trans (hb4.block hb hbl);exact⟨by simp[World.cell?,x1],by simp[World.cell?,x2],by simpa only[World.cell?,x4]using ca⟩)
 have HA0:Hid (Below w4.heap.size w4 w4.drew):=zA (zE _ _).drew;have HA1:Hid (Below w4.heap.size w4 (w4.drew.alloc (.cells #[.slice aa na ac] 59))):=zA ((zE _ _).drew.alloc (zD _) _);have HW5:Hid ((w4.alloc (.cells #[.slice aa na ac] 59)).drew=w5):=zA (by rw[hw5,ho5];rfl);have HS4:=zA hs4;have HFINF:Hid (∀(wE:World) (T:Nat->Prop) (sE:Ss) (mE:Sp),(∀k,T0 k->T k)->Low T wE->SrS T wE sb d sE mE->Rest d sE->SInv w5 S0 (w.heap.size+3) (bl.filter P) 1 T wE->∀lv,wE.heap[w.heap.size+3]?=some (.cells #[lv] 59 (0,0))->
  ((bl.filter P).length=nb->StrE S Z w sb d (.slice (some ⟨hb,0,none⟩) nr cap) rows b bl (bl.filter P) (.returned (.bool false)) wE.drew)/\(¬(bl.filter P).length=nb->StrE S Z w sb d (.slice (some ⟨hb,0,none⟩) nr cap) rows b bl (bl.filter P) (.returned (.bool true)) (wE.drew.setCell ⟨hb,b,none⟩ lv))):=zA (fun wE T sE mE t1 t2 t3 t4 t5 lv hlv=>by
  obtain⟨lv2,u1,u2,u3⟩:=t5.ex;rw[hlv]at u1;injection u1 with u1;injection u1 with u1;have u1:lv=lv2:=by simpa using u1
  subst u1;have hown:wE.ownsRow 0 3 1 lv (bl.filter P).length ((bl.filter P).flatMap csI):=by
   rcases u3 with⟨x,_⟩|⟨_,x⟩
   . omega
   . exact x
  have hST:∀k,S k->T k:=fun k hk=>t1 k ((HT0.out k).2 (.inl hk))
  have hfrw:Fr S w wE:=⟨t5.fr.os.trans hb5.os,t5.fr.tape.trans hb5.tape,t5.fr.output.trans hb5.output,zT hb5.size t5.fr.size,fun k hk=>(t5.fr.block k (hSS0 k hk)).trans (hb5.block k (hS k hk))⟩
  have hch:ChO (fun k=>(Z k\/w.heap.size<=k)/\T k) wE (.slice (some ⟨hb,0,none⟩) nr cap) rows:=by
   refine⟨?_,fun g hg=>⟨.inl (hc.own g hg),hST g (hZ g (hc.own g hg))⟩,fun r hr2=>(hc.ats r hr2).keep hfrw.size (fun k hk _=>⟨⟨⟨.inl hk.1,hST k (hZ k hk.1)⟩,hk.2⟩,hfrw.block k (hZ k hk.1)⟩)⟩;exact owns_key hc.row (fun g o hg ho=>(hfrw.block g (hZ g (hc.own g hg))).trans ho)
  constructor
  . intro heq;refine⟨?_,T,sE,mE,rows,hST,t2,t3.below (zE _ _).drew,t4,⟨hch.row.drew,hch.own,fun r hr2=>(hch.ats r hr2).below (zE _ _).drew⟩,?_,?_⟩
    . rw[decide_eq_false];rw[heq,hnbe];simp
    . have hM:bl.filter P=bl:=List.filter_eq_self.2 (List.length_filter_eq_length_iff.1 (by rw[heq,hnbe]));rw[hM];apply List.ext_getElem?;intro j;rw[List.getElem?_set];by_cases ej:b=j
      . subst ej;rw[if_pos rfl,if_pos (by rw[zH];omega),zI,hrb];rfl
      . rw[if_neg ej]
    . exact⟨hfrw.os,hfrw.tape,hfrw.output,hfrw.size,fun k hk=>hfrw.block k hk.1⟩
  . intro hneq;have hset:∀k,k≠hb->(wE.drew.setCell ⟨hb,b,none⟩ lv).heap[k]?=wE.heap[k]?:=fun k hk=>zN wE.drew ⟨hb,b,none⟩ lv k hk
    have hszE:w5.heap.size<=wE.heap.size:=t5.fr.size;have hTb:T hb:=hST hb hbS;refine⟨?_,T,sE,mE,rows.set b (lv,bl.filter P),hST,by intro k hk;have:=t2 k hk;simpa using this,?_,t4,⟨?_,fun g hg=>hch.own g hg,fun r hr2=>?_⟩,?_,?_⟩
    . rw[zU];rw[hnbe]at hneq;exact hneq
    . exact t3.keep (by simp) (fun k hk ho=>⟨t3.own_no ho,hset k (fun e=>t3.own_no ho (e▸hTb))⟩) (fun k hk hkk=>hset k (fun e=>hkv k hkk (by rw[e];rfl))) t3.kS
    . have h1:wE.drew.ownsRow 0 59 1 (.slice (some ⟨hb,0,none⟩) nr cap) nr (rows.flatMap csRow):=by
       have:=hch.row.drew;rw[<- hnr]at this;exact this
      rw[List.length_set,flat_set,<- hnr];exact(h1.stored b lv).1
    . obtain⟨j,hj⟩:=List.getElem?_of_mem hr2;rw[List.getElem?_set]at hj;have hlift:∀ {q:Value} {L:List Nat},NatC (fun k=>((Z k\/w.heap.size<=k)/\T k)/\(Value.slice (some ⟨hb,0,none⟩) nr cap).ownBlock≠some k) wE q L->NatC (fun k=>((Z k\/w.heap.size<=k)/\T k)/\(Value.slice (some ⟨hb,0,none⟩) nr cap).ownBlock≠some k) (wE.drew.setCell ⟨hb,b,none⟩ lv) q L:=fun hq=>hq.keep (by simp) (fun k hk _=>⟨hk,hset k (fun e=>hk.2 (by rw[e];rfl))⟩)
      split at hj
      . split at hj
        . injection hj with hj;subst hj;exact hlift ((own_natC hown).sub (fun k hk _=>⟨⟨.inr (by have:=(u2 k hk).2;omega),(u2 k hk).1⟩,fun e=>by
           have h2:=(u2 k hk).2;have h3:hb=k:=by simpa[Value.ownBlock]using e
           omega⟩))
        . cases hj
      . exact hlift (hch.ats r (zC hj))
    . rw[List.map_set]
    . exact⟨hfrw.os,hfrw.tape,hfrw.output,by simpa using hfrw.size,fun k hk=>(hset k (fun e=>hk.2 (by rw[e];rfl))).trans (hfrw.block k hk.1)⟩)
 have HS5:=zA hs5;have haI:(a:Int)<(nr:Int):=by omega
 have hbI:(b:Int)<(nr:Int):=by omega
 obtain⟨M,hM⟩:∃M,M=bl.filter P:=⟨_,rfl⟩
 rw[<- hM]at CE HFINF ⊢;obtain⟨Q,hQ⟩:∃Q,Q=StrE S Z w sb d (.slice (some ⟨hb,0,none⟩) nr cap) rows b bl M:=⟨_,rfl⟩
 rw[<- hQ]at HFINF ⊢;have hMl:M.length<=10000:=by rw[hM];exact zT (yF _ _) hlb.2
 clear h hS hr hn hol hT h0 hc hZ hbZ hra hrb hl hP hkv hbo hbS hnr hna hnb hla hlb ca cb fb hb4 hb45 hb5 g1 g2 g3 g4 g5 hT0 hS0 hSS0 hLow0 hSR5 hbv5 hav5 hLS g1' g2' g3' g4' hfound hT5 hs4 hs5 hnae hnbe hM hQ h0v;go_enter Tryz.func99,Tryz.ntmps99;go_wp2_with fail;rw[<- ho1,<- ho2,<- ho3,<- ho4,<- hw4];clear ho1 ho2 ho3 ho4 hw4 hw5 ho5;refine wp_region_held_drew (S:=fun u=>u.cell? ⟨w.heap.size,0,none⟩=some (.slice (some ⟨hb,0,none⟩) nr cap)/\u.cell? ⟨w.heap.size+1,0,none⟩=some (.pointer (some ⟨sb,0,none⟩))/\u.cell? ⟨hb,a,none⟩=some (.slice aa na ac)) (by kernel_rfl) ?_ (fun hHeld=>?_)
 . exact KS.out _ HA0.out
 refine tkH (i:=0) (oi:=⟨some 10,.load 67 (.tmp 5),67, "join.go:160",#[],none⟩) (v:=?_) rfl ?_ hHeld ?_;rotate_left 1
 . rintro W ⟨l1,l2,l3⟩;go_simp;try with_reducible rfl
 simp only[Act.put,zIB,zSZ,zSS];refine tkH (i:=1) (oi:=⟨some 11,.load 132 (.tmp 4),132, "join.go:160",#[],none⟩) (v:=?_) rfl ?_ hHeld ?_;rotate_left 1
 . rintro W ⟨l1,l2,l3⟩;go_simp;try with_reducible rfl
 simp only[Act.put,zIB,zSZ,zSS];refine tkH (i:=2) (oi:=⟨some 12,.move (.tmp 2),3, "join.go:160",#[],none⟩) (v:=?_) rfl ?_ hHeld ?_;rotate_left 1
 . rintro W ⟨l1,l2,l3⟩;go_simp;try with_reducible rfl
 simp only[Act.put,zIB,zSZ,zSS];refine tkH (i:=3) (oi:=⟨some 13,.indexAddr 132 (.tmp 11) (.tmp 12),0, "join.go:160",#[⟨1,.data⟩,⟨2,.data⟩],none⟩) (v:=?_) rfl ?_ hHeld ?_;rotate_left 1
 . rintro W ⟨l1,l2,l3⟩;go_simp;try with_reducible rfl
 simp only[Act.put,zIB,zSZ,zSS];refine tkH (i:=4) (oi:=⟨some 14,.load 59 (.tmp 13),59, "join.go:160",#[⟨3,.data⟩],none⟩) (v:=?_) rfl ?_ hHeld ?_;rotate_left 1
 . rintro W ⟨l1,l2,l3⟩;go_simp;try with_reducible rfl
 simp only[Act.put,zIB,zSZ,zSS];refine tkH (i:=6) (oi:=⟨some 16,.makeFunc (.func 130) #[] #[.tmp 4,.tmp 7,.tmp 5,.tmp 9],76, "join.go:160",#[],none⟩) (v:=?_) rfl ?_ hHeld ?_;rotate_left 1
 . rintro W ⟨l1,l2,l3⟩;go_simp;try with_reducible rfl
 simp only[Act.put,zIB,zSZ,zSS];refine wpAnyH_ready (rs:=[5]) (by kernel_rfl) (by simp) ?_;refine AllReadyH.cons (o:=⟨some 15,.buildSlice 60 1 #[(0,.tmp 14)],60, "join.go:160",#[⟨4,.data⟩],none⟩) rfl (fun K hK=>?_) AllReadyH.nil;go_simp;refine hK.out _ _ (KS.out _ HA1.out) (fun hHeld=>?_);clear hK K;refine wpAnyH_ready (rs:=[7]) (by kernel_rfl) (by simp) ?_;refine AllReadyH.cons (o:=⟨some 17,.call { callee:=.value (.func 31),args:=#[.tmp 10,.tmp 15,.tmp 16],argTypes:=#[67,60,76] },0, "join.go:160",#[⟨0,.data⟩,⟨5,.data⟩,⟨6,.data⟩],none⟩) rfl (fun K hK=>?_) AllReadyH.nil;go_simp;rw[HW5.out,HS4.out];refine CE.out.mono ?_;rintro e wE ⟨rfl,T,sE,mE,t1,t2,t3,t4,t5⟩;have HFE:=zA t5.fr;obtain⟨lv,u1,u2,u3⟩:=t5.ex;have hF:=HFINF.out wE T sE mE t1 t2 t3 t4 t5 lv u1;have HF:=zA hF;have hown:wE.ownsRow 0 3 1 lv M.length (M.flatMap csI):=by
  rcases u3 with⟨x,_⟩|⟨_,x⟩
  . simp at x
  . exact x
 obtain⟨la,lc,hlv⟩:=own_slice hown;obtain⟨nM,hnM⟩:∃n,n=M.length:=⟨_,rfl⟩
 rw[<- hnM]at hlv hMl;subst hlv;rw[<- hnM]at HF;obtain⟨k1,k2,k3,k4,k5,k6⟩:=KC.out wE HFE.out;have k7:wE.cell? ⟨w.heap.size+3,0,none⟩=some (.slice la nM lc):=by simp[World.cell?,u1]
 have hKE:wE.cell? ⟨w.heap.size,0,none⟩=some (.slice (some ⟨hb,0,none⟩) nr cap)/\wE.cell? ⟨w.heap.size+1,0,none⟩=some (.pointer (some ⟨sb,0,none⟩))/\wE.cell? ⟨hb,a,none⟩=some (.slice aa na ac):=⟨k1,k2,k4⟩
 refine hK.out _ _ hKE (fun hHeld=>?_);clear hK K t1 t2 t3 t4 t5 u1 u2 u3 hF hown hnM hKE;refine wpAnyH_done (by kernel_rfl) ?_ _;by_cases heq:nM=nb
 . have HX:=zA (HF.out.1 heq);subst heq;clear HF;go_wp2_with fail;go_region;go_wp2;exact HX.out
 . have HX:=zA (HF.out.2 heq);have hne1:¬(nM:Int)=(nb:Int):=by omega
   have hne2:((nM:Int)==(nb:Int))=false:=by simp;omega
   clear HF;go_wp2_with fail;go_region;go_wp2;exact HX.out
abbrev Sx:=Nat×Sd×Sp
abbrev OwnX(x:Sx)(k:Nat):Prop:=OwnB x.1 x.2.2 k
structure Pool (w:World) (l:List Sx):Prop where
 at_:∀x∈l,∃s,SrS (fun k=>k<w.heap.size/\¬OwnX x k) w x.1 x.2.1 s x.2.2/\Rest x.2.1 s
 apart:∀(i j:Nat) x y,l[i]?=some x->l[j]?=some y->i≠j->∀k,OwnX x k->¬OwnX y k
 kp:∀x∈l,∀y∈l,∀k,x.2.1.kp k->¬OwnX y k
theorem Pool.own_lt{w:World}{l:List Sx}(h:Pool w l){x:Sx}(hx:x∈l){k:Nat}(hk:OwnX x k):k<w.heap.size:=by
 obtain⟨s,hs,_⟩:=h.at_ x hx;exact hs.own_lt hk
theorem Pool.kp_lt{w:World}{l:List Sx}(h:Pool w l){x:Sx}(hx:x∈l){k:Nat}(hk:x.2.1.kp k):k<w.heap.size:=by
 obtain⟨s,hs,_⟩:=h.at_ x hx;exact(hs.kS k hk).1
theorem Pool.keep{w w':World}{l:List Sx}(h:Pool w l)(hz:w.heap.size<=w'.heap.size)(hk:∀x∈l,∀k,(OwnX x k\/x.2.1.kp k)->w'.heap[k]?=w.heap[k]?):Pool w' l:=
 ⟨fun x hx=>by
  obtain⟨s,hs,hr⟩:=h.at_ x hx;exact⟨s,hs.keep hz (fun k _ ho=>⟨fun h2=>h2.2 ho,hk x hx k (.inl ho)⟩) (fun k _ hkk=>hk x hx k (.inr hkk)) (fun k hkk=>⟨zQ (h.kp_lt hx hkk) hz,h.kp x hx x hx k hkk⟩),hr⟩,h.apart,h.kp⟩
theorem Pool.below{w w':World}{l:List Sx}(h:Pool w l)(hb:Below w.heap.size w w'):Pool w' l:=
 h.keep hb.size (fun _ hx k hk=>hb.block k (hk.elim (h.own_lt hx) (h.kp_lt hx)))
theorem Pool.turn{w w':World}{l:List Sx}(h:Pool w l){i:Nat}{x:Sx}(hi:l[i]?=some x){T:Nat->Prop}{s':Ss}{m':Sp}(hT:∀k,(k<w.heap.size/\¬OwnX x k)->T k)(hTl:Low T w')(hs:SrS T w' x.1 x.2.1 s' m')(hr:Rest x.2.1 s')(hz:w.heap.size<=w'.heap.size)(hk:∀y∈l,∀k,(OwnX y k\/y.2.1.kp k)->¬OwnX x k->w'.heap[k]?=w.heap[k]?):Pool w' (l.set i (x.1,x.2.1,m')):=by
 have hil:=(zF.1 hi).1;have hset:∀j,(l.set i (x.1,x.2.1,m'))[j]?=if i=j then some (x.1,x.2.1,m')else l[j]?:=fun j=>by
  rw[List.getElem?_set];simp[hil]
 have hxm:=zC hi;have hcase:∀y∈l.set i (x.1,x.2.1,m'),y=(x.1,x.2.1,m')\/∃j,j≠i/\l[j]?=some y:=fun y hy=>by
  obtain⟨j,hj⟩:=List.getElem?_of_mem hy;rw[hset]at hj;split at hj
  . injection hj with hj;exact .inl hj.symm
  . rename_i hne;exact .inr ⟨j,fun e=>hne e.symm,hj⟩
 have hold:∀ {y:Sx} {j:Nat},j≠i->l[j]?=some y->∀k,OwnX y k->T k:=fun {y j} hne hj k hk2=>hT k ⟨h.own_lt (zC hj) hk2,fun h2=>h.apart j i y x hj hi hne k hk2 h2⟩
 have hkpT:∀y∈l,∀k,y.2.1.kp k->T k:=fun y hy k hk2=>hT k ⟨h.kp_lt hy hk2,h.kp y hy x hxm k hk2⟩
 have hnew:∀k,OwnX (x.1,x.2.1,m') k->¬T k:=fun k hk2=>hs.own_no hk2
 refine⟨fun y hy=>?_,fun a b y z hy hz2 hab k h1 h2=>?_,fun y hy z hz2 k h1 h2=>?_⟩
 . rcases hcase y hy with rfl|⟨j,hne,hj⟩
   . exact⟨s',hs.keep (zD _) (fun k _ ho=>⟨fun h2=>h2.2 ho,rfl⟩) (fun _ _ _=>rfl) (fun k hkk=>⟨hTl k (hs.kS k hkk),fun ho=>hnew k ho (hs.kS k hkk)⟩),hr⟩
   . have hym:=zC hj;obtain⟨s,hs2,hr2⟩:=h.at_ y hym;exact⟨s,hs2.keep hz (fun k _ ho=>⟨fun h2=>h2.2 ho,hk y hym k (.inl ho) (fun h2=>h.apart j i y x hj hi hne k ho h2)⟩) (fun k _ hkk=>hk y hym k (.inr hkk) (h.kp y hym x hxm k hkk)) (fun k hkk=>⟨zQ (h.kp_lt hym hkk) hz,h.kp y hym y hym k hkk⟩),hr2⟩
 . rw[hset]at hy hz2;split at hy
   . rename_i ea;injection hy with hy;subst hy;rw[if_neg (fun e=>hab (ea.symm.trans e))]at hz2;exact hnew k h1 (hold (fun e=>hab (ea.symm.trans e.symm)) hz2 k h2)
   . rename_i ea;split at hz2
     . rename_i eb;injection hz2 with hz2;subst hz2;exact hnew k h2 (hold (fun e=>ea e.symm) hy k h1)
     . exact h.apart a b y z hy hz2 hab k h1 h2
 . rcases hcase z hz2 with rfl|⟨j,_,hj⟩
   . rcases hcase y hy with rfl|⟨j2,_,hj2⟩
     . exact hnew k h2 (hkpT x hxm k h1)
     . exact hnew k h2 (hkpT y (zC hj2) k h1)
   . rcases hcase y hy with rfl|⟨j2,_,hj2⟩
     . exact h.kp x hxm z (zC hj) k h1 h2
     . exact h.kp y (zC hj2) z (zC hj) k h1 h2
def QRow(B:Nat)(w:World)(v:Value)(L:List Nat):Prop:=
 (v=.slice none 0 0/\L=[])\/∃g off cap cur,v=.slice (some ⟨g,off,none⟩) L.length cap/\B<=g/\w.heap[g]?=some (.cells cur 3 (0,0))/\off+cap<=cur.size/\L.length<=cap/\∀(j:Nat) x,L[j]?=some x->cur[off+j]?=some (.int .i64 (x:Int))
theorem QRow.of_own{B:Nat}{w:World}{v:Value}{L:List Nat}(h:w.ownsRow B 3 1 v L.length (L.flatMap csI)):QRow B w v L:=by
 rcases h.2 with⟨e,h0⟩|⟨g,cap,cur,e1,e2,e3,e4,e5,e6,e7⟩
 . exact .inl ⟨e,yL.1 h0⟩
 . refine .inr ⟨g,0,cap,cur,e1,e2,e3,by omega,e4,fun j x hx=>?_⟩;have hj:=(zF.1 hx).1;have h8:(L.flatMap csI)[j]?=some (.int .i64 (x:Int)):=by
    rw[flat_mapI,zI,zI,hx];rfl
   rw[<- e7,List.getElem?_take]at h8;split at h8
   . rw[Nat.zero_add,<- Array.getElem?_toList];exact h8
   . cases h8
theorem QRow.keep{B:Nat}{w w':World}{v:Value}{L:List Nat}(h:QRow B w v L)(hk:∀g,B<=g->(∃off n c,v=.slice (some ⟨g,off,none⟩) n c)->w'.heap[g]?=w.heap[g]?):QRow B w' v L:=by
 rcases h with h|⟨g,off,cap,cur,e1,e2,e3,e4,e5,e6⟩
 . exact .inl h
 . exact .inr ⟨g,off,cap,cur,e1,e2,(hk g e2 ⟨off,_,cap,e1⟩).trans e3,e4,e5,e6⟩
abbrev Sy:=Nat×Sd
def syOf(x:Sx):Sy:=(x.1,x.2.1)
structure NI (w0:World) (O F G:Nat->Prop) (v:Value) (ds:List Sy) (n:Nat) (c:Ch) (w:World) (l:List Sx) (Z:Nat->Prop) (rows:List (Value×List Nat)):Prop where
 pool:Pool w l
 like:l.map syOf=ds
 ch:ChO Z w v rows
 rc:rows.map (·.2)=c
 zl:Low Z w
 zu:∀k,Z k->∀x∈l,¬OwnX x k
 kv:∀x∈l,∀k,x.2.1.kp k->v.ownBlock≠some k
 cb:∀r∈rows,(∀u∈r.2,u<n)/\r.2.length<=10000
 fr:Fr F w0 w
 fo:∀k,F k->k<w.heap.size/\(∀x∈l,¬OwnX x k)/\v.ownBlock≠some k
 go:∀k,G k->k<w.heap.size/\(∀x∈l,¬OwnX x k)/\v.ownBlock≠some k/\¬Z k
 gk:∀k,G k->∀x∈l,¬x.2.1.kp k
 gf:∀k,G k->¬F k
 zo:∀k,Z k->k<w0.heap.size->O k
theorem NI.grow{w0:World}{O F G G':Nat->Prop}{v:Value}{ds:List Sy}{n:Nat}{c:Ch}{w w':World}{l:List Sx}{Z:Nat->Prop}{rows:List (Value×List Nat)}(h:NI w0 O F G v ds n c w l Z rows)(hz:w.heap.size<=w'.heap.size)(ho:w'.os=w.os)(ht:w'.tape=w.tape)(hu:w'.output=w.output)(hk:∀k,k<w.heap.size->¬G k->w'.heap[k]?=w.heap[k]?)(hG:∀k,G' k->G k\/(w.heap.size<=k/\k<w'.heap.size))(hF:∀k,F k->k<w0.heap.size)(hw0:w0.heap.size<=w.heap.size):NI w0 O F G' v ds n c w' l Z rows:=by
 have hown:∀x∈l,∀k,(OwnX x k\/x.2.1.kp k)->w'.heap[k]?=w.heap[k]?:=fun x hx k hk2=>by
  rcases hk2 with h1|h1
  . exact hk k (h.pool.own_lt hx h1) (fun hg=>(h.go k hg).2.1 x hx h1)
  . exact hk k (h.pool.kp_lt hx h1) (fun hg=>h.gk k hg x hx h1)
 have hZ:∀k,Z k->w'.heap[k]?=w.heap[k]?:=fun k hz2=>hk k (h.zl k hz2) (fun hg=>(h.go k hg).2.2.2 hz2)
 refine⟨h.pool.keep hz hown,h.like,⟨owns_key h.ch.row (fun g o hg ho2=>(hZ g (h.ch.own g hg)).trans ho2),h.ch.own,fun r hr=>(h.ch.ats r hr).keep hz (fun k hk2 _=>⟨hk2,hZ k hk2.1⟩)⟩,h.rc,fun k hk2=>zQ (h.zl k hk2) hz,h.zu,h.kv,h.cb,?_,fun k hk2=>⟨zQ (h.fo k hk2).1 hz,(h.fo k hk2).2⟩,fun k hk2=>?_,fun k hk2 x hx hkp=>?_,fun k hk2 hf=>?_,h.zo⟩
 . exact h.fr.trans ⟨ho,ht,hu,hz,fun k hk2=>hk k (h.fo k hk2).1 (fun hg=>h.gf k hg hk2)⟩
 . rcases hG k hk2 with h1|h1
   . obtain⟨a1,a2⟩:=h.go k h1;exact⟨zQ a1 hz,a2⟩
   . refine⟨h1.2,fun x hx ho2=>?_,fun e=>?_,fun hz2=>?_⟩
     . have:=h.pool.own_lt hx ho2;omega
     . have:=h.zl k (h.ch.own k e);omega
     . have:=h.zl k hz2;omega
 . rcases hG k hk2 with h1|h1
   . exact h.gk k h1 x hx hkp
   . have:=h.pool.kp_lt hx hkp;omega
 . rcases hG k hk2 with h1|h1
   . exact h.gf k h1 hf
   . have:=hF k hf;omega
theorem NI.strike{w0:World}{O F G:Nat->Prop}{v:Value}{ds:List Sy}{n:Nat}{c:Ch}{w:World}{l:List Sx}{Z:Nat->Prop}{rows:List (Value×List Nat)}(h:NI w0 O F G v ds n c w l Z rows)(hn:n<=10000)(hT:TabG w)(hF0:F 0){q:Nat}{sb:Nat}{d:Sd}(hq:ds[q]?=some (sb,d))(hdn:d.n=n)(hol:∀u,(d.out u).length<=1000000){a b:Nat}(ha:a<c.length)(hb:b<c.length){Q:Nat->Nat->Prop}(hQ:∀u x,u<n->x<n->(d.leads [u] x↔Q u x)):
 Calls Tryz.prog 99 #[v,.pointer (some ⟨sb,0,none⟩),.int .i64 (a:Int),.int .i64 (b:Int)] w fun e w'=>e=.returned (.bool (decide (((atC c b).filter (leadB1 c a Q)).length≠(atC c b).length)))/\(∃l' Z' rows',NI w0 O F G v ds n (strikeC c a b Q) w' l' Z' rows')/\Fr G w w':=by
 have hql:∃x,l[q]?=some x/\syOf x=(sb,d):=by
  have h1:=h.like;rw[<- h1,zI]at hq;cases hx:l[q]? with
  |none=>rw[hx]at hq;simp at hq
  |some x=>rw[hx]at hq;exact⟨x,rfl,by simpa using hq⟩
 obtain⟨x,hx,hxe⟩:=hql;obtain⟨xb,xd,xm⟩:=x;unfold syOf at hxe;simp only[Prod.mk.injEq]at hxe;obtain⟨rfl,rfl⟩:=hxe;have hxm:=zC hx;obtain⟨s,hs,hr⟩:=h.pool.at_ _ hxm;dsimp only at hs hr;have hrl:rows.length=c.length:=by rw[<- h.rc,zH]
 obtain⟨ra,hra⟩:∃r,rows[a]?=some r:=⟨_,zB (by omega)⟩
 obtain⟨rb,hrb⟩:∃r,rows[b]?=some r:=⟨_,zB (by omega)⟩
 have hca:atC c a=ra.2:=by unfold atC;rw[<- h.rc,List.getD,zI,hra];rfl
 have hcb:atC c b=rb.2:=by unfold atC;rw[<- h.rc,List.getD,zI,hrb];rfl
 have hZS:∀k,Z k->k<w.heap.size/\¬OwnX (xb,xd,xm) k:=fun k hk=>⟨h.zl k hk,h.zu k hk _ hxm⟩
 have hS0:(0:Nat)<w.heap.size/\¬OwnX (xb,xd,xm) 0:=⟨(h.fo 0 hF0).1,(h.fo 0 hF0).2.1 _ hxm⟩
 have hst:=strike_any (P:=leadB1 c a Q) (S:=fun k=>k<w.heap.size/\¬OwnX (xb,xd,xm) k) hs (fun k hk=>hk.1) hr (by omega) hol hT hS0 (h.fo 0 hF0).2.2 hZS h.ch hra hrb (fun r hr2=>by rw[hdn];exact h.cb r hr2) (fun x hx2=>by
  rw[leadB1_iff,hca,Sd.leads_any];rw[hdn]at hx2;constructor
  . rintro⟨u,hu,hq2⟩;exact⟨u,hu,(hQ u x ((h.cb ra (zC hra)).1 u hu) hx2).2 hq2⟩
  . rintro⟨u,hu,hq2⟩;exact⟨u,hu,(hQ u x ((h.cb ra (zC hra)).1 u hu) hx2).1 hq2⟩) (fun k hk=>h.kv _ hxm k hk)
 refine hst.mono ?_;rintro e w' ⟨he,T,s',m',rows',t1,t2,t3,t4,t5,t6,t7⟩;have hz:w.heap.size<=w'.heap.size:=t7.size;have hil:=(zF.1 hx).1;have hcase:∀y∈l.set q (xb,xd,m'),y=(xb,xd,m')\/∃j,j≠q/\l[j]?=some y:=fun y hy=>by
  obtain⟨j,hj⟩:=List.getElem?_of_mem hy;rw[List.getElem?_set]at hj;by_cases ej:q=j
  . rw[if_pos ej,if_pos (by omega)]at hj;injection hj with hj;exact .inl hj.symm
  . rw[if_neg ej]at hj;exact .inr ⟨j,fun e=>ej e.symm,hj⟩
 have hnot:∀k,k<w.heap.size->(∀x∈l,¬OwnX x k)->∀y∈l.set q (xb,xd,m'),¬OwnX y k:=fun k hk1 hk2 y hy=>by
  rcases hcase y hy with rfl|⟨j,_,hj⟩
  . exact fun ho=>t3.own_no ho (t1 k ⟨hk1,hk2 _ hxm⟩)
  . exact hk2 y (zC hj)
 have hrl':rows'.map (·.2)=strikeC c a b Q:=by
  rw[t6,h.rc,strikeC,hcb]
 refine⟨by rw[he,hcb],⟨l.set q (xb,xd,m'),fun k=>(Z k\/w.heap.size<=k)/\T k,rows',?_⟩,?_⟩
 . have hpool:=h.pool.turn hx (T:=T) (s':=s') (m':=m') (fun k hk=>t1 k hk) t2 t3 t4 hz (fun y hy k hk hnx=>t7.block k ⟨⟨hk.elim (h.pool.own_lt hy) (h.pool.kp_lt hy),hnx⟩,hk.elim (fun ho e=>h.zu k (h.ch.own k e) y hy ho) (fun hkp=>h.kv y hy k hkp)⟩);refine⟨hpool,?_,t5,hrl',fun k hk=>t2 k hk.2,fun k hk y hy=>?_,fun y hy k hk=>?_,fun r hr2=>?_,?_,fun k hk=>?_,fun k hk=>?_,fun k hk y hy hkp=>?_,h.gf,fun k hk hk0=>hk.1.elim (fun h1=>h.zo k h1 hk0) (fun h1=>absurd (zQ hk0 h.fr.size) (by omega))⟩
   . rw[List.map_set,<- h.like];apply List.ext_getElem?;intro j;rw[List.getElem?_set];by_cases ej:q=j
     . subst ej;rw[if_pos rfl,if_pos (by rw[zH];exact hil),zI,hx];rfl
     . rw[if_neg ej]
   . rcases hcase y hy with rfl|⟨j,hj1,hj2⟩
     . exact fun ho=>t3.own_no ho hk.2
     . rcases hk.1 with h1|h1
       . exact h.zu k h1 y (zC hj2)
       . exact fun ho=>by have:=h.pool.own_lt (zC hj2) ho;omega
   . rcases hcase y hy with rfl|⟨j,hj1,hj2⟩
     . exact h.kv _ hxm k hk
     . exact h.kv y (zC hj2) k hk
   . have h1:r.2∈strikeC c a b Q:=by rw[<- hrl'];exact zW hr2
     rcases List.mem_or_eq_of_mem_set h1 with h2|h2
     . rw[<- h.rc]at h2;obtain⟨r0,hr0,e0⟩:=zV.1 h2;rw[<- e0];exact h.cb r0 hr0
     . rw[h2,hcb];have h3:=h.cb rb (zC hrb);exact⟨fun u hu=>h3.1 u (zY.1 hu).1,zT (yF _ _) h3.2⟩
   . exact h.fr.trans ⟨t7.os,t7.tape,t7.output,t7.size,fun k hk=>t7.block k ⟨⟨(h.fo k hk).1,(h.fo k hk).2.1 _ hxm⟩,(h.fo k hk).2.2⟩⟩
   . obtain⟨a1,a2,a3⟩:=h.fo k hk;exact⟨zQ a1 hz,hnot k a1 a2,a3⟩
   . obtain⟨a1,a2,a3,a4⟩:=h.go k hk;refine⟨zQ a1 hz,hnot k a1 a2,a3,fun hz2=>?_⟩;rcases hz2.1 with h1|h1
     . exact a4 h1
     . omega
   . rcases hcase y hy with rfl|⟨j,hj1,hj2⟩
     . exact h.gk k hk _ hxm hkp
     . exact h.gk k hk y (zC hj2) hkp
 . exact⟨t7.os,t7.tape,t7.output,t7.size,fun k hk=>t7.block k ⟨⟨(h.go k hk).1,(h.go k hk).2.1 _ hxm⟩,(h.go k hk).2.2.1⟩⟩
def QB(u:Value)(k:Nat):Prop:=∃off n c,u=.slice (some ⟨k,off,none⟩) n c
theorem QRow.lt{B:Nat}{w:World}{u:Value}{L:List Nat}(h:QRow B w u L){k:Nat}(hk:QB u k):B<=k/\k<w.heap.size:=by
 obtain⟨off,n,c,e⟩:=hk;rcases h with⟨h1,_⟩|⟨g,off2,cap,cur,e1,e2,e3,_⟩
 . rw[h1]at e;cases e
 . rw[e1]at e;injection e with e;injection e with e;injection e with e;subst e;exact⟨e2,lt_of_block e3⟩
def QExt(u u':Value)(n:Nat):Prop:=∀k,QB u k->QB u' k->∃off c,u=.slice (some ⟨k,off,none⟩) n c/\u'=.slice (some ⟨k,off,none⟩) (n+1) c
theorem wpList_append_q2{ops:Array Oper}{rest:List Oper}{o:Oper}{a:Act}{Qx:Exit->Act->World->Prop}{w:World}(hgd:o.guard=none)(s x:Operand)(ho:o.op=.call { callee:=.builtin .append,args:=#[s,x],argTypes:=#[59,59] })
 {B:Nat} {u:Value} {L:List Nat} (hs:a.eval s=u) (hq:QRow B w u L) (hL:L.length<=1000000000) (ad:Addr) (c y:Nat) (hx:a.eval x=.slice (some ad) 1 c) (hy:w.cell? ad=some (.int .i64 (y:Int))) (hB:B<=w.heap.size)
 (h:∀u' w',QRow B w' u' (L++[y])->QRow B w' u L->w.heap.size<=w'.heap.size->w'.os=w.os->w'.tape=w.tape->w'.output=w.output->(∀k,k<w.heap.size->¬QB u k->w'.heap[k]?=w.heap[k]?)->(∀k,QB u' k->QB u k\/(w.heap.size<=k/\k<w'.heap.size))->QExt u u' L.length->wpList Tryz.prog ops Qx rest (a.put o.dst u') w'):wpList Tryz.prog ops Qx (o::rest) a w:=by
 obtain⟨i0,hi0,hz0,hz1,hz2⟩:=info_partsG infoZG;have hnews:∀(j:Nat) v,(csI y)[j]?=some v->w.cell? (ad.add j)=some v:=fun j v hj=>by
  have:j=0:=by have:=(zF.1 hj).1;simp at this;exact this
  subst this;simp at hj;subst hj;exact hy
 have hlen:(L++[y]).flatMap csI=L.flatMap csI++csI y:=by rw[zR];rfl
 have hgrown:∀v' w',w'.ownsRow w.heap.size 3 1 v' (L.length+1) (L.flatMap csI++csI y)->w.grownBy w' none->wpList Tryz.prog ops Qx rest (a.put o.dst v') w':=fun v' w' h1 h2=>by
  have h3:w'.ownsRow w.heap.size 3 1 v' (L++[y]).length ((L++[y]).flatMap csI):=by rw[hlen,zG];exact h1
  have hq':=QRow.of_own h3;refine h v' w' ?_ (hq.keep (fun g hg1 hg2=>h2.block g (hq.lt hg2).2 (by simp))) h2.size h2.os h2.tape h2.output (fun k hk _=>h2.block k hk (by simp)) (fun k hk=>.inr (hq'.lt hk)) (fun k h1 h2=>by have:=(hq.lt h1).2;have:=(hq'.lt h2).1;omega);rcases hq' with hq'|⟨g,off,cap,cur,e1,e2,e3⟩
  . exact .inl hq'
  . exact .inr ⟨g,off,cap,cur,e1,by omega,e3⟩
 have hq0:=hq;rcases hq0 with⟨e,hL0⟩|⟨g,off,cap,cur,e1,e2,e3,e4,e5,e6⟩
 . subst hL0;exact wpList_append_grows w hgd s x 59 ho 3 i0 _ 1 8 Tryz.underlying59 hi0 hz0 hz1 hz2 rfl (by decide) none 0 0 [] (by rw[hs,e]) (fun _=>⟨rfl,rfl⟩) (by simp) (by simp) ad 1 c (csI y) hx rfl hnews (by simp[Value.oneCell']) (by omega) (by unfold maxLen;omega) (by omega) (fun v' w' h1 h2=>hgrown v' w' (by simpa using h1) h2)
 . have hcell:∀j v,(L.flatMap csI)[j]?=some v->w.cell? ⟨g,off+j,none⟩=some v:=fun j v hj=>by
    rw[flat_mapI,zI,zI]at hj;cases hLj:L[j]? with
    |none=>rw[hLj]at hj;simp at hj
    |some z=>
     rw[hLj]at hj;simp at hj;subst hj;simp only[World.cell?,e3];exact e6 j z hLj
   refine wpList_append_arg w hgd s x 59 ho 3 i0 _ 1 8 Tryz.underlying59 hi0 hz0 hz1 hz2 rfl (by decide) g off L.length cap (L.flatMap csI) (by rw[hs,e1]) (by rw[flatI_len];omega) hcell ad 1 c (csI y) hx rfl hnews (by simp[Value.oneCell']) (fun hroom j hj=>?_) (by unfold maxLen;omega) (by omega) (fun hroom=>?_) (fun hfull v' w' h1 h2=>hgrown v' w' h1 h2)
   . have hj0:j=0:=by simp at hj;exact hj
     subst hj0;have hb:off+L.length*1+0<cur.size:=by omega
     constructor
     . simp only[World.cell?,e3];rw[Array.getElem?_eq_getElem hb];rfl
     . simp[World.frozen?,e3]
   . have hset:(w.setCells g (off+L.length*1) (csI y))=w.setCell ⟨g,off+L.length*1,none⟩ (.int .i64 (y:Int)):=rfl;rw[hset];have hhb:(w.setCell ⟨g,off+L.length*1,none⟩ (.int .i64 (y:Int))).heap[g]?=some (.cells (cur.setIfInBounds (off+L.length) (.int .i64 (y:Int))) 3 (0,0)):=by
      simp[World.setCell,Array.getElem?_modify,e3]
     refine h _ _ (.inr ⟨g,off,cap,_,by rw[zG];rfl,e2,hhb,by simpa using e4,by rw[zG];simpa using hroom,fun j z hz=>?_⟩) (.inr ⟨g,off,cap,_,e1,e2,hhb,by simpa using e4,e5,fun j z hz=>by rw[Array.getElem?_setIfInBounds,if_neg (by have:=(zF.1 hz).1;omega)];exact e6 j z hz⟩) (by simp) rfl rfl rfl (fun k hk hne=>zN _ _ _ _ (fun e=>hne ⟨off,L.length,cap,by rw[e1,show k=g from e]⟩)) (fun k hk=>.inl ?_) (fun k h1 _=>?_)
     . rw[Array.getElem?_setIfInBounds];by_cases ej:j=L.length
       . subst ej;rw[yO (zD _)]at hz;simp at hz;subst hz;rw[if_pos rfl,if_pos (by omega)]
       . have hjl:j<L.length:=by
          have:=(zF.1 hz).1;simp at this;omega
         rw[yH hjl]at hz;rw[if_neg (by omega)];exact e6 j z hz
     . obtain⟨off3,n3,c3,e7⟩:=hk;injection e7 with e7;injection e7 with e7;injection e7 with e7;subst e7;exact⟨off,L.length,cap,e1⟩
     . obtain⟨off3,n3,c3,e7⟩:=h1;rw[e1]at e7;injection e7 with e7 e8 e9;injection e7 with e7;injection e7 with e7 e10;subst e7;exact⟨off,cap,e1,rfl⟩
theorem wpList_append_q{ops:Array Oper}{rest:List Oper}{o:Oper}{a:Act}{Qx:Exit->Act->World->Prop}{w:World}(hgd:o.guard=none)(s x:Operand)(ho:o.op=.call { callee:=.builtin .append,args:=#[s,x],argTypes:=#[59,59] })
 {B:Nat} {u:Value} {L:List Nat} (hs:a.eval s=u) (hq:QRow B w u L) (hL:L.length<=1000000000) (ad:Addr) (c y:Nat) (hx:a.eval x=.slice (some ad) 1 c) (hy:w.cell? ad=some (.int .i64 (y:Int))) (hB:B<=w.heap.size)
 (h:∀u' w',QRow B w' u' (L++[y])->w.heap.size<=w'.heap.size->w'.os=w.os->w'.tape=w.tape->w'.output=w.output->(∀k,k<w.heap.size->¬QB u k->w'.heap[k]?=w.heap[k]?)->(∀k,QB u' k->QB u k\/(w.heap.size<=k/\k<w'.heap.size))->wpList Tryz.prog ops Qx rest (a.put o.dst u') w'):wpList Tryz.prog ops Qx (o::rest) a w:=
 wpList_append_q2 hgd s x ho hs hq hL ad c y hx hy hB (fun u' w' a1 _ a2 a3 a4 a5 a6 a7 _=>h u' w' a1 a2 a3 a4 a5 a6 a7)
theorem cloneI_any{S:Nat->Prop}{w:World}{v:Value}{L:List Nat}(h:NatS S w v L)(hne:L≠[])(hL:L.length<=1000000000):
 Calls Tryz.prog 98 #[v] w fun e w'=>∃v',e=.returned v'/\w'.ownsRow w.heap.size 3 1 v' L.length (L.flatMap csI)/\Below w.heap.size w w':=by
 obtain⟨i0,hi0,hz0,hz1,hz2⟩:=info_partsG infoZG;obtain⟨ao,cap,e,h⟩:=h;subst e;have hsz:∀w,(Go.sizeOf 3).run Tryz.prog w=.ok 1 w:=fun w=>by kernel_rfl
 cases ao with
 |none=>
  rcases h with h|⟨g,off,e,_⟩
  . exact absurd h hne
  . cases e
 |some ad=>
  have hcells:∃g off,ad=⟨g,off,none⟩/\∀j u,(L.flatMap csI)[j]?=some u->w.cell? ⟨g,off+j,none⟩=some u:=by
   rcases h with h|⟨g,off,e,_,_,hc⟩
   . exact absurd h hne
   . injection e with e;refine⟨g,off,e,fun j u hj=>?_⟩;rw[flat_mapI,zI,zI]at hj;cases hLj:L[j]? with
     |none=>rw[hLj]at hj;simp at hj
     |some z=>
      rw[hLj]at hj;simp at hj;subst hj;have:=hc j z hLj 0 _ rfl;rw[yD,yA]at this;exact this
  obtain⟨g,off,rfl,hc⟩:=hcells;refine(Tryz.slices_Clone_f98 i0 _ 1 8 hi0 hz0 hz1 hz2 rfl (by decide) hsz g off L.length cap (L.flatMap csI) w (by rw[flatI_len];omega) (by unfold maxLen;omega) (by omega) hc (fun u hu=>by
   rw[flat_mapI]at hu;obtain⟨z,_,rfl⟩:=zV.1 hu;rfl)).mono ?_
  rintro e w' ⟨v',rfl,h1,_,h2⟩;exact⟨v',rfl,h1,h2⟩
abbrev Lm:=Nat×Nat×Nat×Nat
abbrev csL(x:Lm):List Value:=[.int .i64 (x.1:Int),.int .i64 (x.2.1:Int),.pointer (some ⟨x.2.2.1,0,none⟩),.pointer (some ⟨x.2.2.2,0,none⟩)]
theorem csL_len(x:Lm):(csL x).length=4:=rfl
structure SeaOk (ds:List Sy) (n q sb:Nat) (Q:Nat->Nat->Prop):Prop where
 ex:∃d,ds[q]?=some (sb,d)/\d.n=n/\(∀u,(d.out u).length<=1000000)/\∀u x,u<n->x<n->(d.leads [u] x↔Q u x)
structure LinksOk (ds:List Sy) (n m:Nat) (lks:List Lm) (ls:List Lk):Prop where
 len:ls.length=lks.length
 at_:∀(i:Nat) L l,lks[i]?=some L->ls[i]?=some l->l.fr=L.1/\l.to=L.2.1/\L.1≠L.2.1/\L.1<m/\L.2.1<m/\SeaOk ds n (2*i) L.2.2.1 l.R/\SeaOk ds n (2*i+1) L.2.2.2 (fun v u=>l.R u v)
def NarE(w:World)(O F:Nat->Prop)(v:Value)(ds:List Sy)(n:Nat)(c:Ch)(e:Ending)(w':World):Prop:=
 e=.returned (.tuple #[])/\∃l' Z' rows',NI w O F (fun _=>False) v ds n c w' l' Z' rows'
theorem NI.some_strike{w0:World}{O F G:Nat->Prop}{v:Value}{ds:List Sy}{n:Nat}{c:Ch}{w:World}{l:List Sx}{Z:Nat->Prop}{rows:List (Value×List Nat)}(h:NI w0 O F G v ds n c w l Z rows)(hn:n<=10000)(hT:TabG w)(hF0:F 0){q sb:Nat}{Q:Nat->Nat->Prop}(hs:SeaOk ds n q sb Q){a b:Nat}(ha:a<c.length)(hb:b<c.length):
 Calls Tryz.prog 99 #[v,.pointer (some ⟨sb,0,none⟩),.int .i64 (a:Int),.int .i64 (b:Int)] w fun e w'=>e=.returned (.bool (decide (((atC c b).filter (leadB1 c a Q)).length≠(atC c b).length)))/\(∃l' Z' rows',NI w0 O F G v ds n (strikeC c a b Q) w' l' Z' rows')/\Fr G w w':=by
 obtain⟨d,h1,h2,h3,h4⟩:=hs.ex;exact h.strike hn hT hF0 h1 h2 h3 ha hb h4
theorem strike_len(c:Ch)(a b:Nat)(Q:Nat->Nat->Prop):(strikeC c a b Q).length=c.length:=by rw[strikeC,List.length_set]
theorem sum_lenC:∀(c:Ch),(∀r∈c,r.length<=10000)->(c.map List.length).sum<=c.length*10000
 |[],_=>by simp
 |a::c,h=>by
  have h1:=sum_lenC c (fun r hr=>h r (zP _ hr));have h2:=h a (zL ..);simp only[List.map_cons,List.sum_cons,yG];omega
structure NSt (w:World) (O F:Nat->Prop) (v:Value) (ds:List Sy) (n:Nat) (M:Nat) (c:Ch) (T:List Nat) (u:Value) (G:Nat->Prop) (wr:World):Prop where
 mu:muC c T<=M
 ni:∃l Z rows,NI w O F G v ds n c wr l Z rows
 q:QRow w.heap.size wr u T
 tm:∀k∈T,k<c.length
set_option maxHeartbeats 32000000 in
theorem narrow_any{w:World}{O F:Nat->Prop}{v:Value}{ds:List Sy}{n:Nat}{c:Ch}{l:List Sx}{Z:Nat->Prop}{rows:List (Value×List Nat)}{jb:Nat}{lv chv:Value}{lks:List Lm}{ls:List Lk}{T0:List Nat}
 (h:NI w O F (fun _=>False) v ds n c w l Z rows) (hn:n<=10000) (hT:TabG w) (hF0:F 0) (hFl:Low F w) (hcl:c.length<=1000) (hj:w.cell? ⟨jb,3,none⟩=some lv) (hjF:F jb) (hlk:SlS csL 4 F w lv lks) (hlkl:lks.length<=1000) (hok:LinksOk ds n c.length lks ls) (hch:NatS F w chv T0) (hTne:T0≠[]) (hTl:T0.length<=1000) (hTm:∀k∈T0,k<c.length)
 (hst:∀l∈ls,(l.fr∈T0\/HC c l.fr l.to l.R)/\(l.to∈T0\/HC c l.to l.fr (fun v u=>l.R u v))):
 Calls Tryz.prog 76 #[.pointer (some ⟨jb,0,none⟩),v,chv] w (NarE w O F v ds n (narrowC ls c)):=by
 obtain⟨ka,kc,hlv⟩:=hlk.slice;obtain⟨nk,hnk⟩:∃k,k=lks.length:=⟨_,rfl⟩
 rw[<- hnk]at hlv hlkl;subst hlv;have HNK:=zA hnk;have C0:=zA (cloneI_any hch hTne (by omega));have HJ:Hid (∀u:World,Fr F w u->u.cell? ⟨jb,3,none⟩=some (.slice ka nk kc)):=zA (fun u hu=>by simpa only[World.cell?,hu.block jb hjF]using hj);have HLK:=zA hlk;have HOK:=zA hok;have HTAB:=zA (fun(u:World) (hu:Fr F w u)=>hT.fr hF0 hu);have HF0:=zA hF0;have HFL:=zA hFl;have HDN:=zA hn;have hsum:=sum_lenC c (fun r hr=>by
  rw[<- h.rc]at hr;obtain⟨r0,hr0,e0⟩:=zV.1 hr;rw[<- e0];exact(h.cb r0 hr0).2)
 obtain⟨M,hM⟩:∃M,M=muC c T0:=⟨_,rfl⟩
 have hMl:M<=100000000:=by rw[hM];unfold muC;omega
 obtain⟨m0,hm0⟩:∃m,m=c.length:=⟨_,rfl⟩
 rw[<- hm0]at hcl;have HM0:=zA hm0;have H1:Hid (∀u0 w1,w1.ownsRow w.heap.size 3 1 u0 T0.length (T0.flatMap csI)->Below w.heap.size w w1->NSt w O F v ds n M c T0 u0 (QB u0) w1):=zA (fun u0 w1 h1 hb=>by
  have hq:=QRow.of_own h1;exact⟨by rw[hM];exact zD _,⟨l,Z,rows,h.grow hb.size hb.os hb.tape hb.output (fun k hk _=>hb.block k hk) (fun k hk=>.inr (hq.lt hk)) hFl (zD _)⟩,hq,hTm⟩)
 have HNW:Hid (Nw ls c T0 c):=zA (Nw.start hst);clear h hn hT hF0 hj hjF hlk hok hch hTne hTl hTm hst hFl hsum hM hnk hm0;go_enter Tryz.func76,Tryz.ntmps76;go_wp2_with fail;refine C0.out.mono ?_;rintro e w1 ⟨u0,rfl,hown,hb⟩;have HS1:=zA (H1.out u0 w1 hown hb);clear hown hb;go_wp2_with fail;go_loopg [6] M (fun gg u wr=>∃(T:List Nat) (c':Ch),gg<=M/\Hid (Nw ls c T c')/\Hid (NSt w O F v ds n gg c' T u (QB u) wr))
 case atStart=>exact⟨T0,c,zD _,HNW,HS1⟩
 case round=>
  obtain⟨T,c',hgM,HW,HS⟩:=hrel;obtain⟨wx,hwx⟩:∃wx,wx=wr:=⟨_,rfl⟩
  subst hwx;cases T with
  |nil=>
   have HFIN:Hid (NarE w O F v ds n (narrowC ls c) (.returned (.tuple #[])) wx):=zA (by
    obtain⟨l',Z',rows',hni⟩:=HS.out.ni;rw[<- HW.out.done];exact⟨rfl,l',Z',rows',hni.grow (G':=fun _=>False) (zD _) rfl rfl rfl (fun _ _ _=>rfl) (fun _ hk=>hk.elim) HFL.out hni.fr.size⟩)
   rcases HS.out.q with⟨rfl,_⟩|⟨g,off,cap,cur,rfl,_⟩
   . go_wp2;go_end0;exact HFIN.out
   . go_wp2;go_end0;exact HFIN.out
  |cons a T'=>
   rcases HS.out.q with⟨_,hq0⟩|⟨g,off,cap,cur,rfl,hgB,hgb,hoc,hlc,hcells⟩
   . cases hq0
   . have hca:wx.cell? ⟨g,off,none⟩=some (.int .i64 (a:Int)):=by
      have:=hcells 0 a rfl;rw[yA]at this;simp only[World.cell?,hgb];exact this
     obtain⟨nt,hnt⟩:∃k,k=T'.length:=⟨_,rfl⟩
     have hlc2:nt+1<=cap:=by rw[hnt];simpa using hlc
     rw[yG,<- hnt];have hntl:nt<=100000000:=by
      have h1:=HS.out.mu;unfold muC at h1;rw[yG,<- hnt]at h1;omega
     have HQ2:Hid (cap=1->QRow w.heap.size wx (.slice (some ⟨g,off,none⟩) 0 0) T'):=zA (fun hc1=>by
      have h0:T'=[]:=yL.1 (by omega);subst h0;exact .inr ⟨g,off,0,cur,rfl,hgB,hgb,by omega,zD _,fun j x hx=>by simp at hx⟩)
     have HQ3:Hid (cap≠1->QRow w.heap.size wx (.slice (some ⟨g,off+1,none⟩) nt (cap-1)) T'):=zA (fun hc1=>.inr ⟨g,off+1,cap-1,cur,by rw[hnt],hgB,hgb,by omega,by omega,fun j x hx=>by
      have:=hcells (j+1) x (by simpa using hx);rw[show off+1+j=off+(j+1) by omega];exact this⟩)
     have hcapI:(nt:Int)+1<=(cap:Int):=by omega
     have hntI:(0:Int)<(nt:Int)+1:=by omega
     have HNT:=zA hnt;clear hcells hlc hnt;go_upto_region 3 with fail;go_cut [6] (fun s6 wz=>Hid (QRow w.heap.size wz s6 T')/\Hid (∀k,QB s6 k->k=g)/\wz=wx)
     case first=>
      by_cases hc1:cap=1
      . have HQ:=zA (HQ2.out hc1);subst hc1;have hnt0:nt=0:=by omega
        subst hnt0;go_wp2_with fail;go_meet;exact⟨HQ,zA (fun k hk=>by obtain⟨_,_,_,e⟩:=hk;injection e with e;injection e with e;injection e with e;exact e.symm),rfl⟩
      . have HQ:=zA (HQ3.out hc1);have hc2:¬(cap:Int)=1:=by omega
        go_wp2_with fail;go_meet;exact⟨HQ,zA (fun k hk=>by obtain⟨_,_,_,e⟩:=hk;injection e with e;injection e with e;injection e with e;exact e.symm),rfl⟩
     case rest=>
     obtain⟨HQR,HQG,rfl⟩:=hcut;have HNA:Hid (NwA ls c T' a 0 c'):=zA HW.out.pop;have hac:a<c'.length:=HS.out.tm a (zL ..);have hcl':c'.length=m0:=by rw[HM0.out];exact HW.out.len
     have ham:a<m0:=by omega
     have hgg1:1<=gk:=by have h1:=HS.out.mu;unfold muC at h1;rw[yG]at h1;omega
     have HST:Hid (NSt w O F v ds n (gk-1) c' T' u6 (QB u6) wc):=zA (by
      obtain⟨l',Z',rows',hni⟩:=HS.out.ni;refine⟨by have h1:=HS.out.mu;unfold muC at h1 ⊢;rw[yG]at h1;omega,⟨l',Z',rows',hni.grow (zD _) rfl rfl rfl (fun _ _ _=>rfl) (fun k hk=>.inl ?_) HFL.out hni.fr.size⟩,HQR.out,fun k hk=>HS.out.tm k (zP _ hk)⟩;rw[HQG.out k hk];exact⟨off,_,cap,rfl⟩)
     have HFRW:Hid (Fr F w wc):=zA (by obtain⟨l',Z',rows',hni⟩:=HS.out.ni;exact hni.fr);have q3:=HJ.out wc HFRW.out;have HCL:=zA hcl';have HAC:=zA ham;obtain⟨W0,hW0⟩:∃W,W=wc:=⟨_,rfl⟩
     subst hW0;clear HQ2 HQ3 HQR HQG hgb hca HS HW hcl' hac ham hcapI hntI hgB hoc hlc2 hntl HNT;go_wp2_with fail;go_loopw [6,25] (fun u k wr=>∃(i:Nat) (T2:List Nat) (c2:Ch),i<=nk/\k=.int .i64 i/\Hid (NwA ls c T2 a i c2)/\Hid (c2.length=m0)/\Hid (NSt w O F v ds n (gk-1) c2 T2 u (QB u) wr)) (fun _ k _=>nk-(intOf k).toNat)
     case atStart=>exact⟨0,T',c',zO _,rfl,HNA,HCL,HST⟩
     case round=>
      obtain⟨i,T2,c2,hi,rfl,HN2,HC2,HS2⟩:=hrel;obtain⟨wy,hwy⟩:∃wy,wy=wr:=⟨_,rfl⟩
      subst hwy;clear q3;by_cases hlt:i<nk
      . have hltI:(i:Int)<(nk:Int):=by omega
        obtain⟨⟨frx,tox,tb,bb⟩,hL⟩:∃x,lks[i]?=some x:=⟨_,zB (by rw[<- HNK.out];exact hlt)⟩
        obtain⟨lk,hlk⟩:∃x,ls[i]?=some x:=⟨_,zB (by rw[HOK.out.len,<- HNK.out];exact hlt)⟩
        obtain⟨k1,k2,k3,k4,k5,k6,k7⟩:=HOK.out.at_ i _ lk hL hlk;dsimp only at k1 k2 k3 k4 k5 k6 k7;rw[<- HM0.out]at k4 k5;obtain⟨lf,lt,lR⟩:=lk;dsimp only at k1 k2 k6 k7;subst k1 k2;have HFY:Hid (Fr F w wy):=zA (by obtain⟨l',Z',rows',hni⟩:=HS2.out.ni;exact hni.fr);obtain⟨kg,koff,hka,hkF,hkl,hcell⟩:=(HLK.out.fr HFY.out).get hL;subst hka;have c0:=hcell 0 _ rfl;have c1:=hcell 1 _ rfl;have c2':=hcell 2 _ rfl;have c3:=hcell 3 _ rfl;dsimp only at c0 c1 c2' c3;rw[yA]at c0;have HK6:=zA k6;have HK7:=zA k7;have HLKI:=zA hlk;obtain⟨lb,hlb⟩:∃b,b=wy.heap.size:=⟨_,rfl⟩
        obtain⟨o,ho⟩:∃o,o=Obj.cells #[.int .i64 (lf:Int),.int .i64 (lt:Int),.pointer (some ⟨tb,0,none⟩),.pointer (some ⟨bb,0,none⟩)] 140 (0,0):=⟨_,rfl⟩
        obtain⟨wz,hwz⟩:∃W,W=wy.alloc o:=⟨_,rfl⟩
        have hbz:Below wy.heap.size wy wz:=by rw[hwz];exact(zE _ _).alloc (zD _) _
        have hszz:wz.heap.size=wy.heap.size+1:=by rw[hwz];simp
        have hlbz:wz.heap[lb]?=some (.cells #[.int .i64 (lf:Int),.int .i64 (lt:Int),.pointer (some ⟨tb,0,none⟩),.pointer (some ⟨bb,0,none⟩)] 140 (0,0)):=by rw[hwz,hlb,<- ho];exact heap_alloc_new _ _
        have hQlb:¬QB u6 lb:=fun hk=>by have:=(HS2.out.q.lt hk).2;omega
        have HQLB:=zA hQlb;have HBOX:Hid (∀u:World,u.heap[lb]?=wz.heap[lb]?->u.cell? ⟨lb,0,none⟩=some (.int .i64 (lf:Int))/\u.cell? ⟨lb,1,none⟩=some (.int .i64 (lt:Int))/\u.cell? ⟨lb,2,none⟩=some (.pointer (some ⟨tb,0,none⟩))/\u.cell? ⟨lb,3,none⟩=some (.pointer (some ⟨bb,0,none⟩))):=zA (fun u hu=>by
         have h1:=hu.trans hlbz;simp[World.cell?,h1])
        have HNIz:Hid (∃l Z rows,NI w O F (fun k=>QB u6 k\/k=lb) v ds n c2 wz l Z rows):=zA (by
         obtain⟨l',Z',rows',hni⟩:=HS2.out.ni;exact⟨l',Z',rows',hni.grow hbz.size hbz.os hbz.tape hbz.output (fun k hk _=>hbz.block k hk) (fun k hk=>by
          rcases hk with hk|hk
          . exact .inl hk
          . exact .inr ⟨by omega,by omega⟩) HFL.out hni.fr.size⟩)
        have HQz:Hid (QRow w.heap.size wz u6 T2):=zA (HS2.out.q.keep (fun g _ hg=>hbz.block g (HS2.out.q.lt hg).2));have hT2l:T2.length<=100000000:=by have h1:=HS2.out.mu;unfold muC at h1;omega
        have HMU:=zA HS2.out.mu;have HTM:=zA HS2.out.tm;obtain⟨b0,b1,b2,b3⟩:=HBOX.out wz rfl;have HSZ:Hid (w.heap.size<=wz.heap.size):=zA (by have:=HFY.out.size;omega);have HFZ:Hid (Fr F w wz):=zA (by obtain⟨l',Z',rows',hni⟩:=HNIz.out;exact hni.fr);have HWZ:Hid (wy.alloc (.cells #[.int .i64 (lf:Int),.int .i64 (lt:Int),.pointer (some ⟨tb,0,none⟩),.pointer (some ⟨bb,0,none⟩)] 140)=wz):=zA (by rw[hwz,ho]);have HLBE:=zA hlb;have b0z:=b0;have b1z:=b1;have b2z:=b2;have b3z:=b3;rw[hwz,hlb,ho]at b0z b1z b2z b3z;clear hL hlk hcell hbz hlbz hQlb k6 k7 hwz ho hlb hszz;by_cases hfa:lf=a
        . have hta:¬lt=a:=fun e=>k3 (hfa.trans e.symm)
          subst hfa;have htaI:¬(lt:Int)=(lf:Int):=by omega
          have htaB:((lt:Int)==(lf:Int))=false:=by simp;omega
          have CS:=zA (fun(l':List Sx) (Z':Nat->Prop) (rows':List (Value×List Nat)) (hni:NI w O F (fun k=>QB u6 k\/k=lb) v ds n c2 wz l' Z' rows')=>hni.some_strike HDN.out (HTAB.out wz HFZ.out) HF0.out HK6.out (a:=lf) (b:=lt) (by rw[HC2.out];omega) (by rw[HC2.out];omega));obtain⟨lz,Zz,rz,hniz⟩:=HNIz.out;have CSz:=zA (CS.out lz Zz rz hniz);clear CS hniz;have HN3:=zA (HN2.out.there HLKI.out k3 rfl (by rw[HC2.out];omega));have HMU3:=zA (mu_strike (c:=c2) (a:=lf) (b:=lt) (Q:=lR) (T:=T2) (by rw[HC2.out];omega));have HL3:Hid ((strikeC c2 lf lt lR).length=m0):=zA (by rw[strike_len];exact HC2.out);dsimp only at HN3;obtain⟨ch,hch⟩:∃ch,ch=decide (((atC c2 lt).filter (leadB1 c2 lf lR)).length≠(atC c2 lt).length):=⟨_,rfl⟩
          rw[<- hch]at CSz;have HTD:Hid (todoC c2 lf lt lR T2=if ch=true then T2++[lt]else T2):=zA (by
           unfold todoC;rw[hch];by_cases e:((atC c2 lt).filter (leadB1 c2 lf lR)).length=(atC c2 lt).length
           . rw[if_pos e,if_neg (by simp[e])]
           . rw[if_neg e,if_pos (by simp[e])])
          obtain⟨c3,hc3⟩:∃x,x=strikeC c2 lf lt lR:=⟨_,rfl⟩
          obtain⟨T3,hT3⟩:∃x,x=todoC c2 lf lt lR T2:=⟨_,rfl⟩
          rw[<- hc3,<- hT3]at HN3 HMU3;rw[<- hc3]at HL3 CSz;rw[<- hT3]at HTD;clear hch hc3 hT3;go_wp2_with fail;rw[HWZ.out];refine CSz.out.mono ?_;rintro e w2 ⟨rfl,⟨l2,Z2,r2,hni2⟩,hf2⟩;have HNI2:Hid (∃l Z rows,NI w O F (fun k=>QB u6 k\/k=lb) v ds n c3 w2 l Z rows):=zA ⟨l2,Z2,r2,hni2⟩;have HQ2:Hid (QRow w.heap.size w2 u6 T2):=zA (HQz.out.keep (fun g _ hg=>hf2.block g (.inl hg)));have HSZ2:Hid (w.heap.size<=w2.heap.size):=zA (zT HSZ.out hf2.size);have HLB2:Hid (w2.heap[lb]?=wz.heap[lb]?):=zA (hf2.block lb (.inr rfl));have hlbl2:lb<w2.heap.size:=by have:=hf2.size;have h3:=World.block_lt_of_cell? _ _ b0;have h3:lb<wz.heap.size:=h3;omega
          obtain⟨x0,x1,x2,x3⟩:=HBOX.out w2 HLB2.out;clear hni2 hf2 b0z b1z b2z b3z;rw[<- HLBE.out];cases ch with
          |false=>
           have HTT:Hid (T3=T2):=zA HTD.out;have HS3:Hid (NSt w O F v ds n (gk-1) c3 T3 u6 (QB u6) w2):=zA (by
            obtain⟨l',Z',rows',hni⟩:=HNI2.out;exact⟨zT HMU3.out HMU.out,⟨l',Z',rows',hni.grow (zD _) rfl rfl rfl (fun _ _ _=>rfl) (fun k hk=>.inl (.inl hk)) HFL.out hni.fr.size⟩,by rw[HTT.out];exact HQ2.out,fun k hk=>by rw[HTT.out]at hk;rw[HL3.out,<- HC2.out];exact HTM.out k hk⟩)
           go_wp2;go_roundw
           case rel=>exact⟨i+1,T3,c3,by omega,by go_num,HN3,HL3,HS3⟩
           case measure=>simp[intOf];omega
          |true=>
           have HTT:Hid (T3=T2++[lt]):=zA HTD.out;obtain⟨w3,hw3⟩:∃W,W=w2.alloc (.cells #[.int .i64 (lt:Int)] 3):=⟨_,rfl⟩
           have hb3:Below w2.heap.size w2 w3:=by rw[hw3];exact(zE _ _).alloc (zD _) _
           have hy3:w3.cell? ⟨w2.heap.size,0,none⟩=some (.int .i64 (lt:Int)):=by
            have h1:w3.heap[w2.heap.size]?=some (.cells #[.int .i64 (lt:Int)] 3 (0,0)):=by rw[hw3];exact heap_alloc_new _ _
            simp[World.cell?,h1]
           have HY3:=zA hy3;have HQ3:Hid (QRow w.heap.size w3 u6 T2):=zA (HQ2.out.keep (fun g _ hg=>hb3.block g (HQ2.out.lt hg).2));have HB3:=zA hb3;have HSZ3:Hid (w.heap.size<=w3.heap.size):=zA (zT HSZ2.out hb3.size);have HW3:Hid (w2.alloc (.cells #[.int .i64 (lt:Int)] 3)=w3):=zA hw3.symm;clear hy3 hb3 hw3;go_wp2_with (at_builtin;rw[HW3.out];refine wpList_append_q rfl _ _ rfl (by rfl) HQ3.out (by omega) ⟨w2.heap.size,0,none⟩ 1 lt (by rfl) HY3.out HSZ3.out ?_);intro u9 w9 q1 q2 q3 q4 q5 q6 q7;have hk9:∀k,k<w2.heap.size->¬QB u6 k->w9.heap[k]?=w2.heap[k]?:=fun k hk hne=>(q6 k (zQ hk HB3.out.size) hne).trans (HB3.out.block k hk)
           have HS3:Hid (NSt w O F v ds n (gk-1) c3 T3 u9 (QB u9) w9):=zA (by
            obtain⟨l',Z',rows',hni⟩:=HNI2.out;refine⟨zT HMU3.out HMU.out,⟨l',Z',rows',hni.grow (zT HB3.out.size q2) (q3.trans HB3.out.os) (q4.trans HB3.out.tape) (q5.trans HB3.out.output) (fun k hk hne=>hk9 k hk (fun h2=>hne (.inl h2))) (fun k hk=>?_) HFL.out hni.fr.size⟩,by rw[HTT.out];exact q1,fun k hk=>?_⟩
            . rcases q7 k hk with h2|h2
              . exact .inl (.inl h2)
              . exact .inr ⟨zT HB3.out.size h2.1,h2.2⟩
            . rw[HTT.out]at hk;rw[HL3.out];rcases zM.1 hk with hk|hk
              . rw[<- HC2.out];exact HTM.out k hk
              . rw[zK.1 hk];omega)
           obtain⟨y0,y1,y2,y3⟩:=HBOX.out w9 ((hk9 lb hlbl2 HQLB.out).trans HLB2.out);clear q1 q2 q3 q4 q5 q6 q7 hk9 x0 x1 x2 x3;go_wp2;go_roundw
           case rel=>exact⟨i+1,T3,c3,by omega,by go_num,HN3,HL3,HS3⟩
           case measure=>simp[intOf];omega
        . have hfaI:¬(lf:Int)=(a:Int):=by omega
          have hfaB:((lf:Int)==(a:Int))=false:=by simp;omega
          by_cases hta:lt=a
          . subst hta;have CS:=zA (fun(l':List Sx) (Z':Nat->Prop) (rows':List (Value×List Nat)) (hni:NI w O F (fun k=>QB u6 k\/k=lb) v ds n c2 wz l' Z' rows')=>hni.some_strike HDN.out (HTAB.out wz HFZ.out) HF0.out HK7.out (a:=lt) (b:=lf) (by rw[HC2.out];omega) (by rw[HC2.out];omega));obtain⟨lz,Zz,rz,hniz⟩:=HNIz.out;have CSz:=zA (CS.out lz Zz rz hniz);clear CS hniz;have HN3:=zA (HN2.out.back HLKI.out k3 rfl (by rw[HC2.out];omega));have HMU3:=zA (mu_strike (c:=c2) (a:=lt) (b:=lf) (Q:=(fun v u=>lR u v)) (T:=T2) (by rw[HC2.out];omega));have HL3:Hid ((strikeC c2 lt lf (fun v u=>lR u v)).length=m0):=zA (by rw[strike_len];exact HC2.out);dsimp only at HN3;obtain⟨ch,hch⟩:∃ch,ch=decide (((atC c2 lf).filter (leadB1 c2 lt (fun v u=>lR u v))).length≠(atC c2 lf).length):=⟨_,rfl⟩
            rw[<- hch]at CSz;have HTD:Hid (todoC c2 lt lf (fun v u=>lR u v) T2=if ch=true then T2++[lf]else T2):=zA (by
             unfold todoC;rw[hch];by_cases e:((atC c2 lf).filter (leadB1 c2 lt (fun v u=>lR u v))).length=(atC c2 lf).length
             . rw[if_pos e,if_neg (by simp[e])]
             . rw[if_neg e,if_pos (by simp[e])])
            obtain⟨c3,hc3⟩:∃x,x=strikeC c2 lt lf (fun v u=>lR u v):=⟨_,rfl⟩
            obtain⟨T3,hT3⟩:∃x,x=todoC c2 lt lf (fun v u=>lR u v) T2:=⟨_,rfl⟩
            rw[<- hc3,<- hT3]at HN3 HMU3;rw[<- hc3]at HL3 CSz;rw[<- hT3]at HTD;clear hch hc3 hT3;go_wp2_with fail;rw[HWZ.out];refine CSz.out.mono ?_;rintro e w2 ⟨rfl,⟨l2,Z2,r2,hni2⟩,hf2⟩;have HNI2:Hid (∃l Z rows,NI w O F (fun k=>QB u6 k\/k=lb) v ds n c3 w2 l Z rows):=zA ⟨l2,Z2,r2,hni2⟩;have HQ2:Hid (QRow w.heap.size w2 u6 T2):=zA (HQz.out.keep (fun g _ hg=>hf2.block g (.inl hg)));have HSZ2:Hid (w.heap.size<=w2.heap.size):=zA (zT HSZ.out hf2.size);have HLB2:Hid (w2.heap[lb]?=wz.heap[lb]?):=zA (hf2.block lb (.inr rfl));have hlbl2:lb<w2.heap.size:=by have:=hf2.size;have h3:=World.block_lt_of_cell? _ _ b0;have h3:lb<wz.heap.size:=h3;omega
            obtain⟨x0,x1,x2,x3⟩:=HBOX.out w2 HLB2.out;clear hni2 hf2 b0z b1z b2z b3z;rw[<- HLBE.out];cases ch with
            |false=>
             have HTT:Hid (T3=T2):=zA HTD.out;have HS3:Hid (NSt w O F v ds n (gk-1) c3 T3 u6 (QB u6) w2):=zA (by
              obtain⟨l',Z',rows',hni⟩:=HNI2.out;exact⟨zT HMU3.out HMU.out,⟨l',Z',rows',hni.grow (zD _) rfl rfl rfl (fun _ _ _=>rfl) (fun k hk=>.inl (.inl hk)) HFL.out hni.fr.size⟩,by rw[HTT.out];exact HQ2.out,fun k hk=>by rw[HTT.out]at hk;rw[HL3.out,<- HC2.out];exact HTM.out k hk⟩)
             go_wp2;go_roundw
             case rel=>exact⟨i+1,T3,c3,by omega,by go_num,HN3,HL3,HS3⟩
             case measure=>simp[intOf];omega
            |true=>
             have HTT:Hid (T3=T2++[lf]):=zA HTD.out;obtain⟨w3,hw3⟩:∃W,W=w2.alloc (.cells #[.int .i64 (lf:Int)] 3):=⟨_,rfl⟩
             have hb3:Below w2.heap.size w2 w3:=by rw[hw3];exact(zE _ _).alloc (zD _) _
             have hy3:w3.cell? ⟨w2.heap.size,0,none⟩=some (.int .i64 (lf:Int)):=by
              have h1:w3.heap[w2.heap.size]?=some (.cells #[.int .i64 (lf:Int)] 3 (0,0)):=by rw[hw3];exact heap_alloc_new _ _
              simp[World.cell?,h1]
             have HY3:=zA hy3;have HQ3:Hid (QRow w.heap.size w3 u6 T2):=zA (HQ2.out.keep (fun g _ hg=>hb3.block g (HQ2.out.lt hg).2));have HB3:=zA hb3;have HSZ3:Hid (w.heap.size<=w3.heap.size):=zA (zT HSZ2.out hb3.size);have HW3:Hid (w2.alloc (.cells #[.int .i64 (lf:Int)] 3)=w3):=zA hw3.symm;clear hy3 hb3 hw3;go_wp2_with (at_builtin;rw[HW3.out];refine wpList_append_q rfl _ _ rfl (by rfl) HQ3.out (by omega) ⟨w2.heap.size,0,none⟩ 1 lf (by rfl) HY3.out HSZ3.out ?_);intro u9 w9 q1 q2 q3 q4 q5 q6 q7;have hk9:∀k,k<w2.heap.size->¬QB u6 k->w9.heap[k]?=w2.heap[k]?:=fun k hk hne=>(q6 k (zQ hk HB3.out.size) hne).trans (HB3.out.block k hk)
             have HS3:Hid (NSt w O F v ds n (gk-1) c3 T3 u9 (QB u9) w9):=zA (by
              obtain⟨l',Z',rows',hni⟩:=HNI2.out;refine⟨zT HMU3.out HMU.out,⟨l',Z',rows',hni.grow (zT HB3.out.size q2) (q3.trans HB3.out.os) (q4.trans HB3.out.tape) (q5.trans HB3.out.output) (fun k hk hne=>hk9 k hk (fun h2=>hne (.inl h2))) (fun k hk=>?_) HFL.out hni.fr.size⟩,by rw[HTT.out];exact q1,fun k hk=>?_⟩
              . rcases q7 k hk with h2|h2
                . exact .inl (.inl h2)
                . exact .inr ⟨zT HB3.out.size h2.1,h2.2⟩
              . rw[HTT.out]at hk;rw[HL3.out];rcases zM.1 hk with hk|hk
                . rw[<- HC2.out];exact HTM.out k hk
                . rw[zK.1 hk];omega)
             obtain⟨y0,y1,y2,y3⟩:=HBOX.out w9 ((hk9 lb hlbl2 HQLB.out).trans HLB2.out);clear q1 q2 q3 q4 q5 q6 q7 hk9 x0 x1 x2 x3;go_wp2;go_roundw
             case rel=>exact⟨i+1,T3,c3,by omega,by go_num,HN3,HL3,HS3⟩
             case measure=>simp[intOf];omega
          . have htaI:¬(lt:Int)=(a:Int):=by omega
            have htaB:((lt:Int)==(a:Int))=false:=by simp;omega
            have HN3:=zA (HN2.out.pass HLKI.out hfa hta);have HS3:Hid (NSt w O F v ds n (gk-1) c2 T2 u6 (QB u6) wz):=zA (by
             obtain⟨l',Z',rows',hni⟩:=HNIz.out;exact⟨HMU.out,⟨l',Z',rows',hni.grow (zD _) rfl rfl rfl (fun _ _ _=>rfl) (fun k hk=>.inl (.inl hk)) HFL.out hni.fr.size⟩,HQz.out,HTM.out⟩)
            go_wp2;rw[HWZ.out];go_roundw
            case rel=>exact⟨i+1,T2,c2,by omega,by go_num,HN3,HC2,HS3⟩
            case measure=>simp[intOf];omega
      . have hltI:¬(i:Int)<(nk:Int):=by omega
        have HN3:Hid (Nw ls c T2 c2):=zA (by
         have h1:=HN2.out;have h2:i=ls.length:=by rw[HOK.out.len,<- HNK.out];omega
         rw[h2]at h1;exact h1.end_)
        go_wp2;go_roundg (gk-1)
        case measure=>omega
        case rel=>exact⟨T2,c2,by omega,HN3,HS2⟩
structure ChR (F:Nat->Prop) (w:World) (v:Value) (n:Nat) (c:Ch):Prop where
 ex:∃rows:List (Value×List Nat),rows.map (·.2)=c/\SlS csRow 1 F w v rows/\(∀r∈rows,NatC F w r.1 r.2)/\∀r∈rows,(∀u∈r.2,u<n)/\r.2.length<=10000
theorem ChR.keep{F T:Nat->Prop}{w w':World}{v:Value}{n:Nat}{c:Ch}(h:ChR F w v n c)(hz:w.heap.size<=w'.heap.size)(hk:∀b,F b->b<w.heap.size->T b/\w'.heap[b]?=w.heap[b]?):ChR T w' v n c:=by
 obtain⟨rows,h1,h2,h3,h4⟩:=h.ex;exact⟨rows,h1,h2.keep hz hk,fun r hr=>(h3 r hr).keep hz hk,h4⟩
structure JS (w:World) (F:Nat->Prop) (jb:Nat) (ds:List Sy) (n m:Nat) (lks:List Lm) (ls:List Lk) (l:List Sx):Prop where
 pool:Pool w l
 like:l.map syOf=ds
 low:Low F w
 un:∀k,F k->∀x∈l,¬OwnX x k
 tab:TabG w
 f0:F 0
 jF:F jb
 lk:∃lv,w.cell? ⟨jb,3,none⟩=some lv/\SlS csL 4 F w lv lks
 ll:lks.length<=1000
 ok:LinksOk ds n m lks ls
 nn:n<=10000
 mm:m<=1000
theorem JS.below{w w':World}{F:Nat->Prop}{jb:Nat}{ds:List Sy}{n m:Nat}{lks:List Lm}{ls:List Lk}{l:List Sx}(h:JS w F jb ds n m lks ls l)(hb:Below w.heap.size w w'):JS w' F jb ds n m lks ls l:=by
 obtain⟨lv,h1,h2⟩:=h.lk;exact⟨h.pool.below hb,h.like,h.low.below hb,h.un,h.tab.below (h.low 0 h.f0) hb,h.f0,h.jF,⟨lv,by simpa only[World.cell?,hb.block jb (h.low jb h.jF)]using h1,h2.below hb⟩,h.ll,h.ok,h.nn,h.mm⟩
theorem JS.more{w w':World}{F T:Nat->Prop}{jb:Nat}{ds:List Sy}{n m:Nat}{lks:List Lm}{ls:List Lk}{l:List Sx}(h:JS w F jb ds n m lks ls l)(hb:Below w.heap.size w w')(hT:∀k,T k->F k\/(w.heap.size<=k/\k<w'.heap.size))(hs:∀k,F k->T k):JS w' T jb ds n m lks ls l:=by
 obtain⟨lv,h1,h2⟩:=(h.below hb).lk;refine⟨h.pool.below hb,h.like,fun k hk=>?_,fun k hk x hx ho=>?_,h.tab.below (h.low 0 h.f0) hb,hs 0 h.f0,hs jb h.jF,⟨lv,h1,h2.sub (fun k hk _=>hs k hk)⟩,h.ll,h.ok,h.nn,h.mm⟩
 . rcases hT k hk with h3|h3
   . exact zQ (h.low k h3) hb.size
   . exact h3.2
 . rcases hT k hk with h3|h3
   . exact h.un k h3 x hx ho
   . have:=h.pool.own_lt hx ho;omega
def ChoC(w:World)(C F:Nat->Prop)(jb:Nat)(ds:List Sy)(n m:Nat)(lks:List Lm)(ls:List Lk)(v:Value)(c:Ch)(w':World):Prop:=
 ∃F' C' l',(∀k,F k->F' k)/\Fr F w w'/\JS w' F' jb ds n m lks ls l'/\ChR C' w' v n c/\(∀k,C' k->F' k)/\(∀k,C' k->C k\/w.heap.size<=k)
def ChoE(w:World)(F:Nat->Prop)(jb:Nat)(ds:List Sy)(n m:Nat)(lks:List Lm)(ls:List Lk)(v:Value)(c:Ch)(w':World):Prop:=
 ∃F' l',(∀k,F k->F' k)/\Fr F w w'/\JS w' F' jb ds n m lks ls l'/\ChR F' w' v n c
theorem ac_set{ls:List Lk}{c:Ch}(hac:AC ls c){slot vx:Nat}(hs:slot<c.length)(hv:vx∈atC c slot):∀l∈ls,(l.fr∈[slot]\/HC (c.set slot [vx]) l.fr l.to l.R)/\(l.to∈[slot]\/HC (c.set slot [vx]) l.to l.fr (fun v u=>l.R u v)):=fun l hl=>by
 have key:∀(a b:Nat) (Q:Nat->Nat->Prop),HC c a b Q->a∈[slot]\/HC (c.set slot [vx]) a b Q:=fun a b Q h=>by
  by_cases e:a=slot
  . exact .inl (by rw[e];exact zL ..)
  . refine .inr fun v hv2=>?_
    rw[atC_set c _ _ hs]at hv2;have hv3:v∈atC c b:=by
     split at hv2
     . rename_i eb;rw[zK.1 hv2,<- eb];exact hv
     . exact hv2
    obtain⟨u,hu,hq⟩:=h v hv3;exact⟨u,by rw[atC_set c _ _ hs,if_neg (fun e2=>e e2.symm)];exact hu,hq⟩
 exact⟨key _ _ _ (hac l hl).1,key _ _ _ (hac l hl).2⟩
theorem one_nat{w:World}{b x:Nat}(h:w.heap[b]?=some (.cells #[.int .i64 (x:Int)] 3 (0,0))):NatC (fun k=>k=b) w (.slice (some ⟨b,0,none⟩) 1 1) [x]:=by
 refine⟨⟨_,1,rfl,.inr ⟨b,0,rfl,rfl,lt_of_block h,fun j y hy c u hu=>?_⟩⟩,_,1,rfl,zD _⟩
 match j,hy with
 |0,hy=>
  simp at hy;subst hy
  match c,hu with
  |0,hu=>
   simp at hu;subst hu;simp[World.cell?,h]
  |c+1,hu=>simp at hu
 |j+1,hy=>simp at hy
theorem JS.choose{w w1 W4:World}{C F:Nat->Prop}{jb:Nat}{ds:List Sy}{n:Nat}{c:Ch}{lks:List Lm}{ls:List Lk}{l:List Sx}{rows:List (Value×List Nat)}{g1 nr cap slot vx:Nat}
 (h:JS w F jb ds n c.length lks ls l) (hrc:rows.map (·.2)=c) (hCF:∀k,C k->F k) (hat:∀r∈rows,NatC C w r.1 r.2) (hbd:∀r∈rows,(∀u∈r.2,u<n)/\r.2.length<=10000) (hnr:nr=rows.length)
 (hs:slot<c.length) (hv:vx∈atC c slot) (hac:AC ls c) (hb1:Below w.heap.size w w1) (hg1:w.heap.size<=g1) (hg1l:g1<w1.heap.size) (hsz:W4.heap.size=w1.heap.size+2) (ho:W4.os=w1.os) (ht:W4.tape=w1.tape) (hu:W4.output=w1.output)
 (hk:∀k,k<w1.heap.size->k≠g1->W4.heap[k]?=w1.heap[k]?) (hA:W4.heap[w1.heap.size]?=some (.cells #[.int .i64 (vx:Int)] 3 (0,0))) (hB:W4.heap[w1.heap.size+1]?=some (.cells #[.int .i64 (slot:Int)] 3 (0,0)))
 (hrow:W4.ownsRow 0 59 1 (.slice (some ⟨g1,0,none⟩) nr cap) nr ((rows.set slot (.slice (some ⟨w1.heap.size,0,none⟩) 1 1,[vx])).flatMap csRow)):
 Calls Tryz.prog 76 #[.pointer (some ⟨jb,0,none⟩),.slice (some ⟨g1,0,none⟩) nr cap,.slice (some ⟨w1.heap.size+1,0,none⟩) 1 1] W4 fun e w'=>e=.returned (.tuple #[])/\ChoC w C F jb ds n c.length lks ls (.slice (some ⟨g1,0,none⟩) nr cap) (chooseC ls c slot vx) w':=by
 have hz1:=hb1.size;have hold:∀k,k<w.heap.size->W4.heap[k]?=w.heap[k]?:=fun k hk2=>(hk k (by omega) (by omega)).trans (hb1.block k hk2)
 have hvn:vx<n:=by
  have hrl:rows.length=c.length:=by rw[<- hrc,zH]
  obtain⟨r,hr⟩:∃r,rows[slot]?=some r:=⟨_,zB (by omega)⟩
  have hcs:atC c slot=r.2:=by unfold atC;rw[<- hrc,List.getD,zI,hr];rfl
  rw[hcs]at hv;exact(hbd r (zC hr)).1 vx hv
 have hob:∀k,(Value.slice (some ⟨g1,0,none⟩) nr cap).ownBlock=some k->k=g1:=fun k e=>by
  have h3:g1=k:=by simpa[Value.ownBlock]using e
  exact h3.symm
 have hFw:Fr F w W4:=⟨ho.trans hb1.os,ht.trans hb1.tape,hu.trans hb1.output,by omega,fun k hk2=>hold k (h.low k hk2)⟩
 have hni:NI W4 (fun k=>C k\/w.heap.size<=k) (fun k=>F k\/k=w1.heap.size+1) (fun _=>False) (.slice (some ⟨g1,0,none⟩) nr cap) ds n (c.set slot [vx]) W4 l (fun k=>(k<W4.heap.size/\∀x∈l,¬OwnX x k)/\(C k\/w.heap.size<=k)) (rows.set slot (.slice (some ⟨w1.heap.size,0,none⟩) 1 1,[vx])):=by
  have hnew:∀k,w.heap.size<=k->∀x∈l,¬OwnX x k:=fun k hk2 x hx ho2=>by have:=h.pool.own_lt hx ho2;omega
  refine⟨h.pool.keep (by omega) (fun x hx k hk2=>hold k (hk2.elim (h.pool.own_lt hx) (h.pool.kp_lt hx))),h.like,⟨by rw[List.length_set,<- hnr];exact hrow,fun g hg=>?_,fun r hr=>?_⟩,by rw[List.map_set,hrc],fun k hk2=>hk2.1.1,fun k hk2=>hk2.1.2,fun x hx k hk2 e=>?_,fun r hr=>?_,Fr.refl _ _,fun k hk2=>?_,fun _ hk2=>hk2.elim,fun _ hk2=>hk2.elim,fun _ hk2=>hk2.elim,fun _ hk2 _=>hk2.2⟩
  . rw[hob g hg];exact⟨⟨by omega,hnew g1 hg1⟩,.inr hg1⟩
  . rcases List.mem_or_eq_of_mem_set hr with hr|hr
    . exact(hat r hr).keep (by omega) (fun k hk2 hk3=>⟨⟨⟨⟨by omega,h.un k (hCF k hk2)⟩,.inl hk2⟩,fun e=>by have:=hob k e;omega⟩,hold k hk3⟩)
    . rw[hr];exact(one_nat hA).sub (fun k hk2 _=>⟨⟨⟨by omega,hnew k (by omega)⟩,.inr (by omega)⟩,fun e=>by have:=hob k e;omega⟩)
  . have h3:=h.pool.kp_lt hx hk2;have:=hob k e;omega
  . rcases List.mem_or_eq_of_mem_set hr with hr|hr
    . exact hbd r hr
    . rw[hr];exact⟨fun u hu2=>by rw[zK.1 hu2];exact hvn,by simp⟩
  . rcases hk2 with hk2|hk2
    . have:=h.low k hk2;exact⟨by omega,h.un k hk2,fun e=>by have:=hob k e;omega⟩
    . exact⟨by omega,hnew k (by omega),fun e=>by have:=hob k e;omega⟩
 obtain⟨lv,hl1,hl2⟩:=h.lk;have hlow4:Low (fun k=>F k\/k=w1.heap.size+1) W4:=fun k hk2=>by
  rcases hk2 with hk2|hk2
  . have:=h.low k hk2;omega
  . omega
 have hok4:LinksOk ds n (c.set slot [vx]).length lks ls:=by rw[List.length_set];exact h.ok
 have C:=narrow_any (jb:=jb) (lv:=lv) (chv:=.slice (some ⟨w1.heap.size+1,0,none⟩) 1 1) (T0:=[slot]) hni h.nn (h.tab.fr h.f0 hFw) (.inl h.f0) hlow4 (by rw[List.length_set];exact h.mm) (by simpa only[World.cell?,hold jb (h.low jb h.jF)]using hl1) (.inl h.jF) (hl2.keep (by omega) (fun k hk2 hk3=>⟨.inl hk2,hold k hk3⟩)) h.ll hok4 ((one_nat hB).1.sub (fun k hk2 _=>.inr hk2)) (by simp) (by simp) (fun k hk2=>by rw[zK.1 hk2,List.length_set];exact hs) (ac_set hac hs hv);refine C.mono ?_;rintro e w' ⟨rfl,l',Z',rows',hn'⟩;refine⟨rfl,fun k=>Z' k\/(F k\/k=w1.heap.size+1),Z',l',fun k hk2=>.inr (.inl hk2),hFw.trans (hn'.fr.sub (fun k hk2=>.inl hk2)),?_,?_,fun k hk2=>.inl hk2,fun k hk2=>?_⟩
 . refine⟨hn'.pool,hn'.like,fun k hk2=>?_,fun k hk2=>?_,(h.tab.fr h.f0 hFw).fr (.inl h.f0) hn'.fr,.inr (.inl h.f0),.inr (.inl h.jF),⟨lv,?_,?_⟩,h.ll,h.ok,h.nn,h.mm⟩
   . exact hk2.elim (hn'.zl k) (fun hk2=>(hn'.fo k hk2).1)
   . exact hk2.elim (hn'.zu k) (fun hk2=>(hn'.fo k hk2).2.1)
   . have h5:W4.cell? ⟨jb,3,none⟩=some lv:=by simpa only[World.cell?,hold jb (h.low jb h.jF)]using hl1
     simpa only[World.cell?,hn'.fr.block jb (.inl h.jF)]using h5
   . exact(((hl2.fr hFw).sub (fun k hk2 _=>(.inl hk2:F k\/k=w1.heap.size+1))).fr hn'.fr).sub (fun k hk2 _=>.inr hk2)
 . exact⟨rows',hn'.rc,(own_sl csRow_len hn'.ch.row rfl).sub (fun k hk2 _=>hn'.ch.own k hk2),fun r hr=>(hn'.ch.ats r hr).sub (fun k hk2 _=>hk2.1),hn'.cb⟩
 . by_cases hkw:k<W4.heap.size
   . exact hn'.zo k hk2 hkw
   . exact .inr (by omega)
def VerE(w:World)(L:List Nat)(e:Ending)(w':World):Prop:=∃v,e=.returned v/\NatC (fun k=>w.heap.size<=k) w' v L/\Below w.heap.size w w'
def vertexL(N:List Wd)(s:Wd):List Nat:=if s∈N then [N.idxOf s]else []
set_option maxHeartbeats 4000000 in
theorem vertex_any{S:Nat->Prop}{w:World}{gb:Nat}{N:List Wd}{E:List Eg}{mb:Nat}{nv ev:Value}{D:DataW Unit}{c:Nat}(h:GrS S w gb N E mb nv ev D c)(s:Wd)(hs:s.length<=140737488351232):
 Calls Tryz.prog 96 #[.pointer (some ⟨gb,0,none⟩),.string ⟨s.toArray⟩] w (VerE w (vertexL N s)):=by
 have H:=zA h;have HK:=zA (keySG s (by unfold maxLen;omega));obtain⟨⟨g0,g1,g2⟩,_⟩:=cells3G h.blk;have hh:=h.keys s;by_cases hm:s∈N
 . have HM:Hid (Maps.has D (.string s)=true):=zA (by rw[hh];exact zU hm);have hx:=h.tells (N.idxOf s) s (yC hm) (idx_at hm);have HX:=zA hx;have HL:Hid (vertexL N s=[N.idxOf s]):=zA (by rw[vertexL,if_pos hm]);rw[HL.out];obtain⟨x,hxe⟩:∃x,x=N.idxOf s:=⟨_,rfl⟩
   rw[<- hxe]at HX ⊢;clear h hh hm hx HL hxe;go_enter Tryz.func96,Tryz.ntmps96;have HONE:Hid (∀u:World,Hid (NatC (fun k=>u.heap.size<=k) (u.alloc (.cells #[.int .i64 (x:Int)] 3)) (.slice (some ⟨u.heap.size,0,none⟩) 1 1) [x])):=zA (fun u=>zA ((one_nat (b:=u.heap.size) (heap_alloc_new u _)).sub (fun k hk _=>by have hk:k=u.heap.size:=hk;omega)));go_wp2_with (at_lookup;refine wpList_lookup_own_ok_int _ rfl _ _ 72 rfl 9 3 .i64 lawSG Tryz.underlying72 Tryz.underlying3 (zeroIG _) mb _ D rfl H.out.map _ _ rfl HK.out ?_;intro cc hat hwc;rw[HM.out];have hcc:cc=(x:Int):=(by rw[HX.out]at hat;injection hat with hat;injection hat with _ hat;exact hat.symm);clear hat hwc;subst hcc);all_goals (first|(go_ret;exact⟨_,rfl,(HONE.out w).out,(zE _ _).alloc (zD _) _⟩)|exact⟨_,rfl,(HONE.out w).out,(zE _ _).alloc (zD _) _⟩)
 . have HM:Hid (Maps.has D (.string s)=false):=zA (by rw[hh];exact decide_eq_false hm);have HL:Hid (vertexL N s=[]):=zA (by rw[vertexL,if_neg hm]);rw[HL.out];clear h hh hm HL;have HNIL:Hid (NatC (fun k=>w.heap.size<=k) w (.slice none 0 0) []):=zA ⟨SlS.nil _ _,none,0,rfl,zD _⟩;go_enter Tryz.func96,Tryz.ntmps96;go_wp2_with (at_lookup;refine wpList_lookup_own_ok_int _ rfl _ _ 72 rfl 9 3 .i64 lawSG Tryz.underlying72 Tryz.underlying3 (zeroIG _) mb _ D rfl H.out.map _ _ rfl HK.out ?_;intro cc hat hwc;rw[HM.out];clear hat hwc);all_goals (first|(go_ret;exact⟨_,rfl,HNIL.out,zE _ _⟩)|exact⟨_,rfl,HNIL.out,zE _ _⟩)
def WrdE(w:World)(L:List Wd)(e:Ending)(w':World):Prop:=∃b,e=.returned (.slice (some ⟨b,0,none⟩) L.length L.length)/\b=w.heap.size/\VRow w' b 9 (L.flatMap csT)/\Below w.heap.size w w'
theorem csT_lenX(x:Wd):(csT x).length=1:=rfl
theorem flat_T(L:List Wd):L.flatMap csT=L.map (fun s=>Value.string ⟨s.toArray⟩):=by
 induction L with
 |nil=>rfl
 |cons a l ih=>rw[yT,ih];rfl
set_option maxHeartbeats 4000000 in
theorem words_any{S T:Nat->Prop}{w:World}{gb:Nat}{N:List Wd}{E:List Eg}{mb:Nat}{nv ev:Value}{D:DataW Unit}{c:Nat}(h:GrS S w gb N E mb nv ev D c){v:Value}{row:List Nat}(hr:NatC T w v row)(hrl:row.length<=100000)(hrn:∀x∈row,x<N.length):
 Calls Tryz.prog 43 #[.pointer (some ⟨gb,0,none⟩),v] w (WrdE w (row.map fun i=>N.getD i [])):=by
 obtain⟨i0,hi0,hz0,hz1,hz2⟩:=info_partsG infoSG;obtain⟨⟨g0,_,_⟩,_⟩:=cells3G h.blk;obtain⟨na,nc,hnv⟩:=h.names.slice;obtain⟨nn,hnn⟩:∃q,q=N.length:=⟨_,rfl⟩
 rw[<- hnn]at hnv;rw[hnv]at g0;obtain⟨ra,rc,hre⟩:=hr.1.slice;obtain⟨n,hn⟩:∃q,q=row.length:=⟨_,rfl⟩
 rw[<- hn]at hre hrl;subst hre;have hgb:=lt_of_block h.blk;have HNA:Hid (TxtS S w (.slice na nn nc) N):=zA (by rw[<- hnv];exact h.names);have HR:=zA hr.1;have HRN:=zA hrn;have HN:=zA hn;have HNN:=zA hnn;obtain⟨R,hR⟩:∃R,R=row.map fun i=>N.getD i []:=⟨_,rfl⟩
 rw[<- hR];have HRR:=zA hR;have hRl:R.length=n:=by rw[hR,zH,hn]
 have HRL:=zA hRl;have HM:=zA (made_row w (.string ⟨#[]⟩) n 9);have HB0:Hid (Below w.heap.size w (w.alloc (.cells (madeCells #[.string ⟨#[]⟩] n) 9))):=zA ((zE _ _).alloc (zD _) _);have HG0:Hid (∀u,Below w.heap.size w u->u.cell? ⟨gb,0,none⟩=some (.slice na nn nc)):=zA (fun u hu=>(hu.cell (p:=⟨gb,0,none⟩) hgb).trans g0);obtain⟨W0,hW0⟩:∃W,W=w.alloc (.cells (madeCells #[.string ⟨#[]⟩] n) 9):=⟨_,rfl⟩
 rw[<- hW0]at HM HB0;have HW0:=zA hW0.symm;clear h hr hrn hn hnn hnv hR hRl hW0 g0 hgb;go_enter Tryz.func43,Tryz.ntmps43;go_wp2_with (at_make;refine wpList_make_row _ rfl _ _ 34 rfl 9 i0 (.string ⟨#[]⟩) Tryz.underlying34 hi0 hz0 hz1 rfl _ _ n rfl rfl (by rw[hz2];omega) (by omega) ?_;rw[HW0.out]);go_loopw [13] (fun c wr=>∃(i:Nat) (l:List Wd),i<=n/\c=.int .i64 i/\Hid (l.length=n)/\Hid (l.take i=R.take i)/\Hid (VRow wr w.heap.size 9 (l.flatMap csT))/\Hid (Below w.heap.size w wr)) (fun c _=>n-(intOf c).toNat)
 case atStart=>exact⟨0,List.replicate n [],zO _,rfl,zA (by simp),zA (by simp),zA (by
  have:=HM.out;rw[show (List.replicate n ([]:Wd)).flatMap csT=List.replicate n (Value.string ⟨#[]⟩) by rw[flat_T];simp];exact this),HB0⟩
 case round=>
  obtain⟨i,l,hi,rfl,HLL,HTK,HROW,HBW⟩:=hrel;obtain⟨wx,hwx⟩:∃wx,wx=wr:=⟨_,rfl⟩
  subst hwx;by_cases hlt:i<n
  . have hltI:(i:Int)<(n:Int):=by omega
    obtain⟨x,hx⟩:∃x,row[i]?=some x:=⟨_,zB (by rw[<- HN.out];exact hlt)⟩
    obtain⟨ga,goff,hra,_,hgl,hcell⟩:=HR.out.get hx;subst hra;have q0:=getI hcell;rw[yD]at q0;have q0:=(HBW.out.cell (p:=⟨ga,goff+i,none⟩) hgl).trans q0;have hxn:=HRN.out x (zC hx);rw[<- HNN.out]at hxn;have hxI:(x:Int)<(nn:Int):=by omega
    obtain⟨s,hs⟩:∃s,N[x]?=some s:=⟨_,zB (by rw[<- HNN.out];exact hxn)⟩
    obtain⟨gn,noff,hna,_,hnl,hcelln⟩:=HNA.out.get hs;subst hna;have q1:=hcelln 0 _ rfl;rw[yD,yA]at q1;have q1:=(HBW.out.cell (p:=⟨gn,noff+x,none⟩) hnl).trans q1;have q2:=HG0.out wx HBW.out;obtain⟨y,hy⟩:∃y,l[i]?=some y:=⟨_,zB (by rw[HLL.out];exact hlt)⟩
    obtain⟨z0,z1⟩:=HROW.out.cell (i:=i) (v:=.string ⟨y.toArray⟩) (by rw[flat_T,zI,hy];rfl);have HR2:Hid (VRow (wx.setCell ⟨w.heap.size,i,none⟩ (.string ⟨s.toArray⟩)) w.heap.size 9 ((l.set i s).flatMap csT)):=zA (by
     have:=HROW.out.set i (.string ⟨s.toArray⟩);rw[flat_T]at this ⊢;rw[List.map_set];exact this)
    have HB2:=zA (HBW.out.setCell (p:=⟨w.heap.size,i,none⟩) (zD _) (.string ⟨s.toArray⟩));have HT2:Hid ((l.set i s).take (i+1)=R.take (i+1)):=zA (by
     rw[zS,List.getElem?_set_self (by rw[HLL.out];exact hlt),List.take_set_of_le (zD _),HTK.out,zS];have hRi:R[i]?=some s:=by
      rw[HRR.out,zI,hx];simp[List.getD,hs]
     rw[hRi])
    have HL2:Hid ((l.set i s).length=n):=zA (by rw[List.length_set];exact HLL.out);clear hx hs hy hcell hcelln;go_wp2;go_roundw
    case rel=>exact⟨i+1,l.set i s,by omega,by go_num,HL2,HT2,HR2,HB2⟩
    case measure=>simp[intOf];omega
  . have hltI:¬(i:Int)<(n:Int):=by omega
    have HE:Hid (l=R):=zA (by
     have h1:=HTK.out;rw[zJ (by rw[HLL.out];omega),zJ (by rw[HRL.out];omega)]at h1;exact h1)
    have HFIN:Hid (WrdE w R (.returned (.slice (some ⟨w.heap.size,0,none⟩) n n)) wx):=zA ⟨_,by rw[HRL.out],rfl,by rw[<- HE.out];exact HROW.out,HBW.out⟩;go_wp2;all_goals (first|(go_ret;exact HFIN.out)|exact HFIN.out)
theorem NewE.mono{w w2:World}{n:Nat}{E:List Eg}{a:Au}{e:Ending}{w':World}(h:NewE w2 n E a e w')(hb:Below w.heap.size w w2):NewE w n E a e w':=by
 obtain⟨sb,m,kp,h1,h2,h3,h4,h5⟩:=h;have hz:=hb.size;exact⟨sb,m,kp,h1,h2,fun k hk=>zT hz (h3 k hk),fun k hk=>⟨zT hz (h4 k hk).1,(h4 k hk).2⟩,hb.trans (h5.mono hz)⟩
set_option maxHeartbeats 8000000 in
theorem along_any{S U:Nat->Prop}{w:World}{gb:Nat}{N:List Wd}{E:List Eg}{mb:Nat}{nv ev:Value}{D:DataW Unit}{c:Nat}{t:Vt}(hg:GrS S w gb N E mb nv ev D c)(hv:VOk U w t)(hp:mayP t.pt=true)(hn:N.length<=10000)(hEl:E.length<=10000)(hE:∀e∈E,e.1<N.length/\e.2.2<N.length/\e.2.1.length<=140737488351232):
 Calls Tryz.prog 73 #[.pointer (some ⟨gb,0,none⟩),encN t] w (NewE w N.length E (autoOf t.pt)):=by
 obtain⟨P,hP⟩:∃P,P=t.pt:=⟨_,rfl⟩
 rw[<- hP]at hp ⊢;have CO:Hid (∀u,Below w.heap.size w u->Calls Tryz.prog 28 #[encN t] u fun e w'=>∃m:Mu,e=.returned (.tuple #[encU m,.int .i64 0])/\UOk (fun g=>u.heap.size<=g) w' m/\m.au=autoOf P/\Below u.heap.size u w'):=zA (fun u hu=>by
  have h1:=of_any (hv.below hu);rw[<- hP,hp,if_pos rfl]at h1;have h2:ofA P=autoOf P:=by rw[ofA,hp,if_pos rfl]
  rw[h2]at h1;exact h1)
 obtain⟨hmay,_⟩:=auto_will hp;have HG:=zA hg;have HMAY:=zA hmay;have HE:=zA hE;obtain⟨ka,kc,hkv⟩:=hv.parts.1.slice;obtain⟨k,wd,v,l⟩:=t;dsimp only at hkv;subst hkv;obtain⟨kn,hkn⟩:∃n,n=l.length:=⟨_,rfl⟩
 rw[<- hkn]at CO ⊢;clear hg hv hp hP hkn hmay hE;show Calls Tryz.prog _ #[_,.agg #[.int .i64 k,.string ⟨wd.toArray⟩,.slice ka kn kc]] w _;obtain⟨o,ho⟩:∃o,o=Obj.cells #[.int .i64 k,.string ⟨wd.toArray⟩,.slice ka kn kc] 25 (0,0):=⟨_,rfl⟩
 have HBA:Hid (Below w.heap.size w (w.alloc o)):=zA ((zE _ _).alloc (zD _) _);have C1:=zA (CO.out (w.alloc o) HBA.out);subst ho;have C1b:Hid (Calls Tryz.prog 28 #[.agg #[.int .i64 k,.string ⟨wd.toArray⟩,.slice ka kn kc]] (w.alloc (Obj.cells #[.int .i64 k,.string ⟨wd.toArray⟩,.slice ka kn kc] 25 (0,0))) fun e w'=>∃m:Mu,e=.returned (.tuple #[encU m,.int .i64 0])/\UOk (fun g=>(w.alloc (Obj.cells #[.int .i64 k,.string ⟨wd.toArray⟩,.slice ka kn kc] 25 (0,0))).heap.size<=g) w' m/\m.au=autoOf P/\Below (w.alloc (Obj.cells #[.int .i64 k,.string ⟨wd.toArray⟩,.slice ka kn kc] 25 (0,0))).heap.size (w.alloc (Obj.cells #[.int .i64 k,.string ⟨wd.toArray⟩,.slice ka kn kc] 25 (0,0))) w'):=C1;clear C1 CO;go_enter Tryz.func73,Tryz.ntmps73;go_wp2_with fail;refine C1b.out.mono ?_;rintro e w1 ⟨m,rfl,hu,hau,hb1⟩;have HU:=zA hu;have HAU:=zA hau;have HB1:=zA (HBA.out.trans (hb1.mono HBA.out.size));obtain⟨wa,wcc,fa2,fc2,la,lc,oa,oc,e1,e2,e3,e4⟩:=hu.slices;obtain⟨wv,ws,fv,fs2,lv,ls,ov,os,em⟩:=m;dsimp only at e1 e2 e3 e4;subst e1 e2 e3 e4;clear hu hau hb1 C1b;obtain⟨nw,hnw⟩:∃n,n=ws.length:=⟨_,rfl⟩
 obtain⟨no,hno⟩:∃n,n=os.length:=⟨_,rfl⟩
 obtain⟨nf2,hnf2⟩:∃n,n=fs2.length:=⟨_,rfl⟩
 obtain⟨nl,hnl⟩:∃n,n=ls.length:=⟨_,rfl⟩
 obtain⟨mu0,hmu⟩:∃m:Mu,m=⟨.slice wa ws.length wcc,ws,.slice fa2 fs2.length fc2,fs2,.slice la ls.length lc,ls,.slice oa os.length oc,os,em⟩:=⟨_,rfl⟩
 rw[<- hmu]at HU HAU;have HEN:Hid (encU mu0=.agg #[.slice wa nw wcc,.slice fa2 nf2 fc2,.slice la nl lc,.slice oa no oc,.bool em]):=zA (by rw[hmu,hnw,hno,hnf2,hnl]);rw[<- hmu,HEN.out];clear hmu hnw hno hnf2 hnl;obtain⟨o2,ho2⟩:∃o,o=Obj.cells #[.slice wa nw wcc,.slice fa2 nf2 fc2,.slice la nl lc,.slice oa no oc,.bool em] 62 (0,0):=⟨_,rfl⟩
 obtain⟨w2,hw2⟩:∃W,W=w1.alloc o2:=⟨_,rfl⟩
 have hb12:Below w1.heap.size w1 w2:=by rw[hw2];exact(zE _ _).alloc (zD _) _
 have HB2:=zA (HB1.out.trans (hb12.mono HB1.out.size));have hbx:w2.heap[w1.heap.size]?=some o2:=by rw[hw2];exact heap_alloc_new _ _
 rw[ho2]at hbx;obtain⟨⟨r0,r1,r2,r3,r4⟩,_⟩:=five_cells hbx;have CN:=zA (newSearch_any (HG.out.keep HB2.out.size (fun b hs hl=>⟨hs,HB2.out.block b hl⟩)) (HU.out.below hb12) (by rw[HAU.out];exact HMAY.out) hn hEl HE.out);rw[HAU.out,HEN.out]at CN;have HW2:Hid (w1.alloc (.cells #[.slice wa nw wcc,.slice fa2 nf2 fc2,.slice la nl lc,.slice oa no oc,.bool em] 62)=w2):=zA (by rw[hw2,ho2]);rw[hw2,ho2]at r0 r1 r2 r3 r4;clear hb12 hbx hw2 ho2;go_wp2_with fail;rw[HW2.out];refine CN.out.mono ?_;intro e w3 hnew;have HNEW:=zA (hnew.mono HB2.out);obtain⟨sb,m3,kp,rfl,_⟩:=hnew;go_wp2;all_goals (first|(go_ret;exact HNEW.out)|exact HNEW.out)
theorem infoRG:(Tryz.prog.info? 59).map (fun i=>(i.zero,i.size,i.bytes))=some (some (.slice none 0 0),1,24):=by kernel_rfl
theorem cloneC_any{S:Nat->Prop}{w:World}{v:Value}{L:List (Value×List Nat)}(h:SlS csRow 1 S w v L)(hat:∀r∈L,NatC S w r.1 r.2)(hne:L≠[])(hL:L.length<=1000000000):
 Calls Tryz.prog 75 #[v] w fun e w'=>∃g cap,e=.returned (.slice (some ⟨g,0,none⟩) L.length cap)/\w'.ownsRow w.heap.size 59 1 (.slice (some ⟨g,0,none⟩) L.length cap) L.length (L.flatMap csRow)/\Below w.heap.size w w':=by
 obtain⟨i0,hi0,hz0,hz1,hz2⟩:=info_partsG infoRG;obtain⟨ao,cap,e,h⟩:=h;subst e;have hsz:∀w,(Go.sizeOf 59).run Tryz.prog w=.ok 1 w:=fun w=>by kernel_rfl
 rcases h with h|⟨g,off,rfl,_,_,hc⟩
 . exact absurd h hne
 refine(Tryz.slices_Clone_f75 i0 _ 1 24 hi0 hz0 hz1 hz2 rfl (by decide) hsz g off L.length cap (L.flatMap csRow) w (by rw[flat_len csRow_len]) (by unfold maxLen;omega) (by omega) (fun j u hj=>?_) (fun u hu=>?_)).mono ?_
 . rw[flat_row,zI]at hj;cases hLj:L[j]? with
   |none=>rw[hLj]at hj;simp at hj
   |some z=>
    rw[hLj]at hj;simp at hj;subst hj;have:=hc j z hLj 0 _ rfl;rw[yD,yA]at this;exact this
 . rw[flat_row]at hu;obtain⟨z,hz,rfl⟩:=zV.1 hu;obtain⟨_,ao,cp,e,_⟩:=hat z hz;rw[e];rfl
 . rintro e w' ⟨v',rfl,h1,h3,h2⟩;rcases h1.2 with⟨e,_⟩|⟨g,cap,cur,e,_⟩
   . exact absurd e h3
   . subst e;exact⟨g,cap,rfl,h1,h2⟩
theorem ChoC.old{w:World}{F:Nat->Prop}{jb:Nat}{ds:List Sy}{n m:Nat}{lks:List Lm}{ls:List Lk}{v:Value}{c:Ch}{w':World}{C:Nat->Prop}(h:ChoC w C F jb ds n m lks ls v c w'):ChoE w F jb ds n m lks ls v c w':=by
 obtain⟨F',C',l',h1,h2,h3,h4,h5,_⟩:=h;exact⟨F',l',h1,h2,h3,h4.keep (zD _) (fun b hb _=>⟨h5 b hb,rfl⟩)⟩
def ChoZ(w:World)(C F:Nat->Prop)(jb:Nat)(ds:List Sy)(n m:Nat)(lks:List Lm)(ls:List Lk)(c:Ch)(e:Ending)(w':World):Prop:=
 ∃v,e=.returned v/\ChoC w C F jb ds n m lks ls v c w'
def ChoR(w:World)(F:Nat->Prop)(jb:Nat)(ds:List Sy)(n m:Nat)(lks:List Lm)(ls:List Lk)(c:Ch)(e:Ending)(w':World):Prop:=
 ∃v,e=.returned v/\ChoE w F jb ds n m lks ls v c w'
set_option maxHeartbeats 4000000 in
theorem chooseZ_any{w:World}{C F:Nat->Prop}{jb:Nat}{ds:List Sy}{n:Nat}{c:Ch}{lks:List Lm}{ls:List Lk}{l:List Sx}{v:Value}{slot vx:Nat}
 (h:JS w F jb ds n c.length lks ls l) (hc:ChR C w v n c) (hCF:∀k,C k->F k) (hs:slot<c.length) (hv:vx∈atC c slot) (hac:AC ls c):
 Calls Tryz.prog 102 #[.pointer (some ⟨jb,0,none⟩),v,.int .i64 (slot:Int),.int .i64 (vx:Int)] w (ChoZ w C F jb ds n c.length lks ls (chooseC ls c slot vx)):=by
 obtain⟨rows,hrc,hsl,hat,hbd⟩:=hc.ex;have hrl:rows.length=c.length:=by rw[<- hrc,zH]
 have hmm:=h.mm;obtain⟨nr,hnr⟩:∃k,k=rows.length:=⟨_,rfl⟩
 have C0:=cloneC_any hsl hat (fun e=>by rw[e]at hrl;simp at hrl;omega) (by omega);rw[<- hnr]at C0;have hsr:slot<nr:=by omega
 have hsI:(slot:Int)<(nr:Int):=by omega
 have C1:Hid (∀w1 g1 cap,w1.ownsRow w.heap.size 59 1 (.slice (some ⟨g1,0,none⟩) nr cap) nr (rows.flatMap csRow)->Below w.heap.size w w1->∀W4,W4=((w1.setCell ⟨g1,slot,none⟩ (.slice (some ⟨w1.heap.size,0,none⟩) 1 1)).alloc (.cells #[.int .i64 (vx:Int)] 3)).alloc (.cells #[.int .i64 (slot:Int)] 3)->
  Calls Tryz.prog 76 #[.pointer (some ⟨jb,0,none⟩),.slice (some ⟨g1,0,none⟩) nr cap,.slice (some ⟨w1.heap.size+1,0,none⟩) 1 1] W4 fun e w'=>e=.returned (.tuple #[])/\ChoC w C F jb ds n c.length lks ls (.slice (some ⟨g1,0,none⟩) nr cap) (chooseC ls c slot vx) w'):=zA (fun w1 g1 cap hown hb1 W4 hW=>by
  obtain⟨hg1,hg1l⟩:=hown.lt g1 rfl;have hst:=(hown.stored slot (.slice (some ⟨w1.heap.size,0,none⟩) 1 1)).1;obtain⟨wa,hwa⟩:∃x,x=w1.setCell ⟨g1,slot,none⟩ (.slice (some ⟨w1.heap.size,0,none⟩) 1 1):=⟨_,rfl⟩
  have hza:wa.heap.size=w1.heap.size:=by rw[hwa];simp
  have hka:∀k,k≠g1->wa.heap[k]?=w1.heap[k]?:=fun k hk=>by rw[hwa];exact zN w1 ⟨g1,slot,none⟩ _ k hk
  have hoa:wa.os=w1.os/\wa.tape=w1.tape/\wa.output=w1.output:=by rw[hwa];exact⟨rfl,rfl,rfl⟩
  rw[<- hwa]at hW hst;obtain⟨wb,hwb⟩:∃x,x=wa.alloc (.cells #[.int .i64 (vx:Int)] 3):=⟨_,rfl⟩
  rw[<- hwb]at hW;have hbb:Below wa.heap.size wa wb:=by rw[hwb];exact(zE _ _).alloc (zD _) _
  have hzb:wb.heap.size=wa.heap.size+1:=by rw[hwb];simp
  have hAb:wb.heap[wa.heap.size]?=some (.cells #[.int .i64 (vx:Int)] 3 (0,0)):=by rw[hwb];exact heap_alloc_new _ _
  have hb4:Below wb.heap.size wb W4:=by rw[hW];exact(zE _ _).alloc (zD _) _
  have hz4:W4.heap.size=wb.heap.size+1:=by rw[hW];simp
  have hB4:W4.heap[wb.heap.size]?=some (.cells #[.int .i64 (slot:Int)] 3 (0,0)):=by rw[hW];exact heap_alloc_new _ _
  refine h.choose hrc hCF hat hbd hnr hs hv hac hb1 hg1 hg1l (by omega) (hb4.os.trans (hbb.os.trans hoa.1)) (hb4.tape.trans (hbb.tape.trans hoa.2.1)) (hb4.output.trans (hbb.output.trans hoa.2.2)) (fun k hk hne=>?_) ?_ ?_ ?_
  . exact(hb4.block k (by omega)).trans ((hbb.block k (by omega)).trans (hka k hne))
  . rw[<- hza];exact(hb4.block _ (by omega)).trans hAb
  . rw[show w1.heap.size+1=wb.heap.size by omega];exact hB4
  . rw[flat_set];have h1:W4.ownsRow w.heap.size 59 1 (.slice (some ⟨g1,0,none⟩) nr cap) nr ((rows.flatMap csRow).set slot (.slice (some ⟨w1.heap.size,0,none⟩) 1 1)):=owns_key hst (fun g o hg ho=>by
     have hgl:=lt_of_block ho;exact(hb4.block g (by omega)).trans ((hbb.block g hgl).trans ho))
    refine⟨h1.1,h1.2.imp id ?_⟩;rintro⟨g,cp,cur,e1,_,e3⟩;exact⟨g,cp,cur,e1,zO _,e3⟩)
 have C0H:=zA C0;obtain⟨Q,hQ⟩:∃Q,Q=ChoZ w C F jb ds n c.length lks ls (chooseC ls c slot vx):=⟨_,rfl⟩
 obtain⟨P,hP⟩:∃P,P=fun v=>ChoC w C F jb ds n c.length lks ls v (chooseC ls c slot vx):=⟨_,rfl⟩
 have HQ:Hid (∀v w',P v w'->Q (.returned v) w'):=zA (fun v w' hp=>by rw[hQ];rw[hP]at hp;exact⟨v,rfl,hp⟩);have C2:Hid (∀w1 g1 cap,w1.ownsRow w.heap.size 59 1 (.slice (some ⟨g1,0,none⟩) nr cap) nr (rows.flatMap csRow)->Below w.heap.size w w1->∀W4,W4=((w1.setCell ⟨g1,slot,none⟩ (.slice (some ⟨w1.heap.size,0,none⟩) 1 1)).alloc (.cells #[.int .i64 (vx:Int)] 3)).alloc (.cells #[.int .i64 (slot:Int)] 3)->
  Calls Tryz.prog 76 #[.pointer (some ⟨jb,0,none⟩),.slice (some ⟨g1,0,none⟩) nr cap,.slice (some ⟨w1.heap.size+1,0,none⟩) 1 1] W4 fun e w'=>e=.returned (.tuple #[])/\P (.slice (some ⟨g1,0,none⟩) nr cap) w'):=zA (by rw[hP];exact C1.out)
 rw[<- hQ];clear C0 C1 h hc hCF hs hv hac hrc hsl hat hbd hrl hmm hnr hQ hP;go_enter Tryz.func102,Tryz.ntmps102;go_wp2_with fail;refine C0H.out.mono ?_;rintro e w1 ⟨g1,cap,rfl,hown,hb⟩;obtain⟨hg1,hg1l⟩:=hown.lt g1 rfl;have hcl:∃u,w1.cell? ⟨g1,slot,none⟩=some u:=⟨_,(hown.cellAt slot (by omega)).trans (zB (by rw[hown.1];omega))⟩
 obtain⟨u0,hu0⟩:=hcl;have hfz:=hown.frozenAt slot;have C3:=zA (C2.out w1 g1 cap hown hb);clear hown hb C2 C0H;go_wp2_with fail;refine(C3.out _ rfl).mono ?_;rintro e w' ⟨rfl,hp⟩;have HP:=zA (HQ.out _ _ hp);clear hp C3 HQ;go_wp2;all_goals (first|(go_ret;exact HP.out)|exact HP.out)
theorem choose_any{w:World}{F:Nat->Prop}{jb:Nat}{ds:List Sy}{n:Nat}{c:Ch}{lks:List Lm}{ls:List Lk}{l:List Sx}{v:Value}{slot vx:Nat}
 (h:JS w F jb ds n c.length lks ls l) (hc:ChR F w v n c) (hs:slot<c.length) (hv:vx∈atC c slot) (hac:AC ls c):
 Calls Tryz.prog 102 #[.pointer (some ⟨jb,0,none⟩),v,.int .i64 (slot:Int),.int .i64 (vx:Int)] w (ChoR w F jb ds n c.length lks ls (chooseC ls c slot vx)):=by
 refine(chooseZ_any h hc (fun _ hk=>hk) hs hv hac).mono ?_;rintro e w' ⟨v,rfl,hp⟩;exact⟨v,rfl,hp.old⟩
def lnkB(a b:Nat)(L:Lm):Bool:=(L.1==a&&L.2.1==b)||(L.1==b&&L.2.1==a)
theorem nz_int{p q:Nat}(h:p≠q):¬(p:Int)=(q:Int)/\((p:Int)==(q:Int))=false:=⟨by omega,by simp;omega⟩
set_option maxHeartbeats 4000000 in
theorem linked1_any{w:World}{pa pb a b:Nat}(ha:w.cell? ⟨pa,0,none⟩=some (.int .i64 (a:Int)))(hb:w.cell? ⟨pb,0,none⟩=some (.int .i64 (b:Int)))(L:Lm):
 Calls Tryz.prog 156 #[.agg (csL L).toArray,.pointer (some ⟨pa,0,none⟩),.pointer (some ⟨pb,0,none⟩)] w fun e w'=>e=.returned (.bool (lnkB a b L))/\Below w.heap.size w w':=by
 obtain⟨x,y,s,t⟩:=L;have hal:=World.block_lt_of_cell? _ _ ha;have hbl:=World.block_lt_of_cell? _ _ hb;have hal:pa<w.heap.size:=hal;have hbl:pb<w.heap.size:=hbl;have hc:∀(i:Nat) v,(csL (x,y,s,t))[i]?=some v->(w.alloc (.cells #[.int .i64 (x:Int),.int .i64 (y:Int),.pointer (some ⟨s,0,none⟩),.pointer (some ⟨t,0,none⟩)] 140)).cell? ⟨w.heap.size,i,none⟩=some v:=fun i v hv=>by
  obtain⟨W,hW⟩:∃W,W=w.alloc (.cells #[.int .i64 (x:Int),.int .i64 (y:Int),.pointer (some ⟨s,0,none⟩),.pointer (some ⟨t,0,none⟩)] 140):=⟨_,rfl⟩
  have h1:W.heap[w.heap.size]?=some (.cells #[.int .i64 (x:Int),.int .i64 (y:Int),.pointer (some ⟨s,0,none⟩),.pointer (some ⟨t,0,none⟩)] 140 (0,0)):=by rw[hW];exact heap_alloc_new _ _
  rw[<- hW];simpa[World.cell?,h1]using hv
 have c0:=hc 0 _ rfl;have c1:=hc 1 _ rfl;have c2:=hc 2 _ rfl;have c3:=hc 3 _ rfl;dsimp only at c0 c1 c2 c3;obtain⟨r,hr⟩:∃r,r=lnkB a b (x,y,s,t):=⟨_,rfl⟩
 rw[<- hr];show Calls Tryz.prog 156 #[.agg #[.int .i64 (x:Int),.int .i64 (y:Int),.pointer (some ⟨s,0,none⟩),.pointer (some ⟨t,0,none⟩)],.pointer (some ⟨pa,0,none⟩),.pointer (some ⟨pb,0,none⟩)] w _;have hcase:(x=a/\y=b/\r=true)\/(x=a/\a=b/\y≠b/\r=false)\/(x=a/\y≠b/\a≠b/\r=false)\/(x=b/\y=a/\x≠a/\r=true)\/(x=b/\x≠a/\y≠a/\r=false)\/(x≠a/\x≠b/\r=false):=by
  unfold lnkB at hr;dsimp only at hr;cases h1:(x==a)<;>cases h2:(y==b)<;>cases h3:(x==b)<;>cases h4:(y==a)<;>rw[h1,h2,h3,h4]at hr<;>simp only[beq_iff_eq,beq_eq_false_iff_ne]at h1 h2 h3 h4<;>(subst hr;simp only[Bool.and_true,Bool.and_false,Bool.or_true,Bool.or_false,reduceCtorEq,and_false,and_true,or_false,false_or];omega)
 clear hc hr;rcases hcase with⟨rfl,rfl,hr⟩|⟨rfl,rfl,h1,hr⟩|⟨rfl,h1,h2,hr⟩|⟨rfl,rfl,h1,hr⟩|⟨rfl,h1,h2,hr⟩|⟨h1,h2,hr⟩
 . subst hr;go_enter Tryz.func156,Tryz.ntmps156;go_wp2;all_goals (first|(go_ret;exact⟨rfl,(zE _ _).alloc (zD _) _⟩)|exact⟨rfl,(zE _ _).alloc (zD _) _⟩)
 . subst hr;obtain⟨f1,g1⟩:=nz_int h1;go_enter Tryz.func156,Tryz.ntmps156;go_wp2;all_goals (first|(go_ret;exact⟨rfl,(zE _ _).alloc (zD _) _⟩)|exact⟨rfl,(zE _ _).alloc (zD _) _⟩)
 . subst hr;obtain⟨f1,g1⟩:=nz_int h1;obtain⟨f2,g2⟩:=nz_int h2;go_enter Tryz.func156,Tryz.ntmps156;go_wp2;all_goals (first|(go_ret;exact⟨rfl,(zE _ _).alloc (zD _) _⟩)|exact⟨rfl,(zE _ _).alloc (zD _) _⟩)
 . subst hr;obtain⟨f1,g1⟩:=nz_int h1;go_enter Tryz.func156,Tryz.ntmps156;go_wp2;all_goals (first|(go_ret;exact⟨rfl,(zE _ _).alloc (zD _) _⟩)|exact⟨rfl,(zE _ _).alloc (zD _) _⟩)
 . subst hr;obtain⟨f1,g1⟩:=nz_int h1;obtain⟨f2,g2⟩:=nz_int h2;go_enter Tryz.func156,Tryz.ntmps156;go_wp2;all_goals (first|(go_ret;exact⟨rfl,(zE _ _).alloc (zD _) _⟩)|exact⟨rfl,(zE _ _).alloc (zD _) _⟩)
 . subst hr;obtain⟨f1,g1⟩:=nz_int h1;obtain⟨f2,g2⟩:=nz_int h2;go_enter Tryz.func156,Tryz.ntmps156;go_wp2;all_goals (first|(go_ret;exact⟨rfl,(zE _ _).alloc (zD _) _⟩)|exact⟨rfl,(zE _ _).alloc (zD _) _⟩)
theorem idxL_none(ao:Option Addr)(cap:Nat)(fv:Value)(w:World):
 Calls Tryz.prog 158 #[.slice ao 0 cap,fv] w fun e w'=>e=.returned (.int .i64 (-1))/\w'=w:=by
 go_enter Tryz.func158,Tryz.ntmps158;go_wp2_with fail;go_loopw [8] (fun c wr=>c=.int .i64 0/\wr=w) (fun _ _=>0)
 case atStart=>exact⟨rfl,rfl⟩
 case round=>
  obtain⟨rfl,rfl⟩:=hrel;go_wp2;all_goals (first|(go_ret;exact⟨rfl,rfl⟩)|exact⟨rfl,rfl⟩)
theorem conL_none(ao:Option Addr)(cap:Nat)(fv:Value)(w:World):
 Calls Tryz.prog 155 #[.slice ao 0 cap,fv] w fun e w'=>e=.returned (.bool false)/\w'=w:=by
 have C:=zA (idxL_none ao cap fv w);go_enter Tryz.func155,Tryz.ntmps155;go_wp2_with fail;refine C.out.mono ?_;rintro e w5 ⟨rfl,h⟩;rw[h];clear h;go_wp2;all_goals (first|(go_ret;exact⟨rfl,rfl⟩)|exact⟨rfl,rfl⟩)
set_option maxHeartbeats 4000000 in
theorem linked_any{w:World}{F:Nat->Prop}{jb:Nat}{lv:Value}{lks:List Lm}{a b:Nat}(hj:w.cell? ⟨jb,3,none⟩=some lv)(hlk:SlS csL 4 F w lv lks)(hll:lks.length<=1000):
 Calls Tryz.prog 149 #[.pointer (some ⟨jb,0,none⟩),.int .i64 (a:Int),.int .i64 (b:Int)] w fun e w'=>e=.returned (.bool (lks.any (lnkB a b)))/\Below w.heap.size w w':=by
 obtain⟨ka,kc,hlv⟩:=hlk.slice;obtain⟨nk,hnk⟩:∃k,k=lks.length:=⟨_,rfl⟩
 obtain⟨w2,hw2⟩:∃W,W=(w.alloc (.cells #[.int .i64 (a:Int)] 3)).alloc (.cells #[.int .i64 (b:Int)] 3):=⟨_,rfl⟩
 have hb2:Below w.heap.size w w2:=by rw[hw2];exact((zE _ _).alloc (zD _) _).alloc (by simp) _
 have ha2:w2.heap[w.heap.size]?=some (.cells #[.int .i64 (a:Int)] 3 (0,0)):=by rw[hw2];exact get_atG [_,_] w 0 (by simp)
 have hbb2:w2.heap[w.heap.size+1]?=some (.cells #[.int .i64 (b:Int)] 3 (0,0)):=by rw[hw2];exact get_atG [_,_] w 1 (by simp)
 have hz2:w2.heap.size=w.heap.size+2:=by rw[hw2];simp
 obtain⟨r,hr⟩:∃r,r=lks.any (lnkB a b):=⟨_,rfl⟩
 have hj2:w2.cell? ⟨jb,3,none⟩=some lv:=by
  have hjl:jb<w.heap.size:=World.block_lt_of_cell? _ _ hj;simpa only[World.cell?,hb2.block jb hjl]using hj
 have hlk2:=hlk.below hb2;rw[hlv]at hlk2 hj2;rw[<- hnk]at hj2;have C:Calls Tryz.prog 155 #[.slice ka nk kc,.func (.func 156) #[] #[.pointer (some ⟨w.heap.size,0,none⟩),.pointer (some ⟨w.heap.size+1,0,none⟩)]] w2 fun e w'=>e=.returned (.bool r)/\Below w2.heap.size w2 w':=by
  by_cases h0:lks=[]
  . have h1:nk=0:=by rw[hnk,h0];rfl
    rw[h1,hr,h0];refine(conL_none ka kc _ w2).mono ?_;rintro e w' ⟨he,hw⟩;exact⟨he,by rw[hw];exact zE _ _⟩
  . obtain⟨ao,cap,e,h5⟩:=hlk2;injection e with e1 e2 e3;rcases h5 with h5|⟨g,off,e5,_,hgl,hc⟩
    . exact absurd h5 h0
    . rw[e1,e5,hr];have C1:=Tryz.slices_ContainsFunc 4 (fun w=>by kernel_rfl) (fun w=>by kernel_rfl) csL csL_len (lnkB a b) 156 #[.pointer (some ⟨w.heap.size,0,none⟩),.pointer (some ⟨w.heap.size+1,0,none⟩)] (fun args w=>by kernel_rfl) g off nk kc lks w2 (fun W x hW=>by
       have k1:W.cell? ⟨w.heap.size,0,none⟩=some (.int .i64 (a:Int)):=by
        have h1:=(hW.block w.heap.size (by omega)).trans ha2;simp[World.cell?,h1]
       have k2:W.cell? ⟨w.heap.size+1,0,none⟩=some (.int .i64 (b:Int)):=by
        have h1:=(hW.block (w.heap.size+1) (by omega)).trans hbb2;simp[World.cell?,h1]
       refine(linked1_any k1 k2 x).mono ?_;rintro e w' ⟨he,hb⟩;exact⟨he,hW.trans (hb.mono (by have:=hW.size;omega))⟩) (by omega) (by omega) hgl (fun j hjl i v hv=>hc j _ (by rw[List.getElem!_eq_getElem?_getD,zB hjl];rfl) i v hv)
      refine C1.mono ?_;rintro e w' ⟨he,hb⟩;rw[hnk,List.take_length]at he;exact⟨he,hb⟩
 have CH:=zA C;have HB2:=zA hb2;have hjl:jb<w.heap.size:=World.block_lt_of_cell? _ _ hj;rw[hlv,<- hnk]at hj;rw[<- hr];clear hlk hll ha2 hbb2 hlk2 C hb2 hr hnk hlv hj2;have HZ2:=zA hz2;have HW2:=zA hw2;clear hz2 hw2;go_enter Tryz.func149,Tryz.ntmps149;go_wp2_with fail;rw[<- HW2.out];refine CH.out.mono ?_;rintro e w5 ⟨rfl,hb⟩;have HB5:=zA (HB2.out.trans (hb.mono (by have:=HZ2.out;omega)));clear hb HZ2 HW2 CH HB2;go_wp2;all_goals (first|(go_ret;exact⟨rfl,HB5.out⟩)|exact⟨rfl,HB5.out⟩)
end Go.Proofs.YtkbgmcmcpbegjaaGreatDoor
