/- BAddI, BOf, GLead. -/
import Derived.Test.YtkbgmcmcpbegjaaGreatDoorZR25
import Derived.Test.YtkbgmcmcpbegjaaGreatDoorZR26
import Derived.Test.YtkbgmcmcpbegjaaGreatDoorZR13
import Derived.Test.YtkbgmcmcpbegjaaGreatDoorZR21
set_option maxRecDepth 100000
set_option maxHeartbeats 4000000
namespace Go.Proofs.YtkbgmcmcpbegjaaGreatDoor
open Go.RowKit
theorem jgN{k:Int}{w:List UInt8}{n:Nat}(h:jam k w n=true):(k=1/\n=0/\isW w=true)\/(k=2/\2<=n)\/(k=3/\2<=n)\/(k=4/\n=1)\/(k=5/\n=1)\/(k=6/\n=1):=by
 unfold jam at h;split at h
 . simp at h;rename_i hk;exact .inl ⟨hk,h.1,h.2⟩
 . split at h
   . simp at h;rename_i hk;rcases hk with hk|hk
     . exact .inr (.inl ⟨hk,h.1⟩)
     . exact .inr (.inr (.inl ⟨hk,h.1⟩))
   . split at h
     . simp at h;rename_i hk;rcases hk with hk|hk|hk
       . exact .inr (.inr (.inr (.inl ⟨hk,h.1⟩)))
       . exact .inr (.inr (.inr (.inr (.inl ⟨hk,h.1⟩))))
       . exact .inr (.inr (.inr (.inr (.inr ⟨hk,h.1⟩))))
     . cases h
theorem jhR(c:Prt->Prt->Prt)(e:Bool)(l:List Vt):jaM c e l=((l.map Vt.pt).map jay).foldl c (prt0 e):=by
 unfold jaM;rw[List.map_map];rfl
theorem jkS(l:List Vt):((l.map Vt.pt).map jap).sum=(l.map fun x=>jap x.pt).sum:=by
 rw[List.map_map];rfl
theorem jle:∀(t:Vt) (d:Nat),jaf d t.pt=true->AddF 53 t:=by
 apply Vt.ind;intro k wd v ab ih d ac;cases d with
 |zero=>simp[jaf]at ac
 |succ d=>
  rw[Vt.pt_mk,jaf,Bool.and_eq_true,Bool.and_eq_true,yF]at ac;obtain⟨⟨ad,_⟩,hk⟩:=ac;rw[zH]at ad;have aa:∀x∈ab,AddF 53 x:=fun x hx=>ih x hx d (hk x.pt (zW hx))
  rcases jgN ad with⟨rfl,hn,hw⟩|⟨rfl,hn⟩|⟨rfl,hn⟩|⟨rfl,hn⟩|⟨rfl,hn⟩|⟨rfl,hn⟩
  . obtain rfl:ab=[]:=yP.1 hn;exact jlF rfl (jg5 rfl (by have:=jg8 hw;omega))
  . refine jli rfl ?_;have h:=jiP (k:=2) (wd:=wd) (v:=v) aa;rw[jhR]at h;unfold AddF;rw[Vt.pt_mk,jcC,jaJ,jev,if_neg (by decide),if_pos rfl,if_neg (by decide),jkS];exact h
  . refine jlx rfl ?_;have h:=jit (k:=3) (wd:=wd) (v:=v) aa;rw[jhR]at h;unfold AddF;rw[Vt.pt_mk,jcC,jaJ,jev,if_neg (by decide),if_neg (by decide),if_neg (by decide),if_neg (by decide),if_neg (by decide),if_neg (by decide),jkS];exact h
  . obtain⟨x,rfl⟩:=List.length_eq_one_iff.1 hn;refine jls rfl ?_;unfold AddF;rw[jhG (.inl rfl),if_pos rfl,jdw (by decide)];exact jhc (aa x (by simp))
  . obtain⟨x,rfl⟩:=List.length_eq_one_iff.1 hn;refine jlQ rfl ?_;unfold AddF;rw[jhG (.inr (.inl rfl)),if_neg (by decide),if_pos rfl,jdw (by decide)];exact jeA (aa x (by simp))
  . obtain⟨x,rfl⟩:=List.length_eq_one_iff.1 hn;refine jlI rfl ?_;unfold AddF;rw[jhG (.inr (.inr rfl)),if_neg (by decide),if_neg (by decide),jdw (by decide)];exact jgq (aa x (by simp))
def au0:Au:=⟨[],[],[],[],false⟩
def ofA(t:Pt):Au:=if mayP t=true then jaF t else au0
theorem UOk.sub{S T:Nat->Prop}{w:World}{m:Mu}(h:UOk S w m)(hs:∀b,S b->T b):UOk T w m:=h.keep (zD _) (fun b hb _=>⟨hs b hb,rfl⟩)
theorem jlr(S:Nat->Prop)(w:World):UOk S w ⟨.slice none 0 0,[],.slice none 0 0,[],.slice none 0 0,[],.slice none 0 0,[],false⟩:=
 ⟨SlS.nil _ _,by simp,by simp,SlS.nil _ _,by simp,SlS.nil _ _,by simp,SlS.nil _ _,by simp,by simp⟩
theorem jmf{w:World}{mb:Nat}(h0:w.heap[mb]?=some (.cells (#[.slice none 0 0]++Array.replicate 24 (.int .u32 0)++#[.map (some (mb+1))]) 150 (0,0)))(h1:w.heap[mb+1]?=some (.map (jfz mb) 6)):MkAt (fun k=>k<w.heap.size/\k≠mb) w mb (mb+1) [] (fun _=>0) (.slice none 0 0):=by
 refine⟨fun h=>h.2 rfl,⟨lt_of_block h1,by omega⟩,lt_of_block h0,h1,?_,?_,?_,fun j hj=>?_,World.ownsRow_nil _ _ _ _,by simp[Value.ownBlock]⟩
 . simp[World.cell?,h0]
 . simp[World.frozen?,h0]
 . simp only[World.cell?,h0];rfl
 . refine⟨?_,by simp[World.frozen?,h0]⟩;simp only[World.cell?,h0];show (#[Value.slice none 0 0]++Array.replicate 24 (.int .u32 0)++#[.map (some (mb+1))])[1+j]?=some (.int .u32 ((0:Nat):Int));rw[Array.getElem?_append_left (by simp;omega),Array.getElem?_append_right (by simp)];simp[hj]
theorem jkR{S:Nat->Prop}{w:World}{t:Vt}(h:VOk S w t):
 Calls Tryz.prog 28 #[encN t] w fun e w'=>∃m:Mu,e=.returned (.tuple #[encU m,.int .i64 (if mayP t.pt=true then 0 else 1)])/\UOk (fun g=>w.heap.size<=g) w' m/\m.au=ofA t.pt/\Below w.heap.size w w':=by
 obtain⟨ao,ae,hv⟩:=h.parts.1.slice;have ba:=h.parts.2.2.1;obtain⟨P,hP⟩:=eX t.pt;rw[<- hP];obtain⟨b,hb⟩:=eX (mayP P);have CM:Hid (∀u,Below w.heap.size w u->Calls Tryz.prog 51 #[encN t] u fun e w'=>e=.returned (.bool b)/\Below u.heap.size u w'):=zA (fun u hu=>by rw[hb,hP];exact jhl (h.below hu));have HV:=zA h;have HP:=zA hP;have HB:=zA hb;obtain⟨k,wd,v,l⟩:=t;dsimp only at hv ba;subst hv;obtain⟨n,hn⟩:=eX l.length;have HN:=zA hn;rw[<- hn]at CM HV ba ⊢;obtain⟨ec,af⟩:=eX (if mayP P=true then 0 else 1:Int);rw[<- af];rw[<- hb]at af;clear h hP hb hn;show Calls Tryz.prog _ #[.agg #[.int .i64 k,.string ⟨wd.toArray⟩,.slice ao n ae]] w _;obtain⟨W1,ak⟩:=eX ((w.alloc (.cells #[.int .i64 k,.string ⟨wd.toArray⟩,.slice ao n ae] 25)).alloc (.cells #[.slice none 0 0,.slice none 0 0,.slice none 0 0,.slice none 0 0,.bool false] 62));have aU:Below w.heap.size w W1:=by rw[ak];exact((zF _ _).alloc (zD _) _).alloc (by simp) _
 have a2:W1.heap[w.heap.size]?=some (.cells #[.int .i64 k,.string ⟨wd.toArray⟩,.slice ao n ae] 25 (0,0)):=by rw[ak,heap_alloc_old _ _ (by simp),heap_alloc_new]
 have aW:W1.heap[w.heap.size+1]?=some (.cells #[.slice none 0 0,.slice none 0 0,.slice none 0 0,.slice none 0 0,.bool false] 62 (0,0)):=by rw[ak];exact(by simpa using heap_alloc_new (w.alloc (.cells #[.int .i64 k,.string ⟨wd.toArray⟩,.slice ao n ae] 25)) _)
 have aV:=zA ak;have ah:=zA aU;have aQ:=zA a2;have aw:=zA aW;clear ak aU a2 aW;cases b with
 |false=>
  have aK:Hid (ec=1):=zA (by rw[af];rfl);clear af;go_enter Tryz.func28,Tryz.ntmps28;go_wp2_with fail;rw[<- aV.out];refine(CM.out _ ah.out).mono ?_;rintro e w1 ⟨rfl,ad⟩;have e1:=(ad.block (w.heap.size+1) (lt_of_block aw.out)).trans aw.out;obtain⟨⟨r0,r1,r2,r3,r4⟩,⟨x0,x1,x2,x3,x4⟩⟩:=jar e1;obtain⟨⟨z0,z1,z2,z3,z4⟩,_⟩:=jar (jb2 (c0:=.slice none 0 0) (c1:=.slice none 0 0) (c2:=.slice none 0 0) (c3:=.slice none 0 0) (c4:=.bool false) e1);have HE:Hid (∃m:Mu,Ending.returned (.tuple #[.agg #[.slice none 0 0,.slice none 0 0,.slice none 0 0,.slice none 0 0,.bool false],.int .i64 1])=.returned (.tuple #[encU m,.int .i64 ec])/\UOk (fun g=>w.heap.size<=g) (set5P w1 (w.heap.size+1) (.slice none 0 0) (.slice none 0 0) (.slice none 0 0) (.slice none 0 0) (.bool false)) m/\m.au=ofA P/\Below w.heap.size w (set5P w1 (w.heap.size+1) (.slice none 0 0) (.slice none 0 0) (.slice none 0 0) (.slice none 0 0) (.bool false))):=zA (by
   refine⟨⟨.slice none 0 0,[],.slice none 0 0,[],.slice none 0 0,[],.slice none 0 0,[],false⟩,by rw[aK.out],jlr _ _,?_,Below.set5P (ah.out.trans (ad.mono ah.out.size)) (by omega) _ _ _ _ _⟩;rw[ofA,<- HB.out];rfl)
  have Z0:=zA z0;have Z1:=zA z1;have Z2:=zA z2;have Z3:=zA z3;have Z4:=zA z4;clear z0 z1 z2 z3 z4 e1 ad;unfold set5P at HE Z0 Z1 Z2 Z3 Z4;go_wp2;refine bodyPost_ret (v:=.tuple #[.agg #[.slice none 0 0,.slice none 0 0,.slice none 0 0,.slice none 0 0,.bool false],.int .i64 1]) ?_ rfl HE.out;simp[results,Tryz.results28,go_sem,Z0.out,Z1.out,Z2.out,Z3.out,Z4.out]
 |true=>
  have aK:Hid (ec=0):=zA (by rw[af];rfl);clear af;have ay:Hid (jaf 12 P=true/\jap P<=24):=zA (by
   have:=HB.out.symm;simp only[mayP,Bool.and_eq_true,decide_eq_true_eq]at this;exact this)
  have aA:Hid (Vt.pt ⟨k,wd,.slice ao n ae,l⟩=P):=zA (by rw[HP.out,<- HN.out]);go_enter Tryz.func28,Tryz.ntmps28;go_wp2_with fail;rw[<- aV.out];refine(CM.out _ ah.out).mono ?_;rintro e w1 ⟨rfl,ad⟩;have al:=zA (ah.out.trans (ad.mono ah.out.size));have aY:=zA ((ad.block (w.heap.size+1) (lt_of_block aw.out)).trans aw.out);have a7:=zA ((ad.block w.heap.size (lt_of_block aQ.out)).trans aQ.out);clear ad;go_wp2_with fail;refine(jg0 w1).mono ?_;rintro e w2 ⟨rfl,az,a4,ax⟩;have aq:=al.out.trans (ax.mono al.out.size);have aG:=lt_of_block aY.out;have aP:=zA ((ax.block (w.heap.size+1) aG).trans aY.out);have a5:=(ax.block w.heap.size (lt_of_block a7.out)).trans a7.out;obtain⟨⟨b0,b1,b2⟩,_⟩:=jag a5;have aM:=jmf az a4;have aD:Low (fun k=>k<w2.heap.size/\k≠w1.heap.size) w2:=fun k hk=>hk.1
  have a0:VOk (fun k=>k<w2.heap.size/\k≠w1.heap.size) w2 ⟨k,wd,.slice ao n ae,l⟩:=VOk.keep aq.size (fun b _ hlb=>⟨⟨zQ hlb aq.size,by have:=al.out.size;omega⟩,aq.block b hlb⟩) _ HV.out;have CA:=zA (jle ⟨k,wd,.slice ao n ae,l⟩ 12 (by rw[aA.out];exact ay.out.1) _ w2 w1.heap.size (w1.heap.size+1) [] [] (fun _=>0) (.slice none 0 0) aD aM (fun i hi=>⟨by show (0:Nat)<16777216;omega,fun j=>by simp⟩) a0 (by rw[aA.out];simpa using ay.out.2));rw[aA.out]at CA;have ag:=zA aq;have bd:=zA aD;have hmb:w1.heap.size<w2.heap.size:=lt_of_block az;have aL:=lt_of_block aP.out;clear az a4 ax aq a5 aM aD a0;go_wp2_with fail;refine CA.out.mono ?_;rintro e w3 ⟨f,lx,F3,wv3,rfl,aX,a3,a9,aI,aa⟩;have a6:=(aa.block (w.heap.size+1) ⟨aL,by omega⟩).trans aP.out;have aT:Below w.heap.size w w3:=⟨aa.os.trans ag.out.os,aa.tape.trans ag.out.tape,aa.output.trans ag.out.output,zT ag.out.size aa.size,fun b hlb=>(aa.block b ⟨zQ hlb ag.out.size,by have:=al.out.size;omega⟩).trans (ag.out.block b hlb)⟩
  obtain⟨o4,aS⟩:=eX (Obj.cells #[.int .u32 (f:Int),.int .u32 (lx:Int),.bool (jay P).empty] 103);have aC:Low (fun k=>k<w2.heap.size/\k≠w1.heap.size) w3:=bd.out.fr aa;have aO:Low (fun k=>k<w2.heap.size/\k≠w1.heap.size) (w3.alloc o4):=fun k hk=>by have:=aC k hk;simp;omega
  have av:=a9.below aC ((zF _ _).alloc (zD _) o4);have ac:=(jeF P).1;have ab:=jdc P;rw[List.nil_append]at av aI;have am:(jay P).words.length<=24:=by rw[ab.2];exact ay.out.2
  have CU:=zA (jkv (em:=(jay P).empty) aO av aI aX a3 am (fun i hi=>by
   obtain⟨y,hy,e⟩:=jaR.1 hi;have:=ac.first y hy
   simp at e;omega) (fun i hi=>by
   obtain⟨y,hy,e⟩:=jaR.1 hi;have:=ac.last y hy;simp at e;omega) (fun p hp=>by
   obtain⟨p1,p2⟩:=p;obtain⟨a,b,bb,e1,e2⟩:=jcj.1 hp;have:=(ac.pairs a b bb).2;simp at e2;simp only;omega) (fun s hs=>by
   have h1:=ab.1 12 ay.out.1;have:=jg8 (yF.1 h1 s hs);omega) w1.heap.size (fun g hg=>by
   have h1:=(av.rno g hg).1;rcases Nat.lt_or_ge g w1.heap.size with h2|h2
   . exact absurd ⟨by omega,by omega⟩ h1
   . exact h2) (by have:=aa.size;simp;omega))
  have bc:Hid ((⟨(jay P).words,rise (jay P).words.length (up ([]:List Wd).length (jay P).first),rise (jay P).words.length (up ([]:List Wd).length (jay P).last),(List.range (jay P).words.length).map (fun k=>rise (jay P).words.length (folN (upP ([]:List Wd).length (jay P).pairs) k)),(jay P).empty⟩:Au)=jaF P):=zA (by
   have h1:∀l,up ([]:List Wd).length l=l:=fun l=>by simp[up]
   have h2:∀l,upP ([]:List Wd).length l=l:=fun l=>by simp[upP]
   simp only[h1,h2];rfl)
  obtain⟨em,aZ⟩:=eX ((jay P).empty);have aR:=zA aS;have a8:=zA a6;have aH:=zA aT;rw[bc.out]at CU;rw[<- aZ]at CU aR ⊢;rw[aR.out]at CU;clear aZ ac ab am av aO aC aS a6 aT a9 aI aa aX a3 b0 b1 b2;go_wp2_with fail;refine CU.out.mono ?_;rintro e w5 ⟨m,rfl,aJ,aN,aF⟩;have aE:=lt_of_block a8.out;have aB:=(aF.block (w.heap.size+1) (by simp;omega)).trans ((heap_alloc_old _ _ aE).trans a8.out);have a1:Below w.heap.size w w5:=(aH.out.alloc aH.out.size _).trans (aF.mono (by have:=aH.out.size;simp;omega));obtain⟨wa,wc,fa,fc,la,lc,oa,oc,e1,e2,e3,e4⟩:=aJ.slices;obtain⟨mv,an,mfv,aj,mlv,ap,mov,ai,ar⟩:=m;dsimp only at e1 e2 e3 e4;subst e1 e2 e3 e4;obtain⟨⟨r0,r1,r2,r3,r4⟩,⟨x0,x1,x2,x3,x4⟩⟩:=jar aB;obtain⟨⟨z0,z1,z2,z3,z4⟩,_⟩:=jar (jb2 (c0:=.slice wa an.length wc) (c1:=.slice fa aj.length fc) (c2:=.slice la ap.length lc) (c3:=.slice oa ai.length oc) (c4:=.bool ar) aB);have HE:Hid (∃m:Mu,Ending.returned (.tuple #[.agg #[.slice wa an.length wc,.slice fa aj.length fc,.slice la ap.length lc,.slice oa ai.length oc,.bool ar],.int .i64 0])=.returned (.tuple #[encU m,.int .i64 ec])/\UOk (fun g=>w.heap.size<=g) (set5P w5 (w.heap.size+1) (.slice wa an.length wc) (.slice fa aj.length fc) (.slice la ap.length lc) (.slice oa ai.length oc) (.bool ar)) m/\m.au=ofA P/\Below w.heap.size w (set5P w5 (w.heap.size+1) (.slice wa an.length wc) (.slice fa aj.length fc) (.slice la ap.length lc) (.slice oa ai.length oc) (.bool ar))):=zA (by
   refine⟨_,by rw[aK.out],aJ.keep (by rw[jbc];exact zD _) (fun b hb _=>⟨by have:=al.out.size;omega,jaS (by omega) _ _ _ _ _⟩),?_,Below.set5P a1 (by omega) _ _ _ _ _⟩;rw[aN,ofA,<- HB.out];rfl)
  have Z0:=zA z0;have Z1:=zA z1;have Z2:=zA z2;have Z3:=zA z3;have Z4:=zA z4;clear z0 z1 z2 z3 z4 aB a1 aF aJ aN;unfold set5P at HE Z0 Z1 Z2 Z3 Z4;go_wp2;refine bodyPost_ret (v:=.tuple #[.agg #[.slice wa an.length wc,.slice fa aj.length fc,.slice la ap.length lc,.slice oa ai.length oc,.bool ar],.int .i64 0]) ?_ rfl HE.out;simp[results,Tryz.results28,go_sem,Z0.out,Z1.out,Z2.out,Z3.out,Z4.out]
end Go.Proofs.YtkbgmcmcpbegjaaGreatDoor
namespace Go.Proofs.YtkbgmcmcpbegjaaGreatDoor
open Go.RowKit Go.Shelf
def goE(E:List Eg):Nat->List Wd->Nat->Prop
 |x,[],y=>x=y
 |x,p::r,y=>∃z,(x,p,z)∈E/\goE E z r y
theorem jfQ{E:List Eg}:∀(l:List Wd) (x y z:Nat) (p:Wd),goE E x l y->(y,p,z)∈E->goE E x (l++[p]) z
 |[],x,y,z,p,h,h2=>by
  have h:x=y:=h;subst h;exact⟨z,h2,rfl⟩
 |q::l,x,y,z,p,⟨u,h1,h3⟩,h2=>⟨u,h1,jfQ l u y z p h3 h2⟩
def rdA(a:Au):Int->List Wd->Int->Prop
 |s,[],t=>s=t
 |s,w::l,t=>∃y∈jfH a s w,rdA a y l t
theorem jh3{a:Au}:∀(l:List Wd) (s u t:Int) (w:Wd),rdA a s l u->t∈jfH a u w->rdA a s (l++[w]) t
 |[],s,u,t,w,h,h2=>by
  have h:s=u:=h;subst h;exact⟨t,h2,rfl⟩
 |q::l,s,u,t,w,⟨y,hy,h⟩,h2=>⟨y,hy,jh3 l y u t w h h2⟩
theorem jf8{a:Au}:∀(l:List Wd) (s:Int),accW a s l↔∃t,rdA a s l t/\jeV a t=true
 |[],s=>⟨fun h=>⟨s,rfl,h⟩,fun⟨t,h,h2⟩=>by
  have h:s=t:=h;subst h;exact h2⟩
 |w::l,s=>by
  constructor
  . rintro⟨y,hy,h⟩;obtain⟨t,h1,h2⟩:=(jf8 l y).1 h;exact⟨t,⟨y,hy,h1⟩,h2⟩
  . rintro⟨t,⟨y,hy,h1⟩,h2⟩;exact⟨y,hy,(jf8 l y).2 ⟨t,h1,h2⟩⟩
def plz(p:Nat):Int:=if p=24 then -1 else (p:Int)
def pln(z:Int):Nat:=if z<0 then 24 else z.toNat
theorem jlf(p:Nat):pln (plz p)=p:=by
 unfold pln plz;by_cases h:p=24
 . rw[if_pos h,if_pos (by omega),h]
 . rw[if_neg h,if_neg (by omega)];omega
section
variable {a:Au} (hm:mayA a=true) {kp:Nat->Prop} {n:Nat} {E:List Eg}
include hm
theorem jf6{p:Nat}(hp:p=24\/p<a.words.length):isPl a (plz p)=true:=by
 simp only[isPl,Bool.and_eq_true,decide_eq_true_eq];have:=(jct hm).1;unfold plz;by_cases h:p=24
 . rw[if_pos h];omega
 . rw[if_neg h];rcases hp with hp|hp<;>omega
theorem jjx{p q:Nat}:(behA a p).testBit q=true↔(q:Int)∈outA a (plz p):=by
 unfold behA outA plz;by_cases h:p=24
 . rw[if_pos h,if_pos h,if_pos (by omega),jfF (fun z hz=>(ja7 (jcu hm) hz).1)]
 . rw[if_neg h,if_neg h,if_neg (by omega),Int.toNat_natCast,jfF];intro z hz;rw[List.getD]at hz;cases hg:a.follow[p]? with
   |none=>rw[hg]at hz;simp at hz
   |some l=>rw[hg]at hz;exact(ja7 (jcz hm (zC hg)) hz).1
omit hm in
theorem jkV{s:Wd}{q:Nat}:(atW a s).testBit q=true↔q<a.words.length/\a.words[q]?=some s:=jfK _ _ _ _
theorem jgR{x v q:Nat}(h:(sdOf kp n E a).Rch [x] v q):(q=24\/q<a.words.length)/\∃l,goE E x l v/\rdA a (-1) l (plz q):=by
 have h24:=(jct hm).1;induction h with
 |start hv=>
  rw[zK.1 hv];exact⟨.inl rfl,[],rfl,rfl⟩
 |step _ hs ih=>
  rename_i v p v' q _;obtain⟨hp,l,hg,hr⟩:=ih;obtain⟨⟨t,ht,e1,hb⟩,ab⟩:=hs;have aa:∃e∈E,e.1=v/\t=(e.2.2,atW a e.2.1):=by
   unfold Sd.out sdOf at ht;rw[List.getD,zI]at ht;by_cases hv:v<n
   . rw[yO hv]at ht;obtain⟨e,he,h2⟩:=List.mem_filterMap.1 (show t∈ja9 a E v from ht);split at h2
     . rename_i hc;injection h2 with h2;exact⟨e,he,hc.1,h2.symm⟩
     . cases h2
   . rw[yE (by simp;omega)]at ht;simp at ht
  obtain⟨e,he,ev,et⟩:=aa;rw[et]at hb e1;dsimp only at hb e1;obtain⟨hq,hw⟩:=jkV.1 hb;refine⟨.inr hq,l++[e.2.1],jfQ l x v v' _ hg ?_,jh3 l _ (plz p) _ _ hr ?_⟩
  . rw[<- ev,<- e1];exact he
  . have ac:plz q=(q:Int):=by unfold plz;rw[if_neg (by omega)]
    rw[ac,jfH,if_pos ⟨hm,jf6 hm hp⟩,zY];exact⟨(jjx hm).1 ab,zU (by rw[jhs,Int.toNat_natCast];exact hw)⟩
theorem jiZ(hE:∀e∈E,e.1<n/\e.2.2<n){x y:Nat}{t:Int}:∀(l:List Wd) (v p:Nat),(p=24\/p<a.words.length)->(sdOf kp n E a).Rch [x] v p->goE E v l y->rdA a (plz p) l t->(sdOf kp n E a).Rch [x] y (pln t)
 |[],v,p,_,hr,hg,hd=>by
  have hg:v=y:=hg;have hd:plz p=t:=hd;rw[<- hg,<- hd,jlf];exact hr
 |w::l,v,p,hp,hr,⟨z,hz,hg⟩,⟨u,hu,hd⟩=>by
  rw[jfH,if_pos ⟨hm,jf6 hm hp⟩,zY]at hu;obtain⟨hu1,hu2⟩:=hu;have hu2:=of_decide_eq_true hu2;have hu0:0<=u/\u<a.words.length:=by
   unfold outA at hu1;split at hu1
   . exact ja7 (jcu hm) hu1
   . rw[List.getD]at hu1;cases hg2:a.follow[(plz p).toNat]? with
     |none=>rw[hg2]at hu1;simp at hu1
     |some l2=>rw[hg2]at hu1;exact ja7 (jcz hm (zC hg2)) hu1
  obtain⟨q,rfl⟩:∃q:Nat,u=q:=⟨u.toNat,by omega⟩
  have h24:=(jct hm).1;have hqz:plz q=(q:Int):=by unfold plz;rw[if_neg (by omega)]
  rw[jhs,Int.toNat_natCast]at hu2;have hb:(atW a w).testBit q=true:=jkV.2 ⟨by omega,hu2⟩;refine jiZ hE l z q (.inr (by omega)) (.step hr ⟨⟨(z,atW a w),?_,rfl,hb⟩,(jjx hm).2 hu1⟩) hg (by rw[hqz];exact hd);unfold Sd.out sdOf;rw[List.getD,zI,yO (hE _ hz).1];show _∈ja9 a E v;refine List.mem_filterMap.2 ⟨(v,w,z),hz,?_⟩;rw[if_pos ⟨rfl,fun e=>by dsimp only at e;rw[e]at hb;simp at hb⟩]
theorem jgO{t:Nat}(ht:t=24\/t<a.words.length):(jgs a).testBit t=true↔jeV a (plz t)=true:=by
 have h24:=(jct hm).1;have hl:=jfF (L:=a.last) (fun z hz=>(ja7 (jdo hm) hz).1) t;have hb:(16777216:Nat).testBit t=decide (24=t):=Nat.testBit_two_pow (n:=24) (m:=t);have aa:(24:Int)∉a.last:=fun h=>by have:=ja7 (jdo hm) h;omega
 have e1:jeV a (plz t)=if t=24 then a.empty else decide ((t:Int)∈a.last):=by
  rw[jeV,hm,jf6 hm ht,Bool.true_and,Bool.true_and];by_cases h:t=24
  . have h1:plz t= -1:=by unfold plz;rw[if_pos h]
    rw[if_pos h,h1,if_pos (by omega)]
  . have h1:plz t=(t:Int):=by unfold plz;rw[if_neg h]
    rw[if_neg h,h1,if_neg (by omega)]
 rw[e1];by_cases h:t=24
 . rw[if_pos h];unfold jgs;have hf:(setN a.last).testBit t=false:=by
    cases hb2:(setN a.last).testBit t with
    |false=>rfl
    |true=>
     have:=hl.1 hb2;rw[h]at this;exact absurd this aa
   cases he:a.empty with
   |true=>rw[if_pos rfl,Nat.testBit_or,hb,hf,zU h.symm];simp
   |false=>rw[if_neg (by decide),hf]
 . rw[if_neg h,decide_eq_true_eq,<- hl];unfold jgs;split
   . rw[Nat.testBit_or,hb,decide_eq_false (fun e=>h e.symm),Bool.or_false]
   . exact Iff.rfl
theorem jgQ(hE:∀e∈E,e.1<n/\e.2.2<n)(x y:Nat):(sdOf kp n E a).leads [x] y↔∃l,goE E x l y/\accA a l:=by
 have h24:=(jct hm).1;constructor
 . rintro⟨p,hr,hl⟩;obtain⟨hp,l,hg,hd⟩:=jgR hm hr;exact⟨l,hg,hm,(jf8 l _).2 ⟨_,hd,(jgO hm hp).1 hl⟩⟩
 . rintro⟨l,hg,_,ha⟩;obtain⟨t,hd,he⟩:=(jf8 l _).1 ha;have h1:plz 24= -1:=rfl;have hr:=jiZ hm (kp:=kp) hE l x 24 (.inl rfl) (.start (zK.2 rfl)) hg (by rw[h1];exact hd);obtain⟨hp,_⟩:=jgR hm hr;refine⟨_,hr,(jgO hm hp).2 ?_⟩;have:plz (pln t)=t:=by
    simp only[jeV,Bool.and_eq_true,isPl,decide_eq_true_eq]at he;unfold plz pln;by_cases h:t<0
    . rw[if_pos h,if_pos rfl];omega
    . rw[if_neg h,if_neg (by omega)];omega
   rw[this];exact he
end
theorem jfx{fs:List Fa}{V:List Wd}(hV:V.Nodup)(hf:∀f∈fs,f.1∈V/\f.2.2∈V):∀(l:List Wd) (x y:Nat) (X Y:Wd),V[x]?=some X->V[y]?=some Y->(goE (fs.map (egOf V)) x l y↔goF fs X l Y)
 |[],x,y,X,Y,hx,hy=>by
  constructor
  . intro h;have h:x=y:=h;subst h;rw[hx]at hy;injection hy
  . intro h;have h:X=Y:=h;subst h;exact(List.getElem?_inj (zE.1 hx).1 hV).1 (by rw[hx,hy])
 |w::l,x,y,X,Y,hx,hy=>by
  have huniq:∀ {s:Wd} {i:Nat},V[i]?=some s->V.idxOf s=i:=fun {s i} hi=>by
   have h1:=idx_at (zC hi);exact(List.getElem?_inj (zE.1 h1).1 hV).1 (by rw[h1,hi])
  constructor
  . rintro⟨z,hz,hg⟩;obtain⟨f,hff,e⟩:=zV.1 hz;unfold egOf at e;simp only[Prod.mk.injEq]at e;obtain⟨e1,e2,e3⟩:=e;have h1:=idx_at (hf f hff).1;rw[e1,hx]at h1;injection h1 with h1;have h3:=idx_at (hf f hff).2;rw[e3]at h3;refine⟨f.2.2,?_,(jfx hV hf l z y f.2.2 Y h3 hy).1 hg⟩;rw[h1,<- e2];exact hff
  . rintro⟨Z,hz,hg⟩;have h3:=idx_at (hf _ hz).2;refine⟨V.idxOf Z,zV.2 ⟨_,hz,?_⟩,(jfx hV hf l _ y Z Y h3 hy).2 hg⟩;unfold egOf;rw[huniq hx]
theorem jca(fs:List Fa):(jac fs).Nodup:=(jaY fs).imp (fun h=>ordW.ne h)
theorem jhd(fs:List Fa):∀e∈fs.map (egOf (jac fs)),e.1<(jac fs).length/\e.2.2<(jac fs).length:=fun e he=>by
 obtain⟨f,hf,rfl⟩:=zV.1 he;exact⟨yD (jax.2 ⟨f,hf,.inl rfl⟩),yD (jax.2 ⟨f,hf,.inr rfl⟩)⟩
theorem jed{kp:Nat->Prop}{fs:List Fa}{p:Pt}(hp:mayP p=true){x y:Nat}{X Y:Wd}(hx:(jac fs)[x]?=some X)(hy:(jac fs)[y]?=some Y):(sdOf kp (jac fs).length (fs.map (egOf (jac fs))) (jaF p)).leads [x] y↔jbJ fs p X Y:=by
 obtain⟨hm,hw⟩:=jc1 hp;rw[jgQ hm (jhd fs)];unfold jbJ ja0;constructor
 . rintro⟨l,hg,ha⟩;exact⟨zC hx,l,(hw l).1 ha,(jfx (jca fs) (fun f hf=>⟨jax.2 ⟨f,hf,.inl rfl⟩,jax.2 ⟨f,hf,.inr rfl⟩⟩) l x y X Y hx hy).1 hg⟩
 . rintro⟨_,l,ha,hg⟩;exact⟨l,(jfx (jca fs) (fun f hf=>⟨jax.2 ⟨f,hf,.inl rfl⟩,jax.2 ⟨f,hf,.inr rfl⟩⟩) l x y X Y hx hy).2 hg,(hw l).2 ha⟩
end Go.Proofs.YtkbgmcmcpbegjaaGreatDoor
