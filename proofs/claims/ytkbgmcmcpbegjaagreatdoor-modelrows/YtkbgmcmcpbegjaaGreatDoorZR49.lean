/- NAwakeX, NRows. -/
import Derived.Test.YtkbgmcmcpbegjaaGreatDoorZR48
import Derived.Test.YtkbgmcmcpbegjaaGreatDoorZR30
set_option maxRecDepth 100000
set_option maxHeartbeats 8000000
namespace Go.Proofs.YtkbgmcmcpbegjaaGreatDoor
open Go.RowKit Go.Shelf
theorem jbq.slice{w:World}{v:Value}{L:List Rw}(h:jbq w v L):∃a n c,v=.slice a n c:=by
 obtain⟨rs,hr,_⟩:=h;obtain⟨a,c,e,_⟩:=hr.cap;exact⟨a,_,c,e⟩
theorem jj3{w:World}(hT:TabG w):Calls Tryz.prog 10 #[] w fun e w'=>e=.returned (.bool true)/\Below w.heap.size w w':=by
 have HT:=zA hT;have aB:0<w.heap.size:=World.block_lt_of_cell? _ _ (hT 0 (by decide));obtain⟨A,hA⟩:=eX (.cells #[.string ⟨#[97]⟩,.string ⟨#[112]⟩,.string ⟨#[98]⟩,.string ⟨#[98]⟩,.string ⟨#[112]⟩,.string ⟨#[99]⟩] 48 (0,0):Obj);obtain⟨X,hX⟩:=eX (.cells #[.string ⟨#[120]⟩] 9 (0,0):Obj);have HA:=zA hA;have aq:=zA hX;have HK:Hid (∀u:World,Below ((w.alloc A).alloc X).heap.size ((w.alloc A).alloc X) u->Below w.heap.size w u/\w.heap.size+2<=u.heap.size/\u.heap[w.heap.size]?=some A/\u.heap[w.heap.size+1]?=some X):=zA (fun u hu=>by
  have h:=hu.size;simp at h;refine⟨(((zF _ _).alloc (zD _) A).alloc (by simp) X).trans (hu.mono (by simp;omega)),h,?_,?_⟩
  . rw[hu.block _ (by simp;omega)];exact jak [A,X] w 0 (by simp)
  . rw[hu.block _ (by simp)];exact jak [A,X] w 1 (by simp))
 clear hT;go_enter Tryz.func10,Tryz.ntmps10;go_wp2_with fail;refine(jgX [112] _).mono ?_;rintro e w1 ⟨rfl,ae⟩;rw[<- HA.out,<- aq.out]at ae;have aa:=zA ae;obtain⟨k1,z1,a1,x1⟩:=HK.out _ ae;have aD:=zA (And.intro k1 (And.intro z1 (And.intro a1 x1)));clear ae k1 z1 a1 x1 hA hX;go_wp2_with fail;refine(jlq (g:=w.heap.size) (x:=w.heap.size+1) (k:=w1.heap.size) (a:=w1.heap.size+1) ?a0 ?a1 ?a2 ?a3 ?a4).mono ?_
 case a0=>exact(HK.out _ (((aa.out.alloc aa.out.size _).alloc (by have:=aa.out.size;simp at this ⊢;omega) _).alloc (by have:=aa.out.size;simp at this ⊢;omega) _)).1 |> HT.out.below aB
 case a1=>rw[<- HA.out];exact(HK.out _ (((aa.out.alloc aa.out.size _).alloc (by have:=aa.out.size;simp at this ⊢;omega) _).alloc (by have:=aa.out.size;simp at this ⊢;omega) _)).2.2.1
 case a2=>rw[<- aq.out];exact(HK.out _ (((aa.out.alloc aa.out.size _).alloc (by have:=aa.out.size;simp at this ⊢;omega) _).alloc (by have:=aa.out.size;simp at this ⊢;omega) _)).2.2.2
 case a3=>exact jak [_,_,_] w1 0 (by simp)
 case a4=>exact jak [_,_,_] w1 1 (by simp)
 rintro e w2 ⟨v2,rfl,al,av⟩;have ai:Hid (Below ((w.alloc A).alloc X).heap.size ((w.alloc A).alloc X) w2):=zA ((((aa.out.alloc aa.out.size _).alloc (by have:=aa.out.size;simp at this ⊢;omega) _).alloc (by have:=aa.out.size;simp at this ⊢;omega) _).trans (av.mono (by have:=aa.out.size;simp at this ⊢;omega)));obtain⟨ra,rn,rc,rfl⟩:=al.slice;have ap:=zA al;clear al av aa aD;go_wp2_with fail;refine(jgX [112] _).mono ?_;rintro e w3 ⟨rfl,an⟩;have ad:=zA (ai.out.trans (an.mono ai.out.size));have az:=zA (ap.out.below an);clear an ai ap;go_wp2_with fail;refine(jlt (g:=w.heap.size) ?b0 ?b1).mono ?_
 case b0=>exact(HK.out _ ad.out).1 |> HT.out.below aB
 case b1=>rw[<- HA.out];exact(HK.out _ ad.out).2.2.1
 rintro e w4 ⟨v4,rfl,ak,am⟩;have ah:=zA (ad.out.trans (am.mono ad.out.size));have aw:=zA (az.out.below am);obtain⟨pa,pn,pc,rfl⟩:=ak.slice;have aA:=zA ak;clear ak am ad az;go_wp2_with fail;refine(jb8 (L1:=[[[98]],[[99]]]) (L2:=[[[98]],[[99]]]) ?c0 ?c1 (by simp)).mono ?_
 case c0=>exact aw.out.below ((((zF _ _).alloc (zD _) _).alloc (by simp) _).alloc (by simp;omega) _)
 case c1=>
  refine jhZ (rs:=[(w4.heap.size,[[98]]),(w4.heap.size+1,[[99]])]) (jak [_,_,_] w4 2 (by simp)) rfl (fun p hp=>?_);simp at hp;rcases hp with rfl|rfl
  . exact⟨jak [_,_,_] w4 0 (by simp),by simp⟩
  . exact⟨jak [_,_,_] w4 1 (by simp),by simp⟩
 rintro e w5 ⟨rfl,ay⟩;rw[zU rfl];have ab:Below w4.heap.size w4 w5:=((((zF _ _).alloc (zD _) _).alloc (by simp) _).alloc (by simp;omega) _).trans (ay.mono (by simp;omega));have aj:=zA (ah.out.trans (ab.mono ah.out.size));have ax:=zA (aA.out.below ab);clear ab ay ah aw aA;go_wp2_with fail;refine(jb8 (L1:=[[[97],[98]],[[98],[99]]]) (L2:=[[[97],[98]],[[98],[99]]]) ?d0 ?d1 (by simp)).mono ?_
 case d0=>exact ax.out.below ((((zF _ _).alloc (zD _) _).alloc (by simp) _).alloc (by simp;omega) _)
 case d1=>
  refine jhZ (rs:=[(w5.heap.size,[[97],[98]]),(w5.heap.size+1,[[98],[99]])]) (jak [_,_,_] w5 2 (by simp)) rfl (fun p hp=>?_);simp at hp;rcases hp with rfl|rfl
  . exact⟨jak [_,_,_] w5 0 (by simp),by simp⟩
  . exact⟨jak [_,_,_] w5 1 (by simp),by simp⟩
 rintro e w6 ⟨rfl,au⟩;rw[zU rfl];have ac:Below w5.heap.size w5 w6:=((((zF _ _).alloc (zD _) _).alloc (by simp) _).alloc (by simp;omega) _).trans (au.mono (by simp;omega));have af:=zA (aj.out.trans (ac.mono aj.out.size));clear ac au aj ax;go_wp2_with fail;refine(jlW (g:=w.heap.size) ?e1).mono ?_
 case e1=>rw[<- HA.out];exact(HK.out _ af.out).2.2.1
 rintro e w7 ⟨v7,rfl,ao,ar⟩;have ag:=zA (af.out.trans (ar.mono af.out.size));obtain⟨va,vc,rfl⟩:=ao.slice;have aF:=zA ao;clear ao ar af;go_wp2_with fail;refine(je9 (S:=fun _=>True) (T:=fun _=>True) (L1:=[[97],[98],[99]]) (L2:=[[97],[98],[99]]) ?f0 ?f1 (by simp)).mono ?_
 case f0=>exact aF.out.below ((zF _ _).alloc (zD _) _)
 case f1=>exact jcT (enc:=csT) (k:=1) (fun _=>rfl) (jak [_] w7 0 (by simp)) (by rfl) (by rfl)
 rintro e w8 ⟨rfl,aC⟩;rw[zU rfl];have aE:=zA ((ag.out.alloc ag.out.size _).trans (aC.mono (by have:=ag.out.size;simp at this ⊢;omega)));clear aC ag;go_wp2_with fail;refine bodyPost_ret (v:=.bool true) ?_ rfl ⟨rfl,(HK.out _ aE.out).1⟩;simp[results,Tryz.results10,go_sem]
theorem jk3(fs:List Fa){vars:List Wd}{P:List Pa}(h:mayQ vars P=true):jc7 fs vars P=jhk fs vars P:=by
 obtain⟨_,_,h3,_,_,h6⟩:=jcA h;obtain⟨a1,a2⟩:=jfy fs h;obtain⟨b1,b2⟩:=jiL fs h3 h6;exact jbA ordR a1 b1 (fun r=>(a2 r).trans (b2 r).symm)
theorem jkK(fs:List Fa)(vars:List Wd)(P:List Pa):jdU fs vars P=jj4 fs vars P:=by
 unfold jdU jj4;split
 . rename_i h;rw[jk3 fs h]
 . rfl
theorem jkN(fs:List Fa)(vars:List Wd)(P:List Pa):jdO fs vars P=jhw fs vars P:=by
 unfold jdO jhw;split
 . rename_i h;rw[jk3 fs h]
 . rfl
theorem jj0(fs:List Fa)(vars:List Wd)(P:List Pa):(jhw fs vars P).length<=4096:=by
 unfold jhw;split
 . split
   . simp
   . omega
 . simp
theorem jlJ{w:World}{b:Nat}{c0 c1:Value}{t:TypeId}(h:w.heap[b]?=some (.cells #[c0,c1] t (0,0))):
 w.cell? ⟨b,0,none⟩=some c0/\w.cell? ⟨b,1,none⟩=some c1:=by
 simp[World.cell?,h]
def jmj(e:Ending):Prop:=∃b:Bool,e=.returned (.bool b)
theorem modelRows_walk(vf:Value)(fs:List Fa)(q:Qm)(w:World)(hf:FasS (fun _=>True) w vf fs)(hs:FinF vf fs)(hq:QOk (fun _=>True) w q)(hc:CapS q.av q.atoms.length/\q.atoms.length<=1500000000000)(hT:TabG w):
 Calls Tryz.prog 4 #[vf,encQ q] w fun e w'=>e=.returned (.bool true)/\Below w.heap.size w w':=by
 obtain⟨aA,hw,_⟩:=hs;obtain⟨fa,fc,rfl⟩:=hf.slice;have ay:0<w.heap.size:=World.block_lt_of_cell? _ _ (hT 0 (by decide));obtain⟨n,hn⟩:=eX fs.length;have HV:Hid (∀u,Below w.heap.size w u->QOk (fun _=>True) u q):=zA (fun u hu=>hq.below hu);have HF:Hid (∀u,Below w.heap.size w u->FasS (fun _=>True) u (.slice fa n fc) fs):=zA (fun u hu=>hn▸hf.below hu);have HT:Hid (∀u,Below w.heap.size w u->TabG u):=zA (fun u hu=>hT.below ay hu);obtain⟨E,hE⟩:=eX (jj4 fs q.vars (q.atoms.map Am.pa):Int);obtain⟨L,hL⟩:=eX (jhw fs q.vars (q.atoms.map Am.pa):List Rw);have CS:Hid (∀u,Below w.heap.size w u->Calls Tryz.prog 17 #[.slice fa n fc,encQ q] u fun e w'=>FewB fs e/\Below u.heap.size u w'):=zA (fun u hu=>jie (HF.out u hu) (HV.out u hu) hc.2 aA);have CF:Hid (∀u,Below w.heap.size w u->Calls Tryz.prog 18 #[.agg #[.int .i64 0,q.vv,q.av,.slice none 0 0]] u fun e w'=>jmj e/\Below u.heap.size u w'):=zA (fun u hu=>by
  refine(jiV (HV.out u hu)).mono ?_;rintro e w' ⟨⟨b,h,_⟩,hb⟩;exact⟨⟨b,h⟩,hb⟩)
 have CM:Hid (∀u,Below w.heap.size w u->fs.length<=40->Calls Tryz.prog 19 #[.slice fa n fc,encQ q] u fun e w'=>∃v,e=.returned (.tuple #[v,.int .i64 E])/\jbq w' v L/\Below u.heap.size u w'):=zA (fun u hu hl=>by
  have:=jgd (HF.out u hu) (by omega) hw (HV.out u hu) (HT.out u hu);unfold RwE at this;rw[jkK,jkN,<- hE,<- hL]at this;exact this)
 have CR:Hid (∀u,Below w.heap.size w u->fs.length<=40->Calls Tryz.prog 20 #[.slice fa n fc,encQ q] u fun e w'=>∃v,e=.returned (.tuple #[v,.int .i64 E])/\jbq w' v L/\Below u.heap.size u w'):=zA (fun u hu hl=>by
  have:=jjO (HF.out u hu) hl (HV.out u hu);rw[<- hE,<- hL]at this;exact this)
 have aE:Hid (L.length<=1000000000):=zA (by rw[hL];have:=jj0 fs q.vars (q.atoms.map Am.pa);omega);have CA:Hid (∀u,Below w.heap.size w u->Calls Tryz.prog 10 #[] u fun e w'=>e=.returned (.bool true)/\Below u.heap.size u w'):=zA (fun u hu=>jj3 (HT.out u hu));rw[<- hn];obtain⟨va,vc,ev,_⟩:=hq.vcap;obtain⟨aa,ac,ea,_⟩:=hc.1;clear hn hL hE HV HF HT hT hq hf aA hw ay hc;obtain⟨vv,af,av,atoms⟩:=q;dsimp only at ev ea;subst ev ea;dsimp only[encQ]at CS CF CM CR;dsimp only[encQ];obtain⟨o,ho⟩:=eX (Obj.cells #[.slice va af.length vc,.slice aa atoms.length ac] 38 (0,0));have HO:=zA ho;have HK:Hid (∀u,Below (w.alloc o).heap.size (w.alloc o) u->Below w.heap.size w u/\u.cell? ⟨w.heap.size,0,none⟩=some (.slice va af.length vc)/\u.cell? ⟨w.heap.size,1,none⟩=some (.slice aa atoms.length ac)):=zA (fun u hu=>by
  have h:=jav hu;rw[HO.out]at h;exact⟨jaa hu,jlJ h⟩)
 clear ho;have CQ:Hid (∀u,Below w.heap.size w u->∀(K:Ending->World->Prop),(∀w',Below w.heap.size w w'->K (.returned (.bool true)) w')->Calls Tryz.prog 10 #[] u K):=zA (fun u hu K hK=>by
  refine(CA.out u hu).mono ?_;rintro e w' ⟨rfl,hb⟩;exact hK w' (hu.trans (hb.mono hu.size)))
 go_enter Tryz.func4,Tryz.ntmps4;go_wp2_with fail;refine(CS.out _ ((zF _ _).alloc (zD _) _)).mono ?_;rintro e w1 ⟨⟨b,rfl,ak⟩,aj⟩;rw[<- HO.out]at aj;obtain⟨hB,c0,c1⟩:=HK.out _ aj;have aq:=zA aj;have al:=zA hB;clear aj hB;cases b with
 |false=>
  clear ak;go_wp2_with fail;refine CQ.out _ al.out _ (fun w2 ah=>?_);have ai:=zA ah;clear ah;go_wp2_with fail;refine bodyPost_ret (v:=.bool true) ?_ rfl ⟨rfl,ai.out⟩;simp[results,Tryz.results4,go_sem]
 |true=>
  have hn:=ak rfl;clear ak;go_wp2_with fail;refine(CF.out _ al.out).mono ?_;rintro e w2 ⟨⟨b,rfl⟩,ah⟩;have ad:=aq.out.trans (ah.mono aq.out.size);clear ah aq al c0 c1;obtain⟨hB,c0,c1⟩:=HK.out _ ad;have an:=zA ad;have ai:=zA hB;clear ad hB;cases b with
  |false=>
   go_wp2_with fail;refine CQ.out _ ai.out _ (fun w3 ag=>?_);have ae:=zA ag;clear ag;go_wp2_with fail;refine bodyPost_ret (v:=.bool true) ?_ rfl ⟨rfl,ae.out⟩;simp[results,Tryz.results4,go_sem]
  |true=>
   go_wp2_with fail;refine(CM.out _ ai.out hn).mono ?_;rintro e w3 ⟨v3,rfl,am,ag⟩;have ab:=an.out.trans (ag.mono an.out.size);obtain⟨ra,rn,rc,rfl⟩:=am.slice;have ax:=zA am;clear ag am an ai c0 c1;obtain⟨hB,c0,c1⟩:=HK.out _ ab;have aB:=zA ab;have ae:=zA hB;clear ab hB;go_wp2_with fail;refine(CR.out _ ae.out hn).mono ?_;rintro e w4 ⟨v4,rfl,ap,ar⟩;have ao:=zA (ae.out.trans (ar.mono ae.out.size));have az:=zA (ax.out.below ar);obtain⟨qa,qn,qc,rfl⟩:=ap.slice;have au:=zA ap;clear ar ap aB ae c0 c1;go_wp2_with fail;refine(jb8 az.out au.out aE.out).mono ?_;rintro e w5 ⟨rfl,aw⟩;rw[zU rfl];have aC:=zA (ao.out.trans (aw.mono ao.out.size));clear aw ao az au ax;go_wp2_with fail;refine CQ.out _ aC.out _ (fun w6 hb6=>?_);have aD:=zA hb6;clear hb6;go_wp2_with fail;refine bodyPost_ret (v:=.bool true) ?_ rfl ⟨rfl,aD.out⟩;simp[results,Tryz.results4,go_sem]
end Go.Proofs.YtkbgmcmcpbegjaaGreatDoor
