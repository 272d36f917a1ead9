/- XSome3, XFill0, XFill1. -/
import Derived.Test.YtkbgmcmcpbegjabGreatDoorMH36
set_option maxRecDepth 100000
namespace Go.Proofs.YtkbgmcmcpbegjabGreatDoor
open Go.RowKit Go.Shelf
theorem choose_len(ls:List Lk)(c:Ch)(s v:Nat):(chooseC ls c s v).length=c.length:=by rw[chooseC,narrow_len,List.length_set]
theorem LinksOk.ne{ds:List Sy}{n m:Nat}{lks:List Lm}{ls:List Lk}(h:LinksOk ds n m lks ls):∀l∈ls,l.fr≠l.to:=fun l hl=>by
 obtain⟨i,hi⟩:=List.getElem?_of_mem hl;have hil:=(zE.1 hi).1;obtain⟨L,hL⟩:∃L,lks[i]?=some L:=⟨_,zB (by rw[<- h.len];exact hil)⟩
 obtain⟨h1,h2,h3,_⟩:=h.at_ i L l hL hi;rw[h1,h2];exact h3
set_option maxHeartbeats 8000000 in
theorem someOf_step{k jb:Nat}{ds:List Sy}{n:Nat}{lks:List Lm}{ls:List Lk}(hk:k<=1000)(H:SomeP k jb ds n lks ls):SomeOfP (k+1) jb ds n lks ls:=by
 intro w F c l cv G gv h hc hac hgv hne hnd hGl hG hi;obtain⟨s,R,rfl⟩:∃s R,G=s::R:=by
  cases G with
  |nil=>exact absurd rfl hne
  |cons s R=>exact⟨s,R,rfl⟩
 have hsc:=hG s (zN ..);have hloc:=loc_choose h.ok.ne hac hnd hsc hi;obtain⟨hgs,ao,cap,hge,hcap⟩:=hgv;obtain⟨nt,hnt⟩:∃q,q=R.length:=⟨_,rfl⟩
 rw[yI,<- hnt]at hge hcap;subst hge;obtain⟨g,off,hao,hFg,hgl,hcg⟩:=hgs.get (j:=0) (x:=s) rfl;subst hao;have cs:=hcg 0 _ rfl;rw[Nat.zero_mul,yJ]at cs;have hRc:∀(j:Nat) x,R[j]?=some x->w.cell? ⟨g,off+1+j,none⟩=some (.int .i64 (x:Int)):=fun j x hx=>by
  obtain⟨g',off',e,_,_,hc'⟩:=hgs.get (j:=j+1) (x:=x) (by simpa using hx);injection e with e;injection e with e1 e2;subst e1 e2;have:=hc' 0 _ rfl;rw[yF,yJ]at this;rw[show off+1+j=off+(j+1) by omega];exact this
 have HR1:Hid (cap=1->NatC F w (.slice (some ⟨g,off,none⟩) 0 0) R):=zA (fun hc1=>by
  have h0:R=[]:=yP.1 (by omega);subst h0;exact⟨⟨_,0,rfl,.inl rfl⟩,_,0,rfl,zD _⟩)
 have HR2:Hid (NatC F w (.slice (some ⟨g,off+1,none⟩) nt (cap-1)) R):=zA (by
  refine⟨⟨_,cap-1,by rw[hnt],.inr ⟨g,off+1,rfl,hFg,hgl,fun j x hx q u hu=>?_⟩⟩,_,cap-1,by rw[hnt],by omega⟩
  match q,hu with
  |0,hu=>
   simp at hu;subst hu;rw[yF,yJ];exact hRc j x hx
  |q+1,hu=>simp at hu)
 obtain⟨rows,hrc,hsl,hat,hbd⟩:=hc.ex;have hrl:rows.length=c.length:=by rw[<- hrc,zH]
 obtain⟨r,hr⟩:∃r,rows[s]?=some r:=⟨_,zB (by omega)⟩
 have hcs:atC c s=r.2:=by unfold atC;rw[<- hrc,List.getD,zI,hr];rfl
 obtain⟨ca,cc,hcv⟩:=hsl.slice;obtain⟨nc,hnc⟩:∃q,q=rows.length:=⟨_,rfl⟩
 rw[<- hnc]at hcv;subst hcv;obtain⟨gc,ofc,hca,hFc,_,hcc⟩:=hsl.get hr;subst hca;have cr:=hcc 0 _ rfl;rw[yF,yJ]at cr;have hvl:=hat r (zC hr);have hvb:=hbd r (zC hr);obtain⟨rv,VL⟩:=r;dsimp only at hcs cr hvl hvb;obtain⟨ra,rc,hre⟩:=hvl.1.slice;obtain⟨nv,hnv⟩:∃q,q=VL.length:=⟨_,rfl⟩
 rw[<- hnv]at hre;subst hre;have hnvl:nv<=10000:=by rw[hnv];exact hvb.2
 have hscI:(s:Int)<(nc:Int):=by omega
 have hsN:s<nc:=by omega
 have hcapI:(nt:Int)+1<=(cap:Int):=by omega
 have hntI:(0:Int)<(nt:Int)+1:=by omega
 have hntl:nt<=1000:=by rw[yI,<- hnt]at hGl;omega
 obtain⟨Q,hQ⟩:∃Q,Q=SomE w F jb ds n c.length lks ls (locB ls c (s::R)):=⟨_,rfl⟩
 rw[<- hQ];have HFIN:Hid (∀(wr:World) (r:Bool),r=locB ls c (s::R)->Fr F w wr->(∃l',JS wr F jb ds n c.length lks ls l')->Q (.returned (.bool r)) wr):=zA (fun wr r hr h1 h3=>by
  rw[hQ,hr];exact⟨rfl,h1,h3⟩)
 have HLOC:=zA hloc;have HVM:Hid (∀v,v∈VL↔v∈atC c s):=zA (fun v=>by rw[hcs]);have HVL:=zA hvl;have HJ0:=zA h;have HC0:=zA hc;have HAC:=zA hac;have HSC:=zA hsc;have HNV:=zA hnv;have HCR:Hid (∀W:World,Fr F w W->W.cell? ⟨gc,ofc+s,none⟩=some (.slice ra nv rc)):=zA (fun W hW=>by simpa only[World.cell?,hW.block gc hFc]using cr);have CALL:Hid (∀(W:World) (l':List Sx) (v:Nat) (rv:Value) (w3:World) (v3:Value),Fr F w W->JS W F jb ds n c.length lks ls l'->NatC F w rv R->ChoE W F jb ds n c.length lks ls v3 (chooseC ls c s v) w3->Calls Tryz.prog 69 #[.pointer (some ⟨jb,0,none⟩),v3,rv] w3 fun e w4=>e=.returned (.bool (locB ls (chooseC ls c s v) R))/\Fr F W w4/\∃l',JS w4 F jb ds n c.length lks ls l'):=zA (fun W l' v rv w3 v3 hW hJ hrv hch=>by
  obtain⟨F',l3,e1,e2,e3,e4⟩:=hch;have hl3:=choose_len ls c s v;have e3':=e3;rw[<- hl3]at e3';refine(H w3 F' (chooseC ls c s v) l3 v3 R rv e3' e4 (by rw[hl3];omega) (narrow_ac _ _) ((hrv.fr (hW.trans e2)).sub (fun q hq _=>e1 q hq)) (List.nodup_cons.1 hnd).2 (by rw[yI]at hGl;omega) (fun x hx=>by rw[hl3];exact hG x (zP _ hx)) (iso_choose hsc hi)).mono ?_;rintro e w4 ⟨he,hf,l4,hj4⟩;rw[hl3]at hj4;have hf2:=e2.trans (hf.sub e1);exact⟨he,hf2,l4,hJ.sub hf2 hj4 e1⟩)
 have HLOW:=zA h.low;clear hQ h hc hac hne hnd hGl hG hi hsc hloc hgs hcg hRc hrc hsl hat hbd hrl hr hcs hcc hvl hvb hnv hnc hnt hFg hFc;go_enter Tryz.func98,Tryz.ntmps98;go_upto_region 1 with fail;go_cut [7,8] (fun s7 s8 wz=>s7=.int .i64 (s:Int)/\Hid (NatC F w s8 R)/\Hid (Below w.heap.size w wz))
 case first=>
  by_cases hc1:cap=1
  . have HQ:=zA (HR1.out hc1);subst hc1;have hnt0:nt=0:=by omega
    subst hnt0;go_quiet (fail);refine Met.intro ?_;go_step
    apply_assumption
    (repeat apply Exists.intro)
    refine⟨?_,rfl⟩;exact⟨rfl,HQ,zA ⟨rfl,rfl,rfl,zD _,fun _ _=>rfl⟩⟩
  . have hc2:¬(cap:Int)=1:=by omega
    go_quiet (fail);refine Met.intro ?_;go_step
    apply_assumption
    (repeat apply Exists.intro)
    refine⟨?_,rfl⟩;exact⟨rfl,HR2,zA ⟨rfl,rfl,rfl,zD _,fun _ _=>rfl⟩⟩
 case rest=>
 obtain⟨rfl,HRV,HB⟩:=hcut;obtain⟨wb,hwb⟩:∃W,W=wc:=⟨_,rfl⟩
 subst hwb;have HF0:Hid (Fr F w wb):=zA (fr_below HLOW.out HB.out);have HJ1:Hid (∃l',JS wb F jb ds n c.length lks ls l'):=zA ⟨_,HJ0.out.below HB.out⟩;have cr2:=HCR.out wb HF0.out;clear HB cs cr;go_wp2_with fail;go_loopw [21] (fun k wr=>∃j:Nat,j<=nv/\k=.int .i64 j/\Hid (Fr F w wr)/\Hid (∃l',JS wr F jb ds n c.length lks ls l')/\Hid (∀(i:Nat) v,i<j->VL[i]?=some v->¬LocSol ls (chooseC ls c s v) R)) (fun k _=>nv-(intOf k).toNat)
 case atStart=>exact⟨0,zR _,rfl,HF0,HJ1,zA (fun i v hi=>absurd hi (Nat.not_lt_zero _))⟩
 case round=>
  obtain⟨j,hj,rfl,HFR,HJ,HL⟩:=hrel;obtain⟨wx,hwx⟩:∃wx,wx=wr:=⟨_,rfl⟩
  subst hwx;by_cases hjl:j<nv
  . have hjI:(j:Int)<(nv:Int):=by omega
    obtain⟨v,hv⟩:∃v,VL[j]?=some v:=⟨_,zB (by rw[<- HNV.out];exact hjl)⟩
    obtain⟨gb,ofb,hra,_,_,hcell⟩:=(HVL.out.1.fr HFR.out).get hv;subst hra;have c0:=hcell 0 _ rfl;rw[yF,yJ]at c0;obtain⟨l',hl'⟩:=HJ.out;have CK:=zA (choose_any hl' (HC0.out.keep HFR.out.size (fun b hb _=>⟨hb,HFR.out.block b hb⟩)) HSC.out ((HVM.out v).1 (zC hv)) HAC.out);have CA:=zA (fun w3 v3 hch=>CALL.out wx l' v u8 w3 v3 HFR.out hl' HRV.out hch);have HVJ:=zA hv;clear hcell hl' hv;go_wp2_with fail;refine CK.out.mono ?_;rintro e w3 ⟨v3,rfl,hch⟩;have CB:=zA (CA.out w3 v3 hch);clear hch CK CA c0;go_wp2_with fail;refine CB.out.mono ?_;rintro e w4 ⟨rfl,hf4,hj4⟩;have HFR4:=zA (HFR.out.trans hf4);have HJ4:=zA hj4;clear hf4 hj4 CB;obtain⟨t,ht⟩:∃t,t=locB ls (chooseC ls c s v) R:=⟨_,rfl⟩
    have HT:=zA ht;rw[<- ht];clear ht;cases t with
    |true=>
     have HE:=zA (HFIN.out w4 true (locB_iff.2 (HLOC.out.2 ⟨v,(HVM.out v).1 (zC HVJ.out),locB_iff.1 HT.out.symm⟩)).symm HFR4.out HJ4.out);go_wp2;all_goals (first|(go_ret;exact HE.out)|exact HE.out)
    |false=>
     have HL4:Hid (∀(i:Nat) v,i<j+1->VL[i]?=some v->¬LocSol ls (chooseC ls c s v) R):=zA (fun i v' hi hv'=>by
      by_cases e:i=j
      . subst e;rw[HVJ.out]at hv';injection hv' with hv';rw[<- hv'];intro hsol;have h2:=locB_iff.2 hsol;rw[<- HT.out]at h2;cases h2
      . exact HL.out i v' (by omega) hv')
     go_wp2;go_roundw
     case rel=>exact⟨j+1,by omega,by go_num,HFR4,HJ4,HL4⟩
     case measure=>simp[intOf];omega
  . have hjI:¬(j:Int)<(nv:Int):=by omega
    have HE:=zA (HFIN.out wx false (by
     cases hb:locB ls c (s::R)with
     |false=>rfl
     |true=>
      obtain⟨v,hv,hsol⟩:=HLOC.out.1 (locB_iff.1 hb);obtain⟨i,hi⟩:=List.getElem?_of_mem ((HVM.out v).2 hv);have h1:=(zE.1 hi).1;rw[<- HNV.out]at h1;exact absurd hsol (HL.out i v (by omega) hi)) HFR.out HJ.out)
    go_wp2;all_goals (first|(go_ret;exact HE.out)|exact HE.out)
theorem someOf_none{jb:Nat}{ds:List Sy}{n:Nat}{lks:List Lm}{ls:List Lk}:SomeOfP 0 jb ds n lks ls:=by
 intro w F c l cv G gv _ _ _ _ hne _ hl;exact absurd (yP.1 (by omega)) hne
theorem some_any{jb:Nat}{ds:List Sy}{n:Nat}{lks:List Lm}{ls:List Lk}:∀(k:Nat),k<=1000->SomeOfP k jb ds n lks ls/\SomeP k jb ds n lks ls
 |0,_=>⟨someOf_none,some_step (by omega) someOf_none⟩
 |k+1,hk=>by
  have h1:=someOf_step (jb:=jb) (ds:=ds) (n:=n) (lks:=lks) (ls:=ls) (by omega) (some_any k (by omega)).2;exact⟨h1,some_step hk h1⟩
abbrev UL(l:List Sx)(k:Nat):Prop:=∀x∈l,¬OwnX x k
structure Jv where
 sv:Value
 av:Value
 vv:Value
 lv:Value
 rv:Value
 cv:Value
 fv:Value
def Jv.cells(J:Jv):Array Value:=#[J.sv,J.av,J.vv,J.lv,J.rv,J.cv,J.fv]
def Jv.with(J:Jv)(v:Value):Jv:={ J with fv:=v }
structure Jz (F:Nat->Prop) (w:World) (jb:Nat) (J:Jv) (ds:List Sy) (n m:Nat) (lks:List Lm) (ls:List Lk) (us:List Nat) (l:List Sx):Prop where
 pool:Pool w l
 like:l.map syOf=ds
 tab:TabG w
 f0:F 0
 low:Low F w
 un:∀k,F k->UL l k
 ju:UL l jb
 jF:¬F jb
 jk:∀y∈ds,¬y.2.kp jb
 blk:w.heap[jb]?=some (.cells J.cells 90 (0,0))
 lk:SlS csL 4 F w J.lv lks
 al:NatC F w J.av (List.range m)
 va:NatC F w J.vv us
 ll:lks.length<=1000
 ok:LinksOk ds n m lks ls
 nn:n<=10000
 mm:m<=1000
 ul:us.length<=1000
section
variable {F:Nat->Prop} {w w':World} {jb:Nat} {J J':Jv} {ds:List Sy} {n m:Nat} {lks:List Lm} {ls:List Lk} {us:List Nat} {l l':List Sx}
theorem Jz.lt(h:Jz F w jb J ds n m lks ls us l):jb<w.heap.size:=lt_of_block h.blk
theorem Jz.cell(h:Jz F w jb J ds n m lks ls us l):w.cell? ⟨jb,1,none⟩=some J.av/\w.cell? ⟨jb,2,none⟩=some J.vv/\w.cell? ⟨jb,3,none⟩=some J.lv/\w.cell? ⟨jb,4,none⟩=some J.rv/\w.cell? ⟨jb,5,none⟩=some J.cv/\w.cell? ⟨jb,6,none⟩=some J.fv/\w.frozen? ⟨jb,6,none⟩=false:=by
 simp[World.cell?,World.frozen?,h.blk,Jv.cells]
theorem Jz.js(h:Jz F w jb J ds n m lks ls us l):JS w (fun k=>k<w.heap.size/\UL l k) jb ds n m lks ls l:=
 ⟨h.pool,h.like,fun _ hk=>hk.1,fun _ hk=>hk.2,h.tab,⟨h.low 0 h.f0,h.un 0 h.f0⟩,⟨h.lt,h.ju⟩,⟨J.lv,h.cell.2.2.1,h.lk.sub (fun k hk hl=>⟨hl,h.un k hk⟩)⟩,h.ll,h.ok,h.nn,h.mm⟩
theorem Jz.call{T:Nat->Prop}(h:Jz F w jb J ds n m lks ls us l)(hf:Fr (fun k=>k<w.heap.size/\UL l k) w w')(h1:JS w' T jb ds n m lks ls l')(hs:∀k,k<w.heap.size->UL l k->T k):Jz F w' jb J ds n m lks ls us l':=by
 have hF:Fr F w w':=hf.sub (fun k hk=>⟨h.low k hk,h.un k hk⟩);exact⟨h1.pool,h1.like,h1.tab,h.f0,h.low.fr hF,fun k hk=>h1.un k (hs k (h.low k hk) (h.un k hk)),h1.un jb (hs jb h.lt h.ju),h.jF,h.jk,(hf.block jb ⟨h.lt,h.ju⟩).trans h.blk,h.lk.fr hF,h.al.fr hF,h.va.fr hF,h.ll,h.ok,h.nn,h.mm,h.ul⟩
theorem Jz.kp(h:Jz F w jb J ds n m lks ls us l){x:Sx}(hx:x∈l):syOf x∈ds:=by
 rw[<- h.like];exact zV hx
theorem Jz.write{M:Nat->Prop}(h:Jz F w jb J ds n m lks ls us l)(hz:w.heap.size<=w'.heap.size)(ho:w'.os=w.os)(ht:w'.tape=w.tape)(hu:w'.output=w.output)(hk:∀k,k<w.heap.size->k≠jb->¬M k->w'.heap[k]?=w.heap[k]?)(hM:∀k,M k->UL l k/\¬F k/\∀y∈ds,¬y.2.kp k)
 (hj:w'.heap[jb]?=some (.cells J'.cells 90 (0,0))) (e1:J'.lv=J.lv) (e2:J'.av=J.av) (e3:J'.vv=J.vv):Jz F w' jb J' ds n m lks ls us l:=by
 have hF:Fr F w w':=⟨ho,ht,hu,hz,fun k hk2=>hk k (h.low k hk2) (fun e=>h.jF (e▸hk2)) (fun hm=>(hM k hm).2.1 hk2)⟩
 refine⟨h.pool.keep hz (fun x hx k hk2=>?_),h.like,h.tab.fr h.f0 hF,h.f0,h.low.fr hF,h.un,h.ju,h.jF,h.jk,hj,?_,?_,?_,h.ll,h.ok,h.nn,h.mm,h.ul⟩
 . rcases hk2 with h1|h1
   . exact hk k (h.pool.own_lt hx h1) (fun e=>h.ju x hx (e▸h1)) (fun hm=>(hM k hm).1 x hx h1)
   . exact hk k (h.pool.kp_lt hx h1) (fun e=>h.jk _ (h.kp hx) (e▸h1)) (fun hm=>(hM k hm).2.2 _ (h.kp hx) h1)
 . rw[e1];exact h.lk.fr hF
 . rw[e2];exact h.al.fr hF
 . rw[e3];exact h.va.fr hF
theorem Jz.fresh(h:Jz F w jb J ds n m lks ls us l){k:Nat}(hk:w.heap.size<=k):UL l k/\¬F k/\k≠jb/\∀y∈ds,¬y.2.kp k:=by
 refine⟨fun x hx ho=>?_,fun hf=>?_,fun e=>?_,fun y hy hkp=>?_⟩
 . have:=h.pool.own_lt hx ho;omega
 . have:=h.low k hf;omega
 . have:=h.lt;omega
 . rw[<- h.like]at hy;obtain⟨x,hx,rfl⟩:=zS.1 hy;have:=h.pool.kp_lt hx hkp;omega
def Mine(F:Nat->Prop)(w:World)(jb:Nat)(ds:List Sy)(l:List Sx)(X:Nat->Prop):Prop:=∀k,X k->k<w.heap.size/\UL l k/\¬F k/\k≠jb/\∀y∈ds,¬y.2.kp k
def FoS(w:World)(X:Nat->Prop)(fv:Value)(fl:List (List Nat)):Prop:=
 ∃rows:List (Value×List Nat),rows.map (·.2)=fl/\w.ownsRow 0 63 1 fv rows.length (rows.flatMap csRow)/\(∀g,fv.ownBlock=some g->X g)/\∀r∈rows,NatC (fun k=>X k/\fv.ownBlock≠some k) w r.1 r.2
theorem FoS.keep{X:Nat->Prop}{fv:Value}{fl:List (List Nat)}(h:FoS w X fv fl)(hz:w.heap.size<=w'.heap.size)(hk:∀k,X k->w'.heap[k]?=w.heap[k]?):FoS w' X fv fl:=by
 obtain⟨rows,h1,h2,h3,h4⟩:=h;exact⟨rows,h1,owns_key h2 (fun g o hg ho=>(hk g (h3 g hg)).trans ho),h3,fun r hr=>(h4 r hr).keep hz (fun k hk2 _=>⟨hk2,hk k hk2.1⟩)⟩
structure FFr (w w':World) (l l':List Sx) (M:Nat->Prop):Prop where
 os:w'.os=w.os
 tape:w'.tape=w.tape
 output:w'.output=w.output
 size:w.heap.size<=w'.heap.size
 keep:∀k,k<w.heap.size->UL l k->¬M k->w'.heap[k]?=w.heap[k]?
 un:∀k,k<w.heap.size->UL l k->UL l' k
theorem FFr.refl(w:World)(l:List Sx)(M:Nat->Prop):FFr w w l l M:=⟨rfl,rfl,rfl,zD _,fun _ _ _ _=>rfl,fun _ _ h=>h⟩
theorem FFr.mono{M M2:Nat->Prop}(h:FFr w w' l l' M)(hM:∀k,M k->M2 k):FFr w w' l l' M2:=⟨h.os,h.tape,h.output,h.size,fun k hk hu hm=>h.keep k hk hu (fun h2=>hm (hM k h2)),h.un⟩
theorem FFr.trans{w2:World}{l2:List Sx}{M M2:Nat->Prop}(h:FFr w w' l l' M)(h2:FFr w' w2 l' l2 M2)(hM:∀k,M2 k->M k\/w.heap.size<=k):FFr w w2 l l2 M:=
 ⟨h2.os.trans h.os,h2.tape.trans h.tape,h2.output.trans h.output,zQ h.size h2.size,fun k hk hu hm=>(h2.keep k (zO hk h.size) (h.un k hk hu) (fun h3=>(hM k h3).elim hm (fun h4=>by omega))).trans (h.keep k hk hu hm),fun k hk hu=>h2.un k (zO hk h.size) (h.un k hk hu)⟩
theorem FFr.call{T:Nat->Prop}{M:Nat->Prop}(hf:Fr (fun k=>k<w.heap.size/\UL l k) w w')(h1:JS w' T jb ds n m lks ls l')(hs:∀k,k<w.heap.size->UL l k->T k):FFr w w' l l' M:=
 ⟨hf.os,hf.tape,hf.output,hf.size,fun k hk hu _=>hf.block k ⟨hk,hu⟩,fun k hk hu=>h1.un k (hs k hk hu)⟩
end
structure FI (F:Nat->Prop) (w:World) (jb:Nat) (J:Jv) (ds:List Sy) (n m:Nat) (lks:List Lm) (ls:List Lk) (us:List Nat) (l:List Sx) (X C:Nat->Prop) (cv:Value) (c:Ch) (rv:Value) (row:List Nat) (fl:List (List Nat)):Prop where
 jz:Jz F w jb J ds n m lks ls us l
 xm:Mine F w jb ds l X
 fo:FoS w X J.fv fl
 row:QRow 0 w rv row
 rm:Mine F w jb ds l (QB rv)
 rx:∀k,QB rv k->¬X k
 ch:ChR C w cv n c
 cm:∀k,C k->k<w.heap.size/\UL l k/\k≠jb/\¬X k/\¬QB rv k
 ac:AC ls c
 cl:c.length=m
 m0:0<m
 fle:fl.length<=4096
abbrev FM(jb:Nat)(X:Nat->Prop)(rv:Value)(k:Nat):Prop:=k=jb\/X k\/QB rv k
structure FO (F:Nat->Prop) (w:World) (jb:Nat) (J:Jv) (ds:List Sy) (n m:Nat) (lks:List Lm) (ls:List Lk) (us:List Nat) (l:List Sx) (X:Nat->Prop) (rv:Value) (row:List Nat) (fl:List (List Nat)) (w':World):Prop where
 ex:∃fv' l' X',Jz F w' jb (J.with fv') ds n m lks ls us l'/\Mine F w' jb ds l' X'/\FoS w' X' fv' fl/\QRow 0 w' rv row/\(∀k,X' k->X k\/w.heap.size<=k)/\FFr w w' l l' (FM jb X rv)
def FilE(F:Nat->Prop)(w:World)(jb:Nat)(J:Jv)(ds:List Sy)(n m:Nat)(lks:List Lm)(ls:List Lk)(us:List Nat)(l:List Sx)(X:Nat->Prop)(rv:Value)(row:List Nat)(fl R:List (List Nat))(e:Ending)(w':World):Prop:=
 e=.returned (.bool (decide ((fl++R).length<=4096)))/\FO F w jb J ds n m lks ls us l X rv row ((fl++R).take 4097) w'
def FillP(k:Nat)(F:Nat->Prop)(jb:Nat)(ds:List Sy)(n m:Nat)(lks:List Lm)(ls:List Lk)(us:List Nat):Prop:=
 ∀(w:World) (J:Jv) (l:List Sx) (X C:Nat->Prop) (cv:Value) (c:Ch) (rv:Value) (row:List Nat) (fl:List (List Nat)) (us0 rest:List Nat),us=us0++rest->row.length=us0.length->rest.length<=k->FI F w jb J ds n m lks ls us l X C cv c rv row fl->
  Calls Tryz.prog 45 #[.pointer (some ⟨jb,0,none⟩),cv,rv] w (FilE F w jb J ds n m lks ls us l X rv row fl (fillL ls m rest c row))
section
variable {F:Nat->Prop} {w w':World} {jb:Nat} {J J':Jv} {ds:List Sy} {n m:Nat} {lks:List Lm} {ls:List Lk} {us:List Nat} {l l':List Sx} {X C:Nat->Prop} {cv rv:Value} {c:Ch} {row:List Nat} {fl:List (List Nat)}
theorem FI.call{T:Nat->Prop}(h:FI F w jb J ds n m lks ls us l X C cv c rv row fl)(hf:Fr (fun k=>k<w.heap.size/\UL l k) w w')(h1:JS w' T jb ds n m lks ls l')(hs:∀k,k<w.heap.size->UL l k->T k):FI F w' jb J ds n m lks ls us l' X C cv c rv row fl:=by
 have hff:FFr w w' l l' (fun _=>False):=FFr.call hf h1 hs;have hmine:∀Y,Mine F w jb ds l Y->Mine F w' jb ds l' Y:=fun Y hY k hk=>by
  obtain⟨a1,a2,a3⟩:=hY k hk;exact⟨zO a1 hf.size,hff.un k a1 a2,a3⟩
 refine⟨h.jz.call hf h1 hs,hmine _ h.xm,h.fo.keep hf.size (fun k hk=>hf.block k ⟨(h.xm k hk).1,(h.xm k hk).2.1⟩),h.row.keep (fun g _ hg=>hf.block g ⟨(h.rm g hg).1,(h.rm g hg).2.1⟩),hmine _ h.rm,h.rx,h.ch.keep hf.size (fun b hb _=>⟨hb,hf.block b ⟨(h.cm b hb).1,(h.cm b hb).2.1⟩⟩),fun k hk=>?_,h.ac,h.cl,h.m0,h.fle⟩;obtain⟨a1,a2,a3⟩:=h.cm k hk;exact⟨zO a1 hf.size,hff.un k a1 a2,a3⟩
theorem FI.nothing{T:Nat->Prop}(h:FI F w jb J ds n m lks ls us l X C cv c rv row fl)(hf:Fr (fun k=>k<w.heap.size/\UL l k) w w')(h1:JS w' T jb ds n m lks ls l')(hs:∀k,k<w.heap.size->UL l k->T k):FO F w jb J ds n m lks ls us l X rv row fl w':=by
 have h2:=h.call hf h1 hs;exact⟨J.fv,l',X,h2.jz,h2.xm,h2.fo,h2.row,fun k hk=>.inl hk,FFr.call hf h1 hs⟩
end
theorem QRow.slice{B:Nat}{w:World}{u:Value}{L:List Nat}(h:QRow B w u L):∃ao cap,u=.slice ao L.length cap:=by
 rcases h with⟨rfl,rfl⟩|⟨g,off,cap,cur,rfl,_⟩
 . exact⟨none,0,rfl⟩
 . exact⟨_,cap,rfl⟩
theorem LinksOk.lt{ds:List Sy}{n m:Nat}{lks:List Lm}{ls:List Lk}(h:LinksOk ds n m lks ls):∀l∈ls,l.fr<m/\l.to<m:=fun l hl=>by
 obtain⟨i,hi⟩:=List.getElem?_of_mem hl;have hil:=(zE.1 hi).1;obtain⟨L,hL⟩:∃L,lks[i]?=some L:=⟨_,zB (by rw[<- h.len];exact hil)⟩
 obtain⟨h1,h2,_,h3,h4,_⟩:=h.at_ i L l hL hi;rw[h1,h2];exact⟨h3,h4⟩
section
variable {F:Nat->Prop} {w w':World} {jb:Nat} {J J':Jv} {ds:List Sy} {n m:Nat} {lks:List Lm} {ls:List Lk} {us:List Nat} {l l':List Sx} {X C:Nat->Prop} {cv rv:Value} {c:Ch} {row:List Nat} {fl:List (List Nat)}
theorem FI.drew(h:FI F w jb J ds n m lks ls us l X C cv c rv row fl):FI F w.drew jb J ds n m lks ls us l X C cv c rv row fl:=
 h.call (T:=fun k=>k<w.heap.size/\UL l k) ⟨rfl,rfl,rfl,zD _,fun _ _=>rfl⟩ (h.jz.js.below (zF _ _).drew) (fun _ h1 h2=>⟨h1,h2⟩)
theorem FFr.drew{M:Nat->Prop}(h:FFr w w' l l' M):FFr w w'.drew l l' M:=⟨h.os,h.tape,h.output,h.size,h.keep,h.un⟩
theorem FI.ask(h:FI F w jb J ds n m lks ls us l X C cv c rv row fl):Calls Tryz.prog 69 #[.pointer (some ⟨jb,0,none⟩),cv,J.av] w (SomE w (fun k=>k<w.heap.size/\UL l k) jb ds n m lks ls (locB ls c (List.range m))):=by
 have hm:=h.jz.mm;have hcl:=h.cl;have hj:=h.jz.js;rw[<- hcl]at hj;have C0:=(some_any (jb:=jb) (ds:=ds) (n:=n) (lks:=lks) (ls:=ls) 1000 (by omega)).2 w (fun k=>k<w.heap.size/\UL l k) c l cv (List.range m) J.av hj (h.ch.keep (zD _) (fun b hb _=>⟨⟨(h.cm b hb).1,(h.cm b hb).2.1⟩,rfl⟩)) (by rw[hcl];exact h.m0) h.ac (h.jz.al.sub (fun b hb hl=>⟨hl,h.jz.un b hb⟩)) List.nodup_range (by simpa using hm) (fun x hx=>by rw[hcl];exact yD.1 hx) (fun l hl=>⟨fun _ hn=>absurd (yD.2 (h.jz.ok.lt l hl).2) hn,fun _ hn=>absurd (yD.2 (h.jz.ok.lt l hl).1) hn⟩);rw[hcl]at C0;exact C0
theorem FI.leaf{wz w9:World}{nv fv9:Value}{rows:List (Value×List Nat)}(h:FI F w jb J ds n m lks ls us l X C cv c rv row fl)(hrc:rows.map (·.2)=fl)(hfo:∀g,J.fv.ownBlock=some g->X g)(hats:∀r∈rows,NatC (fun k=>X k/\J.fv.ownBlock≠some k) w r.1 r.2)
 (hb:Below w.heap.size w wz) (hnv:NatC (fun k=>nv.ownBlock=some k) wz nv row) (hnb:∀k,nv.ownBlock=some k->w.heap.size<=k/\k<wz.heap.size)
 (ho:w9.os=wz.os) (ht:w9.tape=wz.tape) (hu:w9.output=wz.output) (hz:wz.heap.size<=w9.heap.size) (hk:∀k,k<wz.heap.size->J.fv.ownBlock≠some k->w9.heap[k]?=wz.heap[k]?)
 (hown:w9.ownsRow 0 63 1 fv9 (rows.length+1) (rows.flatMap csRow++[nv])) (hbk:∀g,fv9.ownBlock=some g->J.fv.ownBlock=some g\/wz.heap.size<=g):
 FO F w jb J ds n m lks ls us l X rv row (fl++[row]) (w9.setCell ⟨jb,6,none⟩ fv9):=by
 have hjl:=h.jz.lt;have hzs:=hb.size;have hjx:J.fv.ownBlock≠some jb:=fun e=>(h.xm jb (hfo jb e)).2.2.2.1 rfl
 have hj9:w9.heap[jb]?=some (.cells J.cells 90 (0,0)):=(hk jb (by omega) hjx).trans ((hb.block jb hjl).trans h.jz.blk);have hset:∀k,k≠jb->(w9.setCell ⟨jb,6,none⟩ fv9).heap[k]?=w9.heap[k]?:=fun k hk2=>zL _ _ _ _ hk2
 have hsz:(w9.setCell ⟨jb,6,none⟩ fv9).heap.size=w9.heap.size:=by simp
 have hold:∀k,k<w.heap.size->k≠jb->¬X k->(w9.setCell ⟨jb,6,none⟩ fv9).heap[k]?=w.heap[k]?:=fun k h1 h2 h3=>(hset k h2).trans ((hk k (by omega) (fun e=>h3 (hfo k e))).trans (hb.block k h1))
 have hjn:(w9.setCell ⟨jb,6,none⟩ fv9).heap[jb]?=some (.cells (J.with fv9).cells 90 (0,0)):=by
  simp[World.setCell,Array.getElem?_modify,hj9,Jv.cells,Jv.with]
 have hnew:∀k,(nv.ownBlock=some k\/fv9.ownBlock=some k)->X k\/w.heap.size<=k:=fun k hk2=>by
  rcases hk2 with h1|h1
  . exact .inr (hnb k h1).1
  . rcases hbk k h1 with h2|h2
    . exact .inl (hfo k h2)
    . exact .inr (by omega)
 have hlt9:∀k,fv9.ownBlock=some k->k<w9.heap.size:=fun k hk2=>(hown.lt k hk2).2
 refine⟨fv9,l,fun k=>X k\/nv.ownBlock=some k\/fv9.ownBlock=some k,?_,fun k hk2=>?_,?_,?_,fun k hk2=>?_,?_⟩
 . exact h.jz.write (M:=X) (by rw[hsz];omega) (ho.trans hb.os) (ht.trans hb.tape) (hu.trans hb.output) hold (fun k hk2=>⟨(h.xm k hk2).2.1,(h.xm k hk2).2.2.1,(h.xm k hk2).2.2.2.2⟩) hjn rfl rfl rfl
 . have hx:X k\/w.heap.size<=k:=hk2.elim .inl (fun h1=>hnew k h1);have hsl:k<(w9.setCell ⟨jb,6,none⟩ fv9).heap.size:=by
    rw[hsz];rcases hk2 with h1|h1|h1
    . have:=(h.xm k h1).1;omega
    . have:=(hnb k h1).2;omega
    . exact hlt9 k h1
   rcases hx with h1|h1
   . obtain⟨_,a2,a3⟩:=h.xm k h1;exact⟨hsl,a2,a3⟩
   . obtain⟨a1,a2,a3,a4⟩:=h.jz.fresh h1;exact⟨hsl,a1,a2,a3,a4⟩
 . refine⟨rows++[(nv,row)],by rw[yL,hrc];rfl,?_,fun g hg=>.inr (.inr hg),fun r hr=>?_⟩
   . rw[zG,zT];refine owns_key hown (fun g o hg ho2=>(hset g (fun e=>?_)).trans ho2);rcases hbk g hg with h1|h1
     . exact hjx (e▸h1)
     . omega
   . rcases zM.1 hr with hr|hr
     . refine(hats r hr).keep (by rw[hsz];omega) (fun k hk2 hkl=>?_);have hxk:=h.xm k hk2.1;refine⟨⟨.inl hk2.1,fun e=>?_⟩,(hset k hxk.2.2.2.1).trans ((hk k (by omega) hk2.2).trans (hb.block k hkl))⟩;rcases hbk k e with h1|h1
       . exact hk2.2 h1
       . omega
     . rw[zJ.1 hr];refine hnv.keep (by rw[hsz];omega) (fun k hk2 hkl=>?_);have hn:=hnb k hk2;refine⟨⟨.inr (.inl hk2),fun e=>?_⟩,(hset k (by omega)).trans (hk k hkl (fun e=>?_))⟩
       . rcases hbk k e with h1|h1
         . have:=(h.xm k (hfo k h1)).1;omega
         . omega
       . have:=(h.xm k (hfo k e)).1;omega
 . exact h.row.keep (fun g _ hg=>hold g (h.rm g hg).1 (h.rm g hg).2.2.2.1 (h.rx g hg))
 . exact hk2.elim .inl (fun h1=>hnew k h1)
 . exact⟨ho.trans hb.os,ht.trans hb.tape,hu.trans hb.output,by rw[hsz];omega,fun k h1 _ h3=>hold k h1 (fun e=>h3 (.inl e)) (fun e=>h3 (.inr (.inl e))),fun k _ hu2=>hu2⟩
theorem FI.down{v3:Value}{c':Ch}{w3:World}(h:FI F w jb J ds n m lks ls us l X C cv c rv row fl)(hc:ChoC w C (fun k=>k<w.heap.size/\UL l k) jb ds n m lks ls v3 c' w3):
 ∃l3 C',FI F w3 jb J ds n m lks ls us l3 X C cv c rv row fl/\ChR C' w3 v3 n c'/\(∀k,C' k->k<w3.heap.size/\UL l3 k/\k≠jb/\¬X k/\¬QB rv k)/\FFr w w3 l l3 (fun _=>False):=by
 obtain⟨F',C',l3,e1,e2,e3,e4,e5,e6⟩:=hc;refine⟨l3,C',h.call e2 e3 (fun k hk hu=>e1 k ⟨hk,hu⟩),e4,fun k hk=>?_,FFr.call e2 e3 (fun k hk hu=>e1 k ⟨hk,hu⟩)⟩;refine⟨e3.low k (e5 k hk),e3.un k (e5 k hk),?_⟩;rcases e6 k hk with h1|h1
 . exact(h.cm k h1).2.2
 . refine⟨(h.jz.fresh h1).2.2.1,fun hx=>?_,fun hq=>?_⟩
   . have:=(h.xm k hx).1;omega
   . have:=(h.rm k hq).1;omega
theorem FI.app{C':Nat->Prop}{v3 rv4:Value}{c':Ch}{w4:World}{x:Nat}(h:FI F w jb J ds n m lks ls us l X C cv c rv row fl)(hch:ChR C' w v3 n c')(hcm:∀k,C' k->k<w.heap.size/\UL l k/\k≠jb/\¬X k/\¬QB rv k)(hac:AC ls c')(hcl:c'.length=m)
 (q1:QRow 0 w4 rv4 (row++[x])) (q2:w.heap.size<=w4.heap.size) (q3:w4.os=w.os) (q4:w4.tape=w.tape) (q5:w4.output=w.output) (q6:∀k,k<w.heap.size->¬QB rv k->w4.heap[k]?=w.heap[k]?) (q7:∀k,QB rv4 k->QB rv k\/(w.heap.size<=k/\k<w4.heap.size)):
 FI F w4 jb J ds n m lks ls us l X C' v3 c' rv4 (row++[x]) fl/\FFr w w4 l l (QB rv):=by
 have hjq:¬QB rv jb:=fun hq=>(h.rm jb hq).2.2.2.1 rfl
 refine⟨⟨?_,fun k hk=>?_,h.fo.keep q2 (fun k hk=>q6 k (h.xm k hk).1 (fun hq=>h.rx k hq hk)),q1,fun k hk=>?_,fun k hk hx=>?_,hch.keep q2 (fun b hb hl=>⟨hb,q6 b hl (hcm b hb).2.2.2.2⟩),fun k hk=>?_,hac,hcl,h.m0,h.fle⟩,⟨q3,q4,q5,q2,fun k hk _ hq=>q6 k hk hq,fun _ _ hu=>hu⟩⟩
 . exact h.jz.write (M:=QB rv) q2 q3 q4 q5 (fun k hk _ hq=>q6 k hk hq) (fun k hk=>⟨(h.rm k hk).2.1,(h.rm k hk).2.2.1,(h.rm k hk).2.2.2.2⟩) ((q6 jb h.jz.lt hjq).trans h.jz.blk) rfl rfl rfl
 . obtain⟨a1,a2⟩:=h.xm k hk;exact⟨zO a1 q2,a2⟩
 . rcases q7 k hk with h1|h1
   . obtain⟨a1,a2⟩:=h.rm k h1;exact⟨zO a1 q2,a2⟩
   . obtain⟨a1,a2,a3,a4⟩:=h.jz.fresh h1.1;exact⟨h1.2,a1,a2,a3,a4⟩
 . rcases q7 k hk with h1|h1
   . exact h.rx k h1 hx
   . have:=(h.xm k hx).1;omega
 . obtain⟨a1,a2,a3,a4,a5⟩:=hcm k hk;refine⟨zO a1 q2,a2,a3,a4,fun hq=>?_⟩;rcases q7 k hq with h1|h1
   . exact a5 h1
   . omega
theorem FI.lift{rv4:Value}{w4 w5:World}{l4:List Sx}{x:Nat}{fl5:List (List Nat)}(h:FI F w jb J ds n m lks ls us l X C cv c rv row fl)(hf:FFr w w4 l l4 (QB rv))(q1:QRow 0 w4 rv row)(q7:∀k,QB rv4 k->QB rv k\/w.heap.size<=k)(q8:QExt rv rv4 row.length)
 (h5:FO F w4 jb J ds n m lks ls us l4 X rv4 (row++[x]) fl5 w5):FO F w jb J ds n m lks ls us l X rv row fl5 w5:=by
 obtain⟨fv5,l5,X5,a1,a2,a3,a4,a5,a6⟩:=h5.ex;refine⟨fv5,l5,X5,a1,a2,a3,?_,fun k hk=>?_,(hf.mono (fun k hk=>.inr (.inr hk))).trans a6 (fun k hk=>?_)⟩
 . rcases q1 with q1|⟨g,off,cap,cur,e1,e2,e3,e4,e5,e6⟩
   . exact .inl q1
   . have hg:QB rv g:=⟨off,_,cap,e1⟩
     have hgm:=h.rm g hg;by_cases h4:QB rv4 g
     . obtain⟨off2,c2,f1,f2⟩:=q8 g hg h4;rcases a4 with⟨b1,_⟩|⟨g5,off5,cap5,cur5,b1,b2,b3,b4,b5,b6⟩
       . rw[f2]at b1;cases b1
       . rw[f2]at b1;injection b1 with b1 b7 b8;injection b1 with b1;injection b1 with b1 b9;subst b1 b8 b9;refine .inr ⟨g,off2,c2,cur5,f1,zR _,b3,b4,?_,fun j z hz=>?_⟩
         . rw[zG]at b5;omega
         . have hj:=(zE.1 hz).1;exact b6 j z (by rw[yE hj];exact hz)
     . refine .inr ⟨g,off,cap,cur,e1,e2,?_,e4,e5,e6⟩;refine(a6.keep g (lt_of_block e3) (hf.un g hgm.1 hgm.2.1) (fun hm=>?_)).trans e3;rcases hm with hm|hm|hm
       . exact hgm.2.2.2.1 hm
       . exact h.rx g hg hm
       . exact h4 hm
 . rcases a5 k hk with h1|h1
   . exact .inl h1
   . have:=hf.size;exact .inr (by omega)
 . rcases hk with hk|hk|hk
   . exact .inl (.inl hk)
   . exact .inl (.inr (.inl hk))
   . exact(q7 k hk).imp (fun h1=>.inr (.inr h1)) id
theorem FI.next{fl5:List (List Nat)}{w5:World}(h:FI F w jb J ds n m lks ls us l X C cv c rv row fl)(h5:FO F w jb J ds n m lks ls us l X rv row fl5 w5)(hfl:fl5.length<=4096):
 ∃fv5 l5 X5,FI F w5 jb (J.with fv5) ds n m lks ls us l5 X5 C cv c rv row fl5/\(∀k,X5 k->X k\/w.heap.size<=k)/\FFr w w5 l l5 (FM jb X rv):=by
 obtain⟨fv5,l5,X5,a1,a2,a3,a4,a5,a6⟩:=h5.ex;refine⟨fv5,l5,X5,⟨a1,a2,a3,a4,fun k hk=>?_,fun k hk hx=>?_,h.ch.keep a6.size (fun b hb hl=>⟨hb,a6.keep b hl (h.cm b hb).2.1 (fun hm=>?_)⟩),fun k hk=>?_,h.ac,h.cl,h.m0,hfl⟩,a5,a6⟩
 . obtain⟨b1,b2,b3⟩:=h.rm k hk;exact⟨zO b1 a6.size,a6.un k b1 b2,b3⟩
 . rcases a5 k hx with h1|h1
   . exact h.rx k hk h1
   . have:=(h.rm k hk).1;omega
 . obtain⟨_,_,b3,b4,b5⟩:=h.cm b hb;rcases hm with hm|hm|hm
   . exact b3 hm
   . exact b4 hm
   . exact b5 hm
 . obtain⟨b1,b2,b3,b4,b5⟩:=h.cm k hk;refine⟨zO b1 a6.size,a6.un k b1 b2,b3,fun hx=>?_,b5⟩;rcases a5 k hx with h1|h1
   . exact b4 h1
   . omega
theorem FO.from_{w0 w5:World}{l0:List Sx}{X0:Nat->Prop}{fv:Value}{fl5:List (List Nat)}(hf:FFr w0 w l0 l (FM jb X0 rv))(hx:∀k,X k->X0 k\/w0.heap.size<=k)(h5:FO F w jb (J.with fv) ds n m lks ls us l X rv row fl5 w5):FO F w0 jb J ds n m lks ls us l0 X0 rv row fl5 w5:=by
 obtain⟨fv5,l5,X5,a1,a2,a3,a4,a5,a6⟩:=h5.ex;refine⟨fv5,l5,X5,a1,a2,a3,a4,fun k hk=>?_,hf.trans a6 (fun k hk=>?_)⟩
 . rcases a5 k hk with h1|h1
   . exact hx k h1
   . have:=hf.size;exact .inr (by omega)
 . rcases hk with hk|hk|hk
   . exact .inl (.inl hk)
   . exact(hx k hk).imp (fun h1=>.inr (.inl h1)) id
   . exact .inl (.inr (.inr hk))
end
end Go.Proofs.YtkbgmcmcpbegjabGreatDoor
