/- XJoin, XRowsW, NAwake, NAwakeW. -/
import Derived.Test.YtkbgmcmcpbegjaaGreatDoorZR47
import Derived.Test.YtkbgmcmcpbegjaaGreatDoorZR34
set_option maxRecDepth 100000
set_option maxHeartbeats 16000000
namespace Go.Proofs.YtkbgmcmcpbegjaaGreatDoor
open Go.RowKit Go.Shelf
theorem jk5{kp:Nat->Prop}{n:Nat}{E:List Eg}{a:Au}(u:Nat):((sdOf kp n E a).out u).length<=E.length:=by
 unfold Sd.out sdOf;rw[List.getD,zI];by_cases h:u<n
 . rw[yO h];exact List.length_filterMap_le _ _
 . rw[yE (by simp;omega)];simp
theorem jk1{α:Type}{A R:List α}{i:Nat}{x:α}(h:A[i]?=some x):(A++R)[i]?=some x:=by
 rw[yJ (zE.1 h).1];exact h
theorem jl3{α:Type}{A R:List α}{i:Nat}{x:α}(h:R[i]?=some x):(A++R)[A.length+i]?=some x:=by
 rw[yM (by omega)];rw[show A.length+i-A.length=i by omega];exact h
theorem jla{fs:List Fa}{n:Nat}(hn:n=(jac fs).length){E:List Eg}(hE:E=fs.map (egOf (jac fs)))(hEl:E.length<=10000){p:Pt}(hp:mayP p=true){kp:Nat->Prop}{l:List Sx}{q sb:Nat}{x:Sx}(hx:l[q]?=some x)(hs:syOf x=(sb,sdOf kp n E (jaF p))):jhj (l.map syOf) n q sb (fun u v=>jbJ fs p ((jac fs).getD u []) ((jac fs).getD v [])):=by
 refine⟨_,by rw[zI,hx,Option.map_some,hs],rfl,fun u=>zT (jk5 u) (by omega),fun u v hu hv=>?_⟩;have aa:∀k,k<n->(jac fs)[k]?=some ((jac fs).getD k []):=fun k hk=>by
  rw[List.getD,zB (by omega)];rfl
 subst hn hE;exact jed hp (aa u hu) (aa v hv)
theorem jke{fs:List Fa}{n:Nat}(hn:n=(jac fs).length){E:List Eg}(hE:E=fs.map (egOf (jac fs)))(hEl:E.length<=10000){p:Pt}(hp:mayP p=true){kp:Nat->Prop}{l:List Sx}{q sb:Nat}{x:Sx}(hx:l[q]?=some x)(hs:syOf x=(sb,sdOf kp n (E.map turnE) (jaF (jaQ p)))):jhj (l.map syOf) n q sb (fun v u=>jbJ fs p ((jac fs).getD u []) ((jac fs).getD v [])):=by
 refine⟨_,by rw[zI,hx,Option.map_some,hs],rfl,fun u=>zT (jk5 u) (by rw[zH];omega),fun v u hv hu=>?_⟩;have aa:∀k,k<n->(jac fs)[k]?=some ((jac fs).getD k []):=fun k hk=>by
  rw[List.getD,zB (by omega)];rfl
 subst hn hE;exact jhH hp (aa u hu) (aa v hv)
theorem jhD{ts:List Tm}{t:Tm}(h:t∈ts):ts[ts.idxOf t]?=some t:=by
 rw[zB (yD h)];simp
theorem jih{ts:List Tm}{P:List Pa}(hmem:∀t,t∈ts↔∃a∈P,t=a.1\/t=a.2.2):linkP P=P.filter (fun a=> !jcl ts a)/\ringP P=P.filter (jcl ts):=by
 have aa:∀a∈P,jcl ts a=decide (a.1=a.2.2):=fun a ha=>by
  unfold jcl;refine decide_eq_decide.2 ⟨fun h=>?_,fun h=>by rw[h]⟩;have h1:=jhD ((hmem _).2 ⟨a,ha,.inl rfl⟩);have h2:=jhD ((hmem _).2 ⟨a,ha,.inr rfl⟩);rw[h,h2]at h1;injection h1 with h1;exact h1.symm
 exact⟨List.filter_congr (fun a ha=>by rw[aa a ha]),List.filter_congr (fun a ha=>by rw[aa a ha])⟩
theorem jkU{ts:List Tm}(hts:ts.Nodup){i:Nat}{t:Tm}(h:ts[i]?=some t):ts.idxOf t=i:=by
 have h1:=jhD (zC h);exact(List.getElem?_inj (zE.1 h1).1 hts).1 (by rw[h1,h])
theorem NJE.jw{fs:List Fa}{w w':World}{P:List Pa}{us:List Nat}{e:Ending}(h:NJE w (jac fs) (fs.map (egOf (jac fs))) P us e w')(hfl:fs.length<=1000)(hm:∀a∈P,mayP a.2.1=true)(hP0:P≠[])(hPl:P.length<=100)(hT:TabG w)(h0:0<w.heap.size)(hus:us≠[])(husl:us.length<=100)(hult:∀u∈us,u<(termsOf P).length):
 ∃jb J l frs lks rks,e=.returned (.pointer (some ⟨jb,0,none⟩))/\w.heap.size<=jb/\Below w.heap.size w w'/\(∀x∈l,∀k,OwnX x k->w.heap.size<=k)/\(termsOf P).Nodup/\
  JW (fun k=>k<w'.heap.size/\k≠jb/\UL l k) w' jb J (l.map syOf) (jac fs).length (termsOf P).length lks ((P.filter fun a=> !jcl (termsOf P) a).map (lkOf fs (termsOf P))) us l frs ((termsOf P).map (jaG (jac fs))) rks ((P.filter (jcl (termsOf P))).map (lkOf fs (termsOf P))):=by
 obtain⟨w2,jb,mp,J,frs,D,lks,rks,A,R,v,he,hJ,hA,hR,hf,hb,hv⟩:=h;obtain⟨cnt,DM,hmap,_,ar⟩:=hJ.sl.map;have aj:=ar.nd;have hVl:(jac fs).length<=2000:=zT (jbz fs) (by omega);have ak:(fs.map (egOf (jac fs))).length<=10000:=by rw[zH];omega
 have ae:∀t,t∈termsOf P↔∃a∈P,t=a.1\/t=a.2.2:=fun t=>terms_mem
 obtain⟨e1,e2⟩:=jih ae;have hjl:=lt_of_block hJ.sl.blk;have ao:=hJ.sl.jB;have hz2:=hf.size;have hBw:=hJ.Bw;have ah:XJ jb mp J jb:=.inl (.inl rfl);have ad:∀x∈A++R,∀k,OwnX x k->w.heap.size<=k:=fun x hx k hk=>hJ.pB x hx k (.inl hk)
 have an:Below w.heap.size w w':=⟨hf.os.trans hJ.bel.os,hf.tape.trans hJ.bel.tape,hf.output.trans hJ.bel.output,by omega,fun k hk=>(hf.block k ⟨by omega,by omega⟩).trans (hJ.bel.block k hk)⟩
 have ai:∀k,XJ jb mp J k->k≠jb->k<w2.heap.size->(k<w'.heap.size/\k≠jb/\UL (A++R) k)/\w'.heap[k]?=w2.heap[k]?:=fun k hk ab hl=>⟨⟨by omega,ab,fun x hx=>(hJ.px k hk x hx).1⟩,hf.block k ⟨hl,ab⟩⟩
 have aa:∀ {u:Value} {ty:TypeId} {s n:Nat} {xs:List Value},w2.ownsRow w.heap.size ty s u n xs->ty≠134->∀g,u.ownBlock=some g->g≠jb:=fun hu ab g hg e=>jan hu hJ.sl.blk ab (e▸hg)
 have ac:∀ {la:List Pa} {ks:List Lm} {X:List Sx},LA (jac fs).length (fs.map (egOf (jac fs))) (termsOf P) la ks X->∀(i:Nat) a L,la[i]?=some a->ks[i]?=some L->(termsOf P).idxOf a.1=L.1/\(termsOf P).idxOf a.2.2=L.2.1/\L.1<(termsOf P).length/\L.2.1<(termsOf P).length:=fun hL i a L h1 h2=>by
  obtain⟨a1,a2,_⟩:=hL.at_ i a L h1 h2;exact⟨jkU aj a1,jkU aj a2,(zE.1 a1).1,(zE.1 a2).1⟩
 have ag:∀a∈linkP P,a∈P/\a.1≠a.2.2:=fun a ha=>by
  obtain⟨h1,h2⟩:=zY.1 ha;exact⟨h1,by simpa using h2⟩
 have af:∀a∈ringP P,a∈P:=fun a ha=>(zY.1 ha).1
 have aq:0<(termsOf P).length:=by
  obtain⟨a,P',rfl⟩:=List.exists_cons_of_ne_nil hP0;exact List.length_pos_iff.2 (fun e0=>by
   have h1:=(ae a.1).2 ⟨a,zN ..,.inl rfl⟩;rw[e0]at h1;simp at h1)
 have htl:=terms_len P;have hlks:lks.length<=100:=by
  rw[hA.len];exact zT (yH _ _) hPl
 have hrks:rks.length<=100:=by
  rw[hR.len];exact zT (yH _ _) hPl
 have hlen:=hJ.sl.fl;refine⟨jb,{ J with vv:=v },A++R,frs,lks,rks,he,ao,an,ad,aj,⟨?_,rfl,?_,⟨by omega,by omega,fun x hx ho=>by have:=ad x hx 0 ho;omega⟩,fun k hk=>hk.1,fun k hk=>hk.2.2,fun x hx=>(hJ.px jb ah x hx).1,fun hk=>hk.2.1 rfl,fun y hy=>?_,hb,?_,?_,?_,by omega,?_,by omega,by omega,by omega⟩,?_,fun r hr=>?_,fun r hr=>?_,hJ.sl.frc,by rw[zH],aq,hJ.fv,?_,?_,?_,by omega,hus,hult⟩
 . exact hJ.pool.keep (by omega) (fun x hx k hk=>hf.block k ⟨hk.elim (hJ.pool.own_lt hx) (hJ.pool.kp_lt hx),fun e0=>hk.elim (fun h1=>(hJ.px jb ah x hx).1 (e0▸h1)) (fun h1=>(hJ.px jb ah x hx).2 (e0▸h1))⟩)
 . exact hT.below (B:=w.heap.size) h0 an
 . obtain⟨x,hx,rfl⟩:=zV.1 hy;exact(hJ.px jb ah x hx).2
 . exact(jaD jhh hJ.li rfl).keep (by omega) (fun k hk hl=>ai k (.inr (.inl hk)) (aa hJ.li (by decide) k hk) hl)
 . have h1:=jc4 (l:=List.range (termsOf P).length) (by rw[List.length_range];exact hJ.sl.al);exact h1.keep (by omega) (fun k hk hl=>ai k (.inl (.inr (.inr (.inl hk)))) (aa hJ.sl.al (by decide) k hk) hl)
 . refine(jc4 hv).sub (fun k hk hl=>⟨hl,?_,fun x hx ho=>?_⟩)
   . have:=(hv.lt k hk).1;omega
   . have:=(hv.lt k hk).1;have:=hJ.pool.own_lt hx ho;omega
 . rw[<- e1];refine⟨by rw[zH,hA.len],fun i L l hL hl=>?_⟩;rw[zI]at hl;cases ha:(linkP P)[i]? with
   |none=>rw[ha]at hl;simp at hl
   |some a=>
    rw[ha]at hl;simp at hl;subst hl;obtain⟨i1,i2,i3,i4⟩:=ac hA i a L ha hL;obtain⟨a1,a2,x,y,kp,ap,a3,a4,a5,a6⟩:=hA.at_ i a L ha hL;obtain⟨am,ab⟩:=ag a (zC ha);refine⟨i1,i2,fun e0=>?_,i3,i4,?_,?_⟩
    . rw[e0,a2]at a1;injection a1 with a1;exact ab a1.symm
    . exact jla rfl rfl ak (hm a am) (jk1 a3) a5
    . exact jke rfl rfl ak (hm a am) (jk1 a4) a6
 . exact(jaD jaU hJ.sl.fi rfl).keep (by omega) (fun k hk hl=>ai k (.inl (.inr (.inr (.inr hk)))) (aa hJ.sl.fi (by decide) k hk) hl)
 . exact(hJ.sl.fat r hr).keep (by omega) (fun k hk hl=>⟨⟨by omega,fun e0=>hJ.sl.dx k hk (.inl e0),fun x hx=>hJ.pd k hk x hx⟩,hf.block k ⟨hl,fun e0=>hJ.sl.dx k hk (.inl e0)⟩⟩)
 . have h1:r.2∈(termsOf P).map (jaG (jac fs)):=by rw[<- hJ.sl.frc];exact zW hr
   obtain⟨t,_,ht⟩:=zV.1 h1;rw[<- ht];exact⟨jeH _ t,zT (jiD _ t) (by omega)⟩
 . exact(jaD jhh hJ.ri rfl).keep (by omega) (fun k hk hl=>ai k (.inr (.inr hk)) (aa hJ.ri (by decide) k hk) hl)
 . rw[<- e2,zH,hR.len]
 . intro i L r hL hr;rw[<- e2,zI]at hr;cases ha:(ringP P)[i]? with
   |none=>rw[ha]at hr;simp at hr
   |some a=>
    rw[ha]at hr;simp at hr;subst hr;obtain⟨i1,i2,i3,i4⟩:=ac hR i a L ha hL;obtain⟨a1,a2,x,y,kp,ap,a3,a4,a5,a6⟩:=hR.at_ i a L ha hL;exact⟨i1,i3,_,jla rfl rfl ak (hm a (af a (zC ha))) (jl3 a3) a5⟩
noncomputable def jdR (fs:List Fa) (vars:List Wd) (P:List Pa):List (List Nat):=jeR ((P.filter fun a=> !jcl (termsOf P) a).map (lkOf fs (termsOf P))) ((P.filter (jcl (termsOf P))).map (lkOf fs (termsOf P))) (termsOf P).length (vars.map fun v=>(termsOf P).idxOf ((true,v):Tm)) ((termsOf P).map (jaG (jac fs)))
noncomputable def jc7 (fs:List Fa) (vars:List Wd) (P:List Pa):List Rw:=(jdR fs vars P).map fun r=>r.map fun i=>(jac fs).getD i []
theorem jcA{vars:List Wd}{P:List Pa}(h:mayQ vars P=true):vars≠[]/\P≠[]/\(∀a∈P,mayP a.2.1=true)/\vars.length<=6/\P.length<=6/\∀v∈vars,v∈jai P:=by
 simp only[mayQ,Bool.and_eq_true,decide_eq_true_eq]at h;obtain⟨⟨⟨h1,h2⟩,h3⟩,_⟩:=h;unfold whyQ at h3;split at h3
 . omega
 . rename_i h4;split at h3
   . omega
   . rename_i h5;split at h3
     . omega
     . split at h3
       . omega
       . rename_i h7;refine⟨fun e=>h1 (by rw[e];rfl),fun e=>h2 (by rw[e];rfl),fun a ha=>?_,by omega,by omega,fun v hv=>?_⟩
         . cases hm:mayP a.2.1 with
           |true=>rfl
           |false=>exact absurd ⟨a,ha,hm⟩ h4
         . by_cases hn:v∈jai P
           . exact hn
           . exact absurd ⟨v,hv,hn⟩ h7
theorem jdE{vars:List Wd}{P:List Pa}(h:∀v∈vars,v∈jai P):∀v∈vars,((true,v):Tm)∈termsOf P:=fun v hv=>by
 obtain⟨a,ha,⟨h1,e⟩|⟨h1,e⟩⟩:=jaL.1 (h v hv)
 . exact terms_mem.2 ⟨a,ha,.inl (by rw[e,<- h1])⟩
 . exact terms_mem.2 ⟨a,ha,.inr (by rw[e,<- h1])⟩
theorem jfc{ts:List Tm}(h:ts.Nodup)(t:Tm):(addT ts t).Nodup:=by
 unfold addT;split
 . exact h
 . rename_i hn;rw[List.nodup_append];exact⟨h,by simp,fun a ha b hb e=>hn (by rw[<- zK.1 hb,<- e];exact ha)⟩
theorem jha(P:List Pa):(termsOf P).Nodup:=by
 have aa:∀(l:List Pa) (ts:List Tm),ts.Nodup->(l.foldl (fun ts a=>addT (addT ts a.1) a.2.2) ts).Nodup:=by
  intro l;induction l with
  |nil=>intro ts h;exact h
  |cons a l ih=>intro ts h;exact ih _ (jfc (jfc h _) _)
 exact aa P [] List.nodup_nil
theorem jfy(fs:List Fa){vars:List Wd}{P:List Pa}(h:mayQ vars P=true):ja2 jaE (jc7 fs vars P)/\∀r,r∈jc7 fs vars P↔RowP fs vars P r:=
 jiG fs (jha P) (fun _=>terms_mem) (jcA h).2.2.2.2.2
theorem jjs(fs:List Fa){vars:List Wd}{P:List Pa}(h:mayQ vars P=true):∀r∈jdR fs vars P,(∀x∈r,x<(jac fs).length)/\r.length<=6:=fun r hr=>by
 obtain⟨_,_,_,h6,_,hv⟩:=jcA h;have hvt:=jdE hv;have hidx:∀a∈P,(termsOf P).idxOf a.1<(termsOf P).length/\(termsOf P).idxOf a.2.2<(termsOf P).length:=fun a ha=>⟨yD (terms_mem.2 ⟨a,ha,.inl rfl⟩),yD (terms_mem.2 ⟨a,ha,.inr rfl⟩)⟩
 have hu:∀u∈vars.map (fun v=>(termsOf P).idxOf ((true,v):Tm)),u<(termsOf P).length:=fun u hu=>by
  obtain⟨v,hv2,rfl⟩:=zV.1 hu;exact yD (hvt v hv2)
 obtain⟨s,hs,_,e⟩:=(jgC (c:=(termsOf P).map (jaG (jac fs))) (fun l hl=>by
  obtain⟨a,ha,rfl⟩:=zV.1 hl;exact hidx a (zY.1 ha).1) (fun l hl=>by
  obtain⟨a,ha,rfl⟩:=zV.1 hl;exact(hidx a (zY.1 ha).1).1) hu (by simp) r).1 hr
 refine⟨fun x hx=>?_,by rw[e,zH,zH];exact h6⟩;rw[e]at hx;obtain⟨u,hu2,rfl⟩:=zV.1 hx;have h3:=hs.1 u (hu u hu2);unfold atC at h3;rw[List.getD,zI,zB (hu u hu2)]at h3;exact jeH _ _ _ h3
noncomputable def jdU (fs:List Fa) (vars:List Wd) (P:List Pa):Int:=if mayQ vars P=true then (if 4096<(jc7 fs vars P).length then 110 else 0)else 1
noncomputable def jdO (fs:List Fa) (vars:List Wd) (P:List Pa):List Rw:=if mayQ vars P=true then (if 4096<(jc7 fs vars P).length then []else jc7 fs vars P)else []
def RwE(w:World)(fs:List Fa)(vars:List Wd)(P:List Pa)(e:Ending)(w':World):Prop:=
 ∃v,e=.returned (.tuple #[v,.int .i64 (jdU fs vars P)])/\jbq w' v (jdO fs vars P)/\Below w.heap.size w w'
theorem jme:(Tryz.prog.info? 34).map (fun i=>(i.zero,i.size,i.bytes))=some (some (.slice none 0 0),1,24):=by kernel_rfl
structure WLay (lb n:Nat) (RW:List Rw) (i:Nat) (hs:List (Value×Rw)) (w:World):Prop where
 len:hs.length=n
 row:VRow w lb 34 (hs.map (·.1))
 eq:(hs.take i).map (·.2)=RW.take i
 ats:∀p∈hs.take i,TxtS (fun k=>lb<k) w p.1 p.2
theorem WLay.start(w:World)(n:Nat)(RW:List Rw):WLay w.heap.size n RW 0 (List.replicate n (.slice none 0 0,[])) (w.alloc (.cells (madeCells #[.slice none 0 0] n) 34)):=
 ⟨by simp,by rw[List.map_replicate];exact jd6 w _ n _,by simp,fun p hp=>by simp at hp⟩
theorem WLay.cell{lb n:Nat}{RW:List Rw}{i:Nat}{hs:List (Value×Rw)}{w:World}(h:WLay lb n RW i hs w)(hi:i<n):∃u,w.cell? ⟨lb,i,none⟩=some u/\w.frozen? ⟨lb,i,none⟩=false:=by
 have hl:i<(hs.map (·.1)).length:=by rw[zH,h.len];exact hi
 exact⟨_,h.row.cell (zB hl)⟩
theorem WLay.next{lb n:Nat}{RW:List Rw}{i:Nat}{hs:List (Value×Rw)}{w w':World}{b:Nat}{s:Rw}(h:WLay lb n RW i hs w)(hi:i<n)(hs2:RW[i]?=some s)(hb:Below w.heap.size w w')(hv:VRow w' b 9 (s.flatMap csT))(hbl:w.heap.size<=b):WLay lb n RW (i+1) (hs.set i (.slice (some ⟨b,0,none⟩) s.length s.length,s)) (w'.setCell ⟨lb,i,none⟩ (.slice (some ⟨b,0,none⟩) s.length s.length)):=by
 have hlb:=lt_of_block h.row;have aa:∀k,k≠lb->(w'.setCell ⟨lb,i,none⟩ (.slice (some ⟨b,0,none⟩) s.length s.length)).heap[k]?=w'.heap[k]?:=fun k hk=>zM _ _ _ _ hk
 have ab:(hs.set i (.slice (some ⟨b,0,none⟩) s.length s.length,s)).take (i+1)=hs.take i++[(.slice (some ⟨b,0,none⟩) s.length s.length,s)]:=by
  rw[zS,List.getElem?_set_self (by rw[h.len];exact hi),List.take_set_of_le (zD _)];rfl
 refine⟨by rw[List.length_set];exact h.len,?_,?_,fun p hp=>?_⟩
 . rw[List.map_set];exact(h.row.below hb).set i _
 . rw[ab,yG,h.eq,zS,hs2];rfl
 . rw[ab]at hp;rcases zL.1 hp with hp|hp
   . exact(h.ats p hp).keep (by have:=hb.size;simp;omega) (fun k hk hl=>⟨hk,(aa k (by omega)).trans (hb.block k hl)⟩)
   . rw[zK.1 hp];refine(hv.sl jkg rfl).keep (by simp) (fun k hk _=>?_);have hk:k=b:=hk;exact⟨by omega,aa k (by omega)⟩
theorem WLay.done{lb n:Nat}{RW:List Rw}{hs:List (Value×Rw)}{w:World}(h:WLay lb n RW n hs w)(hn:RW.length=n)(hr:∀r∈RW,r.length<=1000000):jbq w (.slice (some ⟨lb,0,none⟩) n n) RW:=by
 have h1:hs.take n=hs:=zJ (by rw[h.len];exact zD _);have h2:=h.eq;rw[h1,zJ (by omega)]at h2;refine⟨hs,⟨⟨?_,fun m c e=>by cases e⟩,⟨_,n,by rw[h.len],by rw[h.len];exact zD _⟩,fun p hp=>⟨(h.ats p (by rw[h1];exact hp)).sub (fun _ _ _=>trivial),hr p.2 (by rw[<- h2];exact zW hp)⟩⟩,h2⟩;have h3:=h.row;rw[show hs.map (·.1)=hs.flatMap csRw from (jb6 hs).symm]at h3;exact(h3.sl jaw h.len.symm).sub (fun _ _ _=>trivial)
theorem jgd{S0:Nat->Prop}{w:World}{vf:Value}{fs:List Fa}{q:Qm}(hf:FasS S0 w vf fs)(hl:fs.length<=1000)(hw:∀f∈fs,f.1.length<=140737488351232/\f.2.1.length<=140737488351232/\f.2.2.length<=140737488351232)(hq:QOk S0 w q)(hT:TabG w):
 Calls Tryz.prog 19 #[vf,encQ q] w (RwE w fs q.vars (q.atoms.map Am.pa)):=by
 obtain⟨P,hP⟩:=eX (q.atoms.map Am.pa);rw[<- hP];have bI:0<w.heap.size:=World.block_lt_of_cell? _ _ (hT 0 (by decide));obtain⟨i0,bK,bB,bC,bv⟩:=jal jme;obtain⟨fa,fc,a9⟩:=hf.slice;obtain⟨nf,aQ⟩:=eX fs.length;rw[<- aQ]at a9;subst a9;obtain⟨va,vc,aW⟩:=hq.vs.slice;obtain⟨aa,ac,aK⟩:=hq.ats.slice;have CC:Hid (∀u,Below w.heap.size w u->Calls Tryz.prog 40 #[.agg #[.int .i64 1,q.vv,q.av,.slice none 0 0]] u fun e w'=>e=.returned (.int .i64 (if mayQ q.vars P=true then 0 else 1))/\Below u.heap.size u w'):=zA (fun u hu=>by
  have h1:=jgv (r:=⟨1,q,.slice none 0 0,[]⟩) (S:=S0) (w:=u) ⟨hq.below hu,SlS.nil _ _,fun c hc=>by simp at hc,by simp⟩;have h2:jdV (Rm.rq ⟨1,q,.slice none 0 0,[]⟩)=mayQ q.vars P:=by
   rw[jdV,Rm.rq,hP];simp
  rw[h2]at h1;exact h1)
 have HQ:=zA hq;obtain⟨qv,vars,qa,atoms⟩:=q;dsimp only at aW aK CC hP ⊢;obtain⟨nv,aJ⟩:=eX vars.length;obtain⟨na,aI⟩:=eX atoms.length;rw[<- aJ]at aW;rw[<- aI]at aK;subst aW aK;have HP:=zA hP;have HF:=zA hf;have HW:=zA hw;have HT:=zA hT;have HNF:=zA aQ;have bl:=zA aI;have HNV:=zA aJ;obtain⟨o,ho⟩:=eX (Obj.cells #[.slice va nv vc,.slice aa na ac] 38 (0,0));obtain⟨wq,au⟩:=eX (w.alloc o);have aU:Below w.heap.size w wq:=by rw[au];exact(zF _ _).alloc (zD _) _
 have aH:wq.heap[w.heap.size]?=some o:=by rw[au];exact heap_alloc_new _ _
 rw[ho]at aH;obtain⟨b0,b1⟩:=two_cellsX aH;have bn:=zA aH;have aG:=zA aU;have CQ:=zA (CC.out wq aU);have bc:Hid (w.alloc (.cells #[.slice va nv vc,.slice aa na ac] 38)=wq):=zA (by rw[au,ho]);rw[au,ho]at b0 b1;obtain⟨Q,hQ⟩:=eX (RwE w fs vars P);rw[<- hQ];have aM:=zA hQ;clear CC hf hw hq hT hP aQ aJ aI aU aH au ho hQ;show Calls Tryz.prog _ #[_,.agg #[.slice va nv vc,.slice aa na ac]] w _;obtain⟨b,hb⟩:=eX (mayQ vars P);rw[<- hb]at CQ;have HB:=zA hb;clear hb;cases b with
 |false=>
  have aN:Hid (∀w1,Below wq.heap.size wq w1->Q (.returned (.tuple #[.slice none 0 0,.int .i64 1])) w1):=zA (fun w1 ag=>by
   rw[aM.out];refine⟨.slice none 0 0,by rw[jdU,<- HB.out,if_neg (by decide)],by rw[jdO,<- HB.out,if_neg (by decide)];exact jbR _,aG.out.trans (ag.mono aG.out.size)⟩)
  go_enter Tryz.func19,Tryz.ntmps19;go_wp2_with fail;rw[bc.out];refine CQ.out.mono ?_;rintro e w1 ⟨rfl,ag⟩;have HE:=zA (aN.out w1 ag);clear ag;go_wp2;all_goals (first|(go_ret2;exact HE.out)|(go_ret;exact HE.out)|exact HE.out)
 |true=>
  obtain⟨m1,m2,m3,m4,m5,m6⟩:=jcA HB.out.symm;go_enter Tryz.func19,Tryz.ntmps19;go_wp2_with fail;rw[bc.out];clear b0 b1;refine CQ.out.mono ?_;rintro e w1 ⟨rfl,ag⟩;have aS:=zA (aG.out.trans (ag.mono aG.out.size));have ar:=(ag.block w.heap.size (lt_of_block bn.out)).trans bn.out;have az:=zA ar;have CG:=zA (newGraph_any (HF.out.below aS.out) (by omega) HW.out);clear ag CQ ar;go_wp2_with fail;refine CG.out.mono ?_;rintro e w2 ⟨gb,mb,bj,a3,DD,c,rfl,hg,a0⟩;have aw:=zA (aS.out.trans (a0.mono aS.out.size));have HG:Hid (GrS (fun k=>w1.heap.size<=k/\k<w2.heap.size) w2 gb (jac fs) (fs.map (egOf (jac fs))) mb bj a3 DD c):=zA (hg.keep (zD _) (fun b hs hl=>⟨⟨hs,hl⟩,rfl⟩));obtain⟨p0,p1⟩:=two_cellsX ((a0.block w.heap.size (lt_of_block az.out)).trans az.out);have hVl:(jac fs).length<=2000:=zT (jbz fs) (by omega);have bE:(fs.map (egOf (jac fs))).length<=10000:=by rw[zH];omega
  have hPl:P.length=na:=by rw[HP.out,zH,bl.out]
  have CJ:=zA (newJoin_any (P:=P) HG.out (fun k hk=>hk.2) (HQ.out.below aw.out) (by omega) bE (jhO HW.out) (by have:=bl.out;dsimp only;omega) (by dsimp only;omega) (fun a ha=>m3 (Am.pa a) (by rw[HP.out];exact zW ha)) (by rw[HP.out];rfl) (jdE m6));have bz:Hid (TabG w2):=zA (HT.out.below (B:=w.heap.size) bI aw.out);have hz2:w.heap.size<=w2.heap.size:=aw.out.size;clear hg a0 CG;go_wp2_with fail;refine CJ.out.mono ?_;intro e w3 a7;obtain⟨jb,J,l,frs,lks,rks,he,hjb,bm,aE,_,bi⟩:=a7.jw hl m3 m2 (by omega) bz.out (by omega) (by intro e0;exact m1 (List.map_eq_nil_iff.1 e0)) (by rw[zH];omega) (fun u hu=>by
   obtain⟨v,hv,rfl⟩:=zV.1 hu;exact yD (jdE m6 v hv))
  subst he;have CR:=jjK bi;have a4:jeR ((P.filter fun a=> !jcl (termsOf P) a).map (lkOf fs (termsOf P))) ((P.filter (jcl (termsOf P))).map (lkOf fs (termsOf P))) (termsOf P).length (vars.map fun v=>(termsOf P).idxOf ((true,v):Tm)) ((termsOf P).map (jaG (jac fs)))=jdR fs vars P:=rfl;rw[a4]at CR;have CR:=zA CR;have aB:=zA bm;have aO:=zA aE;clear a7 bm aE bi a4 CJ;go_wp2_with fail;refine CR.out.mono ?_;rintro e w4 ⟨fv,rfl,X,l4,bw,hX,aj⟩;have hz3:w2.heap.size<=w3.heap.size:=aB.out.size;have ad:∀k,k<w2.heap.size->w4.heap[k]?=w2.heap[k]?:=fun k hk=>(aj.keep k (by omega) (fun x hx ho=>by have:=aO.out x hx k ho;omega) (by omega)).trans (aB.out.block k hk)
  have bh:Hid (Below w2.heap.size w2 w4):=zA ⟨aj.os.trans aB.out.os,aj.tape.trans aB.out.tape,aj.output.trans aB.out.output,by have:=aj.size;omega,ad⟩;obtain⟨ae,al,aF,bk,aY⟩:=bw;obtain⟨fa4,fc4,a2⟩:=jab aF;obtain⟨n4,am⟩:=eX ae.length;rw[<- am]at a2 aF;subst a2;have hn4l:n4<=4097:=by
   rw[am,<- zH (f:=(·.2)),al,zX];omega
  have HFC:=zA al;have bL:=zA aF;have a5:=zA aY;have bb:=zA am;have bD:Hid (GrS (fun k=>w1.heap.size<=k/\k<w2.heap.size) w4 gb (jac fs) (fs.map (egOf (jac fs))) mb bj a3 DD c):=zA (HG.out.keep bh.out.size (fun b hs _=>⟨hs,ad b hs.2⟩));have ao:(jc7 fs vars P).length=(jdR fs vars P).length:=by rw[jc7,zH]
  have ai:Hid (Below w.heap.size w w4):=zA (aw.out.trans (bh.out.mono aw.out.size));have ah:n4=min 4097 (jdR fs vars P).length:=by rw[am,<- zH (f:=(·.2)),al,zX]
  by_cases hbig:4096<n4
  . have an:(4096:Int)<(n4:Int):=by omega
    have HE:Hid (Q (.returned (.tuple #[.slice none 0 0,.int .i64 110])) w4):=zA (by
     rw[aM.out];have h1:4096<(jc7 fs vars P).length:=by rw[ao];omega
     exact⟨.slice none 0 0,by rw[jdU,<- HB.out,if_pos rfl,if_pos h1],by rw[jdO,<- HB.out,if_pos rfl,if_pos h1];exact jbR _,ai.out⟩)
    clear al aF bk aY am aj hX ao ah ad hbig;go_wp2;all_goals (first|(go_ret2;exact HE.out)|(go_ret;exact HE.out)|exact HE.out)
  . have an:¬(4096:Int)<(n4:Int):=by omega
    have aA:(jdR fs vars P).length=n4:=by omega
    have a8:Hid (ae.map (·.2)=jdR fs vars P):=zA (by rw[al,zJ (by omega)]);obtain⟨RW,aR⟩:=eX (jc7 fs vars P);have ap:RW.length=n4:=by rw[aR,ao,aA]
    have aZ:=zA aR;have aX:=zA ap;have aC:Hid (∀(u:World),Below w4.heap.size w4 u->jbq u (.slice (some ⟨w4.heap.size,0,none⟩) n4 n4) RW->Q (.returned (.tuple #[.slice (some ⟨w4.heap.size,0,none⟩) n4 n4,.int .i64 0])) u):=zA (fun u hu hr=>by
     rw[aM.out];have h1:¬ 4096<(jc7 fs vars P).length:=by rw[ao];omega
     exact⟨_,by rw[jdU,<- HB.out,if_pos rfl,if_neg h1],by rw[jdO,<- HB.out,if_pos rfl,if_neg h1,<- aZ.out];exact hr,ai.out.trans (hu.mono ai.out.size)⟩)
    have bg:=zA (jjs fs HB.out.symm);have aD:=zA (WLay.start w4 n4 RW);have ay:Hid (Below w4.heap.size w4 (w4.alloc (.cells (madeCells #[.slice none 0 0] n4) 34))):=zA ((zF _ _).alloc (zD _) _);obtain⟨W0,aP⟩:=eX (w4.alloc (.cells (madeCells #[.slice none 0 0] n4) 34));rw[<- aP]at aD ay;have bG:=zA aP.symm;clear al aF bk aY am aj hX ao ah ad hbig aA aR ap aP;go_wp2_with (at_make;refine wpList_make_row _ rfl _ _ 28 rfl 34 i0 (.slice none 0 0) Tryz.underlying28 bK bB bC rfl _ _ n4 rfl rfl (by rw[bv];omega) (by omega) ?_;rw[bG.out]);go_loopw [29] (fun cc wr=>∃(i:Nat) (hs:List (Value×Rw)),i<=n4/\cc=.int .i64 i/\Hid (WLay w4.heap.size n4 RW i hs wr)/\Hid (Below w4.heap.size w4 wr)) (fun cc _=>n4-(intOf cc).toNat)
    case atStart=>exact⟨0,_,zO _,rfl,aD,ay⟩
    case round=>
     obtain⟨i,hs,hi,rfl,aq,ak⟩:=hrel;obtain⟨wx,bu⟩:=eX wr;subst bu;by_cases hlt:i<n4
     . have aL:(i:Int)<(n4:Int):=by omega
       obtain⟨r,hr⟩:∃r,ae[i]?=some r:=⟨_,zB (by rw[<- bb.out];exact hlt)⟩
       have bp:=jaD jaU bL.out bb.out;obtain⟨gf,bM,bx,bF,bA,af⟩:=bp.get hr;subst bx;have c0:=af 0 _ rfl;rw[yC,yA]at c0;have c0:=(ak.out.cell (p:=⟨gf,bM+i,none⟩) bA).trans c0;have bf:r.2∈jdR fs vars P:=by rw[<- a8.out];exact zW (zC hr)
       obtain⟨ax,a1⟩:=bg.out r.2 bf;have CW:=jka (bD.out.keep (T:=fun _=>True) ak.out.size (fun b _ hl=>⟨trivial,ak.out.block b hl⟩)) ((a5.out r (zC hr)).below ak.out) (by omega) ax;have aT:RW[i]?=some (r.2.map fun i=>(jac fs).getD i []):=by
        rw[aZ.out,jc7,zI,<- a8.out,zI,hr];rfl
       obtain⟨s,br⟩:=eX (r.2.map fun i=>(jac fs).getD i []);rw[<- br]at CW aT;have CW:=zA CW;have bH:=zA aT;obtain⟨rv,rl⟩:=r;dsimp only at c0 CW;obtain⟨ra,rc,aV⟩:=(a5.out _ (zC hr)).1.slice;dsimp only at aV;obtain⟨nr,bq⟩:=eX rl.length;rw[<- bq]at aV;subst aV;clear hr bp af bf ax a1 aT br bq bF;go_wp2_with fail;refine CW.out.mono ?_;rintro e w6 ⟨b6,rfl,bJ,bs,ab⟩;obtain⟨u6,z0,z1⟩:=aq.out.cell hlt;have bd:w4.heap.size<wx.heap.size:=lt_of_block aq.out.row;have z0:=(ab.cell (p:=⟨w4.heap.size,i,none⟩) bd).trans z0;have z1:w6.frozen? ⟨w4.heap.size,i,none⟩=false:=by
        have h1:=ab.block w4.heap.size bd;simpa only[World.frozen?,h1]using z1
       obtain⟨ns,ba⟩:=eX s.length;have bo:=zA (aq.out.next hlt bH.out ab bs (by omega));have bt:=zA ((ak.out.trans (ab.mono ak.out.size)).setCell (p:=⟨w4.heap.size,i,none⟩) (zD _) (.slice (some ⟨b6,0,none⟩) ns ns));rw[<- ba]at bo ⊢;clear ba bJ bs ab CW c0;go_wp2;go_roundw
       case rel=>exact⟨i+1,_,by omega,by go_num,bo,bt⟩
       case measure=>simp[intOf];omega
     . have aL:¬(i:Int)<(n4:Int):=by omega
       have a6:i=n4:=by omega
       rw[a6]at aq;have HE:=zA (aC.out wx ak.out (aq.out.done aX.out (fun r hr=>by
        rw[aZ.out,jc7]at hr;obtain⟨r0,h1,rfl⟩:=zV.1 hr;rw[zH];have:=(bg.out r0 h1).2;omega)))
       clear a6;go_wp2;all_goals (first|(go_ret2;exact HE.out)|(go_ret;exact HE.out)|exact HE.out)
theorem jcT{α:Type}{enc:α->List Value}{k:Nat}(hk:∀x,(enc x).length=k){w:World}{g cap n:Nat}{L:List α}{t:TypeId}{cs:Array Value}(h:w.heap[g]?=some (.cells cs t (0,0)))(hc:cs=(L.flatMap enc).toArray)(hn:n=L.length):SlS enc k (fun _=>True) w (.slice (some ⟨g,0,none⟩) n cap) L:=by
 subst hc hn;refine⟨_,cap,rfl,.inr ⟨g,0,rfl,trivial,lt_of_block h,fun j x hx c u hu=>?_⟩⟩;have hc:c<k:=by have:=(zE.1 hu).1;rw[hk]at this;exact this
 have:=jdr hk L j c x hx hc;simp only[World.cell?,h];show (L.flatMap enc).toArray[0+j*k+c]?=some u;rw[Nat.zero_add,List.getElem?_toArray,this];exact hu
theorem jgX(s:List UInt8)(w:World):Calls Tryz.prog 27 #[.string ⟨s.toArray⟩] w fun e w'=>e=.returned (.agg #[.int .i64 1,.string ⟨s.toArray⟩,.slice none 0 0])/\Below w.heap.size w w':=by
 have HB:Hid (∀a:Obj,Below w.heap.size w (w.alloc a)):=zA (fun a=>(zF _ _).alloc (zD _) _);go_enter Tryz.func27,Tryz.ntmps27;go_wp2;refine bodyPost_ret (v:=.agg #[.int .i64 1,.string ⟨s.toArray⟩,.slice none 0 0]) ?_ rfl ⟨rfl,HB.out _⟩;simp[results,Tryz.results27,go_sem]
abbrev vtN(s:List UInt8):Vt:=⟨1,s,.slice none 0 0,[]⟩
theorem jgn(S:Nat->Prop)(w:World){s:List UInt8}(hs:s.length<=9223372036854775807):VOk S w (vtN s):=jbV.2 ⟨SlS.nil _ _,hs,by simp,by simp⟩
def fsAw:List Fa:=[([97],[112],[98]),([98],[112],[99])]
def pW:Pt:=⟨1,[112],[]⟩
def pPl:Pt:=⟨5,[],[pW]⟩
def qAw:List Pa:=[((false,[97]),pPl,(true,[120]))]
theorem jk6:mayP pW=true:=by
 simp[mayP,pW,jaf,jaJ,jam];decide
theorem jlZ:mayP pPl=true:=by
 simp[mayP,pPl,pW,jaf,jaJ,jam];decide
theorem jf9(x y:Wd):jbJ fsAw pW x y↔(x=[97]/\y=[98])\/(x=[98]/\y=[99]):=by
 unfold jbJ pW;rw[jcL];have h:=jgj fsAw [112] x y;have e:jfP 1 [112] (List.map jbe [])=fun l=>l=[[112]]:=by
  funext l;simp[jfP]
 rw[e,h];simp[fsAw]
theorem jkZ{R:Wd->Wd->Prop}(hR:∀x y,R x y↔(x=[97]/\y=[98])\/(x=[98]/\y=[99])):∀(n:Nat) (y:Wd),powR R n [97] y->(n=0/\y=[98])\/(n=1/\y=[99])
 |0,y,h=>by
  rcases (hR _ _).1 h with⟨_,h⟩|⟨h,_⟩
  . exact .inl ⟨rfl,h⟩
  . simp at h
 |n+1,y,⟨z,h1,h2⟩=>by
  rcases jkZ hR n z h1 with⟨rfl,rfl⟩|⟨rfl,rfl⟩
  . rcases (hR _ _).1 h2 with⟨h,_⟩|⟨_,h⟩
    . simp at h
    . exact .inr ⟨rfl,h⟩
  . rcases (hR _ _).1 h2 with⟨h,_⟩|⟨h,_⟩
    . simp at h
    . simp at h
theorem jhV(y:Wd):jbJ fsAw pPl [97] y↔y=[98]\/y=[99]:=by
 unfold jbJ pPl;rw[jcL];have e:jfP 5 [] (List.map jbe [pW])=jeQ (altL [jbe pW]):=by
  funext l;simp[jfP]
 have hR:∀x y,ja0 fsAw (altL [jbe pW]) x y↔(x=[97]/\y=[98])\/(x=[98]/\y=[99]):=fun x y=>by
  rw[jd7];have:=jf9 x y;unfold jbJ at this;simp[this]
 rw[e,jes];constructor
 . rintro⟨n,h⟩;exact(jkZ hR n y h).imp (·.2) (·.2)
 . rintro (rfl|rfl)
   . exact⟨0,(hR _ _).2 (.inl ⟨rfl,rfl⟩)⟩
   . exact⟨1,[98],(hR _ _).2 (.inl ⟨rfl,rfl⟩),(hR _ _).2 (.inr ⟨rfl,rfl⟩)⟩
theorem ji4:mayQ [[120]] qAw=true:=by
 have h1:whyQ [[120]] qAw=0:=by
  unfold whyQ qAw;rw[if_neg (by rintro⟨a,ha,h⟩;rw[zK.1 ha]at h;dsimp only at h;rw[jlZ]at h;cases h),if_neg (by simp[jai,addN]),if_neg (by simp),if_neg (by simp[jai,addN])]
 simp only[mayQ,h1,Bool.and_eq_true];refine⟨⟨⟨by decide,by decide⟩,by decide⟩,?_⟩;simp only[qAw,List.all_cons,List.all_nil,jbU];decide
theorem jkb:jc7 fsAw [[120]] qAw=[[[98]],[[99]]]:=by
 obtain⟨h1,h2⟩:=jfy fsAw ji4;refine jbA ordR h1 (by unfold ja2;simp[jaE];decide) (fun r=>?_);rw[h2];constructor
 . rintro⟨g,hg,rfl⟩;have h3:=hg _ (zK.2 rfl);have h4:=(jhV (g [120])).1 h3;rcases h4 with h4|h4<;>simp[h4]
 . intro hr;have aa:∀y:Wd,(y=[98]\/y=[99])->RowP fsAw [[120]] qAw [y]:=fun y hy=>⟨fun _=>y,fun a ha=>by
    rw[zK.1 ha];exact(jhV y).2 hy,rfl⟩
   rcases yB.1 hr with rfl|hr
   . exact aa [98] (.inl rfl)
   . rw[zK.1 hr];exact aa [99] (.inr rfl)
theorem jjV:jdO fsAw [[120]] qAw=[[[98]],[[99]]]/\jdU fsAw [[120]] qAw=0:=by
 rw[jdO,jdU,ji4,jkb];exact⟨rfl,rfl⟩
theorem jkj:jdh fsAw pW=[[[97],[98]],[[98],[99]]]:=by
 obtain⟨h1,h2⟩:=jcX fsAw jk6;refine jbA ordR h1 (by unfold ja2;simp[jaE];decide) (fun r=>?_);rw[h2];constructor
 . rintro⟨x,y,rfl,h⟩;rcases (jf9 x y).1 h with⟨rfl,rfl⟩|⟨rfl,rfl⟩<;>simp
 . intro hr;rcases yB.1 hr with rfl|hr
   . exact⟨_,_,rfl,(jf9 _ _).2 (.inl ⟨rfl,rfl⟩)⟩
   . rw[zK.1 hr];exact⟨_,_,rfl,(jf9 _ _).2 (.inr ⟨rfl,rfl⟩)⟩
theorem jkM:jac fsAw=[[97],[98],[99]]:=by decide +kernel
theorem jhZ{w:World}{b n:Nat}{rs:List (Nat×Rw)}(h:w.heap[b]?=some (.cells (rs.map fun p=>Value.slice (some ⟨p.1,0,none⟩) p.2.length p.2.length).toArray 34 (0,0)))(hn:n=rs.length)(hr:∀p∈rs,w.heap[p.1]?=some (.cells (p.2.flatMap csT).toArray 9 (0,0))/\p.2.length<=1000000):jbq w (.slice (some ⟨b,0,none⟩) n n) (rs.map (·.2)):=by
 refine⟨rs.map fun p=>(Value.slice (some ⟨p.1,0,none⟩) p.2.length p.2.length,p.2),⟨⟨?_,fun m c e=>by cases e⟩,⟨_,n,by rw[zH,hn],by rw[zH,hn];exact zD _⟩,fun p hp=>?_⟩,by rw[List.map_map];rfl⟩
 . refine jcT jaw h ?_ (by rw[zH];exact hn);congr 1;clear h hn hr;induction rs with
   |nil=>rfl
   |cons a l ih=>rw[List.map_cons,List.map_cons,yT,<- ih];rfl
 . obtain⟨q,hq,rfl⟩:=zV.1 hp;exact⟨jcT (enc:=csT) (k:=1) (fun _=>rfl) (hr q hq).1 rfl rfl,(hr q hq).2⟩
theorem jjE{w:World}{g:Nat}(h:w.heap[g]?=some (.cells #[.string ⟨#[97]⟩,.string ⟨#[112]⟩,.string ⟨#[98]⟩,.string ⟨#[98]⟩,.string ⟨#[112]⟩,.string ⟨#[99]⟩] 48 (0,0))):FasS (fun _=>True) w (.slice (some ⟨g,0,none⟩) 2 2) fsAw:=
 jcT ji3 h (by rfl) (by rfl)
theorem jjc:∀f∈fsAw,f.1.length<=140737488351232/\f.2.1.length<=140737488351232/\f.2.2.length<=140737488351232:=by
 intro f hf;simp[fsAw]at hf;rcases hf with rfl|rfl<;>simp
theorem jlq{u:World}{g x k a:Nat}(hT:TabG u)(hg:u.heap[g]?=some (.cells #[.string ⟨#[97]⟩,.string ⟨#[112]⟩,.string ⟨#[98]⟩,.string ⟨#[98]⟩,.string ⟨#[112]⟩,.string ⟨#[99]⟩] 48 (0,0)))
 (hx:u.heap[x]?=some (.cells #[.string ⟨#[120]⟩] 9 (0,0))) (hk:u.heap[k]?=some (.cells #[.int .i64 1,.string ⟨#[112]⟩,.slice none 0 0] 25 (0,0)))
 (ha:u.heap[a]?=some (.cells #[.bool false,.string ⟨#[97]⟩,.int .i64 5,.string ⟨#[]⟩,.slice (some ⟨k,0,none⟩) 1 1,.bool true,.string ⟨#[120]⟩] 55 (0,0))):
 Calls Tryz.prog 19 #[.slice (some ⟨g,0,none⟩) 2 2,.agg #[.slice (some ⟨x,0,none⟩) 1 1,.slice (some ⟨a,0,none⟩) 1 1]] u fun e w'=>∃v,e=.returned (.tuple #[v,.int .i64 0])/\jbq w' v [[[98]],[[99]]]/\Below u.heap.size u w':=by
 have hq:QOk (fun _=>True) u ⟨.slice (some ⟨x,0,none⟩) 1 1,[[120]],.slice (some ⟨a,0,none⟩) 1 1,[((false,[97]),⟨5,[],.slice (some ⟨k,0,none⟩) 1 1,[vtN [112]]⟩,(true,[120]))]⟩:=by
  refine⟨jcT (enc:=csT) (k:=1) (fun _=>rfl) hx (by rfl) (by rfl),by simp,by simp,⟨_,_,rfl,zD _⟩,jcT jj2 ha (by rfl) (by rfl),fun b hb=>?_,fun b hb=>?_,by simp⟩
  . rw[zK.1 hb];refine jbV.2 ⟨jcT jjh hk (by rfl) (by rfl),by simp,by simp,fun y hy=>?_⟩;rw[zK.1 hy];exact jgn _ _ (by simp)
  . rw[zK.1 hb];exact⟨by simp,by simp⟩
 have h:=jgd (jjE hg) (by decide) jjc hq hT;have e:List.map Am.pa [((false,[97]),⟨5,[],.slice (some ⟨k,0,none⟩) 1 1,[vtN [112]]⟩,(true,[120]))]=qAw:=by simp[Am.pa,qAw,pPl,pW,Vt.pt_mk]
 dsimp only at h;rw[e]at h;refine h.mono ?_;rintro e w' ⟨v,rfl,hr,hb⟩;rw[jjV.2];rw[jjV.1]at hr;exact⟨v,rfl,hr,hb⟩
theorem jlt{u:World}{g:Nat}(hT:TabG u)(hg:u.heap[g]?=some (.cells #[.string ⟨#[97]⟩,.string ⟨#[112]⟩,.string ⟨#[98]⟩,.string ⟨#[98]⟩,.string ⟨#[112]⟩,.string ⟨#[99]⟩] 48 (0,0))):
 Calls Tryz.prog 11 #[.slice (some ⟨g,0,none⟩) 2 2,.agg #[.int .i64 1,.string ⟨#[112]⟩,.slice none 0 0]] u fun e w'=>∃v,e=.returned (.tuple #[v,.int .i64 0])/\jbq w' v [[[97],[98]],[[98],[99]]]/\Below u.heap.size u w':=by
 have h:=jiX (t:=vtN [112]) (jjE hg) (by decide) jjc (jgn _ _ (by simp)) hT;have e:(vtN [112]).pt=pW:=by simp[Vt.pt_mk,pW]
 rw[e,jk6,jkj]at h;exact h
theorem jlW{u:World}{g:Nat}(hg:u.heap[g]?=some (.cells #[.string ⟨#[97]⟩,.string ⟨#[112]⟩,.string ⟨#[98]⟩,.string ⟨#[98]⟩,.string ⟨#[112]⟩,.string ⟨#[99]⟩] 48 (0,0))):
 Calls Tryz.prog 15 #[.slice (some ⟨g,0,none⟩) 2 2] u fun e w'=>∃v,e=.returned v/\TxtS (fun _=>True) w' v [[97],[98],[99]]/\Below u.heap.size u w':=by
 have h:=jjj (jjE hg) (by decide) jjc;rw[jkM]at h;exact h
end Go.Proofs.YtkbgmcmcpbegjaaGreatDoor
