/- XJoin, XRowsW, NAwake, NAwakeW. -/
import Derived.Test.YtdalcipmpelifaaGreatDoorMG45
import Derived.Test.YtdalcipmpelifaaGreatDoorMG28
set_option maxRecDepth 100000
namespace Go.Proofs.YtdalcipmpelifaaGreatDoor
open Go.RowKit Go.Shelf
theorem sd_out{kp:Nat->Prop}{n:Nat}{E:List Eg}{a:Au}(u:Nat):((sdOf kp n E a).out u).length<=E.length:=by
 unfold Sd.out sdOf;rw[List.getD,zI];by_cases h:u<n
 . rw[yO h];exact List.length_filterMap_le _ _
 . rw[yB (by simp;omega)];simp
theorem at_mid{α:Type}{A R:List α}{i:Nat}{x:α}(h:A[i]?=some x):(A++R)[i]?=some x:=by
 rw[yH (zE.1 h).1];exact h
theorem at_end{α:Type}{A R:List α}{i:Nat}{x:α}(h:R[i]?=some x):(A++R)[A.length+i]?=some x:=by
 rw[yM (by omega)];rw[show A.length+i-A.length=i by omega];exact h
theorem sea_of{fs:List Fa}{n:Nat}(hn:n=(vertsL fs).length){E:List Eg}(hE:E=fs.map (egOf (vertsL fs)))(hEl:E.length<=10000){p:Pt}(hp:mayP p=true){kp:Nat->Prop}{l:List Sx}{q sb:Nat}{x:Sx}(hx:l[q]?=some x)(hs:syOf x=(sb,sdOf kp n E (autoOf p))):SeaOk (l.map syOf) n q sb (fun u v=>leadP fs p ((vertsL fs).getD u []) ((vertsL fs).getD v [])):=by
 refine⟨_,by rw[zI,hx,Option.map_some,hs],rfl,fun u=>zQ (sd_out u) (by omega),fun u v hu hv=>?_⟩;have hget:∀k,k<n->(vertsL fs)[k]?=some ((vertsL fs).getD k []):=fun k hk=>by
  rw[List.getD,zB (by omega)];rfl
 subst hn hE;exact search_lead hp (hget u hu) (hget v hv)
theorem sea_back{fs:List Fa}{n:Nat}(hn:n=(vertsL fs).length){E:List Eg}(hE:E=fs.map (egOf (vertsL fs)))(hEl:E.length<=10000){p:Pt}(hp:mayP p=true){kp:Nat->Prop}{l:List Sx}{q sb:Nat}{x:Sx}(hx:l[q]?=some x)(hs:syOf x=(sb,sdOf kp n (E.map turnE) (autoOf (turnP p)))):SeaOk (l.map syOf) n q sb (fun v u=>leadP fs p ((vertsL fs).getD u []) ((vertsL fs).getD v [])):=by
 refine⟨_,by rw[zI,hx,Option.map_some,hs],rfl,fun u=>zQ (sd_out u) (by rw[zH];omega),fun v u hv hu=>?_⟩;have hget:∀k,k<n->(vertsL fs)[k]?=some ((vertsL fs).getD k []):=fun k hk=>by
  rw[List.getD,zB (by omega)];rfl
 subst hn hE;exact search_back hp (hget u hu) (hget v hv)
theorem idx_get{ts:List Tm}{t:Tm}(h:t∈ts):ts[ts.idxOf t]?=some t:=by
 rw[zB (zZ h)];simp
theorem linkP_ring{ts:List Tm}{P:List Pa}(hmem:∀t,t∈ts↔∃a∈P,t=a.1\/t=a.2.2):linkP P=P.filter (fun a=> !isRing ts a)/\ringP P=P.filter (isRing ts):=by
 have key:∀a∈P,isRing ts a=decide (a.1=a.2.2):=fun a ha=>by
  unfold isRing;refine decide_eq_decide.2 ⟨fun h=>?_,fun h=>by rw[h]⟩;have h1:=idx_get ((hmem _).2 ⟨a,ha,.inl rfl⟩);have h2:=idx_get ((hmem _).2 ⟨a,ha,.inr rfl⟩);rw[h,h2]at h1;injection h1 with h1;exact h1.symm
 exact⟨List.filter_congr (fun a ha=>by rw[key a ha]),List.filter_congr (fun a ha=>by rw[key a ha])⟩
theorem idx_of{ts:List Tm}(hts:ts.Nodup){i:Nat}{t:Tm}(h:ts[i]?=some t):ts.idxOf t=i:=by
 have h1:=idx_get (zC h);exact(List.getElem?_inj (zE.1 h1).1 hts).1 (by rw[h1,h])
theorem NJE.jw{fs:List Fa}{w w':World}{P:List Pa}{us:List Nat}{e:Ending}(h:NJE w (vertsL fs) (fs.map (egOf (vertsL fs))) P us e w')(hfl:fs.length<=1000)(hm:∀a∈P,mayP a.2.1=true)(hP0:P≠[])(hPl:P.length<=100)(hT:TabG w)(h0:0<w.heap.size)(hus:us≠[])(husl:us.length<=100)(hult:∀u∈us,u<(termsOf P).length):
 ∃jb J l frs lks rks,e=.returned (.pointer (some ⟨jb,0,none⟩))/\w.heap.size<=jb/\Below w.heap.size w w'/\(∀x∈l,∀k,OwnX x k->w.heap.size<=k)/\(termsOf P).Nodup/\
  JW (fun k=>k<w'.heap.size/\k≠jb/\UL l k) w' jb J (l.map syOf) (vertsL fs).length (termsOf P).length lks ((P.filter fun a=> !isRing (termsOf P) a).map (lkOf fs (termsOf P))) us l frs ((termsOf P).map (firstT (vertsL fs))) rks ((P.filter (isRing (termsOf P))).map (lkOf fs (termsOf P))):=by
 obtain⟨w2,jb,mp,J,frs,D,lks,rks,A,R,v,he,hJ,hA,hR,hf,hb,hv⟩:=h;obtain⟨cnt,DM,hmap,_,hTM⟩:=hJ.sl.map;have hnd:=hTM.nd;have hVl:(vertsL fs).length<=2000:=zQ (verts_len fs) (by omega);have hEl:(fs.map (egOf (vertsL fs))).length<=10000:=by rw[zH];omega
 have hmem:∀t,t∈termsOf P↔∃a∈P,t=a.1\/t=a.2.2:=fun t=>terms_mem
 obtain⟨e1,e2⟩:=linkP_ring hmem;have hjl:=lt_of_block hJ.sl.blk;have hjB:=hJ.sl.jB;have hz2:=hf.size;have hBw:=hJ.Bw;have hxj:XJ jb mp J jb:=.inl (.inl rfl);have hown:∀x∈A++R,∀k,OwnX x k->w.heap.size<=k:=fun x hx k hk=>hJ.pB x hx k (.inl hk)
 have hbw:Below w.heap.size w w':=⟨hf.os.trans hJ.bel.os,hf.tape.trans hJ.bel.tape,hf.output.trans hJ.bel.output,by omega,fun k hk=>(hf.block k ⟨by omega,by omega⟩).trans (hJ.bel.block k hk)⟩
 have hxF:∀k,XJ jb mp J k->k≠jb->k<w2.heap.size->(k<w'.heap.size/\k≠jb/\UL (A++R) k)/\w'.heap[k]?=w2.heap[k]?:=fun k hk hne hl=>⟨⟨by omega,hne,fun x hx=>(hJ.px k hk x hx).1⟩,hf.block k ⟨hl,hne⟩⟩
 have hnej:∀ {u:Value} {ty:TypeId} {s n:Nat} {xs:List Value},w2.ownsRow w.heap.size ty s u n xs->ty≠114->∀g,u.ownBlock=some g->g≠jb:=fun hu hne g hg e=>own_neG hu hJ.sl.blk hne (e▸hg)
 have hidx:∀ {la:List Pa} {ks:List Lm} {X:List Sx},LA (vertsL fs).length (fs.map (egOf (vertsL fs))) (termsOf P) la ks X->∀(i:Nat) a L,la[i]?=some a->ks[i]?=some L->(termsOf P).idxOf a.1=L.1/\(termsOf P).idxOf a.2.2=L.2.1/\L.1<(termsOf P).length/\L.2.1<(termsOf P).length:=fun hL i a L h1 h2=>by
  obtain⟨a1,a2,_⟩:=hL.at_ i a L h1 h2;exact⟨idx_of hnd a1,idx_of hnd a2,(zE.1 a1).1,(zE.1 a2).1⟩
 have hlsub:∀a∈linkP P,a∈P/\a.1≠a.2.2:=fun a ha=>by
  obtain⟨h1,h2⟩:=zV.1 ha;exact⟨h1,by simpa using h2⟩
 have hrsub:∀a∈ringP P,a∈P:=fun a ha=>(zV.1 ha).1
 have hm0:0<(termsOf P).length:=by
  obtain⟨a,P',rfl⟩:=List.exists_cons_of_ne_nil hP0;exact List.length_pos_iff.2 (fun e0=>by
   have h1:=(hmem a.1).2 ⟨a,zL ..,.inl rfl⟩;rw[e0]at h1;simp at h1)
 have htl:=terms_len P;have hlks:lks.length<=100:=by
  rw[hA.len];exact zQ (yD _ _) hPl
 have hrks:rks.length<=100:=by
  rw[hR.len];exact zQ (yD _ _) hPl
 have hlen:=hJ.sl.fl;refine⟨jb,{ J with vv:=v },A++R,frs,lks,rks,he,hjB,hbw,hown,hnd,⟨?_,rfl,?_,⟨by omega,by omega,fun x hx ho=>by have:=hown x hx 0 ho;omega⟩,fun k hk=>hk.1,fun k hk=>hk.2.2,fun x hx=>(hJ.px jb hxj x hx).1,fun hk=>hk.2.1 rfl,fun y hy=>?_,hb,?_,?_,?_,by omega,?_,by omega,by omega,by omega⟩,?_,fun r hr=>?_,fun r hr=>?_,hJ.sl.frc,by rw[zH],hm0,hJ.fv,?_,?_,?_,by omega,hus,hult⟩
 . exact hJ.pool.keep (by omega) (fun x hx k hk=>hf.block k ⟨hk.elim (hJ.pool.own_lt hx) (hJ.pool.kp_lt hx),fun e0=>hk.elim (fun h1=>(hJ.px jb hxj x hx).1 (e0▸h1)) (fun h1=>(hJ.px jb hxj x hx).2 (e0▸h1))⟩)
 . exact hT.below (B:=w.heap.size) h0 hbw
 . obtain⟨x,hx,rfl⟩:=zR.1 hy;exact(hJ.px jb hxj x hx).2
 . exact(own_sl csL_len hJ.li rfl).keep (by omega) (fun k hk hl=>hxF k (.inr (.inl hk)) (hnej hJ.li (by decide) k hk) hl)
 . have h1:=own_natC (l:=List.range (termsOf P).length) (by rw[List.length_range];exact hJ.sl.al);exact h1.keep (by omega) (fun k hk hl=>hxF k (.inl (.inr (.inr (.inl hk)))) (hnej hJ.sl.al (by decide) k hk) hl)
 . refine(own_natC hv).sub (fun k hk hl=>⟨hl,?_,fun x hx ho=>?_⟩)
   . have:=(hv.lt k hk).1;omega
   . have:=(hv.lt k hk).1;have:=hJ.pool.own_lt hx ho;omega
 . rw[<- e1];refine⟨by rw[zH,hA.len],fun i L l hL hl=>?_⟩;rw[zI]at hl;cases ha:(linkP P)[i]? with
   |none=>rw[ha]at hl;simp at hl
   |some a=>
    rw[ha]at hl;simp at hl;subst hl;obtain⟨i1,i2,i3,i4⟩:=hidx hA i a L ha hL;obtain⟨a1,a2,x,y,kp,kp',a3,a4,a5,a6⟩:=hA.at_ i a L ha hL;obtain⟨hap,hne⟩:=hlsub a (zC ha);refine⟨i1,i2,fun e0=>?_,i3,i4,?_,?_⟩
    . rw[e0,a2]at a1;injection a1 with a1;exact hne a1.symm
    . exact sea_of rfl rfl hEl (hm a hap) (at_mid a3) a5
    . exact sea_back rfl rfl hEl (hm a hap) (at_mid a4) a6
 . exact(own_sl csRow_len hJ.sl.fi rfl).keep (by omega) (fun k hk hl=>hxF k (.inl (.inr (.inr (.inr hk)))) (hnej hJ.sl.fi (by decide) k hk) hl)
 . exact(hJ.sl.fat r hr).keep (by omega) (fun k hk hl=>⟨⟨by omega,fun e0=>hJ.sl.dx k hk (.inl e0),fun x hx=>hJ.pd k hk x hx⟩,hf.block k ⟨hl,fun e0=>hJ.sl.dx k hk (.inl e0)⟩⟩)
 . have h1:r.2∈(termsOf P).map (firstT (vertsL fs)):=by rw[<- hJ.sl.frc];exact zU hr
   obtain⟨t,_,ht⟩:=zR.1 h1;rw[<- ht];exact⟨firstT_lt _ t,zQ (firstT_len _ t) (by omega)⟩
 . exact(own_sl csL_len hJ.ri rfl).keep (by omega) (fun k hk hl=>hxF k (.inr (.inr hk)) (hnej hJ.ri (by decide) k hk) hl)
 . rw[<- e2,zH,hR.len]
 . intro i L r hL hr;rw[<- e2,zI]at hr;cases ha:(ringP P)[i]? with
   |none=>rw[ha]at hr;simp at hr
   |some a=>
    rw[ha]at hr;simp at hr;subst hr;obtain⟨i1,i2,i3,i4⟩:=hidx hR i a L ha hL;obtain⟨a1,a2,x,y,kp,kp',a3,a4,a5,a6⟩:=hR.at_ i a L ha hL;exact⟨i1,i3,_,sea_of rfl rfl hEl (hm a (hrsub a (zC ha))) (at_end a3) a5⟩
noncomputable def rowsNW (fs:List Fa) (vars:List Wd) (P:List Pa):List (List Nat):=rowsN ((P.filter fun a=> !isRing (termsOf P) a).map (lkOf fs (termsOf P))) ((P.filter (isRing (termsOf P))).map (lkOf fs (termsOf P))) (termsOf P).length (vars.map fun v=>(termsOf P).idxOf ((true,v):Tm)) ((termsOf P).map (firstT (vertsL fs)))
noncomputable def rowsW (fs:List Fa) (vars:List Wd) (P:List Pa):List Rw:=(rowsNW fs vars P).map fun r=>r.map fun i=>(vertsL fs).getD i []
theorem mayQ_parts{vars:List Wd}{P:List Pa}(h:mayQ vars P=true):vars≠[]/\P≠[]/\(∀a∈P,mayP a.2.1=true)/\vars.length<=6/\P.length<=6/\∀v∈vars,v∈namesP P:=by
 simp only[mayQ,Bool.and_eq_true,decide_eq_true_eq]at h;obtain⟨⟨⟨h1,h2⟩,h3⟩,_⟩:=h;unfold whyQ at h3;split at h3
 . omega
 . rename_i h4;split at h3
   . omega
   . rename_i h5;split at h3
     . omega
     . split at h3
       . omega
       . rename_i h7;refine⟨fun e=>h1 (by rw[e];rfl),fun e=>h2 (by rw[e];rfl),fun a ha=>?_,by omega,by omega,fun v hv=>?_⟩
         . cases hm:mayP a.2.1 with
           |true=>rfl
           |false=>exact absurd ⟨a,ha,hm⟩ h4
         . by_cases hn:v∈namesP P
           . exact hn
           . exact absurd ⟨v,hv,hn⟩ h7
theorem vars_terms{vars:List Wd}{P:List Pa}(h:∀v∈vars,v∈namesP P):∀v∈vars,((true,v):Tm)∈termsOf P:=fun v hv=>by
 obtain⟨a,ha,⟨h1,e⟩|⟨h1,e⟩⟩:=mem_namesP_iff.1 (h v hv)
 . exact terms_mem.2 ⟨a,ha,.inl (by rw[e,<- h1])⟩
 . exact terms_mem.2 ⟨a,ha,.inr (by rw[e,<- h1])⟩
theorem addT_nodup{ts:List Tm}(h:ts.Nodup)(t:Tm):(addT ts t).Nodup:=by
 unfold addT;split
 . exact h
 . rename_i hn;rw[List.nodup_append];exact⟨h,by simp,fun a ha b hb e=>hn (by rw[<- zJ.1 hb,<- e];exact ha)⟩
theorem terms_nodup(P:List Pa):(termsOf P).Nodup:=by
 have key:∀(l:List Pa) (ts:List Tm),ts.Nodup->(l.foldl (fun ts a=>addT (addT ts a.1) a.2.2) ts).Nodup:=by
  intro l;induction l with
  |nil=>intro ts h;exact h
  |cons a l ih=>intro ts h;exact ih _ (addT_nodup (addT_nodup h _) _)
 exact key P [] List.nodup_nil
theorem rowsW_spec(fs:List Fa){vars:List Wd}{P:List Pa}(h:mayQ vars P=true):RiseL lessR (rowsW fs vars P)/\∀r,r∈rowsW fs vars P↔RowP fs vars P r:=
 rowsN_spec fs (terms_nodup P) (fun _=>terms_mem) (mayQ_parts h).2.2.2.2.2
theorem rowsNW_lt(fs:List Fa){vars:List Wd}{P:List Pa}(h:mayQ vars P=true):∀r∈rowsNW fs vars P,(∀x∈r,x<(vertsL fs).length)/\r.length<=6:=fun r hr=>by
 obtain⟨_,_,_,h6,_,hv⟩:=mayQ_parts h;have hvt:=vars_terms hv;have hidx:∀a∈P,(termsOf P).idxOf a.1<(termsOf P).length/\(termsOf P).idxOf a.2.2<(termsOf P).length:=fun a ha=>⟨zZ (terms_mem.2 ⟨a,ha,.inl rfl⟩),zZ (terms_mem.2 ⟨a,ha,.inr rfl⟩)⟩
 have hu:∀u∈vars.map (fun v=>(termsOf P).idxOf ((true,v):Tm)),u<(termsOf P).length:=fun u hu=>by
  obtain⟨v,hv2,rfl⟩:=zR.1 hu;exact zZ (hvt v hv2)
 obtain⟨s,hs,_,e⟩:=(mem_rowsN (c:=(termsOf P).map (firstT (vertsL fs))) (fun l hl=>by
  obtain⟨a,ha,rfl⟩:=zR.1 hl;exact hidx a (zV.1 ha).1) (fun l hl=>by
  obtain⟨a,ha,rfl⟩:=zR.1 hl;exact(hidx a (zV.1 ha).1).1) hu (by simp) r).1 hr
 refine⟨fun x hx=>?_,by rw[e,zH,zH];exact h6⟩;rw[e]at hx;obtain⟨u,hu2,rfl⟩:=zR.1 hx;have h3:=hs.1 u (hu u hu2);unfold atC at h3;rw[List.getD,zI,zB (hu u hu2)]at h3;exact firstT_lt _ _ _ h3
noncomputable def rowsEW (fs:List Fa) (vars:List Wd) (P:List Pa):Int:=if mayQ vars P=true then (if 4096<(rowsW fs vars P).length then 110 else 0)else 1
noncomputable def rowsAW (fs:List Fa) (vars:List Wd) (P:List Pa):List Rw:=if mayQ vars P=true then (if 4096<(rowsW fs vars P).length then []else rowsW fs vars P)else []
def RwE(w:World)(fs:List Fa)(vars:List Wd)(P:List Pa)(e:Ending)(w':World):Prop:=
 ∃v,e=.returned (.tuple #[v,.int .i64 (rowsEW fs vars P)])/\RowsM w' v (rowsAW fs vars P)/\Below w.heap.size w w'
theorem infoSS:(Tryz.prog.info? 22).map (fun i=>(i.zero,i.size,i.bytes))=some (some (.slice none 0 0),1,24):=by kernel_rfl
structure WLay (lb n:Nat) (RW:List Rw) (i:Nat) (hs:List (Value×Rw)) (w:World):Prop where
 len:hs.length=n
 row:VRow w lb 22 (hs.map (·.1))
 eq:(hs.take i).map (·.2)=RW.take i
 ats:∀p∈hs.take i,TxtS (fun k=>lb<k) w p.1 p.2
theorem WLay.start(w:World)(n:Nat)(RW:List Rw):WLay w.heap.size n RW 0 (List.replicate n (.slice none 0 0,[])) (w.alloc (.cells (madeCells #[.slice none 0 0] n) 22)):=
 ⟨by simp,by rw[List.map_replicate];exact made_row w _ n _,by simp,fun p hp=>by simp at hp⟩
theorem WLay.cell{lb n:Nat}{RW:List Rw}{i:Nat}{hs:List (Value×Rw)}{w:World}(h:WLay lb n RW i hs w)(hi:i<n):∃u,w.cell? ⟨lb,i,none⟩=some u/\w.frozen? ⟨lb,i,none⟩=false:=by
 have hl:i<(hs.map (·.1)).length:=by rw[zH,h.len];exact hi
 exact⟨_,h.row.cell (zB hl)⟩
theorem WLay.next{lb n:Nat}{RW:List Rw}{i:Nat}{hs:List (Value×Rw)}{w w':World}{b:Nat}{s:Rw}(h:WLay lb n RW i hs w)(hi:i<n)(hs2:RW[i]?=some s)(hb:Below w.heap.size w w')(hv:VRow w' b 9 (s.flatMap csT))(hbl:w.heap.size<=b):WLay lb n RW (i+1) (hs.set i (.slice (some ⟨b,0,none⟩) s.length s.length,s)) (w'.setCell ⟨lb,i,none⟩ (.slice (some ⟨b,0,none⟩) s.length s.length)):=by
 have hlb:=lt_of_block h.row;have hset:∀k,k≠lb->(w'.setCell ⟨lb,i,none⟩ (.slice (some ⟨b,0,none⟩) s.length s.length)).heap[k]?=w'.heap[k]?:=fun k hk=>zM _ _ _ _ hk
 have htk:(hs.set i (.slice (some ⟨b,0,none⟩) s.length s.length,s)).take (i+1)=hs.take i++[(.slice (some ⟨b,0,none⟩) s.length s.length,s)]:=by
  rw[zT,List.getElem?_set_self (by rw[h.len];exact hi),List.take_set_of_le (zD _)];rfl
 refine⟨by rw[List.length_set];exact h.len,?_,?_,fun p hp=>?_⟩
 . rw[List.map_set];exact(h.row.below hb).set i _
 . rw[htk,yP,h.eq,zT,hs2];rfl
 . rw[htk]at hp;rcases zN.1 hp with hp|hp
   . exact(h.ats p hp).keep (by have:=hb.size;simp;omega) (fun k hk hl=>⟨hk,(hset k (by omega)).trans (hb.block k hl)⟩)
   . rw[zJ.1 hp];refine(hv.sl csT_lenX rfl).keep (by simp) (fun k hk _=>?_);have hk:k=b:=hk;exact⟨by omega,hset k (by omega)⟩
theorem WLay.done{lb n:Nat}{RW:List Rw}{hs:List (Value×Rw)}{w:World}(h:WLay lb n RW n hs w)(hn:RW.length=n)(hr:∀r∈RW,r.length<=1000000):RowsM w (.slice (some ⟨lb,0,none⟩) n n) RW:=by
 have h1:hs.take n=hs:=zK (by rw[h.len];exact zD _);have h2:=h.eq;rw[h1,zK (by omega)]at h2;refine⟨hs,⟨⟨?_,fun m c e=>by cases e⟩,⟨_,n,by rw[h.len],by rw[h.len];exact zD _⟩,fun p hp=>⟨(h.ats p (by rw[h1];exact hp)).sub (fun _ _ _=>trivial),hr p.2 (by rw[<- h2];exact zU hp)⟩⟩,h2⟩;have h3:=h.row;rw[show hs.map (·.1)=hs.flatMap csRw from (flat_row hs).symm]at h3;exact(h3.sl csRw_len h.len.symm).sub (fun _ _ _=>trivial)
set_option maxHeartbeats 16000000 in
theorem rowsM_any{S0:Nat->Prop}{w:World}{vf:Value}{fs:List Fa}{q:Qm}(hf:FasS S0 w vf fs)(hl:fs.length<=1000)(hw:∀f∈fs,f.1.length<=140737488351232/\f.2.1.length<=140737488351232/\f.2.2.length<=140737488351232)(hq:QOk S0 w q)(hT:TabG w):
 Calls Tryz.prog 15 #[vf,encQ q] w (RwE w fs q.vars (q.atoms.map Am.pa)):=by
 obtain⟨P,hP⟩:∃P,P=q.atoms.map Am.pa:=⟨_,rfl⟩
 rw[<- hP];have hz0:0<w.heap.size:=World.block_lt_of_cell? _ _ (hT 0 (by decide));obtain⟨i0,hi0,hy0,hy1,hy2⟩:=info_partsG infoSS;obtain⟨fa,fc,hvf⟩:=hf.slice;obtain⟨nf,hnf⟩:∃n,n=fs.length:=⟨_,rfl⟩
 rw[<- hnf]at hvf;subst hvf;obtain⟨va,vc,hve⟩:=hq.vs.slice;obtain⟨aa,ac,hae⟩:=hq.ats.slice;have CC:Hid (∀u,Below w.heap.size w u->Calls Tryz.prog 29 #[.agg #[.int .i64 1,q.vv,q.av,.slice none 0 0]] u fun e w'=>e=.returned (.int .i64 (if mayQ q.vars P=true then 0 else 1))/\Below u.heap.size u w'):=zA (fun u hu=>by
  have h1:=check_any (r:=⟨1,q,.slice none 0 0,[]⟩) (S:=S0) (w:=u) ⟨hq.below hu,SlS.nil _ _,fun c hc=>by simp at hc,by simp⟩;have h2:mayRq (Rm.rq ⟨1,q,.slice none 0 0,[]⟩)=mayQ q.vars P:=by
   rw[mayRq,Rm.rq,hP];simp
  rw[h2]at h1;exact h1)
 have HQ:=zA hq;obtain⟨qv,vars,qa,atoms⟩:=q;dsimp only at hve hae CC hP ⊢;obtain⟨nv,hnv⟩:∃n,n=vars.length:=⟨_,rfl⟩
 obtain⟨na,hna⟩:∃n,n=atoms.length:=⟨_,rfl⟩
 rw[<- hnv]at hve;rw[<- hna]at hae;subst hve hae;have HP:=zA hP;have HF:=zA hf;have HW:=zA hw;have HT:=zA hT;have HNF:=zA hnf;have HNA:=zA hna;have HNV:=zA hnv;obtain⟨o,ho⟩:∃o,o=Obj.cells #[.slice va nv vc,.slice aa na ac] 47 (0,0):=⟨_,rfl⟩
 obtain⟨wq,hwq⟩:∃W,W=w.alloc o:=⟨_,rfl⟩
 have hbq:Below w.heap.size w wq:=by rw[hwq];exact(zF _ _).alloc (zD _) _
 have hbx:wq.heap[w.heap.size]?=some o:=by rw[hwq];exact heap_alloc_new _ _
 rw[ho]at hbx;obtain⟨b0,b1⟩:=two_cellsX hbx;have HBX:=zA hbx;have HBQ:=zA hbq;have CQ:=zA (CC.out wq hbq);have HWQ:Hid (w.alloc (.cells #[.slice va nv vc,.slice aa na ac] 47)=wq):=zA (by rw[hwq,ho]);rw[hwq,ho]at b0 b1;obtain⟨Q,hQ⟩:∃Q,Q=RwE w fs vars P:=⟨_,rfl⟩
 rw[<- hQ];have HQQ:=zA hQ;clear CC hf hw hq hT hP hnf hnv hna hbq hbx hwq ho hQ;show Calls Tryz.prog _ #[_,.agg #[.slice va nv vc,.slice aa na ac]] w _;obtain⟨b,hb⟩:∃b,b=mayQ vars P:=⟨_,rfl⟩
 rw[<- hb]at CQ;have HB:=zA hb;clear hb;cases b with
 |false=>
  have HFIN:Hid (∀w1,Below wq.heap.size wq w1->Q (.returned (.tuple #[.slice none 0 0,.int .i64 1])) w1):=zA (fun w1 hb1=>by
   rw[HQQ.out];refine⟨.slice none 0 0,by rw[rowsEW,<- HB.out,if_neg (by decide)],by rw[rowsAW,<- HB.out,if_neg (by decide)];exact rowsM_nil _,HBQ.out.trans (hb1.mono HBQ.out.size)⟩)
  go_enter Tryz.func15,Tryz.ntmps15;go_wp2_with fail;rw[HWQ.out];refine CQ.out.mono ?_;rintro e w1 ⟨rfl,hb1⟩;have HE:=zA (HFIN.out w1 hb1);clear hb1;go_wp2;all_goals (first|(go_ret2;exact HE.out)|(go_ret;exact HE.out)|exact HE.out)
 |true=>
  obtain⟨m1,m2,m3,m4,m5,m6⟩:=mayQ_parts HB.out.symm;go_enter Tryz.func15,Tryz.ntmps15;go_wp2_with fail;rw[HWQ.out];clear b0 b1;refine CQ.out.mono ?_;rintro e w1 ⟨rfl,hb1⟩;have HB1:=zA (HBQ.out.trans (hb1.mono HBQ.out.size));have hbx1:=(hb1.block w.heap.size (lt_of_block HBX.out)).trans HBX.out;have HBX1:=zA hbx1;have CG:=zA (newGraph_any (HF.out.below HB1.out) (by omega) HW.out);clear hb1 CQ hbx1;go_wp2_with fail;refine CG.out.mono ?_;rintro e w2 ⟨gb,mb,gnv,gev,DD,c,rfl,hg,hb2⟩;have HB2:=zA (HB1.out.trans (hb2.mono HB1.out.size));have HG:Hid (GrS (fun k=>w1.heap.size<=k/\k<w2.heap.size) w2 gb (vertsL fs) (fs.map (egOf (vertsL fs))) mb gnv gev DD c):=zA (hg.keep (zD _) (fun b hs hl=>⟨⟨hs,hl⟩,rfl⟩));obtain⟨p0,p1⟩:=two_cellsX ((hb2.block w.heap.size (lt_of_block HBX1.out)).trans HBX1.out);have hVl:(vertsL fs).length<=2000:=zQ (verts_len fs) (by omega);have hEl:(fs.map (egOf (vertsL fs))).length<=10000:=by rw[zH];omega
  have hPl:P.length=na:=by rw[HP.out,zH,HNA.out]
  have CJ:=zA (newJoin_any (P:=P) HG.out (fun k hk=>hk.2) (HQ.out.below HB2.out) (by omega) hEl (eg_bound HW.out) (by have:=HNA.out;dsimp only;omega) (by dsimp only;omega) (fun a ha=>m3 (Am.pa a) (by rw[HP.out];exact zU ha)) (by rw[HP.out];rfl) (vars_terms m6));have HT2:Hid (TabG w2):=zA (HT.out.below (B:=w.heap.size) hz0 HB2.out);have hz2:w.heap.size<=w2.heap.size:=HB2.out.size;clear hg hb2 CG;go_wp2_with fail;refine CJ.out.mono ?_;intro e w3 hnj;obtain⟨jb,J,l,frs,lks,rks,he,hjb,hb3,hown,_,hjw⟩:=hnj.jw hl m3 m2 (by omega) HT2.out (by omega) (by intro e0;exact m1 (List.map_eq_nil_iff.1 e0)) (by rw[zH];omega) (fun u hu=>by
   obtain⟨v,hv,rfl⟩:=zR.1 hu;exact zZ (vars_terms m6 v hv))
  subst he;have CR:=rowsJ_any hjw;have hRN:rowsN ((P.filter fun a=> !isRing (termsOf P) a).map (lkOf fs (termsOf P))) ((P.filter (isRing (termsOf P))).map (lkOf fs (termsOf P))) (termsOf P).length (vars.map fun v=>(termsOf P).idxOf ((true,v):Tm)) ((termsOf P).map (firstT (vertsL fs)))=rowsNW fs vars P:=rfl;rw[hRN]at CR;have CR:=zA CR;have HB3:=zA hb3;have HOWN:=zA hown;clear hnj hb3 hown hjw hRN CJ;go_wp2_with fail;refine CR.out.mono ?_;rintro e w4 ⟨fv,rfl,X,l4,hfo,hX,hff⟩;have hz3:w2.heap.size<=w3.heap.size:=HB3.out.size;have hkeep:∀k,k<w2.heap.size->w4.heap[k]?=w2.heap[k]?:=fun k hk=>(hff.keep k (by omega) (fun x hx ho=>by have:=HOWN.out x hx k ho;omega) (by omega)).trans (HB3.out.block k hk)
  have HB4:Hid (Below w2.heap.size w2 w4):=zA ⟨hff.os.trans HB3.out.os,hff.tape.trans HB3.out.tape,hff.output.trans HB3.out.output,by have:=hff.size;omega,hkeep⟩;obtain⟨frows,hfc,hfr,hfx,hfa⟩:=hfo;obtain⟨fa4,fc4,hfv⟩:=own_slice hfr;obtain⟨n4,hn4⟩:∃n,n=frows.length:=⟨_,rfl⟩
  rw[<- hn4]at hfv hfr;subst hfv;have hn4l:n4<=4097:=by
   rw[hn4,<- zH (f:=(·.2)),hfc,yL];omega
  have HFC:=zA hfc;have HFR:=zA hfr;have HFA:=zA hfa;have HN4:=zA hn4;have HG4:Hid (GrS (fun k=>w1.heap.size<=k/\k<w2.heap.size) w4 gb (vertsL fs) (fs.map (egOf (vertsL fs))) mb gnv gev DD c):=zA (HG.out.keep HB4.out.size (fun b hs _=>⟨hs,hkeep b hs.2⟩));have hRl:(rowsW fs vars P).length=(rowsNW fs vars P).length:=by rw[rowsW,zH]
  have HBW4:Hid (Below w.heap.size w w4):=zA (HB2.out.trans (HB4.out.mono HB2.out.size));have hlen4:n4=min 4097 (rowsNW fs vars P).length:=by rw[hn4,<- zH (f:=(·.2)),hfc,yL]
  by_cases hbig:4096<n4
  . have hbigI:(4096:Int)<(n4:Int):=by omega
    have HE:Hid (Q (.returned (.tuple #[.slice none 0 0,.int .i64 110])) w4):=zA (by
     rw[HQQ.out];have h1:4096<(rowsW fs vars P).length:=by rw[hRl];omega
     exact⟨.slice none 0 0,by rw[rowsEW,<- HB.out,if_pos rfl,if_pos h1],by rw[rowsAW,<- HB.out,if_pos rfl,if_pos h1];exact rowsM_nil _,HBW4.out⟩)
    clear hfc hfr hfx hfa hn4 hff hX hRl hlen4 hkeep hbig;go_wp2;all_goals (first|(go_ret2;exact HE.out)|(go_ret;exact HE.out)|exact HE.out)
  . have hbigI:¬(4096:Int)<(n4:Int):=by omega
    have hRN4:(rowsNW fs vars P).length=n4:=by omega
    have HRN:Hid (frows.map (·.2)=rowsNW fs vars P):=zA (by rw[hfc,zK (by omega)]);obtain⟨RW,hRW⟩:∃R,R=rowsW fs vars P:=⟨_,rfl⟩
    have hRWl:RW.length=n4:=by rw[hRW,hRl,hRN4]
    have HRW:=zA hRW;have HRWL:=zA hRWl;have HFINF:Hid (∀(u:World),Below w4.heap.size w4 u->RowsM u (.slice (some ⟨w4.heap.size,0,none⟩) n4 n4) RW->Q (.returned (.tuple #[.slice (some ⟨w4.heap.size,0,none⟩) n4 n4,.int .i64 0])) u):=zA (fun u hu hr=>by
     rw[HQQ.out];have h1:¬ 4096<(rowsW fs vars P).length:=by rw[hRl];omega
     exact⟨_,by rw[rowsEW,<- HB.out,if_pos rfl,if_neg h1],by rw[rowsAW,<- HB.out,if_pos rfl,if_neg h1,<- HRW.out];exact hr,HBW4.out.trans (hu.mono HBW4.out.size)⟩)
    have HLT:=zA (rowsNW_lt fs HB.out.symm);have HLAY:=zA (WLay.start w4 n4 RW);have HB40:Hid (Below w4.heap.size w4 (w4.alloc (.cells (madeCells #[.slice none 0 0] n4) 22))):=zA ((zF _ _).alloc (zD _) _);obtain⟨W0,hW0⟩:∃W,W=w4.alloc (.cells (madeCells #[.slice none 0 0] n4) 22):=⟨_,rfl⟩
    rw[<- hW0]at HLAY HB40;have HW0:=zA hW0.symm;clear hfc hfr hfx hfa hn4 hff hX hRl hlen4 hkeep hbig hRN4 hRW hRWl hW0;go_wp2_with (at_make;refine wpList_make_row _ rfl _ _ 33 rfl 22 i0 (.slice none 0 0) Tryz.underlying33 hi0 hy0 hy1 rfl _ _ n4 rfl rfl (by rw[hy2];omega) (by omega) ?_;rw[HW0.out]);go_loopw [29] (fun cc wr=>∃(i:Nat) (hs:List (Value×Rw)),i<=n4/\cc=.int .i64 i/\Hid (WLay w4.heap.size n4 RW i hs wr)/\Hid (Below w4.heap.size w4 wr)) (fun cc _=>n4-(intOf cc).toNat)
    case atStart=>exact⟨0,_,zS _,rfl,HLAY,HB40⟩
    case round=>
     obtain⟨i,hs,hi,rfl,HWL,HBW⟩:=hrel;obtain⟨wx,hwx⟩:∃wx,wx=wr:=⟨_,rfl⟩
     subst hwx;by_cases hlt:i<n4
     . have hltI:(i:Int)<(n4:Int):=by omega
       obtain⟨r,hr⟩:∃r,frows[i]?=some r:=⟨_,zB (by rw[<- HN4.out];exact hlt)⟩
       have hsl:=own_sl csRow_len HFR.out HN4.out;obtain⟨gf,off,hfe,hgf,hgl,hcell⟩:=hsl.get hr;subst hfe;have c0:=hcell 0 _ rfl;rw[yK,yF]at c0;have c0:=(HBW.out.cell (p:=⟨gf,off+i,none⟩) hgl).trans c0;have hrn:r.2∈rowsNW fs vars P:=by rw[<- HRN.out];exact zU (zC hr)
       obtain⟨hlt1,hlt2⟩:=HLT.out r.2 hrn;have CW:=words_any (HG4.out.keep (T:=fun _=>True) HBW.out.size (fun b _ hl=>⟨trivial,HBW.out.block b hl⟩)) ((HFA.out r (zC hr)).below HBW.out) (by omega) hlt1;have hRi:RW[i]?=some (r.2.map fun i=>(vertsL fs).getD i []):=by
        rw[HRW.out,rowsW,zI,<- HRN.out,zI,hr];rfl
       obtain⟨s,hs2⟩:∃s,s=r.2.map fun i=>(vertsL fs).getD i []:=⟨_,rfl⟩
       rw[<- hs2]at CW hRi;have CW:=zA CW;have HRI:=zA hRi;obtain⟨rv,rl⟩:=r;dsimp only at c0 CW;obtain⟨ra,rc,hrv⟩:=(HFA.out _ (zC hr)).1.slice;dsimp only at hrv;obtain⟨nr,hnr⟩:∃n,n=rl.length:=⟨_,rfl⟩
       rw[<- hnr]at hrv;subst hrv;clear hr hsl hcell hrn hlt1 hlt2 hRi hs2 hnr hgf;go_wp2_with fail;refine CW.out.mono ?_;rintro e w6 ⟨b6,rfl,hb6,hv6,hbel6⟩;obtain⟨u6,z0,z1⟩:=HWL.out.cell hlt;have hlb:w4.heap.size<wx.heap.size:=lt_of_block HWL.out.row;have z0:=(hbel6.cell (p:=⟨w4.heap.size,i,none⟩) hlb).trans z0;have z1:w6.frozen? ⟨w4.heap.size,i,none⟩=false:=by
        have h1:=hbel6.block w4.heap.size hlb;simpa only[World.frozen?,h1]using z1
       obtain⟨ns,hns⟩:∃n,n=s.length:=⟨_,rfl⟩
       have HW6:=zA (HWL.out.next hlt HRI.out hbel6 hv6 (by omega));have HB6:=zA ((HBW.out.trans (hbel6.mono HBW.out.size)).setCell (p:=⟨w4.heap.size,i,none⟩) (zD _) (.slice (some ⟨b6,0,none⟩) ns ns));rw[<- hns]at HW6 ⊢;clear hns hb6 hv6 hbel6 CW c0;go_wp2;go_roundw
       case rel=>exact⟨i+1,_,by omega,by go_num,HW6,HB6⟩
       case measure=>simp[intOf];omega
     . have hltI:¬(i:Int)<(n4:Int):=by omega
       have hin:i=n4:=by omega
       rw[hin]at HWL;have HE:=zA (HFINF.out wx HBW.out (HWL.out.done HRWL.out (fun r hr=>by
        rw[HRW.out,rowsW]at hr;obtain⟨r0,h1,rfl⟩:=zR.1 hr;rw[zH];have:=(HLT.out r0 h1).2;omega)))
       clear hin;go_wp2;all_goals (first|(go_ret2;exact HE.out)|(go_ret;exact HE.out)|exact HE.out)
theorem sl_litN{α:Type}{enc:α->List Value}{k:Nat}(hk:∀x,(enc x).length=k){w:World}{g cap n:Nat}{L:List α}{t:TypeId}{cs:Array Value}(h:w.heap[g]?=some (.cells cs t (0,0)))(hc:cs=(L.flatMap enc).toArray)(hn:n=L.length):SlS enc k (fun _=>True) w (.slice (some ⟨g,0,none⟩) n cap) L:=by
 subst hc hn;refine⟨_,cap,rfl,.inr ⟨g,0,rfl,trivial,lt_of_block h,fun j x hx c u hu=>?_⟩⟩;have hc:c<k:=by have:=(zE.1 hu).1;rw[hk]at this;exact this
 have:=flat_at hk L j c x hx hc;simp only[World.cell?,h];show (L.flatMap enc).toArray[0+j*k+c]?=some u;rw[Nat.zero_add,List.getElem?_toArray,this];exact hu
theorem wordN_any(s:List UInt8)(w:World):Calls Tryz.prog 14 #[.string ⟨s.toArray⟩] w fun e w'=>e=.returned (.agg #[.int .i64 1,.string ⟨s.toArray⟩,.slice none 0 0])/\Below w.heap.size w w':=by
 have HB:Hid (∀a:Obj,Below w.heap.size w (w.alloc a)):=zA (fun a=>(zF _ _).alloc (zD _) _);go_enter Tryz.func14,Tryz.ntmps14;go_wp2;refine bodyPost_ret (v:=.agg #[.int .i64 1,.string ⟨s.toArray⟩,.slice none 0 0]) ?_ rfl ⟨rfl,HB.out _⟩;simp[results,Tryz.results14,go_sem]
abbrev vtN(s:List UInt8):Vt:=⟨1,s,.slice none 0 0,[]⟩
theorem vok_wordN(S:Nat->Prop)(w:World){s:List UInt8}(hs:s.length<=9223372036854775807):VOk S w (vtN s):=vok_mk.2 ⟨SlS.nil _ _,hs,by simp,by simp⟩
def fsAw:List Fa:=[([97],[112],[98]),([98],[112],[99])]
def pW:Pt:=⟨1,[112],[]⟩
def pPl:Pt:=⟨5,[],[pW]⟩
def qAw:List Pa:=[((false,[97]),pPl,(true,[120]))]
theorem pW_may:mayP pW=true:=by
 simp[mayP,pW,shapedP,leaves_mk,formedP];decide
theorem pPl_may:mayP pPl=true:=by
 simp[mayP,pPl,pW,shapedP,leaves_mk,formedP];decide
theorem lead_pW(x y:Wd):leadP fsAw pW x y↔(x=[97]/\y=[98])\/(x=[98]/\y=[99]):=by
 unfold leadP pW;rw[willL_mk];have h:=lead_word fsAw [112] x y;have e:kindL 1 [112] (List.map willL [])=fun l=>l=[[112]]:=by
  funext l;simp[kindL]
 rw[e,h];simp[fsAw]
theorem pow_Aw{R:Wd->Wd->Prop}(hR:∀x y,R x y↔(x=[97]/\y=[98])\/(x=[98]/\y=[99])):∀(n:Nat) (y:Wd),powR R n [97] y->(n=0/\y=[98])\/(n=1/\y=[99])
 |0,y,h=>by
  rcases (hR _ _).1 h with⟨_,h⟩|⟨h,_⟩
  . exact .inl ⟨rfl,h⟩
  . simp at h
 |n+1,y,⟨z,h1,h2⟩=>by
  rcases pow_Aw hR n z h1 with⟨rfl,rfl⟩|⟨rfl,rfl⟩
  . rcases (hR _ _).1 h2 with⟨h,_⟩|⟨_,h⟩
    . simp at h
    . exact .inr ⟨rfl,h⟩
  . rcases (hR _ _).1 h2 with⟨h,_⟩|⟨h,_⟩
    . simp at h
    . simp at h
theorem lead_pPl(y:Wd):leadP fsAw pPl [97] y↔y=[98]\/y=[99]:=by
 unfold leadP pPl;rw[willL_mk];have e:kindL 5 [] (List.map willL [pW])=plusL (altL [willL pW]):=by
  funext l;simp[kindL]
 have hR:∀x y,leadF fsAw (altL [willL pW]) x y↔(x=[97]/\y=[98])\/(x=[98]/\y=[99]):=fun x y=>by
  rw[lead_alt];have:=lead_pW x y;unfold leadP at this;simp[this]
 rw[e,lead_plus];constructor
 . rintro⟨n,h⟩;exact(pow_Aw hR n y h).imp (·.2) (·.2)
 . rintro (rfl|rfl)
   . exact⟨0,(hR _ _).2 (.inl ⟨rfl,rfl⟩)⟩
   . exact⟨1,[98],(hR _ _).2 (.inl ⟨rfl,rfl⟩),(hR _ _).2 (.inr ⟨rfl,rfl⟩)⟩
theorem aw_mayQ:mayQ [[120]] qAw=true:=by
 have h1:whyQ [[120]] qAw=0:=by
  unfold whyQ qAw;rw[if_neg (by rintro⟨a,ha,h⟩;rw[zJ.1 ha]at h;dsimp only at h;rw[pPl_may]at h;cases h),if_neg (by simp[namesP,addN]),if_neg (by simp),if_neg (by simp[namesP,addN])]
 simp only[mayQ,h1,Bool.and_eq_true];refine⟨⟨⟨by decide,by decide⟩,by decide⟩,?_⟩;simp only[qAw,List.all_cons,List.all_nil,wordsA];decide
theorem aw_rowsW:rowsW fsAw [[120]] qAw=[[[98]],[[99]]]:=by
 obtain⟨h1,h2⟩:=rowsW_spec fsAw aw_mayQ;refine riseL_ext ordR h1 (by unfold RiseL;simp[lessR];decide) (fun r=>?_);rw[h2];constructor
 . rintro⟨g,hg,rfl⟩;have h3:=hg _ (zJ.2 rfl);have h4:=(lead_pPl (g [120])).1 h3;rcases h4 with h4|h4<;>simp[h4]
 . intro hr;have key:∀y:Wd,(y=[98]\/y=[99])->RowP fsAw [[120]] qAw [y]:=fun y hy=>⟨fun _=>y,fun a ha=>by
    rw[zJ.1 ha];exact(lead_pPl y).2 hy,rfl⟩
   rcases zX.1 hr with rfl|hr
   . exact key [98] (.inl rfl)
   . rw[zJ.1 hr];exact key [99] (.inr rfl)
theorem aw_rows:rowsAW fsAw [[120]] qAw=[[[98]],[[99]]]/\rowsEW fsAw [[120]] qAw=0:=by
 rw[rowsAW,rowsEW,aw_mayQ,aw_rowsW];exact⟨rfl,rfl⟩
theorem aw_pairs:pairsL fsAw pW=[[[97],[98]],[[98],[99]]]:=by
 obtain⟨h1,h2⟩:=pairsL_spec fsAw pW_may;refine riseL_ext ordR h1 (by unfold RiseL;simp[lessR];decide) (fun r=>?_);rw[h2];constructor
 . rintro⟨x,y,rfl,h⟩;rcases (lead_pW x y).1 h with⟨rfl,rfl⟩|⟨rfl,rfl⟩<;>simp
 . intro hr;rcases zX.1 hr with rfl|hr
   . exact⟨_,_,rfl,(lead_pW _ _).2 (.inl ⟨rfl,rfl⟩)⟩
   . rw[zJ.1 hr];exact⟨_,_,rfl,(lead_pW _ _).2 (.inr ⟨rfl,rfl⟩)⟩
theorem aw_verts:vertsL fsAw=[[97],[98],[99]]:=by decide +kernel
theorem rows_lit{w:World}{b n:Nat}{rs:List (Nat×Rw)}(h:w.heap[b]?=some (.cells (rs.map fun p=>Value.slice (some ⟨p.1,0,none⟩) p.2.length p.2.length).toArray 22 (0,0)))(hn:n=rs.length)(hr:∀p∈rs,w.heap[p.1]?=some (.cells (p.2.flatMap csT).toArray 9 (0,0))/\p.2.length<=1000000):RowsM w (.slice (some ⟨b,0,none⟩) n n) (rs.map (·.2)):=by
 refine⟨rs.map fun p=>(Value.slice (some ⟨p.1,0,none⟩) p.2.length p.2.length,p.2),⟨⟨?_,fun m c e=>by cases e⟩,⟨_,n,by rw[zH,hn],by rw[zH,hn];exact zD _⟩,fun p hp=>?_⟩,by rw[List.map_map];rfl⟩
 . refine sl_litN csRw_len h ?_ (by rw[zH];exact hn);congr 1;clear h hn hr;induction rs with
   |nil=>rfl
   |cons a l ih=>rw[List.map_cons,List.map_cons,yS,<- ih];rfl
 . obtain⟨q,hq,rfl⟩:=zR.1 hp;exact⟨sl_litN (enc:=csT) (k:=1) (fun _=>rfl) (hr q hq).1 rfl rfl,(hr q hq).2⟩
theorem fas_aw{w:World}{g:Nat}(h:w.heap[g]?=some (.cells #[.string ⟨#[97]⟩,.string ⟨#[112]⟩,.string ⟨#[98]⟩,.string ⟨#[98]⟩,.string ⟨#[112]⟩,.string ⟨#[99]⟩] 32 (0,0))):FasS (fun _=>True) w (.slice (some ⟨g,0,none⟩) 2 2) fsAw:=
 sl_litN csF_len h (by rfl) (by rfl)
theorem fsAw_b:∀f∈fsAw,f.1.length<=140737488351232/\f.2.1.length<=140737488351232/\f.2.2.length<=140737488351232:=by
 intro f hf;simp[fsAw]at hf;rcases hf with rfl|rfl<;>simp
theorem awR_any{u:World}{g x k a:Nat}(hT:TabG u)(hg:u.heap[g]?=some (.cells #[.string ⟨#[97]⟩,.string ⟨#[112]⟩,.string ⟨#[98]⟩,.string ⟨#[98]⟩,.string ⟨#[112]⟩,.string ⟨#[99]⟩] 32 (0,0)))
 (hx:u.heap[x]?=some (.cells #[.string ⟨#[120]⟩] 9 (0,0))) (hk:u.heap[k]?=some (.cells #[.int .i64 1,.string ⟨#[112]⟩,.slice none 0 0] 25 (0,0)))
 (ha:u.heap[a]?=some (.cells #[.bool false,.string ⟨#[97]⟩,.int .i64 5,.string ⟨#[]⟩,.slice (some ⟨k,0,none⟩) 1 1,.bool true,.string ⟨#[120]⟩] 44 (0,0))):
 Calls Tryz.prog 15 #[.slice (some ⟨g,0,none⟩) 2 2,.agg #[.slice (some ⟨x,0,none⟩) 1 1,.slice (some ⟨a,0,none⟩) 1 1]] u fun e w'=>∃v,e=.returned (.tuple #[v,.int .i64 0])/\RowsM w' v [[[98]],[[99]]]/\Below u.heap.size u w':=by
 have hq:QOk (fun _=>True) u ⟨.slice (some ⟨x,0,none⟩) 1 1,[[120]],.slice (some ⟨a,0,none⟩) 1 1,[((false,[97]),⟨5,[],.slice (some ⟨k,0,none⟩) 1 1,[vtN [112]]⟩,(true,[120]))]⟩:=by
  refine⟨sl_litN (enc:=csT) (k:=1) (fun _=>rfl) hx (by rfl) (by rfl),by simp,by simp,⟨_,_,rfl,zD _⟩,sl_litN csA_len ha (by rfl) (by rfl),fun b hb=>?_,fun b hb=>?_,by simp⟩
  . rw[zJ.1 hb];refine vok_mk.2 ⟨sl_litN csN_len hk (by rfl) (by rfl),by simp,by simp,fun y hy=>?_⟩;rw[zJ.1 hy];exact vok_wordN _ _ (by simp)
  . rw[zJ.1 hb];exact⟨by simp,by simp⟩
 have h:=rowsM_any (fas_aw hg) (by decide) fsAw_b hq hT;have e:List.map Am.pa [((false,[97]),⟨5,[],.slice (some ⟨k,0,none⟩) 1 1,[vtN [112]]⟩,(true,[120]))]=qAw:=by simp[Am.pa,qAw,pPl,pW,Vt.pt_mk]
 dsimp only at h;rw[e]at h;refine h.mono ?_;rintro e w' ⟨v,rfl,hr,hb⟩;rw[aw_rows.2];rw[aw_rows.1]at hr;exact⟨v,rfl,hr,hb⟩
theorem awP_any{u:World}{g:Nat}(hT:TabG u)(hg:u.heap[g]?=some (.cells #[.string ⟨#[97]⟩,.string ⟨#[112]⟩,.string ⟨#[98]⟩,.string ⟨#[98]⟩,.string ⟨#[112]⟩,.string ⟨#[99]⟩] 32 (0,0))):
 Calls Tryz.prog 9 #[.slice (some ⟨g,0,none⟩) 2 2,.agg #[.int .i64 1,.string ⟨#[112]⟩,.slice none 0 0]] u fun e w'=>∃v,e=.returned (.tuple #[v,.int .i64 0])/\RowsM w' v [[[97],[98]],[[98],[99]]]/\Below u.heap.size u w':=by
 have h:=pairsM_any (t:=vtN [112]) (fas_aw hg) (by decide) fsAw_b (vok_wordN _ _ (by simp)) hT;have e:(vtN [112]).pt=pW:=by simp[Vt.pt_mk,pW]
 rw[e,pW_may,aw_pairs]at h;exact h
theorem awV_any{u:World}{g:Nat}(hg:u.heap[g]?=some (.cells #[.string ⟨#[97]⟩,.string ⟨#[112]⟩,.string ⟨#[98]⟩,.string ⟨#[98]⟩,.string ⟨#[112]⟩,.string ⟨#[99]⟩] 32 (0,0))):
 Calls Tryz.prog 17 #[.slice (some ⟨g,0,none⟩) 2 2] u fun e w'=>∃v,e=.returned v/\TxtS (fun _=>True) w' v [[97],[98],[99]]/\Below u.heap.size u w':=by
 have h:=vertM_any (fas_aw hg) (by decide) fsAw_b;rw[aw_verts]at h;exact h
end Go.Proofs.YtdalcipmpelifaaGreatDoor
