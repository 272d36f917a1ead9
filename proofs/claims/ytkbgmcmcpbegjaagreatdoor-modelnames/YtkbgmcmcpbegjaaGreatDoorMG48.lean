/- XRows1, XRows2, XTerm, XSlot1, XSlot2, XBuild1, XBuild2, XNewJ, XJoin. -/
import Derived.Test.YtkbgmcmcpbegjaaGreatDoorMG46
import Derived.Test.YtkbgmcmcpbegjaaGreatDoorMG47
import Derived.DeepKeys4
set_option maxRecDepth 100000
namespace Go.Proofs.YtkbgmcmcpbegjaaGreatDoor
open Go.RowKit Go.Shelf
theorem NI.rebase{w0:World}{O F:Nat->Prop}{v:Value}{ds:List Sy}{n:Nat}{c:Ch}{w:World}{l:List Sx}{Z:Nat->Prop}{rows:List (Value×List Nat)}(h:NI w0 O F (fun _=>False) v ds n c w l Z rows)(hO:∀k,w0.heap.size<=k->O k):NI w O F (fun _=>False) v ds n c w l Z rows:=
 ⟨h.pool,h.like,h.ch,h.rc,h.zl,h.zu,h.kv,h.cb,Fr.refl _ _,h.fo,h.go,h.gk,h.gf,fun k hk _=>by
  by_cases hkw:k<w0.heap.size
  . exact h.zo k hk hkw
  . exact hO k (by omega)⟩
structure RSt (F:Nat->Prop) (w0:World) (l0:List Sx) (ds:List Sy) (n m:Nat) (v:Value) (c:Ch) (w:World):Prop where
 ex:∃l Z rows,NI w (fun k=>F k\/w0.heap.size<=k) (fun k=>k<w0.heap.size/\UL l0 k) (fun _=>False) v ds n c w l Z rows
 fr:Fr (fun k=>k<w0.heap.size/\UL l0 k) w0 w
 cl:c.length=m
section
variable {F:Nat->Prop} {w0 w w':World} {jb:Nat} {J:Jv} {ds:List Sy} {n m:Nat} {lks:List Lm} {ls:List Lk} {us:List Nat} {l0:List Sx} {v:Value} {c:Ch}
theorem RSt.below(h:RSt F w0 l0 ds n m v c w)(hb:Below w.heap.size w w'):RSt F w0 l0 ds n m v c w':=by
 obtain⟨l,Z,rows,hn⟩:=h.ex;have h1:NI w (fun k=>F k\/w0.heap.size<=k) (fun k=>k<w0.heap.size/\UL l0 k) (fun _=>False) v ds n c w' l Z rows:=hn.grow hb.size hb.os hb.tape hb.output (fun k hk _=>hb.block k hk) (fun _ hk=>hk.elim) (fun k hk=>(hn.fo k hk).1) (zD _);refine⟨⟨l,Z,rows,h1.rebase (fun k hk=>.inr (zT h.fr.size hk))⟩,h.fr.trans ⟨hb.os,hb.tape,hb.output,hb.size,fun k hk=>hb.block k (zQ hk.1 h.fr.size)⟩,h.cl⟩
theorem NI.jz{l:List Sx}{Z:Nat->Prop}{rows:List (Value×List Nat)}{O:Nat->Prop}(h0:Jz F w0 jb J ds n m lks ls us l0)(hfr:Fr (fun k=>k<w0.heap.size/\UL l0 k) w0 w)(hn:NI w O (fun k=>k<w0.heap.size/\UL l0 k) (fun _=>False) v ds n c w l Z rows):Jz F w jb J ds n m lks ls us l:=by
 have hF:Fr F w0 w:=hfr.sub (fun k hk=>⟨h0.low k hk,h0.un k hk⟩);exact⟨hn.pool,hn.like,h0.tab.fr h0.f0 hF,h0.f0,h0.low.fr hF,fun k hk=>(hn.fo k ⟨h0.low k hk,h0.un k hk⟩).2.1,(hn.fo jb ⟨h0.lt,h0.ju⟩).2.1,h0.jF,h0.jk,(hfr.block jb ⟨h0.lt,h0.ju⟩).trans h0.blk,h0.lk.fr hF,h0.al.fr hF,h0.va.fr hF,h0.ll,h0.ok,h0.nn,h0.mm,h0.ul⟩
theorem RSt.jz(h0:Jz F w0 jb J ds n m lks ls us l0)(h:RSt F w0 l0 ds n m v c w):∃l Z rows,NI w (fun k=>F k\/w0.heap.size<=k) (fun k=>k<w0.heap.size/\UL l0 k) (fun _=>False) v ds n c w l Z rows/\Jz F w jb J ds n m lks ls us l:=by
 obtain⟨l,Z,rows,hn⟩:=h.ex;exact⟨l,Z,rows,hn,hn.jz h0 h.fr⟩
theorem RSt.narrow(h0:Jz F w0 jb J ds n m lks ls us l0)(hm:0<m)(h:RSt F w0 l0 ds n m v c w):Calls Tryz.prog 76 #[.pointer (some ⟨jb,0,none⟩),v,J.av] w fun e w'=>e=.returned (.tuple #[])/\RSt F w0 l0 ds n m v (narrowC ls c) w':=by
 obtain⟨l,Z,rows,hn,hj⟩:=h.jz h0;have hcl:=h.cl;have hmm:=h0.mm;have hFU:∀k,F k->k<w0.heap.size/\UL l0 k:=fun k hk=>⟨h0.low k hk,h0.un k hk⟩
 have hok:LinksOk ds n c.length lks ls:=by rw[hcl];exact h0.ok
 have C:=narrow_any (jb:=jb) (lv:=J.lv) (chv:=J.av) (T0:=List.range m) hn h0.nn hj.tab (hFU 0 h0.f0) (fun k hk=>(hn.fo k hk).1) (by omega) hj.cell.2.2.1 ⟨h0.lt,h0.ju⟩ (hj.lk.sub (fun k hk _=>hFU k hk)) h0.ll hok (hj.al.1.sub (fun k hk _=>hFU k hk)) (by intro e;have:=congrArg List.length e;simp at this;omega) (by simpa using hmm) (fun k hk=>by rw[hcl];exact yJ.1 hk) (fun l hl=>⟨.inl (yJ.2 (h0.ok.lt l hl).1),.inl (yJ.2 (h0.ok.lt l hl).2)⟩);refine C.mono ?_;rintro e w' ⟨rfl,l',Z',rows',hn'⟩;exact⟨rfl,⟨l',Z',rows',hn'.rebase (fun k hk=>.inr (zT h.fr.size hk))⟩,h.fr.trans hn'.fr,by rw[narrow_len];exact hcl⟩
theorem RSt.ring{wz:World}(h0:Jz F w0 jb J ds n m lks ls us l0)(h:RSt F w0 l0 ds n m v c w)(hbz:Below w.heap.size w wz){a q sb:Nat}{r:Lk}(ha:a<m)(hr:r.fr=a)(hs:SeaOk ds n q sb r.R):
 ∃g cap av na,v=.slice (some ⟨g,0,none⟩) m cap/\g<w.heap.size/\(∃aa ac,av=.slice aa na ac)/\wz.cell? ⟨g,a,none⟩=some av/\Calls Tryz.prog 77 #[.pointer (some ⟨sb,0,none⟩),av] wz fun e w'=>∃lv,e=.returned lv/\(∃la nl lc,lv=.slice la nl lc)/\w'.cell? ⟨g,a,none⟩=some av/\w'.frozen? ⟨g,a,none⟩=false/\(∀k,w.heap.size<=k->k<wz.heap.size->w'.heap[k]?=wz.heap[k]?)/\RSt F w0 l0 ds n m v (ringC c r) (w'.setCell ⟨g,a,none⟩ lv):=by
 obtain⟨l,Z,rows,hno⟩:=h.ex;have hn1:NI w (fun k=>F k\/w0.heap.size<=k) (fun k=>k<w0.heap.size/\UL l0 k) (fun _=>False) v ds n c wz l Z rows:=hno.grow hbz.size hbz.os hbz.tape hbz.output (fun k hk _=>hbz.block k hk) (fun _ hk=>hk.elim) (fun k hk=>(hno.fo k hk).1) (zD _);have hn:=hn1.rebase (fun k hk=>.inr (zT h.fr.size hk));have hfz1:Fr (fun k=>k<w0.heap.size/\UL l0 k) w0 wz:=h.fr.trans ⟨hbz.os,hbz.tape,hbz.output,hbz.size,fun k hk=>hbz.block k (zQ hk.1 h.fr.size)⟩;have hj:=hn.jz h0 hfz1;have hcl:=h.cl;obtain⟨d,hq,hdn,hol,hQ⟩:=hs.ex;have hql:∃x,l[q]?=some x/\syOf x=(sb,d):=by
  have h1:=hn.like;rw[<- h1,zI]at hq;cases hx:l[q]? with
  |none=>rw[hx]at hq;simp at hq
  |some x=>rw[hx]at hq;exact⟨x,rfl,by simpa using hq⟩
 obtain⟨x,hx,hxe⟩:=hql;obtain⟨xb,xd,xm⟩:=x;unfold syOf at hxe;simp only[Prod.mk.injEq]at hxe;obtain⟨rfl,rfl⟩:=hxe;have hxm:=zC hx;obtain⟨s,hsr,hre⟩:=hn.pool.at_ _ hxm;dsimp only at hsr hre;have hrl:rows.length=m:=by rw[<- hcl,<- hn.rc,zH]
 obtain⟨ra,hra⟩:∃r,rows[a]?=some r:=⟨_,zB (by omega)⟩
 have hca:atC c a=ra.2:=by unfold atC;rw[<- hn.rc,List.getD,zI,hra];rfl
 obtain⟨g,cap,hv,hcell,hfz⟩:=hn.ch.at_ hra;rw[hrl]at hv;have hram:=zC hra;have hnat:=hn.ch.ats ra hram;have hcb:=hn.cb ra hram;have hgo:v.ownBlock=some g:=by rw[hv];rfl
 have hgZ:=hn.ch.own g hgo;have hgw:g<w.heap.size:=by
  have:=hno.zl g (hno.ch.own g hgo);exact this
 obtain⟨aa,ac,hav⟩:=hnat.1.slice;have h0':=hn.fo 0 ⟨h0.low 0 h0.f0,h0.un 0 h0.f0⟩;have C:=loops_any (P:=ringB r) (Z:=fun k=>Z k/\v.ownBlock≠some k) hsr (fun k hk=>hk.1) hre (by rw[hdn];exact h0.nn) hol hj.tab ⟨h0'.1,h0'.2.1 _ hxm⟩ hnat (fun k hk=>⟨hn.zl k hk.1,hn.zu k hk.1 _ hxm⟩) (fun x hx2=>by rw[hdn];exact hcb.1 x hx2) hcb.2 (fun x hx2=>by
  rw[ringB_iff];rw[hdn]at hx2;exact(hQ x x hx2 hx2).symm)
 refine⟨g,cap,ra.1,ra.2.length,hv,hgw,⟨aa,ac,hav⟩,hcell,C.mono ?_⟩;rintro e w' ⟨lv,rfl,hown,T,s',m',t1,t2,t3,t4,t5,t6⟩;have hgS:g<wz.heap.size/\¬OwnX (xb,xd,xm) g:=⟨hn.zl g hgZ,hn.zu g hgZ _ hxm⟩
 have hgb:=t6.block g hgS;have hzz:wz.heap.size<=w'.heap.size:=t6.size;obtain⟨la,lc,hlve⟩:=own_slice hown;refine⟨lv,rfl,⟨la,_,lc,hlve⟩,by simpa only[World.cell?,hgb]using hcell,by simpa only[World.frozen?,hgb]using hfz,fun k hk1 hk2=>t6.block k ⟨hk2,fun ho=>?_⟩,?_⟩
 . have:=hno.pool.own_lt hxm ho;omega
 . have hset:∀k,k≠g->(w'.setCell ⟨g,a,none⟩ lv).heap[k]?=w'.heap[k]?:=fun k hk=>zN _ _ _ _ hk
   have hsz:(w'.setCell ⟨g,a,none⟩ lv).heap.size=w'.heap.size:=by simp
   have hTg:T g:=t1 g hgS;have hil:=(zF.1 hx).1;have hcase:∀y∈l.set q (xb,xd,m'),y=(xb,xd,m')\/∃j,j≠q/\l[j]?=some y:=fun y hy=>by
    obtain⟨j,hj⟩:=List.getElem?_of_mem hy;rw[List.getElem?_set]at hj;by_cases ej:q=j
    . rw[if_pos ej,if_pos (by omega)]at hj;injection hj with hj;exact .inl hj.symm
    . rw[if_neg ej]at hj;exact .inr ⟨j,fun e=>ej e.symm,hj⟩
   have hnot:∀k,k<wz.heap.size->(∀x∈l,¬OwnX x k)->∀y∈l.set q (xb,xd,m'),¬OwnX y k:=fun k hk1 hk2 y hy=>by
    rcases hcase y hy with rfl|⟨j,_,hj⟩
    . exact fun ho=>t3.own_no ho (t1 k ⟨hk1,hk2 _ hxm⟩)
    . exact hk2 y (zC hj)
   have hsrF:SrS T (w'.setCell ⟨g,a,none⟩ lv) xb xd s' m':=t3.keep (by rw[hsz];exact zD _) (fun k hk ho=>⟨t3.own_no ho,hset k (fun e=>t3.own_no ho (e▸hTg))⟩) (fun k hk hkk=>hset k (fun e=>hn.kv _ hxm k hkk (by rw[e];exact hgo))) t3.kS;have hlowF:Low T (w'.setCell ⟨g,a,none⟩ lv):=fun k hk=>by rw[hsz];exact t2 k hk
   have hpool:=hn.pool.turn hx (T:=T) (s':=s') (m':=m') (fun k hk=>t1 k hk) hlowF hsrF t4 (by rw[hsz];exact hzz) (fun y hy k hk hnx=>(hset k (fun e=>hk.elim (fun ho=>hn.zu g hgZ y hy (e▸ho)) (fun hkp=>hn.kv y hy k hkp (by rw[e];exact hgo)))).trans (t6.block k ⟨hk.elim (hn.pool.own_lt hy) (hn.pool.kp_lt hy),hnx⟩));have hmap:(rows.set a (lv,ra.2.filter (ringB r))).map (·.2)=ringC c r:=by rw[List.map_set,hn.rc,ringC,hr,hca]
   have hF2:∀k,k<w0.heap.size/\UL l0 k->(w'.setCell ⟨g,a,none⟩ lv).heap[k]?=wz.heap[k]?:=fun k hk=>by
    obtain⟨a1,a2,a3⟩:=hn.fo k hk;exact(hset k (fun e=>a3 (by rw[e];exact hgo))).trans (t6.block k ⟨a1,a2 _ hxm⟩)
   refine⟨⟨l.set q (xb,xd,m'),fun k=>(Z k\/wz.heap.size<=k)/\T k,rows.set a (lv,ra.2.filter (ringB r)),hpool,?_,⟨?_,fun k hk=>?_,fun y hy=>?_⟩,hmap,fun k hk=>hlowF k hk.2,fun k hk y hy=>?_,fun y hy k hk=>?_,fun y hy=>?_,Fr.refl _ _,fun k hk=>?_,fun _ hk=>hk.elim,fun _ hk=>hk.elim,fun _ hk=>hk.elim,fun k hk _=>?_⟩,hfz1.trans ⟨t6.os,t6.tape,t6.output,by rw[hsz];exact hzz,hF2⟩,by rw[ring_len];exact hcl⟩
   . rw[List.map_set,<- hn.like];apply List.ext_getElem?;intro j;rw[List.getElem?_set];by_cases ej:q=j
     . subst ej;rw[if_pos rfl,if_pos (by rw[zH];exact hil),zI,hx];rfl
     . rw[if_neg ej]
   . have h1:w'.ownsRow 0 59 1 v rows.length (rows.flatMap csRow):=owns_key hn.ch.row (fun k o hk ho=>by
      have e:g=k:=by rw[hgo]at hk;injection hk
      subst e;exact hgb.trans ho)
     rw[List.length_set,flat_set,hrl,hv];rw[hv,hrl]at h1;exact(h1.stored a lv).1
   . have e:g=k:=by rw[hgo]at hk;injection hk
     subst e;exact⟨.inl hgZ,hTg⟩
   . have hlift:∀ {u:Value} {L:List Nat} {Y:Nat->Prop},NatC Y w' u L->(∀k,Y k->k<w'.heap.size->((Z k\/wz.heap.size<=k)/\T k)/\k≠g)->NatC (fun k=>((Z k\/wz.heap.size<=k)/\T k)/\v.ownBlock≠some k) (w'.setCell ⟨g,a,none⟩ lv) u L:=fun hu hY=>hu.keep (by rw[hsz];exact zD _) (fun k hk hkl=>⟨⟨(hY k hk hkl).1,fun e=>(hY k hk hkl).2 (by rw[hgo]at e;injection e with e;exact e.symm)⟩,hset k (hY k hk hkl).2⟩)
     rcases List.mem_or_eq_of_mem_set hy with hy|hy
     . refine hlift ((hn.ch.ats y hy).keep (T:=fun k=>Z k/\v.ownBlock≠some k) hzz (fun k hk hkl=>⟨hk,t6.block k ⟨hkl,hn.zu k hk.1 _ hxm⟩⟩)) (fun k hk _=>⟨⟨.inl hk.1,t1 k ⟨hn.zl k hk.1,hn.zu k hk.1 _ hxm⟩⟩,fun e=>hk.2 (by rw[e];exact hgo)⟩)
     . rw[hy];refine hlift (own_natC hown) (fun k hk _=>?_);have h2:=hown.lt k hk;exact⟨⟨.inr h2.1,t5 k hk⟩,fun e=>by have:=hgS.1;omega⟩
   . rcases hcase y hy with rfl|⟨j,hj1,hj2⟩
     . exact fun ho=>t3.own_no ho hk.2
     . rcases hk.1 with h1|h1
       . exact hn.zu k h1 y (zC hj2)
       . exact fun ho=>by have:=hn.pool.own_lt (zC hj2) ho;omega
   . rcases hcase y hy with rfl|⟨j,hj1,hj2⟩
     . exact hn.kv _ hxm k hk
     . exact hn.kv y (zC hj2) k hk
   . rcases List.mem_or_eq_of_mem_set hy with hy|hy
     . exact hn.cb y hy
     . rw[hy];exact⟨fun u hu=>hcb.1 u (zY.1 hu).1,zT (yF _ _) hcb.2⟩
   . obtain⟨a1,a2,a3⟩:=hn.fo k hk;exact⟨by rw[hsz];omega,hnot k a1 a2,a3⟩
   . rcases hk.1 with h1|h1
     . exact hn.zo k h1 (hn.zl k h1)
     . exact .inr (zT hfz1.size h1)
theorem Jz.begin{w1:World}{rows:List (Value×List Nat)}{g1 nr cap:Nat}(h0:Jz F w0 jb J ds n m lks ls us l0)(hrc:rows.map (·.2)=c)(hcl:c.length=m)(hat:∀r∈rows,NatC F w0 r.1 r.2)(hbd:∀r∈rows,(∀u∈r.2,u<n)/\r.2.length<=10000)(hnr:nr=rows.length)(hb1:Below w0.heap.size w0 w1)(hown:w1.ownsRow w0.heap.size 59 1 (.slice (some ⟨g1,0,none⟩) nr cap) nr (rows.flatMap csRow)):RSt F w0 l0 ds n m (.slice (some ⟨g1,0,none⟩) nr cap) c w1:=by
 have hz1:=hb1.size;have hg1:=hown.lt g1 rfl;have hob:∀k,(Value.slice (some ⟨g1,0,none⟩) nr cap).ownBlock=some k->k=g1:=fun k e=>by
  have h3:g1=k:=by simpa[Value.ownBlock]using e
  exact h3.symm
 have hnew:∀k,w0.heap.size<=k->UL l0 k:=fun k hk2=>(h0.fresh hk2).1
 refine⟨⟨l0,fun k=>(k<w1.heap.size/\UL l0 k)/\(F k\/w0.heap.size<=k),rows,h0.pool.below hb1,h0.like,⟨?_,fun k hk=>?_,fun r hr=>?_⟩,hrc,fun k hk=>hk.1.1,fun k hk=>hk.1.2,fun x hx k hk e=>?_,hbd,Fr.refl _ _,fun k hk=>?_,fun _ hk=>hk.elim,fun _ hk=>hk.elim,fun _ hk=>hk.elim,fun k hk _=>hk.2⟩,⟨hb1.os,hb1.tape,hb1.output,hb1.size,fun k hk=>hb1.block k hk.1⟩,hcl⟩
 . rw[<- hnr];refine⟨hown.1,hown.2.imp id ?_⟩;rintro⟨g,cp,cur,e1,_,e3⟩;exact⟨g,cp,cur,e1,zO _,e3⟩
 . rw[hob k hk];exact⟨⟨hg1.2,hnew g1 hg1.1⟩,.inr hg1.1⟩
 . exact(hat r hr).keep hz1 (fun k hk hl=>⟨⟨⟨⟨by omega,h0.un k hk⟩,.inl hk⟩,fun e=>by have:=hob k e;omega⟩,hb1.block k hl⟩)
 . have:=h0.pool.kp_lt hx hk;have:=hob k e;omega
 . exact⟨by omega,hk.2,fun e=>by have:=hob k e;omega⟩
theorem RSt.fill(h0:Jz F w0 jb J ds n m lks ls us l0)(hm:0<m)(hfv:J.fv=.slice none 0 0)(h:RSt F w0 l0 ds n m v c w)(hac:AC ls c):∃l C,FI F w jb J ds n m lks ls us l (fun _=>False) C v c (.slice none 0 0) [] []/\FFr w0 w l0 l (fun _=>False):=by
 obtain⟨l,Z,rows,hn,hj⟩:=h.jz h0;have hqn:∀k,¬QB (.slice none 0 0) k:=fun k hk=>by obtain⟨_,_,_,e⟩:=hk;cases e
 refine⟨l,Z,⟨hj,fun _ hk=>hk.elim,⟨[],rfl,by rw[hfv];exact World.ownsRow_nil _ _ _ _,fun g hg=>by rw[hfv]at hg;simp[Value.ownBlock]at hg,fun r hr=>by simp at hr⟩,.inl ⟨rfl,rfl⟩,fun k hk=>absurd hk (hqn k),fun k hk=>absurd hk (hqn k),⟨rows,hn.rc,(own_sl csRow_len hn.ch.row rfl).sub (fun k hk _=>hn.ch.own k hk),fun r hr=>(hn.ch.ats r hr).sub (fun k hk _=>hk.1),hn.cb⟩,fun k hk=>⟨hn.zl k hk,hn.zu k hk,fun e=>?_,fun h2=>h2,hqn k⟩,hac,h.cl,hm,by simp⟩,h.fr.os,h.fr.tape,h.fr.output,h.fr.size,fun k hk hu _=>h.fr.block k ⟨hk,hu⟩,fun k hk hu=>(hn.fo k ⟨hk,hu⟩).2.1⟩;subst e;rcases hn.zo k hk (hn.zl k hk)with h1|h1
 . exact h0.jF h1
 . have:=h0.lt;omega
end
structure JW (F:Nat->Prop) (w:World) (jb:Nat) (J:Jv) (ds:List Sy) (n m:Nat) (lks:List Lm) (ls:List Lk) (us:List Nat) (l:List Sx) (frs:List (Value×List Nat)) (c:Ch) (rks:List Lm) (rs:List Lk):Prop where
 jz:Jz F w jb J ds n m lks ls us l
 fsl:SlS csRow 1 F w J.cv frs
 fat:∀r∈frs,NatC F w r.1 r.2
 fbd:∀r∈frs,(∀u∈r.2,u<n)/\r.2.length<=10000
 frc:frs.map (·.2)=c
 fcl:c.length=m
 m0:0<m
 fv0:J.fv=.slice none 0 0
 rsl:SlS csL 4 F w J.rv rks
 rlen:rs.length=rks.length
 rat:∀(i:Nat) R r,rks[i]?=some R->rs[i]?=some r->r.fr=R.1/\R.1<m/\∃q,SeaOk ds n q R.2.2.1 r.R
 rll:rks.length<=1000
 une:us≠[]
 ult:∀u∈us,u<m
def RowE(w:World)(jb:Nat)(l:List Sx)(R:List (List Nat))(e:Ending)(w':World):Prop:=
 ∃fv,e=.returned fv/\∃(X:Nat->Prop) (l':List Sx),FoS w' X fv (R.take 4097)/\(∀k,X k->w.heap.size<=k/\k<w'.heap.size)/\FFr w w' l l' (fun k=>k=jb)
set_option maxHeartbeats 16000000 in
theorem rowsJ_any{F:Nat->Prop}{w:World}{jb:Nat}{J:Jv}{ds:List Sy}{n m:Nat}{lks:List Lm}{ls:List Lk}{us:List Nat}{l:List Sx}{frs:List (Value×List Nat)}{c:Ch}{rks:List Lm}{rs:List Lk}(h:JW F w jb J ds n m lks ls us l frs c rks rs):
 Calls Tryz.prog 42 #[.pointer (some ⟨jb,0,none⟩)] w (RowE w jb l (rowsN ls rs m us c)):=by
 have h0:=h.jz;have hfl:frs.length=m:=by rw[<- h.fcl,<- h.frc,zH]
 have hmm:=h0.mm;have C0:=zA (cloneC_any h.fsl h.fat (fun e=>by rw[e]at hfl;have:=h.m0;simp at hfl;omega) (by omega));rw[hfl]at C0;obtain⟨j1,j2,j3,j4,j5,j6,j7⟩:=h0.cell;obtain⟨ra,rc,hrv⟩:=h.rsl.slice;obtain⟨nk,hnk⟩:∃q,q=rks.length:=⟨_,rfl⟩
 rw[<- hnk]at hrv;have hnkl:nk<=1000:=by rw[hnk];exact h.rll
 have HRV:=zA hrv;have HNK:=zA hnk;have HJW:=zA h;have HBEG:Hid (∀w1 g1 cap,w1.ownsRow w.heap.size 59 1 (.slice (some ⟨g1,0,none⟩) m cap) m (frs.flatMap csRow)->Below w.heap.size w w1->RSt F w l ds n m (.slice (some ⟨g1,0,none⟩) m cap) c w1):=zA (fun w1 g1 cap hown hb=>h0.begin h.frc h.fcl h.fat h.fbd hfl.symm hb hown);have HCE:Hid (∀W:World,Fr (fun k=>k<w.heap.size/\UL l k) w W->W.cell? ⟨jb,1,none⟩=some J.av/\W.cell? ⟨jb,4,none⟩=some (.slice ra nk rc)/\W.cell? ⟨jb,6,none⟩=some J.fv):=zA (fun W hW=>by
  have h1:=(hW.block jb ⟨h0.lt,h0.ju⟩).trans h0.blk;rw[<- hrv];simp[World.cell?,h1,Jv.cells])
 obtain⟨Q,hQ⟩:∃Q,Q=RowE w jb l (rowsN ls rs m us c):=⟨_,rfl⟩
 rw[<- hQ];have HQ:=zA hQ;clear h h0 hfl hmm hQ j1 j2 j3 j4 j6 j7 hrv hnk;go_enter Tryz.func42,Tryz.ntmps42;go_wp2_with fail;refine C0.out.mono ?_;rintro e w1 ⟨g1,cap,rfl,hown,hb⟩;have HR1:=zA (HBEG.out w1 g1 cap hown hb);clear hown hb C0 HBEG j5;obtain⟨k1,_,_⟩:=HCE.out w1 HR1.out.fr;have CN:=zA (HR1.out.narrow HJW.out.jz HJW.out.m0);go_wp2_with fail;refine CN.out.mono ?_;rintro e w2 ⟨rfl,hr2⟩;have HR2:=zA hr2;obtain⟨_,k2,_⟩:=HCE.out w2 hr2.fr;clear hr2 CN k1;go_wp2_with fail;obtain⟨wb,hwb⟩:∃W,W=w2:=⟨_,rfl⟩
 subst hwb;go_loopw [23] (fun kk wr=>∃j:Nat,j<=nk/\kk=.int .i64 j/\Hid (RSt F w l ds n m (.slice (some ⟨g1,0,none⟩) m cap) ((rs.take j).foldl ringC (narrowC ls c)) wr)) (fun kk _=>nk-(intOf kk).toNat)
 case atStart=>exact⟨0,zO _,rfl,by rw[List.take_zero];exact HR2⟩
 case round=>
  obtain⟨j,hj,rfl,HR⟩:=hrel;obtain⟨wx,hwx⟩:∃wx,wx=wr:=⟨_,rfl⟩
  subst hwx;by_cases hjl:j<nk
  . have hjI:(j:Int)<(nk:Int):=by omega
    obtain⟨⟨a,tox,tb,bb⟩,hL⟩:∃x,rks[j]?=some x:=⟨_,zB (by rw[<- HNK.out];exact hjl)⟩
    obtain⟨r,hr⟩:∃x,rs[j]?=some x:=⟨_,zB (by rw[HJW.out.rlen,<- HNK.out];exact hjl)⟩
    obtain⟨r1,r2,q,r3⟩:=HJW.out.rat j _ r hL hr;dsimp only at r1 r2 r3;have HTK:Hid ((rs.take (j+1)).foldl ringC (narrowC ls c)=ringC ((rs.take j).foldl ringC (narrowC ls c)) r):=zA (by rw[zS,hr,yR,List.foldl_append];rfl);have hrsl:=HJW.out.rsl;rw[HRV.out]at hrsl;have hFr:Fr F w wx:=HR.out.fr.sub (fun k hk=>⟨HJW.out.jz.low k hk,HJW.out.jz.un k hk⟩);obtain⟨kg,koff,hka,hkF,hkl,hcell⟩:=(hrsl.fr hFr).get hL;subst hka;have c0:=hcell 0 _ rfl;have c1:=hcell 1 _ rfl;have c2':=hcell 2 _ rfl;have c3:=hcell 3 _ rfl;dsimp only at c0 c1 c2' c3;rw[yA]at c0;obtain⟨lb,hlb⟩:∃b,b=wx.heap.size:=⟨_,rfl⟩
    obtain⟨o,ho⟩:∃o,o=Obj.cells #[.int .i64 (a:Int),.int .i64 (tox:Int),.pointer (some ⟨tb,0,none⟩),.pointer (some ⟨bb,0,none⟩)] 140 (0,0):=⟨_,rfl⟩
    obtain⟨wz,hwz⟩:∃W,W=wx.alloc o:=⟨_,rfl⟩
    have hbz:Below wx.heap.size wx wz:=by rw[hwz];exact(zE _ _).alloc (zD _) _
    have hszz:wz.heap.size=wx.heap.size+1:=by rw[hwz];simp
    have hlbz:wz.heap[lb]?=some (.cells #[.int .i64 (a:Int),.int .i64 (tox:Int),.pointer (some ⟨tb,0,none⟩),.pointer (some ⟨bb,0,none⟩)] 140 (0,0)):=by rw[hwz,hlb,<- ho];exact heap_alloc_new _ _
    obtain⟨g,cap2,av,na,hv,hgw,⟨aa,ac,hav⟩,hcz,CR0⟩:=HR.out.ring HJW.out.jz (wz:=wz.drew) hbz.drew r2 r1 r3;injection hv with hv1 _ hv2;injection hv1 with hv1;injection hv1 with hv1 _;subst hv1 hv2 hav;have CR:=zA CR0;have KS:Hid (∀u,Below wz.heap.size wz u->u.cell? ⟨lb,0,none⟩=some (.int .i64 (a:Int))/\u.cell? ⟨lb,2,none⟩=some (.pointer (some ⟨tb,0,none⟩))):=zA (fun u hu=>by
     have h1:=(hu.block lb (by omega)).trans hlbz;exact⟨by simp[World.cell?,h1],by simp[World.cell?,h1]⟩)
    have HA0:Hid (Below wz.heap.size wz wz.drew):=zA (zE _ _).drew;have KN:Hid (∀w5:World,(∀k,wx.heap.size<=k->k<wz.drew.heap.size->w5.heap[k]?=wz.drew.heap[k]?)->(w5.cell? ⟨lb,0,none⟩=some (.int .i64 (a:Int))/\w5.cell? ⟨lb,2,none⟩=some (.pointer (some ⟨tb,0,none⟩)))/\∀z,(w5.setCell ⟨g1,a,none⟩ z).cell? ⟨lb,0,none⟩=some (.int .i64 (a:Int))/\(w5.setCell ⟨g1,a,none⟩ z).cell? ⟨lb,2,none⟩=some (.pointer (some ⟨tb,0,none⟩))):=zA (fun w5 hk5=>by
     have h1:w5.heap[lb]?=_:=(hk5 lb (by omega) (by show lb<wz.heap.size;omega)).trans hlbz;have h2:∀z,(w5.setCell ⟨g1,a,none⟩ z).heap[lb]?=_:=fun z=>(zN w5 ⟨g1,a,none⟩ z lb (by show lb≠g1;omega)).trans h1
     exact⟨⟨by simp[World.cell?,h1],by simp[World.cell?,h1]⟩,fun z=>⟨by simp[World.cell?,h2 z],by simp[World.cell?,h2 z]⟩⟩)
    have hcz2:wz.cell? ⟨g1,a,none⟩=some (.slice aa na ac):=hcz;have HWZ:Hid (wx.alloc (.cells #[.int .i64 (a:Int),.int .i64 (tox:Int),.pointer (some ⟨tb,0,none⟩),.pointer (some ⟨bb,0,none⟩)] 140)=wz):=zA (by rw[hwz,ho]);obtain⟨b0z,b2z⟩:=KS.out wz (zE _ _);have b1z:wz.cell? ⟨lb,1,none⟩=some (.int .i64 (tox:Int)):=by simp[World.cell?,hlbz]
    have b3z:wz.cell? ⟨lb,3,none⟩=some (.pointer (some ⟨bb,0,none⟩)):=by simp[World.cell?,hlbz]
    rw[hwz,hlb,ho]at b0z b1z b2z b3z;have haI:(a:Int)<(m:Int):=by omega
    have HLB:Hid (wx.heap.size=lb):=zA hlb.symm;clear hL hr r1 r3 hrsl hFr hcell CR0 hbz hszz hlbz hwz ho hlb hgw;go_wp2_with fail;rw[HWZ.out,HLB.out];clear b0z b1z b2z b3z c0 c1 c2' c3;refine wp_region_held_drew (S:=fun u=>u.cell? ⟨lb,0,none⟩=some (.int .i64 (a:Int))/\u.cell? ⟨lb,2,none⟩=some (.pointer (some ⟨tb,0,none⟩))) (by kernel_rfl) ?_ (fun hHeld=>?_)
    . exact KS.out _ HA0.out
    refine tkH (i:=0) (oi:=⟨some 27,.move (.tmp 3),132, "join.go:107",#[],none⟩) (v:=?_) rfl ?_ hHeld ?_;rotate_left 1
    . rintro W ⟨l1,l2⟩;go_simp;try with_reducible rfl
    simp only[Act.put,zIB,zSZ,zSS];refine tkH (i:=1) (oi:=⟨some 28,.fieldAddr 140 (.tmp 5) 0,0, "join.go:107",#[],none⟩) (v:=?_) rfl ?_ hHeld ?_;rotate_left 1
    . rintro W ⟨l1,l2⟩;go_simp;try with_reducible rfl
    simp only[Act.put,zIB,zSZ,zSS];refine tkH (i:=2) (oi:=⟨some 29,.load 3 (.tmp 28),3, "join.go:107",#[⟨1,.data⟩],none⟩) (v:=?_) rfl ?_ hHeld ?_;rotate_left 1
    . rintro W ⟨l1,l2⟩;go_simp;try with_reducible rfl
    simp only[Act.put,zIB,zSZ,zSS];refine tkH (i:=3) (oi:=⟨some 30,.fieldAddr 140 (.tmp 5) 2,0, "join.go:107",#[],none⟩) (v:=?_) rfl ?_ hHeld ?_;rotate_left 1
    . rintro W ⟨l1,l2⟩;go_simp;try with_reducible rfl
    simp only[Act.put,zIB,zSZ,zSS];refine tkH (i:=4) (oi:=⟨some 31,.load 67 (.tmp 30),67, "join.go:107",#[⟨3,.data⟩],none⟩) (v:=?_) rfl ?_ hHeld ?_;rotate_left 1
    . rintro W ⟨l1,l2⟩;go_simp;try with_reducible rfl
    simp only[Act.put,zIB,zSZ,zSS];refine tkH (i:=5) (oi:=⟨some 32,.move (.tmp 3),132, "join.go:107",#[],none⟩) (v:=?_) rfl ?_ hHeld ?_;rotate_left 1
    . rintro W ⟨l1,l2⟩;go_simp;try with_reducible rfl
    simp only[Act.put,zIB,zSZ,zSS];refine tkH (i:=6) (oi:=⟨some 33,.fieldAddr 140 (.tmp 5) 0,0, "join.go:107",#[],none⟩) (v:=?_) rfl ?_ hHeld ?_;rotate_left 1
    . rintro W ⟨l1,l2⟩;go_simp;try with_reducible rfl
    simp only[Act.put,zIB,zSZ,zSS];refine tkH (i:=7) (oi:=⟨some 34,.load 3 (.tmp 33),3, "join.go:107",#[⟨6,.data⟩],none⟩) (v:=?_) rfl ?_ hHeld ?_;rotate_left 1
    . rintro W ⟨l1,l2⟩;go_simp;try with_reducible rfl
    simp only[Act.put,zIB,zSZ,zSS];refine tkH (i:=8) (oi:=⟨some 35,.indexAddr 132 (.tmp 32) (.tmp 34),0, "join.go:107",#[⟨5,.data⟩,⟨7,.data⟩],none⟩) (v:=?_) rfl ?_ hHeld ?_;rotate_left 1
    . rintro W ⟨l1,l2⟩;go_simp;try with_reducible rfl
    simp only[Act.put,zIB,zSZ,zSS];refine wpAnyH_ready (rs:=[9]) (by kernel_rfl) (by simp) ?_;refine AllReadyH.cons (o:=⟨some 36,.load 59 (.tmp 35),59, "join.go:107",#[⟨8,.data⟩],none⟩) rfl (fun K hK=>?_) AllReadyH.nil;go_simp;refine hK.out _ _ (KS.out _ HA0.out) (fun hHeld=>?_);clear hK K;refine wpAnyH_ready (rs:=[10]) (by kernel_rfl) (by simp) ?_;refine AllReadyH.cons (o:=⟨some 37,.call { callee:=.value (.func 77),args:=#[.tmp 31,.tmp 36],argTypes:=#[67,59] },59, "join.go:107",#[⟨4,.data⟩,⟨9,.data⟩],none⟩) rfl (fun K hK=>?_) AllReadyH.nil;go_simp;refine CR.out.mono ?_;rintro e w5 ⟨lv,rfl,⟨la,nl,lc,hlv⟩,c5,f5,k5,h5⟩;subst hlv;have HR5:=zA h5;have HK5:=zA (KN.out w5 k5);clear h5 k5;refine hK.out _ _ HK5.out.1 (fun hHeld=>?_);clear hK K;refine tkH (i:=11) (oi:=⟨some 38,.indexAddr 132 (.tmp 27) (.tmp 29),0, "join.go:107",#[⟨0,.data⟩,⟨2,.data⟩,⟨0,.phase⟩,⟨1,.phase⟩,⟨2,.phase⟩,⟨3,.phase⟩,⟨4,.phase⟩,⟨5,.phase⟩,⟨6,.phase⟩,⟨7,.phase⟩,⟨8,.phase⟩,⟨9,.phase⟩,⟨10,.phase⟩],none⟩) (v:=?_) rfl ?_ hHeld ?_;rotate_left 1
    . rintro W ⟨l1,l2⟩;go_simp;try with_reducible rfl
    simp only[Act.put,zIB,zSZ,zSS];refine wpAnyH_ready (rs:=[12]) (by kernel_rfl) (by simp) ?_;refine AllReadyH.cons (o:=⟨none,.store 59 (.tmp 38) (.tmp 37),0, "join.go:107",#[⟨11,.data⟩,⟨10,.data⟩,⟨10,.chain⟩,⟨0,.phase⟩,⟨1,.phase⟩,⟨2,.phase⟩,⟨3,.phase⟩,⟨4,.phase⟩,⟨5,.phase⟩,⟨6,.phase⟩,⟨7,.phase⟩,⟨8,.phase⟩,⟨9,.phase⟩,⟨10,.phase⟩],none⟩) rfl (fun K hK=>?_) AllReadyH.nil;go_simp;refine hK.out _ _ (HK5.out.2 _) (fun hHeld=>?_);clear hK K c5 f5;refine wpAnyH_done (by kernel_rfl) ?_ _;go_wp2;go_roundw
    case rel=>exact⟨j+1,by omega,by go_num,zA (by rw[HTK.out];exact HR5.out)⟩
    case measure=>simp[intOf];omega
  . have hjI:¬(j:Int)<(nk:Int):=by omega
    have htk:rs.take j=rs:=zJ (by rw[HJW.out.rlen,<- HNK.out];omega);rw[htk]at HR;obtain⟨k1,_,k6⟩:=HCE.out wx HR.out.fr;have CN:=zA (HR.out.narrow HJW.out.jz HJW.out.m0);clear htk;go_wp2_with fail;refine CN.out.mono ?_;rintro e w3 ⟨rfl,hr3⟩;obtain⟨l3,C3,hfi,hff⟩:=hr3.fill HJW.out.jz HJW.out.m0 HJW.out.fv0 (narrow_ac _ _);have CF:=zA (fillJ_any HJW.out.une HJW.out.ult us.length w3 J l3 (fun _=>False) C3 _ _ _ [] [] [] us rfl rfl (zD _) hfi);have HFF:=zA hff;clear hr3 CN k1 k6 hfi hff k2;go_wp2_with fail;refine CF.out.mono ?_;rintro e w4 ⟨he,ho4⟩;obtain⟨bb4,hb4⟩:∃b,e=.returned (.bool b):=⟨_,he⟩
    subst hb4;clear he;obtain⟨fv4,l4,X4,a1,a2,a3,a4,a5,a6⟩:=ho4.ex;have c6:=a1.cell.2.2.2.2.2.1;dsimp only[Jv.with]at c6;have HFIN:Hid (Q (.returned fv4) w4):=zA (by
     rw[HQ.out];refine⟨fv4,rfl,X4,l4,a3,fun k hk=>⟨?_,(a2 k hk).1⟩,(HFF.out.mono (fun _ h=>h.elim)).trans a6 (fun k hk=>?_)⟩
     . rcases a5 k hk with h1|h1
       . exact h1.elim
       . exact zT HFF.out.size h1
     . rcases hk with hk|hk|hk
       . exact .inl hk
       . exact hk.elim
       . obtain⟨_,_,_,e⟩:=hk;cases e)
    obtain⟨rows4,_,hrow4,_⟩:=a3;obtain⟨fa,fc,hfe⟩:=own_slice hrow4;obtain⟨n4,hn4⟩:∃q,q=rows4.length:=⟨_,rfl⟩
    rw[<- hn4]at hfe;subst hfe;clear a1 a2 a4 a5 a6 ho4 CF hrow4 hn4;go_wp2;all_goals (first|(go_ret;exact HFIN.out)|exact HFIN.out)
abbrev encTm(t:Tm):Value:=.agg #[.bool t.1,.string ⟨t.2.toArray⟩]
def FineM(t:Tm):Prop:=t.2.length<=maxLen
def kM(t:Tm):Lit:=.string (keyBytes [.bool t.1,.string t.2])
theorem kM_key(t:Tm):WideAt.IsKeyLit (kM t):=trivial
theorem laidOutM:laidOutB Tryz.prog=true:=by kernel_rfl
theorem rowM:53<Tryz.prog.types.size:=of_decide_eq_true (by kernel_rfl)
theorem cellsM:Tryz.prog.cellsOf 53=2:=by kernel_rfl
theorem cellsSM:Tryz.prog.cellsOf 9=1:=by kernel_rfl
theorem cellsBM:Tryz.prog.cellsOf 4=1:=by kernel_rfl
theorem typesBM:Nat.ble 2 (Tryz.prog.types.size+1)=true:=by kernel_rfl
theorem typesNM:∃d,Tryz.prog.types.size+1=2+d:=⟨Tryz.prog.types.size+1-2,by have:=Nat.le_of_ble_eq_true typesBM;omega⟩
theorem ktM:Tryz.prog.keyTypeAt 2 53=true:=by kernel_rfl
theorem wideM:(match Tryz.prog.underlying 53 with|some (.array _ _)|some (.struct _)=>true|_=>false)=true:=by rw[Tryz.underlying53]
theorem lawM:Maps.Keyed Tryz.prog 53:=Maps.Keyed.of_law (deep_law_laid laidOutM (m:=2) (by omega) rowM ktM wideM)
theorem keyTypeM:Tryz.prog.keyType 53=true:=by kernel_rfl
theorem formedM(a b:Value):(Value.agg #[a,b]).formed Tryz.prog 53=true:=by simp[Value.formed,Tryz.underlying53,cellsM]
theorem litsSM(d:Nat)(v:Value):Tryz.prog.keyLits (d+1) 9 [v]=match v with| .string s=>if s.size<=maxLen then some [.string s.data.toList]else none|_=>none:=by
 unfold Program.keyLits;rw[Tryz.underlying9];cases v<;>rfl
theorem litsBM(d:Nat)(v:Value):Tryz.prog.keyLits (d+1) 4 [v]=match v with| .bool b=>some [.bool b]|_=>none:=by
 unfold Program.keyLits;rw[show Tryz.prog.underlying 4=some .bool by kernel_rfl];cases v<;>rfl
theorem litsM(d:Nat)(a b:Value):Tryz.prog.keyLits (2+d) 53 [a,b]=(do
 let x <- Tryz.prog.keyLits (1+d) 4 [a];let y <- Tryz.prog.keyLits (1+d) 9 [b]
 pure (x++y)):=by
 rw[show 2+d=(1+d)+1 by omega];conv=>lhs;unfold Program.keyLits
 rw[Tryz.underlying53];simp[cellsM,cellsSM,cellsBM];cases Tryz.prog.keyLits (1+d) 4 [a]<;>simp
 cases Tryz.prog.keyLits (1+d) 9 [b]<;>simp
theorem keyM{t:Tm}(h:FineM t):keyOf Tryz.prog 53 (encTm t)=some (kM t):=by
 unfold keyOf;rw[Tryz.underlying53];simp only[keyTypeM,formedM,Bool.and_self,if_true,Value.cells];obtain⟨d,hd⟩:=typesNM;rw[hd,litsM,show 1+d=d+1 by omega,litsSM,litsBM];have h:t.2.length<=maxLen:=h;simp[size_list,h,kM]
theorem kM_inj{a b:Tm}(ha:FineM a)(hb:FineM b)(h:kM a=kM b):a=b:=by
 have:=lawM.inj (keyM ha) (by rw[h];exact keyM hb);simp[encTm]at this;exact Prod.ext this.1 this.2
structure TellM (D:DataW Unit) (ts:List Tm):Prop where
 has:∀t,FineM t->Maps.has D (kM t)=decide (t∈ts)
 at_:∀(i:Nat) t,ts[i]?=some t->D.atKey (kM t) (.lit (.int .i64 0))=.lit (.int .i64 (i:Int))
 fine:∀t∈ts,FineM t
 nd:ts.Nodup
theorem tellM_nil:TellM (.map []) []:=⟨fun t _=>by simp[Maps.has],fun i t h=>by simp at h,fun t h=>by simp at h,List.nodup_nil⟩
def addT(ts:List Tm)(t:Tm):List Tm:=if t∈ts then ts else ts++[t]
theorem TellM.put{D:DataW Unit}{ts:List Tm}(hm:Maps.IsMap D)(h:TellM D ts){t:Tm}(hf:FineM t)(ht:t∉ts):TellM (D.put (kM t) (.lit (.int .i64 (ts.length:Int)))) (ts++[t]):=by
 refine⟨fun x hx=>?_,fun i x hx=>?_,fun x hx=>?_,?_⟩
 . by_cases e:x=t
   . subst e;rw[Maps.has_put_same hm (kM_key x)];simp
   . rw[Maps.has_put_other (fun h2=>e (kM_inj hx hf h2)),h.has x hx];simp[e]
 . by_cases hi:i<ts.length
   . rw[yH hi]at hx;have hxm:=zC hx;rw[Maps.atKey_put_other (fun h2=>ht (by rw[<- kM_inj (h.fine x hxm) hf h2];exact hxm))];exact h.at_ i x hx
   . have hil:=(zF.1 hx).1;rw[zG]at hil;simp only[List.length_singleton]at hil;have e:i=ts.length:=by omega
     rw[e,yO (zD _)]at hx;simp at hx;rw[<- hx,Maps.atKey_put_same hm (kM_key t),e]
 . rcases zM.1 hx with hx|hx
   . exact h.fine x hx
   . rw[zK.1 hx];exact hf
 . rw[List.nodup_append];exact⟨h.nd,by simp,fun a ha b hb e=>ht (by rw[<- zK.1 hb,<- e];exact ha)⟩
theorem idx_add{ts:List Tm}{t:Tm}(h:t∉ts):(ts++[t]).idxOf t=ts.length:=by
 rw[List.idxOf_append,if_neg h];simp
def XS(jb mp:Nat)(J:Jv)(k:Nat):Prop:=k=jb\/k=mp\/J.av.ownBlock=some k\/J.cv.ownBlock=some k
structure SL (B:Nat) (V:List Wd) (w:World) (jb mp:Nat) (J:Jv) (ts:List Tm) (frs:List (Value×List Nat)) (D:Nat->Prop):Prop where
 blk:w.heap[jb]?=some (.cells J.cells 134 (0,0))
 sv:J.sv=.map (some mp)
 jB:B<=jb
 mB:B<=mp
 map:∃cnt DM,w.ownsMap Tryz.prog 53 (plainElem Tryz.prog 3) mp cnt DM/\cnt<=ts.length/\TellM DM ts
 al:w.ownsRow B 3 1 J.av ts.length ((List.range ts.length).flatMap csI)
 fi:w.ownsRow B 59 1 J.cv frs.length (frs.flatMap csRow)
 frc:frs.map (·.2)=ts.map (firstT V)
 fat:∀r∈frs,NatC D w r.1 r.2
 dl:∀k,D k->B<=k/\k<w.heap.size
 dx:∀k,D k->¬XS jb mp J k
theorem SL.fl{B:Nat}{V:List Wd}{w:World}{jb mp:Nat}{J:Jv}{ts:List Tm}{frs:List (Value×List Nat)}{D:Nat->Prop}(h:SL B V w jb mp J ts frs D):frs.length=ts.length:=by
 have:=congrArg List.length h.frc;rw[zH,zH]at this;exact this
theorem SL.xlt{B:Nat}{V:List Wd}{w:World}{jb mp:Nat}{J:Jv}{ts:List Tm}{frs:List (Value×List Nat)}{D:Nat->Prop}(h:SL B V w jb mp J ts frs D){k:Nat}(hk:XS jb mp J k):B<=k/\k<w.heap.size:=by
 rcases hk with rfl|rfl|hk|hk
 . exact⟨h.jB,lt_of_block h.blk⟩
 . obtain⟨_,_,h1,_⟩:=h.map;exact⟨h.mB,h1.lt⟩
 . exact h.al.lt k hk
 . exact h.fi.lt k hk
theorem SL.keep{B:Nat}{V:List Wd}{w w':World}{jb mp:Nat}{J:Jv}{ts:List Tm}{frs:List (Value×List Nat)}{D:Nat->Prop}(h:SL B V w jb mp J ts frs D)(hz:w.heap.size<=w'.heap.size)(hk:∀k,XS jb mp J k\/D k->w'.heap[k]?=w.heap[k]?):SL B V w' jb mp J ts frs D:=by
 obtain⟨cnt,DM,h1,h2⟩:=h.map;exact⟨(hk jb (.inl (.inl rfl))).trans h.blk,h.sv,h.jB,h.mB,⟨cnt,DM,map_keyG h1 (fun _ ho=>(hk mp (.inl (.inr (.inl rfl)))).trans ho),h2⟩,owns_key h.al (fun g o hg ho=>(hk g (.inl (.inr (.inr (.inl hg))))).trans ho),owns_key h.fi (fun g o hg ho=>(hk g (.inl (.inr (.inr (.inr hg))))).trans ho),h.frc,fun r hr=>(h.fat r hr).keep hz (fun k hk2 _=>⟨hk2,hk k (.inr hk2)⟩),fun k hk2=>⟨(h.dl k hk2).1,zQ (h.dl k hk2).2 hz⟩,h.dx⟩
def SloE(B:Nat)(V:List Wd)(w:World)(jb mp:Nat)(J:Jv)(ts:List Tm)(D:Nat->Prop)(t:Tm)(e:Ending)(w':World):Prop:=
 e=.returned (.int .i64 ((addT ts t).idxOf t:Nat))/\∃av cv frs' D',SL B V w' jb mp { J with av:=av,cv:=cv } (addT ts t) frs' D'/\(∀k,XS jb mp { J with av:=av,cv:=cv } k->XS jb mp J k\/w.heap.size<=k)/\(∀k,D' k->D k\/w.heap.size<=k)/\Fr (fun k=>k<w.heap.size/\¬XS jb mp J k) w w'
theorem rows_neX{w:World}{B1 B2 n1 n2 s1 s2:Nat}{e1 e2:TypeId}{v1 v2:Value}{xs1 xs2:List Value}(h1:w.ownsRow B1 e1 s1 v1 n1 xs1)(h2:w.ownsRow B2 e2 s2 v2 n2 xs2)(hne:e1≠e2){k:Nat}(hk:v1.ownBlock=some k):v2.ownBlock≠some k:=by
 rcases h1.2 with⟨e,_⟩|⟨g,cap,cur,e,_,hb,_⟩
 . rw[e]at hk;simp[Value.ownBlock]at hk
 . have hgk:g=k:=by rw[e]at hk;simpa[Value.ownBlock]using hk
   subst hgk;exact own_neG h2 hb (fun e2=>hne e2.symm)
theorem SL.done{B:Nat}{V:List Wd}{w:World}{jb mp:Nat}{J:Jv}{ts:List Tm}{frs:List (Value×List Nat)}{D:Nat->Prop}(h:SL B V w jb mp J ts frs D){t:Tm}(ht:t∉ts)(hf:FineM t)(hBw:B<=w.heap.size)
 {w2 w3 w5 w8 w9:World} {cnt:Nat} {DM:DataW Unit} {av5 cv9 lv:Value} (hb2:Below w.heap.size w w2) (hcnt:cnt<=ts.length) (hDM:Maps.IsMap DM) (hT:TellM DM ts) (hm3:w3.ownsMap Tryz.prog 53 (plainElem Tryz.prog 3) mp (cnt+1) (DM.put (kM t) (.lit (.int .i64 (ts.length:Int))))) (hg3:w2.grownBy w3 (some mp))
 (hr5:w5.ownsRow B 3 1 av5 (ts.length+1) ((List.range ts.length).flatMap csI++csI ts.length)) (hk5:∀k,k<w3.heap.size->J.av.ownBlock≠some k->w5.heap[k]?=w3.heap[k]?) (hz5:w3.heap.size<=w5.heap.size) (ho5:w5.os=w3.os) (ht5:w5.tape=w3.tape) (hu5:w5.output=w3.output) (ha5:∀g,av5.ownBlock=some g->J.av.ownBlock=some g\/w3.heap.size<=g)
 (hb8:Below w5.heap.size (w5.setCell ⟨jb,1,none⟩ av5) w8) (hL:NatC (fun k=>w5.heap.size<=k) w8 lv (firstT V t))
 (hr9:w9.ownsRow B 59 1 cv9 (frs.length+1) (frs.flatMap csRow++[lv])) (hk9:∀k,k<w8.heap.size->J.cv.ownBlock≠some k->w9.heap[k]?=w8.heap[k]?) (hz9:w8.heap.size<=w9.heap.size) (ho9:w9.os=w8.os) (ht9:w9.tape=w8.tape) (hu9:w9.output=w8.output) (ha9:∀g,cv9.ownBlock=some g->J.cv.ownBlock=some g\/w8.heap.size<=g):
 ∃frs' D',SL B V (w9.setCell ⟨jb,5,none⟩ cv9) jb mp { J with av:=av5,cv:=cv9 } (ts++[t]) frs' D'/\(∀k,XS jb mp { J with av:=av5,cv:=cv9 } k->XS jb mp J k\/w.heap.size<=k)/\(∀k,D' k->D k\/w.heap.size<=k)/\Fr (fun k=>k<w.heap.size/\¬XS jb mp J k) w (w9.setCell ⟨jb,5,none⟩ cv9):=by
 have hz2:=hb2.size;have hz3:=hg3.size;have hz6:(w5.setCell ⟨jb,1,none⟩ av5).heap.size=w5.heap.size:=by simp
 have hz8:w5.heap.size<=w8.heap.size:=by have:=hb8.size;omega
 have hzF:(w9.setCell ⟨jb,5,none⟩ cv9).heap.size=w9.heap.size:=by simp
 have hjl:=lt_of_block h.blk;obtain⟨_,_,hmw,_⟩:=h.map;have hmj:mp≠jb:=blk_ne_mapG h.blk hmw;have hml:=hmw.lt;have haj:J.av.ownBlock≠some jb:=own_neG h.al h.blk (by decide);have hcj:J.cv.ownBlock≠some jb:=own_neG h.fi h.blk (by decide);have ham:J.av.ownBlock≠some mp:=own_ne_mapG h.al hmw;have hcm:J.cv.ownBlock≠some mp:=own_ne_mapG h.fi hmw;have hac:∀k,J.av.ownBlock=some k->J.cv.ownBlock≠some k:=fun k hk=>rows_neX h.al h.fi (by decide) hk
 have hs1:∀k,k≠jb->(w5.setCell ⟨jb,1,none⟩ av5).heap[k]?=w5.heap[k]?:=fun k hk=>zN _ _ _ _ hk
 have hs9:∀k,k≠jb->(w9.setCell ⟨jb,5,none⟩ cv9).heap[k]?=w9.heap[k]?:=fun k hk=>zN _ _ _ _ hk
 have h58:∀k,k<w5.heap.size->k≠jb->w8.heap[k]?=w5.heap[k]?:=fun k hk hne=>(hb8.block k hk).trans (hs1 k hne)
 have h23:∀k,k<w2.heap.size->k≠mp->w3.heap[k]?=w2.heap[k]?:=fun k hk hne=>hg3.block k hk (fun e=>hne (by injection e))
 have hblk3:w3.heap[jb]?=some (.cells J.cells 134 (0,0)):=(h23 jb (by omega) (fun e=>hmj e.symm)).trans ((hb2.block jb hjl).trans h.blk);have hblk5:w5.heap[jb]?=some (.cells J.cells 134 (0,0)):=(hk5 jb (by omega) haj).trans hblk3;have hblk6:(w5.setCell ⟨jb,1,none⟩ av5).heap[jb]?=some (.cells ({ J with av:=av5 }:Jv).cells 134 (0,0)):=by
  simp[World.setCell,Array.getElem?_modify,hblk5,Jv.cells]
 have hblk9:w9.heap[jb]?=some (.cells ({ J with av:=av5 }:Jv).cells 134 (0,0)):=(hk9 jb (by omega) hcj).trans ((hb8.block jb (by omega)).trans hblk6);have hblkF:(w9.setCell ⟨jb,5,none⟩ cv9).heap[jb]?=some (.cells ({ J with av:=av5,cv:=cv9 }:Jv).cells 134 (0,0)):=by
  simp[World.setCell,Array.getElem?_modify,hblk9,Jv.cells]
 have hold:∀k,k<w.heap.size->¬XS jb mp J k->(w9.setCell ⟨jb,5,none⟩ cv9).heap[k]?=w.heap[k]?:=fun k hk hx=>by
  have n1:k≠jb:=fun e=>hx (.inl e)
  have n2:k≠mp:=fun e=>hx (.inr (.inl e))
  have n3:J.av.ownBlock≠some k:=fun e=>hx (.inr (.inr (.inl e)))
  have n4:J.cv.ownBlock≠some k:=fun e=>hx (.inr (.inr (.inr e)))
  exact(hs9 k n1).trans ((hk9 k (by omega) n4).trans ((h58 k (by omega) n1).trans ((hk5 k (by omega) n3).trans ((h23 k (by omega) n2).trans (hb2.block k hk)))))
 have ha5j:∀g,av5.ownBlock=some g->g≠jb/\g≠mp/\J.cv.ownBlock≠some g/\g<w5.heap.size:=fun g hg=>by
  have hl:=(hr5.lt g hg).2;rcases ha5 g hg with h1|h1
  . exact⟨fun e=>haj (e▸h1),fun e=>ham (e▸h1),hac g h1,hl⟩
  . refine⟨by omega,by omega,fun e=>?_,hl⟩;have:=(h.fi.lt g e).2;omega
 have hdv:∀k,D k->¬XS jb mp { J with av:=av5,cv:=cv9 } k:=fun k hk hx=>by
  have hkl:=(h.dl k hk).2;rcases hx with e|e|e|e
  . exact h.dx k hk (.inl e)
  . exact h.dx k hk (.inr (.inl e))
  . rcases ha5 k e with h1|h1
    . exact h.dx k hk (.inr (.inr (.inl h1)))
    . omega
  . rcases ha9 k e with h1|h1
    . exact h.dx k hk (.inr (.inr (.inr h1)))
    . omega
 refine⟨frs++[(lv,firstT V t)],fun k=>D k\/(w5.heap.size<=k/\k<w8.heap.size),⟨hblkF,h.sv,h.jB,h.mB,⟨cnt+1,_,map_keyG hm3 (fun o ho=>?_),by rw[zG];simp only[List.length_singleton];omega,hT.put hDM hf ht⟩,?_,?_,?_,fun r hr=>?_,fun k hk=>?_,fun k hk=>?_⟩,fun k hk=>?_,fun k hk=>?_,?_⟩
 . have hmp3:w5.heap[mp]?=w3.heap[mp]?:=hk5 mp (by omega) ham;exact(hs9 mp hmj).trans ((hk9 mp (by omega) hcm).trans ((h58 mp (by omega) hmj).trans (hmp3.trans ho)))
 . rw[zG,List.length_singleton,List.range_succ,zR];refine owns_key (show w5.ownsRow B 3 1 av5 (ts.length+1) _ from by simpa using hr5) (fun g o hg ho=>?_);obtain⟨a1,a2,a3,a4⟩:=ha5j g hg;exact(hs9 g a1).trans ((hk9 g (by omega) a3).trans ((h58 g a4 a1).trans ho))
 . rw[zG,zR];refine owns_key hr9 (fun g o hg ho=>(hs9 g (fun e=>?_)).trans ho);rcases ha9 g hg with h1|h1
   . exact hcj (e▸h1)
   . omega
 . rw[yK,yK,h.frc];rfl
 . rcases zM.1 hr with hr|hr
   . refine(h.fat r hr).keep (by omega) (fun k hk hl=>⟨.inl hk,hold k hl (h.dx k hk)⟩)
   . rw[zK.1 hr];refine hL.keep (by omega) (fun k hk hl=>⟨.inr ⟨hk,hl⟩,(hs9 k (by omega)).trans (hk9 k hl (fun e=>?_))⟩);have:=(h.fi.lt k e).2;omega
 . rcases hk with hk|hk
   . have:=h.dl k hk;exact⟨this.1,by omega⟩
   . exact⟨by omega,by omega⟩
 . rcases hk with hk|hk
   . exact hdv k hk
   . intro hx;rcases hx with e|e|e|e
     . omega
     . omega
     . have:=(ha5j k e).2.2.2;omega
     . rcases ha9 k e with h1|h1
       . have:=(h.fi.lt k h1).2;omega
       . omega
 . rcases hk with e|e|e|e
   . exact .inl (.inl e)
   . exact .inl (.inr (.inl e))
   . rcases ha5 k e with h1|h1
     . exact .inl (.inr (.inr (.inl h1)))
     . exact .inr (by omega)
   . rcases ha9 k e with h1|h1
     . exact .inl (.inr (.inr (.inr h1)))
     . exact .inr (by omega)
 . exact hk.imp id (fun h1=>by omega)
 . refine⟨?_,?_,?_,by omega,fun k hk=>hold k hk.1 hk.2⟩
   . exact ho9.trans (hb8.os.trans (ho5.trans (hg3.os.trans hb2.os)))
   . exact ht9.trans (hb8.tape.trans (ht5.trans (hg3.tape.trans hb2.tape)))
   . exact hu9.trans (hb8.output.trans (hu5.trans (hg3.output.trans hb2.output)))
theorem two_cellsX{w:World}{b:Nat}{c0 c1:Value}{t:TypeId}(h:w.heap[b]?=some (.cells #[c0,c1] t (0,0))):w.cell? ⟨b,0,none⟩=some c0/\w.cell? ⟨b,1,none⟩=some c1:=by
 simp[World.cell?,h]
theorem infoCh:(Tryz.prog.info? 59).map (fun i=>(i.zero,i.size,i.bytes))=some (some (.slice none 0 0),1,24):=by kernel_rfl
theorem zeroIM(w:World):(zeroValue 3).run Tryz.prog w=.ok (.int .i64 0) w:=by kernel_rfl
theorem underM:Tryz.prog.underlying 130=some (.map 53 3):=by kernel_rfl
theorem TellM.look{w:World}{mp cnt:Nat}{DM:DataW Unit}{ts:List Tm}(hm:w.ownsMap Tryz.prog 53 (plainElem Tryz.prog 3) mp cnt DM)(hT:TellM DM ts){t:Tm}(hf:FineM t):∃c:Int,(Instr.lookup 130 (.map (some mp)) (encTm t) true).run Tryz.prog w=.ok (.tuple #[.int .i64 c,.bool (decide (t∈ts))]) w/\∀i:Nat,ts[i]?=some t->c=i:=by
 obtain⟨v,ps,hrun,hv⟩:=hm.look_ok lawM underM (zeroIM w) (plainElem_int Tryz.underlying3 (by decide)) (keyM hf);obtain⟨c,rfl,hc,_⟩:=plainElem_int_inv Tryz.underlying3 hv;refine⟨c,by rw[hrun,hT.has t hf],fun i hi=>?_⟩;have h1:=congrArg Prod.fst hc;dsimp only at h1;rw[hT.at_ i t hi]at h1;injection h1 with h1;injection h1 with _ h1;exact h1.symm
set_option maxHeartbeats 16000000 in
theorem slot_any{B:Nat}{V:List Wd}{w:World}{jb mp:Nat}{J:Jv}{ts:List Tm}{frs:List (Value×List Nat)}{D S:Nat->Prop}{gb:Nat}{E:List Eg}{mb:Nat}{nv ev:Value}{DG:DataW Unit}{cg:Nat}(h:SL B V w jb mp J ts frs D)(hg:GrS S w gb V E mb nv ev DG cg)(hS:∀k,S k->¬XS jb mp J k)(hBw:B<=w.heap.size){t:Tm}(hf:t.2.length<=140737488351232)(htl:ts.length<=1000)(hV:V.length<=10000):
 Calls Tryz.prog 72 #[.pointer (some ⟨jb,0,none⟩),.pointer (some ⟨gb,0,none⟩),encTm t] w (SloE B V w jb mp J ts D t):=by
 obtain⟨tv0,tn⟩:=t;have hfm:FineM (tv0,tn):=by unfold FineM maxLen;dsimp only at hf ⊢;omega
 obtain⟨cnt,DM,hm,hcnt,hT⟩:=h.map;have hjl:=lt_of_block h.blk;have hml:=hm.lt;obtain⟨w1,hw1⟩:∃W,W=w.alloc (.cells #[.bool tv0,.string ⟨tn.toArray⟩] 53):=⟨_,rfl⟩
 have hb1:Below w.heap.size w w1:=by rw[hw1];exact(zE _ _).alloc (zD _) _
 have hs1:w1.heap.size=w.heap.size+1:=by rw[hw1];simp
 have hbox:w1.heap[w.heap.size]?=some (.cells #[.bool tv0,.string ⟨tn.toArray⟩] 53 (0,0)):=by rw[hw1];exact heap_alloc_new _ _
 have HW1:Hid (w.alloc (.cells #[.bool tv0,.string ⟨tn.toArray⟩] 53)=w1):=zA hw1.symm;have K5:Hid (∀u,Below w1.heap.size w1 u->u.cell? ⟨jb,0,none⟩=some (.map (some mp))/\u.cell? ⟨w.heap.size,0,none⟩=some (.bool tv0)/\u.cell? ⟨w.heap.size,1,none⟩=some (.string ⟨tn.toArray⟩)):=zA (fun u hu=>by
  have x1:=(hu.block jb (by omega)).trans ((hb1.block jb hjl).trans h.blk);have x2:=(hu.block w.heap.size (by omega)).trans hbox;obtain⟨c0,c1⟩:=two_cellsX x2;exact⟨by rw[<- h.sv];simp[World.cell?,x1,Jv.cells],c0,c1⟩)
 obtain⟨Q,hQ⟩:∃Q,Q=SloE B V w jb mp J ts D (tv0,tn):=⟨_,rfl⟩
 rw[<- hQ];show Calls Tryz.prog _ #[_,_,.agg #[.bool tv0,.string ⟨tn.toArray⟩]] w _;by_cases hmem:((tv0,tn):Tm)∈ts
 . obtain⟨x,hx⟩:∃x,x=ts.idxOf ((tv0,tn):Tm):=⟨_,rfl⟩
   have hxi:ts[x]?=some (tv0,tn):=by
    rw[hx,zB (yC hmem)];simp
   have KS:Hid (∀u,Below w1.heap.size w1 u->u.cell? ⟨jb,0,none⟩=some (.map (some mp))/\u.cell? ⟨w.heap.size,0,none⟩=some (.bool tv0)/\u.cell? ⟨w.heap.size,1,none⟩=some (.string ⟨tn.toArray⟩)/\(Instr.lookup 130 (.map (some mp)) (.agg #[.bool tv0,.string ⟨tn.toArray⟩]) true).run Tryz.prog u=.ok (.tuple #[.int .i64 (x:Int),.bool true]) u):=zA (fun u hu=>by
    obtain⟨a1,a2,a3⟩:=K5.out u hu;refine⟨a1,a2,a3,?_⟩;have hmu:u.ownsMap Tryz.prog 53 (plainElem Tryz.prog 3) mp cnt DM:=map_keyG hm (fun o ho=>(hu.block mp (by omega)).trans ((hb1.block mp hml).trans ho));obtain⟨c,h1,h2⟩:=hT.look hmu hfm;rw[zU hmem,h2 x hxi]at h1;exact h1)
   have HFIN:Hid (Q (.returned (.int .i64 (x:Int))) w1.drew):=zA (by
    have hbd:Below w.heap.size w w1.drew:=hb1.drew;have hadd:addT ts (tv0,tn)=ts:=by rw[addT,if_pos hmem]
    rw[hQ];refine⟨by rw[hadd,hx],J.av,J.cv,frs,D,?_,fun k hk=>.inl hk,fun k hk=>.inl hk,⟨hbd.os,hbd.tape,hbd.output,hbd.size,fun k hk=>hbd.block k hk.1⟩⟩;rw[hadd];exact h.keep hbd.size (fun k hk=>hbd.block k (hk.elim (fun h1=>(h.xlt h1).2) (fun h1=>(h.dl k h1).2))))
   clear h hg hS hf hm hcnt hT hb1 hs1 hbox hw1 hxi hx hmem hQ hfm hjl hml hBw;go_enter Tryz.func72,Tryz.ntmps72;go_wp2_with fail;rw[HW1.out];refine wp_region_held_drew (S:=fun u=>u.cell? ⟨jb,0,none⟩=some (.map (some mp))/\u.cell? ⟨w.heap.size,0,none⟩=some (.bool tv0)/\u.cell? ⟨w.heap.size,1,none⟩=some (.string ⟨tn.toArray⟩)/\(Instr.lookup 130 (.map (some mp)) (.agg #[.bool tv0,.string ⟨tn.toArray⟩]) true).run Tryz.prog u=.ok (.tuple #[.int .i64 (x:Int),.bool true]) u) (by kernel_rfl) ?_ (fun hHeld=>?_)
   . exact KS.out _ (zE _ _).drew
   refine tkH (i:=0) (oi:=⟨some 11,.move (.tmp 0),85, "join.go:57",#[],none⟩) (v:=?_) rfl ?_ hHeld ?_;rotate_left 1
   . rintro W ⟨l1,l2,l3,l4⟩;go_simp;try with_reducible rfl
   simp only[Act.put,zIB,zSZ,zSS];refine tkH (i:=1) (oi:=⟨some 12,.nilCheck (.tmp 11),0, "join.go:57",#[⟨0,.data⟩],none⟩) (v:=?_) rfl ?_ hHeld ?_;rotate_left 1
   . rintro W ⟨l1,l2,l3,l4⟩;go_simp;try with_reducible rfl
   simp only[Act.put,zIB,zSZ,zSS];refine tkH (i:=2) (oi:=⟨some 13,.fieldAddr 134 (.tmp 12) 0,0, "join.go:57",#[⟨1,.data⟩],none⟩) (v:=?_) rfl ?_ hHeld ?_;rotate_left 1
   . rintro W ⟨l1,l2,l3,l4⟩;go_simp;try with_reducible rfl
   simp only[Act.put,zIB,zSZ,zSS];refine tkH (i:=3) (oi:=⟨some 14,.load 130 (.tmp 13),130, "join.go:57",#[⟨2,.data⟩],none⟩) (v:=?_) rfl ?_ hHeld ?_;rotate_left 1
   . rintro W ⟨l1,l2,l3,l4⟩;go_simp;try with_reducible rfl
   simp only[Act.put,zIB,zSZ,zSS];refine tkH (i:=4) (oi:=⟨some 15,.load 53 (.tmp 5),53, "join.go:57",#[],none⟩) (v:=?_) rfl ?_ hHeld ?_;rotate_left 1
   . rintro W ⟨l1,l2,l3,l4⟩;go_simp;try with_reducible rfl
   simp only[Act.put,zIB,zSZ,zSS];refine tkH (i:=5) (oi:=⟨some 16,.lookup 130 (.tmp 14) (.tmp 15) true,123, "join.go:57",#[⟨3,.data⟩,⟨4,.data⟩],none⟩) (v:=?_) rfl ?_ hHeld ?_;rotate_left 1
   . rintro W ⟨l1,l2,l3,l4⟩;go_simp;try with_reducible rfl
   simp only[Act.put,zIB,zSZ,zSS];refine tkH (i:=6) (oi:=⟨some 10,.move (.tmp 16),123, "join.go:57",#[⟨5,.data⟩],none⟩) (v:=?_) rfl ?_ hHeld ?_;rotate_left 1
   . rintro W ⟨l1,l2,l3,l4⟩;go_simp;try with_reducible rfl
   simp only[Act.put,zIB,zSZ,zSS];refine tkH (i:=7) (oi:=⟨some 17,.extract (.tmp 10) 0,3, "join.go:57",#[⟨6,.data⟩],none⟩) (v:=?_) rfl ?_ hHeld ?_;rotate_left 1
   . rintro W ⟨l1,l2,l3,l4⟩;go_simp;try with_reducible rfl
   simp only[Act.put,zIB,zSZ,zSS];refine tkH (i:=8) (oi:=⟨some 18,.extract (.tmp 10) 1,4, "join.go:57",#[⟨6,.data⟩,{ on:=9,ground:=.gcOnly .lateStores }],none⟩) (v:=?_) rfl ?_ hHeld ?_;rotate_left 1
   . rintro W ⟨l1,l2,l3,l4⟩;go_simp;try with_reducible rfl
   simp only[Act.put,zIB,zSZ,zSS];refine tkH (i:=9) (oi:=⟨some 7,.assign (.tmp 17),3, "join.go:57",#[⟨7,.data⟩,⟨0,.phase⟩,⟨1,.phase⟩,⟨2,.phase⟩,⟨3,.phase⟩,⟨4,.phase⟩,⟨5,.phase⟩,⟨6,.phase⟩,⟨7,.phase⟩,{ on:=8,ground:=.textOnly .lateStores }],none⟩) (v:=?_) rfl ?_ hHeld ?_;rotate_left 1
   . rintro W ⟨l1,l2,l3,l4⟩;go_simp;try with_reducible rfl
   simp only[Act.put,zIB,zSZ,zSS];refine tkH (i:=10) (oi:=⟨some 8,.assign (.tmp 18),4, "join.go:57",#[⟨8,.data⟩,⟨9,.chain⟩,⟨0,.phase⟩,⟨1,.phase⟩,⟨2,.phase⟩,⟨3,.phase⟩,⟨4,.phase⟩,⟨5,.phase⟩,⟨6,.phase⟩,⟨7,.phase⟩,⟨8,.phase⟩,⟨9,.phase⟩],none⟩) (v:=?_) rfl ?_ hHeld ?_;rotate_left 1
   . rintro W ⟨l1,l2,l3,l4⟩;go_simp;try with_reducible rfl
   simp only[Act.put,zIB,zSZ,zSS];refine wpAnyH_done (by kernel_rfl) ?_ _;go_wp2;all_goals (first|(go_ret;exact HFIN.out)|exact HFIN.out)
 . obtain⟨i0,hi0,hz0,hz1,hz2⟩:=info_partsG infoZG;obtain⟨i1,hi1,hy0,hy1,hy2⟩:=info_partsG infoCh;obtain⟨zx,hzx⟩:∃z:Int,∀u,Below w1.heap.size w1 u->(Instr.lookup 130 (.map (some mp)) (.agg #[.bool tv0,.string ⟨tn.toArray⟩]) true).run Tryz.prog u=.ok (.tuple #[.int .i64 z,.bool false]) u:=by
    have hmu:∀u,Below w1.heap.size w1 u->u.ownsMap Tryz.prog 53 (plainElem Tryz.prog 3) mp cnt DM:=fun u hu=>map_keyG hm (fun o ho=>(hu.block mp (by omega)).trans ((hb1.block mp hml).trans ho))
    have key:∀u,Below w1.heap.size w1 u->(Instr.lookup 130 (.map (some mp)) (.agg #[.bool tv0,.string ⟨tn.toArray⟩]) true).run Tryz.prog u=.ok (.tuple #[.int .i64 (match DM.atKey (kM (tv0,tn)) (.lit (.int .i64 0))with| .lit (.int _ z)=>z|_=>0),.bool false]) u:=fun u hu=>by
     obtain⟨v,ps,hrun,hv⟩:=(hmu u hu).look_ok lawM underM (zeroIM u) (plainElem_int Tryz.underlying3 (by decide)) (keyM hfm);obtain⟨c,rfl,hc,_⟩:=plainElem_int_inv Tryz.underlying3 hv;have h1:=congrArg Prod.fst hc;dsimp only at h1;rw[h1];rw[hT.has _ hfm,decide_eq_false hmem]at hrun;exact hrun
    exact⟨_,key⟩
   have KS:Hid (∀u,Below w1.heap.size w1 u->u.cell? ⟨jb,0,none⟩=some (.map (some mp))/\u.cell? ⟨w.heap.size,0,none⟩=some (.bool tv0)/\u.cell? ⟨w.heap.size,1,none⟩=some (.string ⟨tn.toArray⟩)/\(Instr.lookup 130 (.map (some mp)) (.agg #[.bool tv0,.string ⟨tn.toArray⟩]) true).run Tryz.prog u=.ok (.tuple #[.int .i64 zx,.bool false]) u):=zA (fun u hu=>by
    obtain⟨a1,a2,a3⟩:=K5.out u hu;exact⟨a1,a2,a3,hzx u hu⟩)
   obtain⟨w2,hw2⟩:∃W,W=w1.drew.drew:=⟨_,rfl⟩
   have hb12:Below w1.heap.size w1 w2:=by rw[hw2];exact(zE _ _).drew.drew
   have hb2:Below w.heap.size w w2:=hb1.trans (hb12.mono (by omega));have hs2:w2.heap.size=w1.heap.size:=by rw[hw2];rfl
   obtain⟨n,hn⟩:∃q,q=ts.length:=⟨_,rfl⟩
   have hm2:w2.ownsMap Tryz.prog 53 (plainElem Tryz.prog 3) mp cnt DM:=map_keyG hm (fun o ho=>(hb2.block mp hml).trans ho);obtain⟨w3,hup,hm3,hg3⟩:∃w3,(Instr.mapUpdate 130 (.map (some mp)) (.agg #[.bool tv0,.string ⟨tn.toArray⟩]) (.int .i64 (n:Int))).run Tryz.prog w2=.ok () w3/\w3.ownsMap Tryz.prog 53 (plainElem Tryz.prog 3) mp (cnt+1) (DM.put (kM (tv0,tn)) (.lit (.int .i64 (n:Int))))/\w2.grownBy w3 (some mp):=hm2.update lawM underM (by unfold maxLen;omega) (keyM hfm) (plainElem_int (H:=Unit) (P:=Tryz.prog) (e:=3) (q:=.i64) (a:=(n:Int)) Tryz.underlying3 (by simp[Lit.wf,IntKind.min,IntKind.max,IntKind.bits,IntKind.signed];omega));have hmj:mp≠jb:=blk_ne_mapG h.blk hm;have haj:J.av.ownBlock≠some jb:=own_neG h.al h.blk (by decide);have hcj:J.cv.ownBlock≠some jb:=own_neG h.fi h.blk (by decide);have hz3:=hg3.size;have h23:∀k,k<w2.heap.size->k≠mp->w3.heap[k]?=w2.heap[k]?:=fun k hk hne=>hg3.block k hk (fun e=>hne (by injection e))
   have hblk3:w3.heap[jb]?=some (.cells J.cells 134 (0,0)):=(h23 jb (by omega) (fun e=>hmj e.symm)).trans ((hb2.block jb hjl).trans h.blk);have hbox3:w3.heap[w.heap.size]?=some (.cells #[.bool tv0,.string ⟨tn.toArray⟩] 53 (0,0)):=(h23 _ (by omega) (by omega)).trans ((hb12.block _ (by omega)).trans hbox);have KS3:Hid (w3.cell? ⟨jb,0,none⟩=some (.map (some mp))/\w3.cell? ⟨w.heap.size,0,none⟩=some (.bool tv0)/\w3.cell? ⟨w.heap.size,1,none⟩=some (.string ⟨tn.toArray⟩)):=zA (by
    obtain⟨c0,c1⟩:=two_cellsX hbox3;exact⟨by rw[<- h.sv];simp[World.cell?,hblk3,Jv.cells],c0,c1⟩)
   have hal3:w3.ownsRow B 3 1 J.av n ((List.range n).flatMap csI):=by
    rw[hn];exact owns_key h.al (fun g o hg2 ho=>by
     have:=(h.al.lt g hg2).2;exact(h23 g (by omega) (fun e=>own_ne_mapG h.al hm (e▸hg2))).trans ((hb2.block g this).trans ho))
   obtain⟨aa,ac,hav⟩:=own_slice hal3;obtain⟨ca,cc,hcv⟩:=own_slice h.fi;have hfl:=h.fl;rw[hfl,<- hn]at hcv;rw[hav]at hal3;have q1d:w2.cell? ⟨jb,1,none⟩=some (.slice aa n ac):=by
    have h1:=(hb2.block jb hjl).trans h.blk;rw[<- hav];simp[World.cell?,h1,Jv.cells]
   have q1a:w1.cell? ⟨jb,1,none⟩=some (.slice aa n ac):=by rw[hw2]at q1d;exact q1d
   have q1c:w3.cell? ⟨jb,1,none⟩=some (.slice aa n ac):=by
    rw[<- hav];simp[World.cell?,hblk3,Jv.cells]
   have HAL3:=zA hal3;have HSTEP:Hid (∀gg cap w5,w5.ownsRow B 3 1 (.slice (some ⟨gg,0,none⟩) (n+1) cap) (n+1) ((List.range n).flatMap csI++csI n)->(w3.alloc (.cells #[.int .i64 (n:Int)] 3)).grownBy w5 (Value.slice aa n ac).ownBlock->((Value.slice aa n ac).ownBlock=some gg\/gg=w3.heap.size+1)->
    (w5.cell? ⟨jb,1,none⟩=some (.slice aa n ac)/\w5.frozen? ⟨jb,1,none⟩=false)/\(∀u,Below w5.heap.size (w5.setCell ⟨jb,1,none⟩ (.slice (some ⟨gg,0,none⟩) (n+1) cap)) u->GrS S u gb V E mb nv ev DG cg/\(u.cell? ⟨jb,5,none⟩=some (.slice ca n cc)/\u.cell? ⟨w.heap.size,0,none⟩=some (.bool tv0)/\u.cell? ⟨w.heap.size,1,none⟩=some (.string ⟨tn.toArray⟩))/\u.ownsRow B 59 1 (.slice ca n cc) n (frs.flatMap csRow)/\w.heap.size<=u.heap.size)/\
    Hid (∀w8 lv,Below w5.heap.size (w5.setCell ⟨jb,1,none⟩ (.slice (some ⟨gg,0,none⟩) (n+1) cap)) w8->NatC (fun k=>w5.heap.size<=k) w8 lv (firstT V (tv0,tn))->∀g9 cap9 w9,w9.ownsRow B 59 1 (.slice (some ⟨g9,0,none⟩) (n+1) cap9) (n+1) (frs.flatMap csRow++[lv])->(w8.alloc (.cells #[lv] 59)).grownBy w9 (Value.slice ca n cc).ownBlock->((Value.slice ca n cc).ownBlock=some g9\/g9=w8.heap.size+1)->
     (w9.cell? ⟨jb,5,none⟩=some (.slice ca n cc)/\w9.frozen? ⟨jb,5,none⟩=false)/\Q (.returned (.int .i64 (n:Int))) (w9.setCell ⟨jb,5,none⟩ (.slice (some ⟨g9,0,none⟩) (n+1) cap9)))):=zA (fun gg cap w5 hr5 hg5 hat5=>by
    have hs5:w3.heap.size+1<=w5.heap.size:=by have:=hg5.size;simpa using this
    have hk5:∀k,k<w3.heap.size->(Value.slice aa n ac).ownBlock≠some k->w5.heap[k]?=w3.heap[k]?:=fun k hk hne=>grown_keep hg5 k hk hne
    rw[<- hav]at hk5 hat5;have hblk5:w5.heap[jb]?=some (.cells J.cells 134 (0,0)):=(hk5 jb (by omega) haj).trans hblk3;have hz6:(w5.setCell ⟨jb,1,none⟩ (.slice (some ⟨gg,0,none⟩) (n+1) cap)).heap.size=w5.heap.size:=by simp
    have hs6:∀k,k≠jb->(w5.setCell ⟨jb,1,none⟩ (.slice (some ⟨gg,0,none⟩) (n+1) cap)).heap[k]?=w5.heap[k]?:=fun k hk=>zN _ _ _ _ hk
    have hold6:∀k,k<w.heap.size->¬XS jb mp J k->(w5.setCell ⟨jb,1,none⟩ (.slice (some ⟨gg,0,none⟩) (n+1) cap)).heap[k]?=w.heap[k]?:=fun k hk hx=>(hs6 k (fun e=>hx (.inl e))).trans ((hk5 k (by omega) (fun e=>hx (.inr (.inr (.inl e))))).trans ((h23 k (by omega) (fun e=>hx (.inr (.inl e)))).trans (hb2.block k hk)))
    have hblk6:(w5.setCell ⟨jb,1,none⟩ (.slice (some ⟨gg,0,none⟩) (n+1) cap)).heap[jb]?=some (.cells ({ J with av:=.slice (some ⟨gg,0,none⟩) (n+1) cap }:Jv).cells 134 (0,0)):=by
     simp[World.setCell,Array.getElem?_modify,hblk5,Jv.cells]
    have hac:∀k,J.av.ownBlock=some k->J.cv.ownBlock≠some k:=fun k hk=>rows_neX h.al h.fi (by decide) hk
    have hU:∀u,Below w5.heap.size (w5.setCell ⟨jb,1,none⟩ (.slice (some ⟨gg,0,none⟩) (n+1) cap)) u->u.heap[jb]?=some (.cells ({ J with av:=.slice (some ⟨gg,0,none⟩) (n+1) cap }:Jv).cells 134 (0,0))/\u.ownsRow B 59 1 (.slice ca n cc) n (frs.flatMap csRow):=fun u hu=>by
     refine⟨(hu.block jb (by omega)).trans hblk6,?_⟩;have hfi:=h.fi;rw[hfl,<- hn]at hfi;rw[<- hcv];refine owns_key hfi (fun g o hg2 ho=>?_);have hgl:=(h.fi.lt g hg2).2;exact(hu.block g (by omega)).trans ((hs6 g (fun e=>hcj (e▸hg2))).trans ((hk5 g (by omega) (fun e=>hac g e hg2)).trans ((h23 g (by omega) (fun e=>own_ne_mapG h.fi hm (e▸hg2))).trans ((hb2.block g hgl).trans ho))))
    refine⟨?_,fun u hu=>⟨hg.keep (by have:=hu.size;omega) (fun k hk hl=>⟨hk,(hu.block k (by omega)).trans (hold6 k hl (hS k hk))⟩),?_,(hU u hu).2,by have:=hu.size;omega⟩,zA (fun w8 lv hb8 hL g9 cap9 w9 hr9 hg9 hat9=>?_)⟩
    . rw[<- hav];simp[World.cell?,World.frozen?,hblk5,Jv.cells]
    . have x1:=(hU u hu).1;have x2:u.heap[w.heap.size]?=_:=(hu.block w.heap.size (by omega)).trans ((hs6 _ (by omega)).trans ((hk5 _ (by omega) (fun e=>by have:=(h.al.lt _ e).2;omega)).trans hbox3));obtain⟨c0,c1⟩:=two_cellsX x2;refine⟨?_,c0,c1⟩;rw[<- hcv];simp[World.cell?,x1,Jv.cells]
    . have hs9:w8.heap.size+1<=w9.heap.size:=by have:=hg9.size;simpa using this
      have hk9:∀k,k<w8.heap.size->(Value.slice ca n cc).ownBlock≠some k->w9.heap[k]?=w8.heap[k]?:=fun k hk hne=>grown_keep hg9 k hk hne
      rw[<- hcv]at hk9 hat9;have hblk9:=(hk9 jb (by have:=hb8.size;omega) hcj).trans (hU w8 hb8).1;refine⟨by rw[<- hcv];simp[World.cell?,World.frozen?,hblk9,Jv.cells],?_⟩;rw[hQ];have hadd:addT ts (tv0,tn)=ts++[(tv0,tn)]:=by rw[addT,if_neg hmem]
      refine⟨by rw[hadd,idx_add hmem,hn],.slice (some ⟨gg,0,none⟩) (n+1) cap,.slice (some ⟨g9,0,none⟩) (n+1) cap9,?_⟩;rw[hadd];refine h.done hmem hfm hBw hb2 hcnt hm.isMap hT (by rw[<- hn];exact hm3) hg3 (by rw[<- hn];exact hr5) hk5 (by omega) (hg5.os.trans rfl) (hg5.tape.trans rfl) (hg5.output.trans rfl) (fun g hg2=>?_) hb8 hL (by rw[hfl,<- hn];exact hr9) hk9 (by omega) (hg9.os.trans rfl) (hg9.tape.trans rfl) (hg9.output.trans rfl) (fun g hg2=>?_)
      . have e:gg=g:=by simpa[Value.ownBlock]using hg2
        subst e;exact hat5.imp id (fun e=>by omega)
      . have e:g9=g:=by simpa[Value.ownBlock]using hg2
        subst e;exact hat9.imp id (fun e=>by omega))
   have hBs:B<=w3.heap.size:=by omega
   have HBs:=zA hBs;have hn1000:n<=1000:=by omega
   have HG:=zA hg;have hfn:tn.length<=140737488351232:=hf;have HBW:=zA hBw;have hup0:=hup;rw[hw2]at hup0;clear hup;have hup:=hup0;clear hup0;clear h hg hS hf hm hcnt hT hb1 hs1 hbox hw1 hmem hQ hfm hjl hml hBw hm2 hm3 hg3 hz3 h23 hblk3 hbox3 hal3 hav hcv hfl hb12 hb2 hs2 hzx hmj haj hcj hn htl hBs;go_enter Tryz.func72,Tryz.ntmps72;go_wp2_with fail;rw[HW1.out];refine wp_region_held_drew (S:=fun u=>u.cell? ⟨jb,0,none⟩=some (.map (some mp))/\u.cell? ⟨w.heap.size,0,none⟩=some (.bool tv0)/\u.cell? ⟨w.heap.size,1,none⟩=some (.string ⟨tn.toArray⟩)/\(Instr.lookup 130 (.map (some mp)) (.agg #[.bool tv0,.string ⟨tn.toArray⟩]) true).run Tryz.prog u=.ok (.tuple #[.int .i64 zx,.bool false]) u) (by kernel_rfl) ?_ (fun hHeld=>?_)
   . exact KS.out _ (zE _ _).drew
   refine tkH (i:=0) (oi:=⟨some 11,.move (.tmp 0),85, "join.go:57",#[],none⟩) (v:=?_) rfl ?_ hHeld ?_;rotate_left 1
   . rintro W ⟨l1,l2,l3,l4⟩;go_simp;try with_reducible rfl
   simp only[Act.put,zIB,zSZ,zSS];refine tkH (i:=1) (oi:=⟨some 12,.nilCheck (.tmp 11),0, "join.go:57",#[⟨0,.data⟩],none⟩) (v:=?_) rfl ?_ hHeld ?_;rotate_left 1
   . rintro W ⟨l1,l2,l3,l4⟩;go_simp;try with_reducible rfl
   simp only[Act.put,zIB,zSZ,zSS];refine tkH (i:=2) (oi:=⟨some 13,.fieldAddr 134 (.tmp 12) 0,0, "join.go:57",#[⟨1,.data⟩],none⟩) (v:=?_) rfl ?_ hHeld ?_;rotate_left 1
   . rintro W ⟨l1,l2,l3,l4⟩;go_simp;try with_reducible rfl
   simp only[Act.put,zIB,zSZ,zSS];refine tkH (i:=3) (oi:=⟨some 14,.load 130 (.tmp 13),130, "join.go:57",#[⟨2,.data⟩],none⟩) (v:=?_) rfl ?_ hHeld ?_;rotate_left 1
   . rintro W ⟨l1,l2,l3,l4⟩;go_simp;try with_reducible rfl
   simp only[Act.put,zIB,zSZ,zSS];refine tkH (i:=4) (oi:=⟨some 15,.load 53 (.tmp 5),53, "join.go:57",#[],none⟩) (v:=?_) rfl ?_ hHeld ?_;rotate_left 1
   . rintro W ⟨l1,l2,l3,l4⟩;go_simp;try with_reducible rfl
   simp only[Act.put,zIB,zSZ,zSS];refine tkH (i:=5) (oi:=⟨some 16,.lookup 130 (.tmp 14) (.tmp 15) true,123, "join.go:57",#[⟨3,.data⟩,⟨4,.data⟩],none⟩) (v:=?_) rfl ?_ hHeld ?_;rotate_left 1
   . rintro W ⟨l1,l2,l3,l4⟩;go_simp;try with_reducible rfl
   simp only[Act.put,zIB,zSZ,zSS];refine tkH (i:=6) (oi:=⟨some 10,.move (.tmp 16),123, "join.go:57",#[⟨5,.data⟩],none⟩) (v:=?_) rfl ?_ hHeld ?_;rotate_left 1
   . rintro W ⟨l1,l2,l3,l4⟩;go_simp;try with_reducible rfl
   simp only[Act.put,zIB,zSZ,zSS];refine tkH (i:=7) (oi:=⟨some 17,.extract (.tmp 10) 0,3, "join.go:57",#[⟨6,.data⟩],none⟩) (v:=?_) rfl ?_ hHeld ?_;rotate_left 1
   . rintro W ⟨l1,l2,l3,l4⟩;go_simp;try with_reducible rfl
   simp only[Act.put,zIB,zSZ,zSS];refine tkH (i:=8) (oi:=⟨some 18,.extract (.tmp 10) 1,4, "join.go:57",#[⟨6,.data⟩,{ on:=9,ground:=.gcOnly .lateStores }],none⟩) (v:=?_) rfl ?_ hHeld ?_;rotate_left 1
   . rintro W ⟨l1,l2,l3,l4⟩;go_simp;try with_reducible rfl
   simp only[Act.put,zIB,zSZ,zSS];refine tkH (i:=9) (oi:=⟨some 7,.assign (.tmp 17),3, "join.go:57",#[⟨7,.data⟩,⟨0,.phase⟩,⟨1,.phase⟩,⟨2,.phase⟩,⟨3,.phase⟩,⟨4,.phase⟩,⟨5,.phase⟩,⟨6,.phase⟩,⟨7,.phase⟩,{ on:=8,ground:=.textOnly .lateStores }],none⟩) (v:=?_) rfl ?_ hHeld ?_;rotate_left 1
   . rintro W ⟨l1,l2,l3,l4⟩;go_simp;try with_reducible rfl
   simp only[Act.put,zIB,zSZ,zSS];refine tkH (i:=10) (oi:=⟨some 8,.assign (.tmp 18),4, "join.go:57",#[⟨8,.data⟩,⟨9,.chain⟩,⟨0,.phase⟩,⟨1,.phase⟩,⟨2,.phase⟩,⟨3,.phase⟩,⟨4,.phase⟩,⟨5,.phase⟩,⟨6,.phase⟩,⟨7,.phase⟩,⟨8,.phase⟩,⟨9,.phase⟩],none⟩) (v:=?_) rfl ?_ hHeld ?_;rotate_left 1
   . rintro W ⟨l1,l2,l3,l4⟩;go_simp;try with_reducible rfl
   simp only[Act.put,zIB,zSZ,zSS];refine wpAnyH_done (by kernel_rfl) ?_ _;go_wp2_with fail;refine wp_region_held_drew (S:=fun u=>u.cell? ⟨jb,0,none⟩=some (.map (some mp))/\u.cell? ⟨w.heap.size,0,none⟩=some (.bool tv0)/\u.cell? ⟨w.heap.size,1,none⟩=some (.string ⟨tn.toArray⟩)) (by kernel_rfl) ?_ (fun hHeld=>?_)
   . exact K5.out _ (zE _ _).drew.drew
   refine tkH (i:=0) (oi:=⟨some 26,.move (.tmp 0),85, "join.go:62",#[],none⟩) (v:=?_) rfl ?_ hHeld ?_;rotate_left 1
   . rintro W ⟨l1,l2,l3⟩;go_simp;try with_reducible rfl
   simp only[Act.put,zIB,zSZ,zSS];refine tkH (i:=1) (oi:=⟨some 27,.nilCheck (.tmp 26),0, "join.go:62",#[⟨0,.data⟩],none⟩) (v:=?_) rfl ?_ hHeld ?_;rotate_left 1
   . rintro W ⟨l1,l2,l3⟩;go_simp;try with_reducible rfl
   simp only[Act.put,zIB,zSZ,zSS];refine tkH (i:=2) (oi:=⟨some 28,.fieldAddr 134 (.tmp 27) 0,0, "join.go:62",#[⟨1,.data⟩],none⟩) (v:=?_) rfl ?_ hHeld ?_;rotate_left 1
   . rintro W ⟨l1,l2,l3⟩;go_simp;try with_reducible rfl
   simp only[Act.put,zIB,zSZ,zSS];refine tkH (i:=3) (oi:=⟨some 29,.load 130 (.tmp 28),130, "join.go:62",#[⟨2,.data⟩],none⟩) (v:=?_) rfl ?_ hHeld ?_;rotate_left 1
   . rintro W ⟨l1,l2,l3⟩;go_simp;try with_reducible rfl
   simp only[Act.put,zIB,zSZ,zSS];refine tkH (i:=4) (oi:=⟨some 30,.load 53 (.tmp 5),53, "join.go:62",#[],none⟩) (v:=?_) rfl ?_ hHeld ?_;rotate_left 1
   . rintro W ⟨l1,l2,l3⟩;go_simp;try with_reducible rfl
   simp only[Act.put,zIB,zSZ,zSS];refine tkH (i:=5) (oi:=⟨some 31,.move (.tmp 7),3, "join.go:62",#[],none⟩) (v:=?_) rfl ?_ hHeld ?_;rotate_left 1
   . rintro W ⟨l1,l2,l3⟩;go_simp;try with_reducible rfl
   simp only[Act.put,zIB,zSZ,zSS];refine wpAnyH_ready (rs:=[6]) (by kernel_rfl) (by simp) ?_;refine AllReadyH.cons (o:=⟨none,.mapUpdate 130 (.tmp 29) (.tmp 30) (.tmp 31),0, "join.go:62",#[⟨3,.data⟩,⟨4,.data⟩,⟨5,.data⟩,⟨0,.phase⟩,⟨1,.phase⟩,⟨2,.phase⟩,⟨3,.phase⟩,⟨4,.phase⟩,⟨5,.phase⟩],none⟩) rfl (fun K hK=>?_) AllReadyH.nil;go_simp;refine hK.out _ _ KS3.out (fun hHeld=>?_);clear hK K hup;refine wpAnyH_done (by kernel_rfl) ?_ _;clear KS3 hw2 q1d q1a K5 KS;go_wp2_with (at_builtin;refine wpList_append_lies _ rfl _ _ _ rfl B 3 i0 _ 1 8 Tryz.underlying59 hi0 hz0 hz1 hz2 rfl (by decide) (.slice aa n ac) _ _ (by rfl) (HAL3.out.alloc _) ⟨w3.heap.size,0,none⟩ 1 1 (csI n) (by rfl) (by rfl) ?d1 ?d2 (by decide) ?d3 ?d4 ?d5 (w3.heap.size+1) (by simp) ?_)
   case d1=>exact World.news_of_block (cs:=#[.int .i64 (n:Int)]) (t:=3) (fr:=(0,0)) (heap_alloc_new w3 _)
   case d2=>simp[Value.oneCell']
   case d3=>unfold maxLen;omega
   case d4=>omega
   case d5=>have:=HBs.out;simp;omega
   intro gg cap w5 hr5 hg5 hat5 hlt5;obtain⟨⟨x1,x2⟩,hU,HF⟩:=HSTEP.out gg cap w5 hr5 hg5 hat5;have HU:=zA hU;obtain⟨w6,hw6⟩:∃W,W=w5.setCell ⟨jb,1,none⟩ (.slice (some ⟨gg,0,none⟩) (n+1) cap):=⟨_,rfl⟩
   have hz6:w6.heap.size=w5.heap.size:=by rw[hw6];simp
   rw[<- hw6]at HU HF;have HZ6:=zA hz6;obtain⟨hg6,⟨y5,y0,y1⟩,_,_⟩:=HU.out w6 (zE _ _);have CV:=zA (vertex_any hg6 tn hfn);have HW6:=zA hw6;clear hr5 hg5 hat5 hlt5 hU hz6 hg6 HSTEP;rw[hw6]at y0 y1 y5;clear hw6;go_wp2_with fail;rw[<- HW6.out];refine CV.out.mono ?_;rintro e w7 ⟨v7,rfl,hv7,hb7⟩;rw[HZ6.out]at hv7 hb7;obtain⟨hg7,⟨p5,p0,p1⟩,hfi7,hsz7⟩:=HU.out w7 hb7;obtain⟨va7,vc7,hve7⟩:=hv7.1.slice;obtain⟨n7,hn7⟩:∃q,q=(vertexL V tn).length:=⟨_,rfl⟩
   rw[<- hn7]at hve7;clear hn7 y0 y1 y5 x1 x2 q1c;cases tv0 with
   |false=>
    have HV7:Hid (NatC (fun k=>w5.heap.size<=k) w7 (.slice va7 n7 vc7) (firstT V (false,tn))):=zA (by rw[<- hve7];exact hv7);have HFI:=zA hfi7;have H9:=zA (HF.out w7 (.slice va7 n7 vc7) hb7 HV7.out);have HBs7:Hid (B<=w7.heap.size):=zA (by have:=HBW.out;omega);subst hve7;clear hv7 hb7 hg7 hfi7 HF hsz7;go_wp2_with (at_builtin;refine wpList_append_lies _ rfl _ _ _ rfl B 59 i1 _ 1 24 Tryz.underlying132 hi1 hy0 hy1 hy2 rfl (by decide) (.slice ca n cc) _ _ (by rfl) (HFI.out.alloc _) ⟨w7.heap.size,0,none⟩ 1 1 [.slice va7 n7 vc7] (by rfl) (by rfl) ?f1 ?f2 (by decide) ?f3 ?f4 ?f5 (w7.heap.size+1) (by simp) ?_)
    case f1=>exact World.news_of_block (cs:=#[.slice va7 n7 vc7]) (t:=59) (fr:=(0,0)) (heap_alloc_new w7 _)
    case f2=>simp[Value.oneCell']
    case f3=>unfold maxLen;omega
    case f4=>omega
    case f5=>have:=HBs7.out;simp;omega
    intro g9 cap9 w9 hr9 hg9 hat9 hlt9;obtain⟨⟨z1,z2⟩,hq⟩:=H9.out g9 cap9 w9 hr9 hg9 hat9;have HQ9:=zA hq;clear hr9 hg9 hat9 hlt9 hq H9;go_wp2;all_goals (first|(go_ret;exact HQ9.out)|exact HQ9.out)
   |true=>
    have CW:=zA (vertices_any hg7 (by omega));subst hve7;clear hv7 hg7 hfi7 hsz7;have HB7:=zA hb7;clear hb7;obtain⟨nV,hnV⟩:∃q,q=V.length:=⟨_,rfl⟩
    rw[<- hnV]at CW;have HNV:=zA hnV;clear hnV;go_wp2_with fail;refine CW.out.mono ?_;rintro e w8 ⟨rfl,hv8,hb8⟩;have hb8w:Below w5.heap.size w6 w8:=HB7.out.trans (hb8.mono (by have:=HB7.out.size;have:=HZ6.out;omega));obtain⟨_,⟨r5,r0,r1⟩,hfi8,hsz8⟩:=HU.out w8 hb8w;have HV8:Hid (NatC (fun k=>w5.heap.size<=k) w8 (.slice (some ⟨w7.heap.size,0,none⟩) nV nV) (firstT V (true,tn))):=zA (by
     have hz7:w5.heap.size<=w7.heap.size:=by have:=HB7.out.size;have:=HZ6.out;omega
     have e:firstT V (true,tn)=List.range nV:=by rw[firstT,if_pos rfl,HNV.out]
     rw[e];refine⟨(hv8.sl (fun _=>rfl) (by simp)).sub (fun k hk _=>by have hk:k=w7.heap.size:=hk;omega),some ⟨w7.heap.size,0,none⟩,nV,by rw[List.length_range],by rw[List.length_range];exact zD _⟩)
    have HFI:=zA hfi8;have H9:=zA (HF.out w8 _ hb8w HV8.out);have HBs8:Hid (B<=w8.heap.size):=zA (by have:=HBW.out;omega);clear hv8 hb8 hb8w hfi8 hsz8 HF p5 p0 p1;go_wp2_with (at_builtin;refine wpList_append_lies _ rfl _ _ _ rfl B 59 i1 _ 1 24 Tryz.underlying132 hi1 hy0 hy1 hy2 rfl (by decide) (.slice ca n cc) _ _ (by rfl) (HFI.out.alloc _) ⟨w8.heap.size,0,none⟩ 1 1 [.slice (some ⟨w7.heap.size,0,none⟩) nV nV] (by rfl) (by rfl) ?f1 ?f2 (by decide) ?f3 ?f4 ?f5 (w8.heap.size+1) (by simp) ?_)
    case f1=>exact World.news_of_block (cs:=#[.slice (some ⟨w7.heap.size,0,none⟩) nV nV]) (t:=59) (fr:=(0,0)) (heap_alloc_new w8 _)
    case f2=>simp[Value.oneCell']
    case f3=>unfold maxLen;omega
    case f4=>omega
    case f5=>have:=HBs8.out;simp;omega
    intro g9 cap9 w9 hr9 hg9 hat9 hlt9;obtain⟨⟨z1,z2⟩,hq⟩:=H9.out g9 cap9 w9 hr9 hg9 hat9;have HQ9:=zA hq;clear hr9 hg9 hat9 hlt9 hq H9;go_wp2;all_goals (first|(go_ret;exact HQ9.out)|exact HQ9.out)
theorem Pool.pair{w:World}{l:List Sx}(h:Pool w l):l.Pairwise (fun x y=>(∀k,OwnX x k->¬OwnX y k)):=by
 rw[List.pairwise_iff_getElem];intro i j hi hj hij;exact h.apart i j _ _ (zB hi) (zB hj) (by omega)
theorem pool_of{w:World}{l:List Sx}(h1:∀x∈l,∃s,SrS (fun k=>k<w.heap.size/\¬OwnX x k) w x.1 x.2.1 s x.2.2/\Rest x.2.1 s)(h2:l.Pairwise (fun x y=>(∀k,OwnX x k->¬OwnX y k)))(h3:∀x∈l,∀y∈l,∀k,x.2.1.kp k->¬OwnX y k):Pool w l:=by
 refine⟨h1,fun i j x y hi hj hne k hx hy=>?_,h3⟩;obtain⟨hi1,rfl⟩:=zF.1 hi;obtain⟨hj1,rfl⟩:=zF.1 hj;rw[List.pairwise_iff_getElem]at h2;rcases Nat.lt_or_gt_of_ne hne with h|h
 . exact h2 i j hi1 hj1 h k hx hy
 . exact h2 j i hj1 hi1 h k hy hx
theorem Pool.perm{w:World}{l l':List Sx}(h:Pool w l)(hp:l.Perm l'):Pool w l':=
 pool_of (fun x hx=>h.at_ x (hp.mem_iff.2 hx)) ((hp.pairwise_iff (fun {_ _} hxy k h1 h2=>hxy k h2 h1)).1 h.pair) (fun x hx y hy=>h.kp x (hp.mem_iff.2 hx) y (hp.mem_iff.2 hy))
theorem Pool.add{w w':World}{l:List Sx}(h:Pool w l)(hb:Below w.heap.size w w'){x:Sx}(hx:∃s,SrS (fun k=>k<w'.heap.size/\¬OwnX x k) w' x.1 x.2.1 s x.2.2/\Rest x.2.1 s)(ho:∀k,OwnX x k->w.heap.size<=k)(hk:∀k,x.2.1.kp k->w.heap.size<=k):Pool w' (l++[x]):=by
 have h':=h.below hb;obtain⟨s,hs,_⟩:=hx;refine pool_of (fun y hy=>?_) ?_ (fun y hy z hz k hky hoz=>?_)
 . rcases zM.1 hy with hy|hy
   . exact h'.at_ y hy
   . rw[zK.1 hy];exact⟨s,hs,by assumption⟩
 . rw[List.pairwise_append];refine⟨h'.pair,List.pairwise_singleton _ _,fun y hy z hz k h1 h2=>?_⟩;rw[zK.1 hz]at h2;have:=h.own_lt hy h1;have:=ho k h2;omega
 . rcases zM.1 hy with hy|hy
   . rcases zM.1 hz with hz|hz
     . exact h'.kp y hy z hz k hky hoz
     . rw[zK.1 hz]at hoz;have:=h.kp_lt hy hky;have:=ho k hoz;omega
   . rw[zK.1 hy]at hky;rcases zM.1 hz with hz|hz
     . have:=h.own_lt hz hoz;have:=hk k hky;omega
     . rw[zK.1 hz]at hoz;exact(hs.kS k hky).2 hoz
def XJ(jb mp:Nat)(J:Jv)(k:Nat):Prop:=XS jb mp J k\/J.lv.ownBlock=some k\/J.rv.ownBlock=some k
structure JB (B:Nat) (V:List Wd) (w0 w:World) (jb mp:Nat) (J:Jv) (ts:List Tm) (frs:List (Value×List Nat)) (D:Nat->Prop) (lks rks:List Lm) (l:List Sx):Prop where
 bel:Below B w0 w
 sl:SL B V w jb mp J ts frs D
 Bw:B<=w.heap.size
 li:w.ownsRow B 140 4 J.lv lks.length (lks.flatMap csL)
 ri:w.ownsRow B 140 4 J.rv rks.length (rks.flatMap csL)
 lr:∀k,J.lv.ownBlock=some k->J.rv.ownBlock≠some k
 pool:Pool w l
 pB:∀x∈l,∀k,(OwnX x k\/x.2.1.kp k)->B<=k
 px:∀k,XJ jb mp J k->∀x∈l,¬OwnX x k/\¬x.2.1.kp k
 pd:∀k,D k->∀x∈l,¬OwnX x k
 dl:∀k,D k->J.lv.ownBlock≠some k/\J.rv.ownBlock≠some k
 fv:J.fv=.slice none 0 0
 vv:J.vv=.slice none 0 0
section
variable {B:Nat} {V:List Wd} {w0 w w':World} {jb mp:Nat} {J J':Jv} {ts:List Tm} {frs:List (Value×List Nat)} {D:Nat->Prop} {lks rks:List Lm} {l:List Sx}
theorem JB.lx(h:JB B V w0 w jb mp J ts frs D lks rks l){v:Value}{n:Nat}{xs:List Value}(hv:w.ownsRow B 140 4 v n xs){k:Nat}(hk:v.ownBlock=some k):¬XS jb mp J k:=fun hx=>by
 obtain⟨_,_,hm,_⟩:=h.sl.map;rcases hx with rfl|rfl|hx|hx
 . exact own_neG hv h.sl.blk (by decide) hk
 . exact own_ne_mapG hv hm hk
 . exact rows_neX h.sl.al hv (by decide) hx hk
 . exact rows_neX h.sl.fi hv (by decide) hx hk
theorem JB.xlt(h:JB B V w0 w jb mp J ts frs D lks rks l){k:Nat}(hk:XJ jb mp J k):B<=k/\k<w.heap.size:=by
 rcases hk with hk|hk|hk
 . exact h.sl.xlt hk
 . exact h.li.lt k hk
 . exact h.ri.lt k hk
theorem JB.below(h:JB B V w0 w jb mp J ts frs D lks rks l)(hb:Below w.heap.size w w'):JB B V w0 w' jb mp J ts frs D lks rks l:=
 ⟨h.bel.trans (hb.mono h.Bw),h.sl.keep hb.size (fun k hk=>hb.block k (hk.elim (fun h1=>(h.sl.xlt h1).2) (fun h1=>(h.sl.dl k h1).2))),zT h.Bw hb.size,owns_below h.li hb,owns_below h.ri hb,h.lr,h.pool.below hb,h.pB,h.px,h.pd,h.dl,h.fv,h.vv⟩
theorem JB.slot{t:Tm}{e:Ending}(h:JB B V w0 w jb mp J ts frs D lks rks l)(hs:SloE B V w jb mp J ts D t e w'):∃J' frs' D',e=.returned (.int .i64 ((addT ts t).idxOf t:Nat))/\JB B V w0 w' jb mp J' (addT ts t) frs' D' lks rks l/\Fr (fun k=>k<w.heap.size/\¬XJ jb mp J k) w w'/\(∀k,XJ jb mp J' k->XJ jb mp J k\/w.heap.size<=k)/\(∀k,D' k->D k\/w.heap.size<=k):=by
 obtain⟨he,av,cv,frs',D',h1,h2,h3,h4⟩:=hs;have hown:∀k,k<w.heap.size->¬XS jb mp J k->w'.heap[k]?=w.heap[k]?:=fun k hk hx=>h4.block k ⟨hk,hx⟩
 have hxj:∀k,XJ jb mp { J with av:=av,cv:=cv } k->XJ jb mp J k\/w.heap.size<=k:=fun k hk=>by
  rcases hk with hk|hk|hk
  . exact(h2 k hk).imp .inl id
  . exact .inl (.inr (.inl hk))
  . exact .inl (.inr (.inr hk))
 refine⟨_,frs',D',he,⟨?_,h1,zT h.Bw h4.size,?_,?_,h.lr,?_,h.pB,fun k hk x hx=>?_,fun k hk x hx ho=>?_,fun k hk=>?_,h.fv,h.vv⟩,h4.sub (fun k hk=>⟨hk.1,fun hx=>hk.2 (.inl hx)⟩),hxj,h3⟩
 . exact⟨h4.os.trans h.bel.os,h4.tape.trans h.bel.tape,h4.output.trans h.bel.output,zT h.bel.size h4.size,fun k hk=>(hown k (zQ hk h.Bw) (fun hx=>by have:=(h.sl.xlt hx).1;omega)).trans (h.bel.block k hk)⟩
 . exact owns_key h.li (fun g o hg ho=>(hown g (h.li.lt g hg).2 (h.lx h.li hg)).trans ho)
 . exact owns_key h.ri (fun g o hg ho=>(hown g (h.ri.lt g hg).2 (h.lx h.ri hg)).trans ho)
 . exact h.pool.keep h4.size (fun x hx k hk=>hown k (hk.elim (h.pool.own_lt hx) (h.pool.kp_lt hx)) (fun hxs=>hk.elim (h.px k (.inl hxs) x hx).1 (h.px k (.inl hxs) x hx).2))
 . rcases hxj k hk with h5|h5
   . exact h.px k h5 x hx
   . exact⟨fun ho=>by have:=h.pool.own_lt hx ho;omega,fun hkp=>by have:=h.pool.kp_lt hx hkp;omega⟩
 . rcases h3 k hk with h5|h5
   . exact h.pd k h5 x hx ho
   . have:=h.pool.own_lt hx ho;omega
 . rcases h3 k hk with h5|h5
   . exact h.dl k h5
   . exact⟨fun e=>by have:=(h.li.lt k e).2;omega,fun e=>by have:=(h.ri.lt k e).2;omega⟩
theorem JB.search{n:Nat}{E:List Eg}{a:Au}{e:Ending}(h:JB B V w0 w jb mp J ts frs D lks rks l)(hs:NewE w n E a e w'):∃sb m kp,e=.returned (.pointer (some ⟨sb,0,none⟩))/\JB B V w0 w' jb mp J ts frs D lks rks (l++[(sb,sdOf kp n E a,m)])/\Below w.heap.size w w'/\(∀k,OwnB sb m k\/kp k->w.heap.size<=k):=by
 obtain⟨sb,m,kp,he,h1,h2,h3,h4⟩:=hs;have h':=h.below h4;have hd:(sdOf kp n E a).n=n:=rfl;have hkp:(sdOf kp n E a).kp=kp:=rfl;have hpool:=h.pool.add h4 (x:=(sb,sdOf kp n E a,m)) ⟨_,h1,rest_new (sdOf kp n E a)⟩ h2 (fun k hk=>(h3 k hk).1);refine⟨sb,m,kp,he,⟨h'.bel,h'.sl,h'.Bw,h'.li,h'.ri,h'.lr,hpool,fun x hx k hk=>?_,fun k hk x hx=>?_,fun k hk x hx ho=>?_,h'.dl,h'.fv,h'.vv⟩,h4,fun k hk=>hk.elim (h2 k) (fun h5=>(h3 k h5).1)⟩
 . rcases zM.1 hx with hx|hx
   . exact h.pB x hx k hk
   . rw[zK.1 hx]at hk;have hBw:=h.Bw;rcases hk with hk|hk
     . have:=h2 k hk;omega
     . have:=(h3 k hk).1;omega
 . have hkl:=(h.xlt hk).2;rcases zM.1 hx with hx|hx
   . exact h.px k hk x hx
   . rw[zK.1 hx];exact⟨fun ho=>by have:=h2 k ho;omega,fun hkp=>by have:=(h3 k hkp).1;omega⟩
 . rcases zM.1 hx with hx|hx
   . exact h.pd k hk x hx ho
   . rw[zK.1 hx]at ho;have:=h2 k ho;have:=(h.sl.dl k hk).2;omega
theorem JB.perm{l':List Sx}(h:JB B V w0 w jb mp J ts frs D lks rks l)(hp:l.Perm l'):JB B V w0 w jb mp J ts frs D lks rks l':=
 ⟨h.bel,h.sl,h.Bw,h.li,h.ri,h.lr,h.pool.perm hp,fun x hx=>h.pB x (hp.mem_iff.2 hx),fun k hk x hx=>h.px k hk x (hp.mem_iff.2 hx),fun k hk x hx=>h.pd k hk x (hp.mem_iff.2 hx),h.dl,h.fv,h.vv⟩
theorem JB.putL{wz w9:World}{v9:Value}{L:Lm}(h:JB B V w0 w jb mp J ts frs D lks rks l)(hb:Below w.heap.size w wz)(hr:w9.ownsRow B 140 4 v9 (lks.length+1) (lks.flatMap csL++csL L))(hk9:∀k,k<wz.heap.size->J.lv.ownBlock≠some k->w9.heap[k]?=wz.heap[k]?)(hz9:wz.heap.size<=w9.heap.size)(ho:w9.os=wz.os)(ht:w9.tape=wz.tape)(hu:w9.output=wz.output)(ha:∀g,v9.ownBlock=some g->J.lv.ownBlock=some g\/wz.heap.size<=g):
 JB B V w0 (w9.setCell ⟨jb,3,none⟩ v9) jb mp { J with lv:=v9 } ts frs D (lks++[L]) rks l/\Fr (fun k=>k<w.heap.size/\¬XJ jb mp J k) w (w9.setCell ⟨jb,3,none⟩ v9)/\(∀k,XJ jb mp { J with lv:=v9 } k->XJ jb mp J k\/w.heap.size<=k):=by
 have hz:=hb.size;have hjl:=lt_of_block h.sl.blk;have hBw:=h.Bw;have hfj:J.lv.ownBlock≠some jb:=fun e=>h.lx h.li e (.inl rfl)
 have hset:∀k,k≠jb->(w9.setCell ⟨jb,3,none⟩ v9).heap[k]?=w9.heap[k]?:=fun k hk=>zN _ _ _ _ hk
 have hsz:(w9.setCell ⟨jb,3,none⟩ v9).heap.size=w9.heap.size:=by simp
 have hblk9:w9.heap[jb]?=some (.cells J.cells 134 (0,0)):=(hk9 jb (by omega) hfj).trans ((hb.block jb hjl).trans h.sl.blk);have hblkF:(w9.setCell ⟨jb,3,none⟩ v9).heap[jb]?=some (.cells ({ J with lv:=v9 }:Jv).cells 134 (0,0)):=by
  simp[World.setCell,Array.getElem?_modify,hblk9,Jv.cells]
 have hold:∀k,k<w.heap.size->k≠jb->J.lv.ownBlock≠some k->(w9.setCell ⟨jb,3,none⟩ v9).heap[k]?=w.heap[k]?:=fun k hk h1 h2=>(hset k h1).trans ((hk9 k (by omega) h2).trans (hb.block k hk))
 have hxs:∀k,XS jb mp { J with lv:=v9 } k↔XS jb mp J k:=fun k=>Iff.rfl
 have hxj:∀k,XJ jb mp { J with lv:=v9 } k->XJ jb mp J k\/w.heap.size<=k:=fun k hk=>by
  rcases hk with hk|hk|hk
  . exact .inl (.inl hk)
  . rcases ha k hk with h1|h1
    . exact .inl (.inr (.inl h1))
    . exact .inr (by omega)
  . exact .inl (.inr (.inr hk))
 obtain⟨cnt,DM,hm,hm2⟩:=h.sl.map;have hmj:mp≠jb:=blk_ne_mapG h.sl.blk hm;have hnl:∀k,XS jb mp J k->J.lv.ownBlock≠some k:=fun k hk e=>h.lx h.li e hk
 have hnj:∀ {v:Value} {e:TypeId} {s n:Nat} {xs:List Value},w.ownsRow B e s v n xs->e≠134->∀g,v.ownBlock=some g->g≠jb:=fun hv hne g hg e=>own_neG hv h.sl.blk hne (e▸hg)
 refine⟨⟨?_,⟨hblkF,h.sl.sv,h.sl.jB,h.sl.mB,⟨cnt,DM,map_keyG hm (fun o ho2=>(hold mp hm.lt hmj (hnl mp (.inr (.inl rfl)))).trans ho2),hm2⟩,owns_key h.sl.al (fun g o hg ho2=>(hold g (h.sl.al.lt g hg).2 (hnj h.sl.al (by decide) g hg) (hnl g (.inr (.inr (.inl hg))))).trans ho2),owns_key h.sl.fi (fun g o hg ho2=>(hold g (h.sl.fi.lt g hg).2 (hnj h.sl.fi (by decide) g hg) (hnl g (.inr (.inr (.inr hg))))).trans ho2),h.sl.frc,fun r hr2=>(h.sl.fat r hr2).keep (by omega) (fun k hk hl=>⟨hk,hold k hl (fun e=>h.sl.dx k hk (.inl e)) (h.dl k hk).1⟩),fun k hk=>⟨(h.sl.dl k hk).1,by have:=(h.sl.dl k hk).2;omega⟩,h.sl.dx⟩,by omega,?_,?_,?_,?_,h.pB,fun k hk x hx=>?_,h.pd,?_,h.fv,h.vv⟩,⟨ho.trans hb.os,ht.trans hb.tape,hu.trans hb.output,by omega,fun k hk=>hold k hk.1 (fun e=>hk.2 (.inl (.inl e))) (fun e=>hk.2 (.inr (.inl e)))⟩,hxj⟩
 . exact⟨(ho.trans hb.os).trans h.bel.os,(ht.trans hb.tape).trans h.bel.tape,(hu.trans hb.output).trans h.bel.output,by have:=h.bel.size;omega,fun k hk=>(hold k (by omega) (fun e=>by have:=h.sl.jB;omega) (fun e=>by have:=(h.li.lt k e).1;omega)).trans (h.bel.block k hk)⟩
 . exact owns_key (show w9.ownsRow B 140 4 v9 (lks++[L]).length ((lks++[L]).flatMap csL)from by rw[zG,zR];simpa using hr) (fun g o hg ho2=>(hset g (fun e=>by
    rcases ha g hg with h1|h1
    . exact hfj (e▸h1)
    . omega)).trans ho2)
 . exact owns_key h.ri (fun g o hg ho2=>(hold g (h.ri.lt g hg).2 (hnj h.ri (by decide) g hg) (fun e=>h.lr g e hg)).trans ho2)
 . intro k hk e;rcases ha k hk with h1|h1
   . exact h.lr k h1 e
   . have:=(h.ri.lt k e).2;omega
 . exact h.pool.keep (by omega) (fun x hx k hk=>hold k (hk.elim (h.pool.own_lt hx) (h.pool.kp_lt hx)) (fun e=>hk.elim (h.px k (.inl (.inl e)) x hx).1 (h.px k (.inl (.inl e)) x hx).2) (fun e=>hk.elim (h.px k (.inr (.inl e)) x hx).1 (h.px k (.inr (.inl e)) x hx).2))
 . rcases hxj k hk with h5|h5
   . exact h.px k h5 x hx
   . exact⟨fun ho2=>by have:=h.pool.own_lt hx ho2;omega,fun hkp=>by have:=h.pool.kp_lt hx hkp;omega⟩
 . intro k hk;have hkl:=(h.sl.dl k hk).2;have hnew:v9.ownBlock≠some k:=fun e=>by
    rcases ha k e with h1|h1
    . exact(h.dl k hk).1 h1
    . omega
   exact⟨hnew,(h.dl k hk).2⟩
theorem JB.putR{wz w9:World}{v9:Value}{L:Lm}(h:JB B V w0 w jb mp J ts frs D lks rks l)(hb:Below w.heap.size w wz)(hr:w9.ownsRow B 140 4 v9 (rks.length+1) (rks.flatMap csL++csL L))(hk9:∀k,k<wz.heap.size->J.rv.ownBlock≠some k->w9.heap[k]?=wz.heap[k]?)(hz9:wz.heap.size<=w9.heap.size)(ho:w9.os=wz.os)(ht:w9.tape=wz.tape)(hu:w9.output=wz.output)(ha:∀g,v9.ownBlock=some g->J.rv.ownBlock=some g\/wz.heap.size<=g):
 JB B V w0 (w9.setCell ⟨jb,4,none⟩ v9) jb mp { J with rv:=v9 } ts frs D lks (rks++[L]) l/\Fr (fun k=>k<w.heap.size/\¬XJ jb mp J k) w (w9.setCell ⟨jb,4,none⟩ v9)/\(∀k,XJ jb mp { J with rv:=v9 } k->XJ jb mp J k\/w.heap.size<=k):=by
 have hz:=hb.size;have hjl:=lt_of_block h.sl.blk;have hBw:=h.Bw;have hfj:J.rv.ownBlock≠some jb:=fun e=>h.lx h.ri e (.inl rfl)
 have hset:∀k,k≠jb->(w9.setCell ⟨jb,4,none⟩ v9).heap[k]?=w9.heap[k]?:=fun k hk=>zN _ _ _ _ hk
 have hsz:(w9.setCell ⟨jb,4,none⟩ v9).heap.size=w9.heap.size:=by simp
 have hblk9:w9.heap[jb]?=some (.cells J.cells 134 (0,0)):=(hk9 jb (by omega) hfj).trans ((hb.block jb hjl).trans h.sl.blk);have hblkF:(w9.setCell ⟨jb,4,none⟩ v9).heap[jb]?=some (.cells ({ J with rv:=v9 }:Jv).cells 134 (0,0)):=by
  simp[World.setCell,Array.getElem?_modify,hblk9,Jv.cells]
 have hold:∀k,k<w.heap.size->k≠jb->J.rv.ownBlock≠some k->(w9.setCell ⟨jb,4,none⟩ v9).heap[k]?=w.heap[k]?:=fun k hk h1 h2=>(hset k h1).trans ((hk9 k (by omega) h2).trans (hb.block k hk))
 have hxs:∀k,XS jb mp { J with rv:=v9 } k↔XS jb mp J k:=fun k=>Iff.rfl
 have hxj:∀k,XJ jb mp { J with rv:=v9 } k->XJ jb mp J k\/w.heap.size<=k:=fun k hk=>by
  rcases hk with hk|hk|hk
  . exact .inl (.inl hk)
  . exact .inl (.inr (.inl hk))
  . rcases ha k hk with h1|h1
    . exact .inl (.inr (.inr h1))
    . exact .inr (by omega)
 obtain⟨cnt,DM,hm,hm2⟩:=h.sl.map;have hmj:mp≠jb:=blk_ne_mapG h.sl.blk hm;have hnl:∀k,XS jb mp J k->J.rv.ownBlock≠some k:=fun k hk e=>h.lx h.ri e hk
 have hnj:∀ {v:Value} {e:TypeId} {s n:Nat} {xs:List Value},w.ownsRow B e s v n xs->e≠134->∀g,v.ownBlock=some g->g≠jb:=fun hv hne g hg e=>own_neG hv h.sl.blk hne (e▸hg)
 refine⟨⟨?_,⟨hblkF,h.sl.sv,h.sl.jB,h.sl.mB,⟨cnt,DM,map_keyG hm (fun o ho2=>(hold mp hm.lt hmj (hnl mp (.inr (.inl rfl)))).trans ho2),hm2⟩,owns_key h.sl.al (fun g o hg ho2=>(hold g (h.sl.al.lt g hg).2 (hnj h.sl.al (by decide) g hg) (hnl g (.inr (.inr (.inl hg))))).trans ho2),owns_key h.sl.fi (fun g o hg ho2=>(hold g (h.sl.fi.lt g hg).2 (hnj h.sl.fi (by decide) g hg) (hnl g (.inr (.inr (.inr hg))))).trans ho2),h.sl.frc,fun r hr2=>(h.sl.fat r hr2).keep (by omega) (fun k hk hl=>⟨hk,hold k hl (fun e=>h.sl.dx k hk (.inl e)) (h.dl k hk).2⟩),fun k hk=>⟨(h.sl.dl k hk).1,by have:=(h.sl.dl k hk).2;omega⟩,h.sl.dx⟩,by omega,?_,?_,?_,?_,h.pB,fun k hk x hx=>?_,h.pd,?_,h.fv,h.vv⟩,⟨ho.trans hb.os,ht.trans hb.tape,hu.trans hb.output,by omega,fun k hk=>hold k hk.1 (fun e=>hk.2 (.inl (.inl e))) (fun e=>hk.2 (.inr (.inr e)))⟩,hxj⟩
 . exact⟨(ho.trans hb.os).trans h.bel.os,(ht.trans hb.tape).trans h.bel.tape,(hu.trans hb.output).trans h.bel.output,by have:=h.bel.size;omega,fun k hk=>(hold k (by omega) (fun e=>by have:=h.sl.jB;omega) (fun e=>by have:=(h.ri.lt k e).1;omega)).trans (h.bel.block k hk)⟩
 . exact owns_key h.li (fun g o hg ho2=>(hold g (h.li.lt g hg).2 (hnj h.li (by decide) g hg) (h.lr g hg)).trans ho2)
 . exact owns_key (show w9.ownsRow B 140 4 v9 (rks++[L]).length ((rks++[L]).flatMap csL)from by rw[zG,zR];simpa using hr) (fun g o hg ho2=>(hset g (fun e=>by
    rcases ha g hg with h1|h1
    . exact hfj (e▸h1)
    . omega)).trans ho2)
 . intro k hk e;rcases ha k e with h1|h1
   . exact h.lr k hk h1
   . have:=(h.li.lt k hk).2;omega
 . exact h.pool.keep (by omega) (fun x hx k hk=>hold k (hk.elim (h.pool.own_lt hx) (h.pool.kp_lt hx)) (fun e=>hk.elim (h.px k (.inl (.inl e)) x hx).1 (h.px k (.inl (.inl e)) x hx).2) (fun e=>hk.elim (h.px k (.inr (.inr e)) x hx).1 (h.px k (.inr (.inr e)) x hx).2))
 . rcases hxj k hk with h5|h5
   . exact h.px k h5 x hx
   . exact⟨fun ho2=>by have:=h.pool.own_lt hx ho2;omega,fun hkp=>by have:=h.pool.kp_lt hx hkp;omega⟩
 . intro k hk;have hkl:=(h.sl.dl k hk).2;have hnew:v9.ownBlock≠some k:=fun e=>by
    rcases ha k e with h1|h1
    . exact(h.dl k hk).2 h1
    . omega
   exact⟨(h.dl k hk).1,hnew⟩
theorem JB.touch{k0:Nat}(h:JB B V w0 w jb mp J ts frs D lks rks l)(hk0:B<=k0)(hx:¬XJ jb mp J k0)(hd:¬D k0)(hp:∀x∈l,¬OwnX x k0/\¬x.2.1.kp k0)(hz:w'.heap.size=w.heap.size)(ho:w'.os=w.os)(ht:w'.tape=w.tape)(hu:w'.output=w.output)(hk:∀k,k≠k0->w'.heap[k]?=w.heap[k]?):JB B V w0 w' jb mp J ts frs D lks rks l:=by
 have hxk:∀k,XJ jb mp J k->w'.heap[k]?=w.heap[k]?:=fun k hk2=>hk k (fun e=>hx (e▸hk2))
 exact⟨⟨ho.trans h.bel.os,ht.trans h.bel.tape,hu.trans h.bel.output,by rw[hz];exact h.bel.size,fun k hk2=>(hk k (by omega)).trans (h.bel.block k hk2)⟩,h.sl.keep (by omega) (fun k hk2=>hk2.elim (fun h1=>hxk k (.inl h1)) (fun h1=>hk k (fun e=>hd (e▸h1)))),by rw[hz];exact h.Bw,owns_key h.li (fun g o hg ho2=>(hxk g (.inr (.inl hg))).trans ho2),owns_key h.ri (fun g o hg ho2=>(hxk g (.inr (.inr hg))).trans ho2),h.lr,h.pool.keep (by omega) (fun x hx2 k hk2=>hk k (fun e=>hk2.elim (fun h1=>(hp x hx2).1 (e▸h1)) (fun h1=>(hp x hx2).2 (e▸h1)))),h.pB,h.px,h.pd,h.dl,h.fv,h.vv⟩
end
def Bxs(jb mp:Nat)(J:Jv)(D:Nat->Prop)(l:List Sx)(u:World)(bs:List (Nat×Obj)):Prop:=∀b∈bs,u.heap[b.1]?=some b.2/\¬XJ jb mp J b.1/\¬D b.1/\∀x∈l,¬OwnX x b.1/\¬x.2.1.kp b.1
structure RS (B:Nat) (V:List Wd) (w0 w1 u:World) (jb mp:Nat) (J:Jv) (ts:List Tm) (frs:List (Value×List Nat)) (D:Nat->Prop) (lks rks:List Lm) (l:List Sx) (bs:List (Nat×Obj)):Prop where
 jb_:JB B V w0 u jb mp J ts frs D lks rks l
 fr:Fr (fun k=>k<w1.heap.size/\k≠jb/\k≠mp) w1 u
 xi:∀k,XJ jb mp J k->k=jb\/k=mp\/w1.heap.size<=k
 bx:Bxs jb mp J D l u bs
section
variable {B:Nat} {V:List Wd} {w0 w1 u u':World} {jb mp:Nat} {J J':Jv} {ts:List Tm} {frs:List (Value×List Nat)} {D:Nat->Prop} {lks rks:List Lm} {l:List Sx} {bs:List (Nat×Obj)}
theorem RS.below(h:RS B V w0 w1 u jb mp J ts frs D lks rks l bs)(hb:Below u.heap.size u u'):RS B V w0 w1 u' jb mp J ts frs D lks rks l bs:=
 ⟨h.jb_.below hb,h.fr.trans ⟨hb.os,hb.tape,hb.output,hb.size,fun k hk=>hb.block k (zQ hk.1 h.fr.size)⟩,h.xi,fun b hb2=>⟨(hb.block b.1 (lt_of_block (h.bx b hb2).1)).trans (h.bx b hb2).1,(h.bx b hb2).2⟩⟩
theorem RS.alloc(h:RS B V w0 w1 u jb mp J ts frs D lks rks l bs)(o:Obj):RS B V w0 w1 (u.alloc o) jb mp J ts frs D lks rks l ((u.heap.size,o)::bs):=by
 have h':=h.below ((zE u.heap.size u).alloc (zD _) o);refine⟨h'.jb_,h'.fr,h'.xi,fun b hb=>?_⟩;rcases yB.1 hb with rfl|hb
 . refine⟨heap_alloc_new _ _,fun hx=>?_,fun hd=>?_,fun x hx=>⟨fun ho=>?_,fun hk=>?_⟩⟩
   . have:=(h.jb_.xlt hx).2;dsimp only at this;omega
   . have:=(h.jb_.sl.dl _ hd).2;dsimp only at this;omega
   . have:=h.jb_.pool.own_lt hx ho;dsimp only at this;omega
   . have:=h.jb_.pool.kp_lt hx hk;dsimp only at this;omega
 . exact h'.bx b hb
theorem RS.slot{t:Tm}{e:Ending}(h:RS B V w0 w1 u jb mp J ts frs D lks rks l bs)(hs:SloE B V u jb mp J ts D t e u'):∃J' frs' D',e=.returned (.int .i64 ((addT ts t).idxOf t:Nat))/\RS B V w0 w1 u' jb mp J' (addT ts t) frs' D' lks rks l bs:=by
 obtain⟨J',frs',D',he,h1,h2,h3,h4⟩:=h.jb_.slot hs;refine⟨J',frs',D',he,h1,h.fr.trans ⟨h2.os,h2.tape,h2.output,h2.size,fun k hk=>h2.block k ⟨zQ hk.1 h.fr.size,fun hx=>?_⟩⟩,fun k hk=>?_,fun b hb=>?_⟩
 . rcases h.xi k hx with h5|h5|h5
   . exact hk.2.1 h5
   . exact hk.2.2 h5
   . have:=hk.1;omega
 . rcases h3 k hk with h5|h5
   . exact h.xi k h5
   . exact .inr (.inr (zT h.fr.size h5))
 . obtain⟨b1,b2,b3,b4⟩:=h.bx b hb;have hbl:=lt_of_block b1;refine⟨(h2.block b.1 ⟨hbl,b2⟩).trans b1,fun hx=>?_,fun hd=>?_,b4⟩
   . rcases h3 b.1 hx with h5|h5
     . exact b2 h5
     . omega
   . rcases h4 b.1 hd with h5|h5
     . exact b3 h5
     . omega
theorem RS.search{n:Nat}{E:List Eg}{a:Au}{e:Ending}(h:RS B V w0 w1 u jb mp J ts frs D lks rks l bs)(hs:NewE u n E a e u'):∃sb m kp,e=.returned (.pointer (some ⟨sb,0,none⟩))/\RS B V w0 w1 u' jb mp J ts frs D lks rks (l++[(sb,sdOf kp n E a,m)]) bs:=by
 obtain⟨sb,m,kp,he,h1,hb,hnew⟩:=h.jb_.search hs;have h':=h.below hb;refine⟨sb,m,kp,he,h1,h'.fr,h'.xi,fun b hb2=>?_⟩;obtain⟨b1,b2,b3,b4⟩:=h'.bx b hb2;have hbl:=lt_of_block (h.bx b hb2).1;refine⟨b1,b2,b3,fun x hx=>?_⟩;rcases zM.1 hx with hx|hx
 . exact b4 x hx
 . rw[zK.1 hx];exact⟨fun ho=>by have:=hnew b.1 (.inl ho);omega,fun hk=>by have:=hnew b.1 (.inr hk);omega⟩
theorem RS.touch{lb:Nat}{o o':Obj}(h:RS B V w0 w1 u jb mp J ts frs D lks rks l bs)(hb:(lb,o)∈bs)(hlb:w1.heap.size<=lb)(hBl:B<=lb)(hz:u'.heap.size=u.heap.size)(ho:u'.os=u.os)(ht:u'.tape=u.tape)(hu:u'.output=u.output)(hk:∀k,k≠lb->u'.heap[k]?=u.heap[k]?)(hl:u'.heap[lb]?=some o'):RS B V w0 w1 u' jb mp J ts frs D lks rks l [(lb,o')]:=by
 obtain⟨b1,b2,b3,b4⟩:=h.bx _ hb;refine⟨h.jb_.touch hBl b2 b3 b4 hz ho ht hu hk,h.fr.trans ⟨ho,ht,hu,by omega,fun k hk2=>hk k (by omega)⟩,h.xi,fun b hb2=>?_⟩;rw[zK.1 hb2];exact⟨hl,b2,b3,b4⟩
theorem RS.perm{l':List Sx}(h:RS B V w0 w1 u jb mp J ts frs D lks rks l bs)(hp:l.Perm l'):RS B V w0 w1 u jb mp J ts frs D lks rks l' bs:=
 ⟨h.jb_.perm hp,h.fr,h.xi,fun b hb=>⟨(h.bx b hb).1,(h.bx b hb).2.1,(h.bx b hb).2.2.1,fun x hx=>(h.bx b hb).2.2.2 x (hp.mem_iff.2 hx)⟩⟩
theorem RS.drop(h:RS B V w0 w1 u jb mp J ts frs D lks rks l bs):RS B V w0 w1 u jb mp J ts frs D lks rks l []:=⟨h.jb_,h.fr,h.xi,fun b hb=>by simp at hb⟩
theorem RS.putL{wz w9:World}{v9:Value}{L:Lm}(h:RS B V w0 w1 u jb mp J ts frs D lks rks l bs)(hb:Below u.heap.size u wz)(hr:w9.ownsRow B 140 4 v9 (lks.length+1) (lks.flatMap csL++csL L))(hk9:∀k,k<wz.heap.size->J.lv.ownBlock≠some k->w9.heap[k]?=wz.heap[k]?)(hz9:wz.heap.size<=w9.heap.size)(ho:w9.os=wz.os)(ht:w9.tape=wz.tape)(hu:w9.output=wz.output)(ha:∀g,v9.ownBlock=some g->J.lv.ownBlock=some g\/wz.heap.size<=g):
 RS B V w0 w1 (w9.setCell ⟨jb,3,none⟩ v9) jb mp { J with lv:=v9 } ts frs D (lks++[L]) rks l []:=by
 obtain⟨h1,h2,h3⟩:=h.jb_.putL hb hr hk9 hz9 ho ht hu ha;refine⟨h1,h.fr.trans ⟨h2.os,h2.tape,h2.output,h2.size,fun k hk=>h2.block k ⟨zQ hk.1 h.fr.size,fun hx=>?_⟩⟩,fun k hk=>?_,fun b hb2=>by simp at hb2⟩
 . rcases h.xi k hx with h5|h5|h5
   . exact hk.2.1 h5
   . exact hk.2.2 h5
   . have:=hk.1;omega
 . rcases h3 k hk with h5|h5
   . exact h.xi k h5
   . exact .inr (.inr (zT h.fr.size h5))
theorem RS.putR{wz w9:World}{v9:Value}{L:Lm}(h:RS B V w0 w1 u jb mp J ts frs D lks rks l bs)(hb:Below u.heap.size u wz)(hr:w9.ownsRow B 140 4 v9 (rks.length+1) (rks.flatMap csL++csL L))(hk9:∀k,k<wz.heap.size->J.rv.ownBlock≠some k->w9.heap[k]?=wz.heap[k]?)(hz9:wz.heap.size<=w9.heap.size)(ho:w9.os=wz.os)(ht:w9.tape=wz.tape)(hu:w9.output=wz.output)(ha:∀g,v9.ownBlock=some g->J.rv.ownBlock=some g\/wz.heap.size<=g):
 RS B V w0 w1 (w9.setCell ⟨jb,4,none⟩ v9) jb mp { J with rv:=v9 } ts frs D lks (rks++[L]) l []:=by
 obtain⟨h1,h2,h3⟩:=h.jb_.putR hb hr hk9 hz9 ho ht hu ha;refine⟨h1,h.fr.trans ⟨h2.os,h2.tape,h2.output,h2.size,fun k hk=>h2.block k ⟨zQ hk.1 h.fr.size,fun hx=>?_⟩⟩,fun k hk=>?_,fun b hb2=>by simp at hb2⟩
 . rcases h.xi k hx with h5|h5|h5
   . exact hk.2.1 h5
   . exact hk.2.2 h5
   . have:=hk.1;omega
 . rcases h3 k hk with h5|h5
   . exact h.xi k h5
   . exact .inr (.inr (zT h.fr.size h5))
theorem RS.graph{S:Nat->Prop}{gb:Nat}{E:List Eg}{mb:Nat}{nv ev:Value}{DG:DataW Unit}{cg:Nat}(h:RS B V w0 w1 u jb mp J ts frs D lks rks l bs)(hg:GrS S w1 gb V E mb nv ev DG cg)(hS:∀k,S k->k<w1.heap.size/\k≠jb/\k≠mp):GrS S u gb V E mb nv ev DG cg/\∀k,S k->¬XS jb mp J k:=
 ⟨hg.keep h.fr.size (fun k hk _=>⟨hk,h.fr.block k (hS k hk)⟩),fun k hk hx=>by
  rcases h.xi k (.inl hx)with h5|h5|h5
  . exact(hS k hk).2.1 h5
  . exact(hS k hk).2.2 h5
  . have:=(hS k hk).1;omega⟩
end
structure LA (n:Nat) (E:List Eg) (ts:List Tm) (la:List Pa) (lks:List Lm) (A:List Sx):Prop where
 len:lks.length=la.length
 lenA:A.length=2*la.length
 at_:∀(i:Nat) a L,la[i]?=some a->lks[i]?=some L->ts[L.1]?=some a.1/\ts[L.2.1]?=some a.2.2/\∃x y kp kp',A[2*i]?=some x/\A[2*i+1]?=some y/\syOf x=(L.2.2.1,sdOf kp n E (autoOf a.2.1))/\syOf y=(L.2.2.2,sdOf kp' n (E.map turnE) (autoOf (turnP a.2.1)))
theorem LA.nil(n:Nat)(E:List Eg)(ts:List Tm):LA n E ts [] [] []:=⟨rfl,rfl,fun i a L h=>by simp at h⟩
theorem LA.mono{n:Nat}{E:List Eg}{ts us:List Tm}{la:List Pa}{lks:List Lm}{A:List Sx}(h:LA n E ts la lks A)(hu:∀(i:Nat) t,ts[i]?=some t->us[i]?=some t):LA n E us la lks A:=
 ⟨h.len,h.lenA,fun i a L h1 h2=>by
  obtain⟨a1,a2,a3⟩:=h.at_ i a L h1 h2;exact⟨hu _ _ a1,hu _ _ a2,a3⟩⟩
theorem LA.snoc{n:Nat}{E:List Eg}{ts:List Tm}{la:List Pa}{lks:List Lm}{A:List Sx}(h:LA n E ts la lks A){a:Pa}{fr to_:Nat}(h1:ts[fr]?=some a.1)(h2:ts[to_]?=some a.2.2){sb sb':Nat}{kp kp':Nat->Prop}{m m':Sp}:LA n E ts (la++[a]) (lks++[(fr,to_,sb,sb')]) (A++[(sb,sdOf kp n E (autoOf a.2.1),m),(sb',sdOf kp' n (E.map turnE) (autoOf (turnP a.2.1)),m')]):=by
 refine⟨by rw[zG,zG,h.len];rfl,by rw[zG,zG,h.lenA];simp;omega,fun i b L hb hL=>?_⟩;by_cases hi:i<la.length
 . rw[yH hi]at hb;rw[yH (by rw[h.len];exact hi)]at hL;obtain⟨a1,a2,x,y,k1,k2,a3,a4,a5⟩:=h.at_ i b L hb hL;have hA:=h.lenA;exact⟨a1,a2,x,y,k1,k2,by rw[yH (by omega)];exact a3,by rw[yH (by omega)];exact a4,a5⟩
 . have hil:=(zF.1 hb).1;rw[zG]at hil;simp only[List.length_singleton]at hil;have e:i=la.length:=by omega
   subst e;rw[yO (zD _)]at hb;rw[<- h.len,yO (zD _)]at hL;simp at hb hL;subst hb hL;have hA:=h.lenA;exact⟨h1,h2,(sb,sdOf kp n E (autoOf a.2.1),m),(sb',sdOf kp' n (E.map turnE) (autoOf (turnP a.2.1)),m'),kp,kp',by rw[<- hA,yO (zD _)];simp,by rw[<- hA,yO (by omega)];simp,rfl,rfl⟩
theorem addT_get{ts:List Tm}{t:Tm}{i:Nat}{x:Tm}(h:ts[i]?=some x):(addT ts t)[i]?=some x:=by
 unfold addT;split
 . exact h
 . rw[yH (zF.1 h).1];exact h
theorem addT_mem(ts:List Tm)(t:Tm):t∈addT ts t:=by
 unfold addT;split
 . assumption
 . simp
theorem addT_idx(ts:List Tm)(t:Tm):(addT ts t)[(addT ts t).idxOf t]?=some t:=by
 rw[zB (yC (addT_mem ts t))];simp
theorem addT_len(ts:List Tm)(t:Tm):(addT ts t).length<=ts.length+1:=by
 unfold addT;split<;>simp
theorem addT_mem_iff{ts:List Tm}{t x:Tm}:x∈addT ts t↔x∈ts\/x=t:=by
 unfold addT;split
 . rename_i h;exact⟨.inl,fun h2=>h2.elim id (fun e=>e▸h)⟩
 . simp
def termsOf(l:List Pa):List Tm:=l.foldl (fun ts a=>addT (addT ts a.1) a.2.2) []
theorem terms_snoc(l:List Pa)(a:Pa):termsOf (l++[a])=addT (addT (termsOf l) a.1) a.2.2:=by simp[termsOf]
theorem terms_mem{l:List Pa}{t:Tm}:t∈termsOf l↔∃a∈l,t=a.1\/t=a.2.2:=by
 have key:∀(l:List Pa) (ts:List Tm),t∈l.foldl (fun ts a=>addT (addT ts a.1) a.2.2) ts↔t∈ts\/∃a∈l,t=a.1\/t=a.2.2:=by
  intro l;induction l with
  |nil=>intro ts;simp
  |cons a l ih=>
   intro ts;rw[yM,ih,addT_mem_iff,addT_mem_iff];constructor
   . rintro (((h|h)|h)|⟨b,hb,h⟩)
     . exact .inl h
     . exact .inr ⟨a,zL ..,.inl h⟩
     . exact .inr ⟨a,zL ..,.inr h⟩
     . exact .inr ⟨b,zP _ hb,h⟩
   . rintro (h|⟨b,hb,h⟩)
     . exact .inl (.inl (.inl h))
     . rcases yB.1 hb with rfl|hb
       . rcases h with h|h
         . exact .inl (.inl (.inr h))
         . exact .inl (.inr h)
       . exact .inr ⟨b,hb,h⟩
 have:=key l [];simpa[termsOf]using this
theorem terms_len(l:List Pa):(termsOf l).length<=2*l.length:=by
 have key:∀(l:List Pa) (ts:List Tm),(l.foldl (fun ts a=>addT (addT ts a.1) a.2.2) ts).length<=ts.length+2*l.length:=by
  intro l;induction l with
  |nil=>intro ts;simp
  |cons a l ih=>
   intro ts;rw[yM];have h1:=ih (addT (addT ts a.1) a.2.2);have h2:=addT_len (addT ts a.1) a.2.2;have h3:=addT_len ts a.1;simp only[yG];omega
 have:=key l [];simpa[termsOf]using this
def set4K(w:World)(b:Nat)(c0 c1 c2 c3:Value):World:=(((w.setCell ⟨b,0,none⟩ c0).setCell ⟨b,1,none⟩ c1).setCell ⟨b,2,none⟩ c2).setCell ⟨b,3,none⟩ c3
theorem set4K_size(w:World)(b:Nat)(c0 c1 c2 c3:Value):(set4K w b c0 c1 c2 c3).heap.size=w.heap.size:=by simp[set4K]
theorem set4K_other(w:World)(b:Nat)(c0 c1 c2 c3:Value){k:Nat}(hk:k≠b):(set4K w b c0 c1 c2 c3).heap[k]?=w.heap[k]?:=by
 unfold set4K;rw[zN _ ⟨b,3,none⟩ _ _ hk,zN _ ⟨b,2,none⟩ _ _ hk,zN _ ⟨b,1,none⟩ _ _ hk,zN _ ⟨b,0,none⟩ _ _ hk]
theorem set4K_at{w:World}{b:Nat}{a0 a1 a2 a3 c0 c1 c2 c3:Value}{t:TypeId}(h:w.heap[b]?=some (.cells #[a0,a1,a2,a3] t (0,0))):(set4K w b c0 c1 c2 c3).heap[b]?=some (.cells #[c0,c1,c2,c3] t (0,0)):=by
 simp[set4K,World.setCell,Array.getElem?_modify,h]
theorem four_cellsX{w:World}{b:Nat}{c0 c1 c2 c3:Value}{t:TypeId}(h:w.heap[b]?=some (.cells #[c0,c1,c2,c3] t (0,0))):(w.cell? ⟨b,0,none⟩=some c0/\w.cell? ⟨b,1,none⟩=some c1/\w.cell? ⟨b,2,none⟩=some c2/\w.cell? ⟨b,3,none⟩=some c3)/\w.frozen? ⟨b,0,none⟩=false/\w.frozen? ⟨b,1,none⟩=false/\w.frozen? ⟨b,2,none⟩=false/\w.frozen? ⟨b,3,none⟩=false:=by
 simp[World.cell?,World.frozen?,h]
theorem seven_cellsX{w:World}{b:Nat}{c0 c1 c2 c3 c4 c5 c6:Value}{t:TypeId}(h:w.heap[b]?=some (.cells #[c0,c1,c2,c3,c4,c5,c6] t (0,0))):w.cell? ⟨b,0,none⟩=some c0/\w.cell? ⟨b,1,none⟩=some c1/\w.cell? ⟨b,2,none⟩=some c2/\w.cell? ⟨b,3,none⟩=some c3/\w.cell? ⟨b,4,none⟩=some c4/\w.cell? ⟨b,5,none⟩=some c5/\w.cell? ⟨b,6,none⟩=some c6:=by
 simp[World.cell?,h]
theorem infoLk:(Tryz.prog.info? 140).map (fun i=>(i.zero,i.size,i.bytes))=some (some (.agg #[.int .i64 0,.int .i64 0,.pointer none,.pointer none]),4,32):=by kernel_rfl
abbrev paOf(a:Am):Pa:=(a.1,a.2.1.pt,a.2.2)
def linkP(l:List Pa):List Pa:=l.filter fun a=> !decide (a.1=a.2.2)
def ringP(l:List Pa):List Pa:=l.filter fun a=>decide (a.1=a.2.2)
theorem perm_mid{α:Type}(A R:List α)(x y:α):(A++R++([x]++[y])).Perm (A++[x,y]++R):=by
 rw[List.append_assoc,List.append_assoc];exact List.Perm.append_left A List.perm_append_comm
structure LP (B:Nat) (V:List Wd) (E:List Eg) (w w1:World) (jb mp:Nat) (l:List Pa) (u:World):Prop where
 ex:∃J frs D lks rks A R,RS B V w w1 u jb mp J (termsOf l) frs D lks rks (A++R) []/\LA V.length E (termsOf l) (linkP l) lks A/\LA V.length E (termsOf l) (ringP l) rks R
def NJE(w:World)(V:List Wd)(E:List Eg)(l:List Pa)(us:List Nat)(e:Ending)(w':World):Prop:=
 ∃(w2:World) (jb mp:Nat) (J:Jv) (frs:List (Value×List Nat)) (D:Nat->Prop) (lks rks:List Lm) (A R:List Sx) (v:Value),e=.returned (.pointer (some ⟨jb,0,none⟩))/\JB w.heap.size V w w2 jb mp J (termsOf l) frs D lks rks (A++R)/\LA V.length E (termsOf l) (linkP l) lks A/\LA V.length E (termsOf l) (ringP l) rks R/\
  Fr (fun k=>k<w2.heap.size/\k≠jb) w2 w'/\w'.heap[jb]?=some (.cells ({ J with vv:=v }:Jv).cells 134 (0,0))/\w'.ownsRow w2.heap.size 3 1 v us.length (us.flatMap csI)
set_option maxHeartbeats 64000000 in
theorem newJoin_any{S U:Nat->Prop}{w:World}{gb:Nat}{V:List Wd}{E:List Eg}{mb:Nat}{nv ev:Value}{DG:DataW Unit}{cg:Nat}{q:Qm}{P:List Pa}(hg:GrS S w gb V E mb nv ev DG cg)(hSl:Low S w)(hq:QOk U w q)(hVl:V.length<=10000)(hEl:E.length<=10000)(hE:∀e∈E,e.1<V.length/\e.2.2<V.length/\e.2.1.length<=140737488351232)(hal:q.atoms.length<=100)(hvl:q.vars.length<=100)(hm:∀a∈q.atoms,mayP a.2.1.pt=true)(hP:P=q.atoms.map paOf)(hvs:∀v∈q.vars,((true,v):Tm)∈termsOf P):
 Calls Tryz.prog 41 #[.pointer (some ⟨gb,0,none⟩),encQ q] w (NJE w V E P (q.vars.map fun v=>(termsOf P).idxOf ((true,v):Tm))):=by
 obtain⟨qv,qvars,qa,qatoms⟩:=q;dsimp only at hal hvl hm hP hvs ⊢;have hmm:=@run_makeMap Tryz.prog;obtain⟨i4,hi4,hy0,hy1,hy2⟩:=info_partsG infoLk;obtain⟨i0,hi0,hz0,hz1,hz2⟩:=info_partsG infoZG;obtain⟨va,vc,hve⟩:=hq.vs.slice;obtain⟨aa,ac,hae⟩:=hq.ats.slice;dsimp only at hve hae;obtain⟨nvs,hnvs⟩:∃k,k=qvars.length:=⟨_,rfl⟩
 obtain⟨na,hna⟩:∃k,k=qatoms.length:=⟨_,rfl⟩
 rw[<- hnvs]at hve hvl;rw[<- hna]at hae hal;have HQ:=zA hq;subst hve hae;have HG:=zA hg;have HSL:=zA hSl;have HE:=zA hE;have HM:=zA hm;have HP:=zA hP;have HNV:=zA hnvs;have HNA:=zA hna;have HVS:=zA hvs;have HEB:Hid (∀e∈E.map turnE,e.1<V.length/\e.2.2<V.length/\e.2.1.length<=140737488351232):=zA (fun e he=>by
  obtain⟨f,hf,rfl⟩:=zV.1 he;obtain⟨a1,a2,a3⟩:=hE f hf;exact⟨a2,a1,a3⟩)
 obtain⟨jb,hjb⟩:∃b,b=w.heap.size+2:=⟨_,rfl⟩
 obtain⟨mp,hmp⟩:∃b,b=w.heap.size+1:=⟨_,rfl⟩
 obtain⟨o1,ho1⟩:∃o,o=Obj.cells #[.slice va nvs vc,.slice aa na ac] 38 (0,0):=⟨_,rfl⟩
 obtain⟨o3,ho3⟩:∃o,o=Obj.cells #[.map (some (w.heap.size+1)),.slice none 0 0,.slice none 0 0,.slice none 0 0,.slice none 0 0,.slice none 0 0,.slice none 0 0] 134 (0,0):=⟨_,rfl⟩
 obtain⟨wa,hwa⟩:∃W,W=((w.alloc o1).alloc (.map #[] 0)).alloc o3:=⟨_,rfl⟩
 have hsa:wa.heap.size=w.heap.size+3:=by rw[hwa];simp
 have hba:Below w.heap.size w wa:=by rw[hwa];exact(((zE _ _).alloc (zD _) _).alloc (by simp) _).alloc (by simp;omega) _
 have ga1:wa.heap[w.heap.size]?=some o1:=by rw[hwa];exact get_atG [o1,.map #[] 0,o3] w 0 (by simp)
 have ga2:wa.heap[mp]?=some (.map #[] 0):=by rw[hwa,hmp];exact get_atG [o1,.map #[] 0,o3] w 1 (by simp)
 have ga3:wa.heap[jb]?=some o3:=by rw[hwa,hjb];exact get_atG [o1,.map #[] 0,o3] w 2 (by simp)
 obtain⟨J0,hJ0⟩:∃J:Jv,J=⟨.map (some mp),.slice none 0 0,.slice none 0 0,.slice none 0 0,.slice none 0 0,.slice none 0 0,.slice none 0 0⟩:=⟨_,rfl⟩
 have hblk0:wa.heap[jb]?=some (.cells J0.cells 134 (0,0)):=by rw[ga3,ho3,hJ0,hmp];rfl
 have hmap0:wa.ownsMap Tryz.prog 53 (plainElem Tryz.prog 3) mp 0 (.map []:DataW Unit):=by
  have h1:=World.ownsMap_made (w.alloc o1) Tryz.prog 53 (plainElem (H:=Unit) Tryz.prog 3);have h2:(w.alloc o1).heap.size=mp:=by rw[hmp];simp
  rw[h2]at h1;exact map_keyG h1 (fun o ho=>by rw[hwa,heap_alloc_old _ _ (by simp;omega)];exact ho)
 have CT:=zA (turnedG_any (hg.keep hba.size (fun b hs hl=>⟨hs,hba.block b hl⟩)) hEl);have hJB0:JB w.heap.size V w wa jb mp J0 [] [] (fun _=>False) [] [] []:=by
  rw[hJ0]at hblk0 ⊢;refine⟨hba,⟨hblk0,rfl,by omega,by omega,⟨0,.map [],hmap0,zD _,tellM_nil⟩,World.ownsRow_nil _ _ _ _,World.ownsRow_nil _ _ _ _,rfl,fun r hr=>by simp at hr,fun k hk=>hk.elim,fun k hk=>hk.elim⟩,hba.size,World.ownsRow_nil _ _ _ _,World.ownsRow_nil _ _ _ _,fun k hk=>by simp[Value.ownBlock]at hk,⟨fun x hx=>by simp at hx,fun i j x y hi=>by simp at hi,fun x hx=>by simp at hx⟩,fun x hx=>by simp at hx,fun k _ x hx=>by simp at hx,fun k _ x hx=>by simp at hx,fun k hk=>hk.elim,rfl,rfl⟩
 have hXJ0:∀k,XJ jb mp J0 k->k=jb\/k=mp:=fun k hk=>by
  rw[hJ0]at hk;rcases hk with (hk|hk|hk|hk)|hk|hk
  . exact .inl hk
  . exact .inr hk
  . simp[Value.ownBlock]at hk
  . simp[Value.ownBlock]at hk
  . simp[Value.ownBlock]at hk
  . simp[Value.ownBlock]at hk
 have HWA:Hid (((w.alloc (.cells #[.slice va nvs vc,.slice aa na ac] 38)).alloc (.map #[] 0)).alloc (.cells #[.map (some (w.heap.size+1)),.slice none 0 0,.slice none 0 0,.slice none 0 0,.slice none 0 0,.slice none 0 0,.slice none 0 0] 134)=wa):=zA (by rw[hwa,ho1,ho3]);have HJB0:=zA hJB0;have HXJ0:=zA hXJ0;have HBA:=zA hba;have HJBE:Hid (w.heap.size+2=jb):=zA hjb.symm;have HMPE:Hid (w.heap.size+1=mp):=zA hmp.symm;have HSA:=zA hsa;have HQB:Hid (wa.heap[w.heap.size]?=some (.cells #[.slice va nvs vc,.slice aa na ac] 38 (0,0))):=zA (by rw[<- ho1];exact ga1);obtain⟨Q,hQ⟩:∃Q,Q=NJE w V E P (qvars.map fun v=>(termsOf P).idxOf ((true,v):Tm)):=⟨_,rfl⟩
 rw[<- hQ];have HQQ:=zA hQ;clear hg hSl hq hE hm hP hnvs hna hvs hJB0 hXJ0 hba ga1 ga2 ga3 hblk0 hmap0 hsa hwa ho1 ho3 hjb hmp hJ0 hQ;show Calls Tryz.prog _ #[_,.agg #[.slice va nvs vc,.slice aa na ac]] w _;go_enter Tryz.func41,Tryz.ntmps41;go_wp2_with fail;rw[HWA.out,HJBE.out];refine CT.out.mono ?_;rintro e w1 ⟨bb,ev',rfl,hbb,hgb1,hb1⟩;have HGB1:=zA hgb1;have HB1:=zA hb1;have HRS0:Hid (RS w.heap.size V w w1 w1 jb mp J0 [] [] (fun _=>False) [] [] [] []):=zA ⟨HJB0.out.below hb1,Fr.refl _ _,fun k hk=>(HXJ0.out k hk).imp id .inl,fun b hb=>by simp at hb⟩;have hw1s:w.heap.size+3<=w1.heap.size:=by have:=hb1.size;have:=HSA.out;omega
 have HKP:Hid (∀k,k<w.heap.size->k<w1.heap.size/\k≠jb/\k≠mp):=zA (fun k hk=>⟨by omega,by have:=HJBE.out;omega,by have:=HMPE.out;omega⟩);have HBW1:Hid (Below w.heap.size w w1):=zA (HBA.out.trans (hb1.mono HBA.out.size));have HGA:Hid (∀(u:World) (J:Jv) (ts:List Tm) (frs:List (Value×List Nat)) (D:Nat->Prop) (lks rks:List Lm) (l:List Sx) (bs:List (Nat×Obj)),RS w.heap.size V w w1 u jb mp J ts frs D lks rks l bs->GrS S u gb V E mb nv ev DG cg/\∀k,S k->¬XS jb mp J k):=zA (fun u J ts frs D lks rks l bs h=>h.graph (HG.out.keep HBW1.out.size (fun b hs hl=>⟨hs,HBW1.out.block b hl⟩)) (fun k hk=>HKP.out k (HSL.out k hk)));have hSb:∀k,(S k\/wa.heap.size<=k)/\k<w1.heap.size->k<w1.heap.size/\k≠jb/\k≠mp:=fun k hk=>by
  refine⟨hk.2,?_⟩;rcases hk.1 with h1|h1
  . exact(HKP.out k (HSL.out k h1)).2
  . have:=HSA.out;have:=HJBE.out;have:=HMPE.out;omega
 have HSB:=zA hSb;have HGB:Hid (∀(u:World) (J:Jv) (ts:List Tm) (frs:List (Value×List Nat)) (D:Nat->Prop) (lks rks:List Lm) (l:List Sx) (bs:List (Nat×Obj)),RS w.heap.size V w w1 u jb mp J ts frs D lks rks l bs->GrS (fun k=>(S k\/wa.heap.size<=k)/\k<w1.heap.size) u bb V (E.map turnE) mb nv ev' DG cg/\∀k,(S k\/wa.heap.size<=k)/\k<w1.heap.size->¬XS jb mp J k):=zA (fun u J ts frs D lks rks l bs h=>h.graph (HGB1.out.keep (zD _) (fun b hs hl=>⟨⟨hs,hl⟩,rfl⟩)) HSB.out);have HQ1:Hid (∀u,Fr (fun k=>k<w1.heap.size/\k≠jb/\k≠mp) w1 u->QOk (fun k=>k<w.heap.size) u ⟨.slice va nvs vc,qvars,.slice aa na ac,qatoms⟩):=zA (fun u hu=>HQ.out.keep (zT HBW1.out.size hu.size) (fun b hs hl=>⟨hl,(hu.block b (HKP.out b hl)).trans (HBW1.out.block b hl)⟩));have HLP0:Hid (LP w.heap.size V E w w1 jb mp [] w1):=zA ⟨J0,[],fun _=>False,[],[],[],[],HRS0.out,LA.nil _ _ _,LA.nil _ _ _⟩;have HQC:Hid (∀u,Fr (fun k=>k<w1.heap.size/\k≠jb/\k≠mp) w1 u->u.cell? ⟨w.heap.size,0,none⟩=some (.slice va nvs vc)/\u.cell? ⟨w.heap.size,1,none⟩=some (.slice aa na ac)):=zA (fun u hu=>by
  have h1:=(hu.block w.heap.size ⟨by omega,by have:=HJBE.out;omega,by have:=HMPE.out;omega⟩).trans ((HB1.out.block _ (by have:=HSA.out;omega)).trans HQB.out);exact two_cellsX h1)
 obtain⟨_,q1⟩:=HQC.out w1 (Fr.refl _ _);clear hgb1 hb1 hbb hSb;go_wp2_with fail;go_loopw [20] (fun c wr=>∃i:Nat,i<=na/\c=.int .i64 i/\Hid (LP w.heap.size V E w w1 jb mp (P.take i) wr)) (fun c _=>na-(intOf c).toNat)
 case atStart=>exact⟨0,zO _,rfl,by rw[List.take_zero];exact HLP0⟩
 case round=>
  obtain⟨i,hi,rfl,HLP⟩:=hrel;obtain⟨wx,hwx⟩:∃wx,wx=wr:=⟨_,rfl⟩
  subst hwx;clear q1;by_cases hlt:i<na
  . have hltI:(i:Int)<(na:Int):=by omega
    obtain⟨J,frs,D,lks,rks,A,R,hrs,hla,hlr⟩:=HLP.out.ex;obtain⟨⟨⟨sv0,sn⟩,t,⟨ov0,on⟩⟩,ha⟩:∃x,qatoms[i]?=some x:=⟨_,zB (by rw[<- HNA.out];exact hlt)⟩
    have hqx:=HQ1.out wx hrs.fr;obtain⟨ga,goff,hga,_,hgl,hcell⟩:=hqx.ats.get ha;subst hga;obtain⟨c0,c1,c2,c3,c4,c5,c6⟩:=getA hcell;dsimp only at c0 c1 c2 c3 c4 c5 c6;have ham:=zC ha;have hvo:=fun u hu=>(HQ1.out u hu).ok _ ham
    have hmp0:=HM.out _ ham;have hfine:=HQ.out.fine _ ham;dsimp only at hvo hmp0;obtain⟨pa,pc,hpv⟩:=(hvo wx hrs.fr).parts.1.slice;obtain⟨pk,pw,pv,pl⟩:=t;dsimp only at hpv c2 c3 c4;obtain⟨pn,hpn⟩:∃k,k=pl.length:=⟨_,rfl⟩
    rw[<- hpn]at hpv;subst hpv;obtain⟨pp,hpp⟩:∃p:Pt,p=Vt.pt ⟨pk,pw,.slice pa pn pc,pl⟩:=⟨_,rfl⟩
    have HVO:Hid (∀u,Fr (fun k=>k<w1.heap.size/\k≠jb/\k≠mp) w1 u->VOk (fun k=>k<w.heap.size) u ⟨pk,pw,.slice pa pn pc,pl⟩):=zA hvo;have HMP:Hid (mayP (Vt.pt ⟨pk,pw,.slice pa pn pc,pl⟩)=true):=zA hmp0;have HSH:Hid (shapedP 12 (Vt.pt ⟨pk,pw,.slice pa pn pc,pl⟩)=true):=zA (by
     have h1:=hmp0;simp only[mayP,Bool.and_eq_true]at h1;exact h1.1)
    have HF0:Hid (sn.length<=140737488351232):=zA hfine.1;have HF1:Hid (on.length<=140737488351232):=zA hfine.2;obtain⟨ta,hta⟩:∃a:Pa,a=(((sv0,sn):Tm),Vt.pt ⟨pk,pw,.slice pa pn pc,pl⟩,((ov0,on):Tm)):=⟨_,rfl⟩
    have hPi:P[i]?=some ta:=by rw[HP.out,zI,ha,hta];rfl
    have HTK:Hid (P.take (i+1)=P.take i++[ta]):=zA (by rw[zS,hPi];rfl);have htl:(termsOf (P.take i)).length<=200:=by
     have h1:=terms_len (P.take i);rw[zX]at h1;omega
    obtain⟨ab,hab⟩:∃b,b=wx.heap.size:=⟨_,rfl⟩
    obtain⟨OB,hOB⟩:∃o,o=Obj.cells #[.bool sv0,.string ⟨sn.toArray⟩,.int .i64 pk,.string ⟨pw.toArray⟩,.slice pa pn pc,.bool ov0,.string ⟨on.toArray⟩] 55 (0,0):=⟨_,rfl⟩
    obtain⟨wz,hwz⟩:∃W,W=wx.alloc OB:=⟨_,rfl⟩
    have hrz:RS w.heap.size V w w1 wz jb mp J (termsOf (P.take i)) frs D lks rks (A++R) [(ab,OB)]:=by rw[hwz,hab];exact hrs.alloc OB
    obtain⟨u0,hu0⟩:∃W,W=wz.drew:=⟨_,rfl⟩
    have HRS:Hid (RS w.heap.size V w w1 u0 jb mp J (termsOf (P.take i)) frs D lks rks (A++R) [(ab,OB)]):=zA (by rw[hu0];exact hrz.below (zE _ _).drew);have KS:Hid (∀u:World,u.heap[ab]?=some OB->u.cell? ⟨ab,0,none⟩=some (.bool sv0)/\u.cell? ⟨ab,1,none⟩=some (.string ⟨sn.toArray⟩)/\u.cell? ⟨ab,2,none⟩=some (.int .i64 pk)/\u.cell? ⟨ab,3,none⟩=some (.string ⟨pw.toArray⟩)/\u.cell? ⟨ab,4,none⟩=some (.slice pa pn pc)/\u.cell? ⟨ab,5,none⟩=some (.bool ov0)/\u.cell? ⟨ab,6,none⟩=some (.string ⟨on.toArray⟩)):=zA (fun u hu=>by rw[hOB]at hu;exact seven_cellsX hu);have hbz:=(hrz.bx (ab,OB) (by simp)).1;have HBOX0:Hid (wz.drew.heap[ab]?=some OB):=zA hbz;obtain⟨b0,b1,b2,b3,b4,b5,b6⟩:=KS.out wz hbz;have HWZ:Hid (wx.alloc (Obj.cells #[.bool sv0,.string ⟨sn.toArray⟩,.int .i64 pk,.string ⟨pw.toArray⟩,.slice pa pn pc,.bool ov0,.string ⟨on.toArray⟩] 55 (0,0))=wz):=zA (by rw[hwz,hOB]);have HAB:Hid (wx.heap.size=ab):=zA hab.symm;rw[hwz,hab,hOB]at b0 b1 b2 b3 b4 b5 b6;have HLA:=zA hla;have HLR:=zA hlr;have HTA:=zA hta;obtain⟨T2,hT2⟩:∃T,T=addT (addT (termsOf (P.take i)) ((sv0,sn):Tm)) ((ov0,on):Tm):=⟨_,rfl⟩
    have HT2:Hid (T2=termsOf (P.take (i+1))):=zA (by rw[HTK.out,terms_snoc,hT2,hta]);have HT2E:=zA hT2;clear hrs hla hlr ha hqx hcell ham hvo hmp0 hfine hpn hpp hPi hrz hbz hwz hab hta HLP hT2;go_upto_region 6 with fail;rw[HWZ.out,HAB.out];clear b0 b1 b2 b3 b4 b5 b6 c0 c1 c2 c3 c4 c5 c6;go_cut [9] (fun s9 wc=>∃(lb:Nat) (J2:Jv) (frs2:List (Value×List Nat)) (D2:Nat->Prop) (x0 x1 sb1 sb2:Nat) (kp1 kp2:Nat->Prop) (m1 m2:Sp),s9=.pointer (some ⟨lb,0,none⟩)/\Hid (RS w.heap.size V w w1 wc jb mp J2 T2 frs2 D2 lks rks (A++R++[(sb1,sdOf kp1 V.length E (autoOf (Vt.pt ⟨pk,pw,.slice pa pn pc,pl⟩)),m1)]++[(sb2,sdOf kp2 V.length (E.map turnE) (autoOf (turnP (Vt.pt ⟨pk,pw,.slice pa pn pc,pl⟩))),m2)]) [(lb,.cells #[.int .i64 (x0:Int),.int .i64 (x1:Int),.pointer (some ⟨sb1,0,none⟩),.pointer (some ⟨sb2,0,none⟩)] 140 (0,0))])/\Hid (T2[x0]?=some (sv0,sn)/\T2[x1]?=some (ov0,on)))
    case first=>
     refine wp_region_held_drew (S:=fun u=>u.cell? ⟨ab,0,none⟩=some (.bool sv0)/\u.cell? ⟨ab,1,none⟩=some (.string ⟨sn.toArray⟩)/\u.cell? ⟨ab,2,none⟩=some (.int .i64 pk)/\u.cell? ⟨ab,3,none⟩=some (.string ⟨pw.toArray⟩)/\u.cell? ⟨ab,4,none⟩=some (.slice pa pn pc)/\u.cell? ⟨ab,5,none⟩=some (.bool ov0)/\u.cell? ⟨ab,6,none⟩=some (.string ⟨on.toArray⟩)) (by kernel_rfl) ?_ (fun hHeld=>?_)
     . exact KS.out _ HBOX0.out
     refine tkH (i:=0) (oi:=⟨some 24,.move (.tmp 5),85, "join.go:42",#[],none⟩) (v:=?_) rfl ?_ hHeld ?_;rotate_left 1
     . rintro W ⟨l1,l2,l3,l4,l5,l6,l7⟩;go_simp;try with_reducible rfl
     simp only[Act.put,zIB,zSZ,zSS];refine tkH (i:=1) (oi:=⟨some 25,.move (.tmp 0),65, "join.go:42",#[],none⟩) (v:=?_) rfl ?_ hHeld ?_;rotate_left 1
     . rintro W ⟨l1,l2,l3,l4,l5,l6,l7⟩;go_simp;try with_reducible rfl
     simp only[Act.put,zIB,zSZ,zSS];refine tkH (i:=2) (oi:=⟨some 26,.fieldAddr 55 (.tmp 8) 0,0, "join.go:42",#[],none⟩) (v:=?_) rfl ?_ hHeld ?_;rotate_left 1
     . rintro W ⟨l1,l2,l3,l4,l5,l6,l7⟩;go_simp;try with_reducible rfl
     simp only[Act.put,zIB,zSZ,zSS];refine tkH (i:=3) (oi:=⟨some 27,.load 53 (.tmp 26),53, "join.go:42",#[⟨2,.data⟩],none⟩) (v:=?_) rfl ?_ hHeld ?_;rotate_left 1
     . rintro W ⟨l1,l2,l3,l4,l5,l6,l7⟩;go_simp;try with_reducible rfl
     simp only[Act.put,zIB,zSZ,zSS];refine tkH (i:=5) (oi:=⟨some 29,.move (.tmp 5),85, "join.go:42",#[],none⟩) (v:=?_) rfl ?_ hHeld ?_;rotate_left 1
     . rintro W ⟨l1,l2,l3,l4,l5,l6,l7⟩;go_simp;try with_reducible rfl
     simp only[Act.put,zIB,zSZ,zSS];refine tkH (i:=6) (oi:=⟨some 30,.move (.tmp 0),65, "join.go:42",#[],none⟩) (v:=?_) rfl ?_ hHeld ?_;rotate_left 1
     . rintro W ⟨l1,l2,l3,l4,l5,l6,l7⟩;go_simp;try with_reducible rfl
     simp only[Act.put,zIB,zSZ,zSS];refine tkH (i:=7) (oi:=⟨some 31,.fieldAddr 55 (.tmp 8) 2,0, "join.go:42",#[],none⟩) (v:=?_) rfl ?_ hHeld ?_;rotate_left 1
     . rintro W ⟨l1,l2,l3,l4,l5,l6,l7⟩;go_simp;try with_reducible rfl
     simp only[Act.put,zIB,zSZ,zSS];refine tkH (i:=8) (oi:=⟨some 32,.load 53 (.tmp 31),53, "join.go:42",#[⟨7,.data⟩],none⟩) (v:=?_) rfl ?_ hHeld ?_;rotate_left 1
     . rintro W ⟨l1,l2,l3,l4,l5,l6,l7⟩;go_simp;try with_reducible rfl
     simp only[Act.put,zIB,zSZ,zSS];refine tkH (i:=10) (oi:=⟨some 34,.move (.tmp 0),65, "join.go:42",#[],none⟩) (v:=?_) rfl ?_ hHeld ?_;rotate_left 1
     . rintro W ⟨l1,l2,l3,l4,l5,l6,l7⟩;go_simp;try with_reducible rfl
     simp only[Act.put,zIB,zSZ,zSS];refine tkH (i:=11) (oi:=⟨some 35,.fieldAddr 55 (.tmp 8) 1,0, "join.go:42",#[],none⟩) (v:=?_) rfl ?_ hHeld ?_;rotate_left 1
     . rintro W ⟨l1,l2,l3,l4,l5,l6,l7⟩;go_simp;try with_reducible rfl
     simp only[Act.put,zIB,zSZ,zSS];refine tkH (i:=12) (oi:=⟨some 36,.load 25 (.tmp 35),25, "join.go:42",#[⟨11,.data⟩],none⟩) (v:=?_) rfl ?_ hHeld ?_;rotate_left 1
     . rintro W ⟨l1,l2,l3,l4,l5,l6,l7⟩;go_simp;try with_reducible rfl
     simp only[Act.put,zIB,zSZ,zSS];refine tkH (i:=14) (oi:=⟨some 38,.move (.tmp 6),65, "join.go:42",#[],none⟩) (v:=?_) rfl ?_ hHeld ?_;rotate_left 1
     . rintro W ⟨l1,l2,l3,l4,l5,l6,l7⟩;go_simp;try with_reducible rfl
     simp only[Act.put,zIB,zSZ,zSS];refine tkH (i:=15) (oi:=⟨some 39,.fieldAddr 55 (.tmp 8) 1,0, "join.go:42",#[],none⟩) (v:=?_) rfl ?_ hHeld ?_;rotate_left 1
     . rintro W ⟨l1,l2,l3,l4,l5,l6,l7⟩;go_simp;try with_reducible rfl
     simp only[Act.put,zIB,zSZ,zSS];refine tkH (i:=16) (oi:=⟨some 40,.load 25 (.tmp 39),25, "join.go:42",#[⟨15,.data⟩],none⟩) (v:=?_) rfl ?_ hHeld ?_;rotate_left 1
     . rintro W ⟨l1,l2,l3,l4,l5,l6,l7⟩;go_simp;try with_reducible rfl
     simp only[Act.put,zIB,zSZ,zSS];rw[<- hu0]at hHeld ⊢;clear hu0;refine wpAnyH_ready (rs:=[4,20]) (by kernel_rfl) (by simp) ?_;refine(AllReadyH.cons (o:=⟨some 28,.call { callee:=.value (.func 72),args:=#[.tmp 24,.tmp 25,.tmp 27],argTypes:=#[85,65,53] },3, "join.go:42",#[⟨0,.data⟩,⟨1,.data⟩,⟨3,.data⟩],none⟩) rfl (fun K hK=>?_) (AllReadyH.cons (o:=⟨some 9,.alloc 140,0, "join.go:42",#[],none⟩) rfl (fun K hK=>?_) AllReadyH.nil))
     . go_simp;refine(slot_any HRS.out.jb_.sl (HGA.out _ _ _ _ _ _ _ _ _ HRS.out).1 (HGA.out _ _ _ _ _ _ _ _ _ HRS.out).2 HRS.out.jb_.Bw (t:=(sv0,sn)) HF0.out (by have:=htl;omega) hVl).mono ?_;intro e u1 hs;obtain⟨J1,frs1,D1,he,hR⟩:=HRS.out.slot hs;obtain⟨x0,hx0⟩:∃x:Nat,x=(addT (termsOf (P.take i)) (sv0,sn)).idxOf ((sv0,sn):Tm):=⟨_,rfl⟩
       rw[<- hx0]at he;subst he;have HX0:=zA hx0;clear hs HRS hx0;have HRS:=zA hR;clear hR;refine hK.out _ _ (KS.out _ (HRS.out.bx (ab,OB) (by simp)).1) (fun hHeld=>?_);clear hK K;refine wpAnyH_ready (rs:=[9,20]) (by kernel_rfl) (by simp) ?_;refine(AllReadyH.cons (o:=⟨some 33,.call { callee:=.value (.func 72),args:=#[.tmp 29,.tmp 30,.tmp 32],argTypes:=#[85,65,53] },3, "join.go:42",#[⟨5,.data⟩,⟨6,.data⟩,⟨8,.data⟩,⟨4,.chain⟩],none⟩) rfl (fun K hK=>?_) (AllReadyH.cons (o:=⟨some 9,.alloc 140,0, "join.go:42",#[],none⟩) rfl (fun K hK=>?_) AllReadyH.nil))
       . go_simp;refine(slot_any HRS.out.jb_.sl (HGA.out _ _ _ _ _ _ _ _ _ HRS.out).1 (HGA.out _ _ _ _ _ _ _ _ _ HRS.out).2 HRS.out.jb_.Bw (t:=(ov0,on)) HF1.out (by have:=addT_len (termsOf (P.take i)) ((sv0,sn):Tm);omega) hVl).mono ?_;intro e u2 hs;obtain⟨J2,frs2,D2,he,hR⟩:=HRS.out.slot hs;obtain⟨x1,hx1⟩:∃x:Nat,x=(addT (addT (termsOf (P.take i)) ((sv0,sn):Tm)) (ov0,on)).idxOf ((ov0,on):Tm):=⟨_,rfl⟩
         rw[<- hx1]at he;subst he;have HX1:=zA hx1;clear hs HRS hx1;have HRS:=zA hR;clear hR;refine hK.out _ _ (KS.out _ (HRS.out.bx (ab,OB) (by simp)).1) (fun hHeld=>?_);clear hK K;refine wpAnyH_ready (rs:=[13,20]) (by kernel_rfl) (by simp) ?_;refine(AllReadyH.cons (o:=⟨some 37,.call { callee:=.value (.func 73),args:=#[.tmp 34,.tmp 36],argTypes:=#[65,25] },67, "join.go:42",#[⟨10,.data⟩,⟨12,.data⟩,⟨9,.chain⟩],none⟩) rfl (fun K hK=>?_) (AllReadyH.cons (o:=⟨some 9,.alloc 140,0, "join.go:42",#[],none⟩) rfl (fun K hK=>?_) AllReadyH.nil))
         . go_simp;refine(along_any (HGA.out _ _ _ _ _ _ _ _ _ HRS.out).1 (HVO.out _ HRS.out.fr) HMP.out hVl hEl HE.out).mono ?_;intro e u3 hs;obtain⟨sb1,m1,kp1,he,hR⟩:=HRS.out.search hs;subst he;clear hs HRS;have HRS:=zA hR;clear hR;refine hK.out _ _ (KS.out _ (HRS.out.bx (ab,OB) (by simp)).1) (fun hHeld=>?_);clear hK K;refine wpAnyH_ready (rs:=[17,20]) (by kernel_rfl) (by simp) ?_;refine(AllReadyH.cons (o:=⟨some 41,.call { callee:=.value (.func 74),args:=#[.tmp 40],argTypes:=#[25] },25, "join.go:42",#[⟨16,.data⟩,⟨13,.chain⟩],none⟩) rfl (fun K hK=>?_) (AllReadyH.cons (o:=⟨some 9,.alloc 140,0, "join.go:42",#[],none⟩) rfl (fun K hK=>?_) AllReadyH.nil))
           . go_simp;refine(turnedP_any ⟨pk,pw,.slice pa pn pc,pl⟩ 12 _ _ HSH.out (HVO.out _ HRS.out.fr)).mono ?_;rintro e u4 ⟨tb,tn,tkids,rfl,hv4,hp4,hb4⟩;dsimp only at hv4 hp4;have HR4:=zA (HRS.out.below hb4);clear HRS hb4;have HRS:=HR4;clear HR4;have HV4:=zA hv4;have HP4:=zA hp4;clear hv4 hp4;refine hK.out _ _ (KS.out _ (HRS.out.bx (ab,OB) (by simp)).1) (fun hHeld=>?_);clear hK K;refine wpAnyH_ready (rs:=[18,20]) (by kernel_rfl) (by simp) ?_;refine(AllReadyH.cons (o:=⟨some 42,.call { callee:=.value (.func 73),args:=#[.tmp 38,.tmp 41],argTypes:=#[65,25] },67, "join.go:42",#[⟨14,.data⟩,⟨17,.data⟩,⟨17,.chain⟩],none⟩) rfl (fun K hK=>?_) (AllReadyH.cons (o:=⟨some 9,.alloc 140,0, "join.go:42",#[],none⟩) rfl (fun K hK=>?_) AllReadyH.nil))
             . go_simp;refine(along_any (t:=⟨pk,pw,.slice (some ⟨tb,0,none⟩) tn tn,tkids⟩) (HGB.out _ _ _ _ _ _ _ _ _ HRS.out).1 HV4.out (by rw[HP4.out];exact may_turn HMP.out) hVl (by rw[zH];exact hEl) HEB.out).mono ?_;intro e u5 hs;rw[HP4.out]at hs;obtain⟨sb2,m2,kp2,he,hR⟩:=HRS.out.search hs;subst he;clear hs HRS;have HRS:=zA hR;clear hR;refine hK.out _ _ (KS.out _ (HRS.out.bx (ab,OB) (by simp)).1) (fun hHeld=>?_);clear hK K;refine tkH (i:=19) (oi:=⟨some 43,.build 140 #[(0,.tmp 28),(1,.tmp 33),(2,.tmp 37),(3,.tmp 42)],140, "join.go:42",#[⟨4,.data⟩,⟨9,.data⟩,⟨13,.data⟩,⟨18,.data⟩],none⟩) (v:=?_) rfl ?_ hHeld ?_;rotate_left 1
               . rintro W ⟨l1,l2,l3,l4,l5,l6,l7⟩;go_simp;try with_reducible rfl
               simp only[Act.put,zIB,zSZ,zSS];refine wpAnyH_ready (rs:=[20]) (by kernel_rfl) (by simp) ?_;refine(AllReadyH.cons (o:=⟨some 9,.alloc 140,0, "join.go:42",#[],none⟩) rfl (fun K hK=>?_) AllReadyH.nil);go_simp;obtain⟨ua,hua⟩:∃W,W=u5.alloc (.cells #[.int .i64 0,.int .i64 0,.pointer none,.pointer none] 140):=⟨_,rfl⟩
               obtain⟨lb,hlb⟩:∃b,b=u5.heap.size:=⟨_,rfl⟩
               have HRa:=zA (HRS.out.alloc (.cells #[.int .i64 0,.int .i64 0,.pointer none,.pointer none] 140));have HLB:Hid (w1.heap.size<=lb/\w.heap.size<=lb):=zA (by have h1:=HRS.out.fr.size;have h2:=HRS.out.jb_.Bw;omega);rw[<- hua,<- hlb]at HRa;rw[<- hua,<- hlb];clear HRS hua hlb;have HRS:=HRa;clear HRa;refine hK.out _ _ (KS.out _ (HRS.out.bx (ab,OB) (by simp)).1) (fun hHeld=>?_);clear hK K;have hzl:=(HRS.out.bx (lb,_) (zL ..)).1;have hob:=(HRS.out.bx (ab,OB) (by simp)).1;have hal:ab≠lb:=fun e=>by rw[<- e,hob,hOB]at hzl;simp at hzl
               obtain⟨⟨z0,z1,z2,z3⟩,y0,y1,y2,y3⟩:=four_cellsX hzl;have HFIN:=zA (HRS.out.touch (u':=set4K ua lb (.int .i64 (x0:Int)) (.int .i64 (x1:Int)) (.pointer (some ⟨sb1,0,none⟩)) (.pointer (some ⟨sb2,0,none⟩))) (zL ..) HLB.out.1 HLB.out.2 (set4K_size ..) rfl rfl rfl (fun k hk=>set4K_other _ _ _ _ _ _ hk) (set4K_at hzl));have HOB:Hid ((set4K ua lb (.int .i64 (x0:Int)) (.int .i64 (x1:Int)) (.pointer (some ⟨sb1,0,none⟩)) (.pointer (some ⟨sb2,0,none⟩))).heap[ab]?=some OB):=zA ((set4K_other _ _ _ _ _ _ hal).trans hob);unfold set4K at HFIN HOB;clear hzl hob hal HRS;refine wpAnyH_ready (rs:=[21]) (by kernel_rfl) (by simp) ?_;refine AllReadyH.cons (o:=⟨none,.store 140 (.tmp 9) (.tmp 43),0, "join.go:42",#[⟨20,.data⟩,⟨19,.data⟩,⟨18,.chain⟩,⟨0,.phase⟩,⟨1,.phase⟩,⟨2,.phase⟩,⟨3,.phase⟩,⟨4,.phase⟩,⟨5,.phase⟩,⟨6,.phase⟩,⟨7,.phase⟩,⟨8,.phase⟩,⟨9,.phase⟩,⟨10,.phase⟩,⟨11,.phase⟩,⟨12,.phase⟩,⟨13,.phase⟩,⟨14,.phase⟩,⟨15,.phase⟩,⟨16,.phase⟩,⟨17,.phase⟩,⟨18,.phase⟩,⟨19,.phase⟩,⟨20,.phase⟩],none⟩) rfl (fun K hK=>?_) AllReadyH.nil;go_simp;refine hK.out _ _ (KS.out _ HOB.out) (fun hHeld=>?_);clear hK K z0 z1 z2 z3 y0 y1 y2 y3;refine wpAnyH_done (by kernel_rfl) ?_ _;refine Met.intro ?_;go_step
               apply_assumption
               (repeat apply Exists.intro)
               refine⟨?_,rfl⟩;exact⟨lb,_,_,_,x0,x1,sb1,sb2,kp1,kp2,m1,m2,rfl,by rw[HT2E.out];exact HFIN,zA ⟨by rw[HT2E.out,HX0.out];exact addT_get (addT_idx _ _),by rw[HT2E.out,HX1.out];exact addT_idx _ _⟩⟩
             . go_simp;obtain⟨ua,hua⟩:∃W,W=u4.alloc (.cells #[.int .i64 0,.int .i64 0,.pointer none,.pointer none] 140):=⟨_,rfl⟩
               obtain⟨lb,hlb⟩:∃b,b=u4.heap.size:=⟨_,rfl⟩
               have HRa:=zA (HRS.out.alloc (.cells #[.int .i64 0,.int .i64 0,.pointer none,.pointer none] 140));have HLB:Hid (w1.heap.size<=lb/\w.heap.size<=lb):=zA (by have h1:=HRS.out.fr.size;have h2:=HRS.out.jb_.Bw;omega);rw[<- hua,<- hlb]at HRa;rw[<- hua,<- hlb];have HV4b:Hid (VOk _ ua _):=zA (by rw[hua];exact HV4.out.below ((zE u4.heap.size u4).alloc (zD _) _));clear HV4;have HV4:=HV4b;clear HV4b;clear HRS hua hlb;have HRS:=HRa;clear HRa;refine hK.out _ _ (KS.out _ (HRS.out.bx (ab,OB) (by simp)).1) (fun hHeld=>?_);clear hK K;refine wpAnyH_ready (rs:=[18]) (by kernel_rfl) (by simp) ?_;refine(AllReadyH.cons (o:=⟨some 42,.call { callee:=.value (.func 73),args:=#[.tmp 38,.tmp 41],argTypes:=#[65,25] },67, "join.go:42",#[⟨14,.data⟩,⟨17,.data⟩,⟨17,.chain⟩],none⟩) rfl (fun K hK=>?_) AllReadyH.nil);go_simp;refine(along_any (t:=⟨pk,pw,.slice (some ⟨tb,0,none⟩) tn tn,tkids⟩) (HGB.out _ _ _ _ _ _ _ _ _ HRS.out).1 HV4.out (by rw[HP4.out];exact may_turn HMP.out) hVl (by rw[zH];exact hEl) HEB.out).mono ?_;intro e u5 hs;rw[HP4.out]at hs;obtain⟨sb2,m2,kp2,he,hR⟩:=HRS.out.search hs;subst he;clear hs HRS;have HRS:=zA hR;clear hR;refine hK.out _ _ (KS.out _ (HRS.out.bx (ab,OB) (by simp)).1) (fun hHeld=>?_);clear hK K;refine tkH (i:=19) (oi:=⟨some 43,.build 140 #[(0,.tmp 28),(1,.tmp 33),(2,.tmp 37),(3,.tmp 42)],140, "join.go:42",#[⟨4,.data⟩,⟨9,.data⟩,⟨13,.data⟩,⟨18,.data⟩],none⟩) (v:=?_) rfl ?_ hHeld ?_;rotate_left 1
               . rintro W ⟨l1,l2,l3,l4,l5,l6,l7⟩;go_simp;try with_reducible rfl
               simp only[Act.put,zIB,zSZ,zSS];have hzl:=(HRS.out.bx (lb,_) (zL ..)).1;have hob:=(HRS.out.bx (ab,OB) (by simp)).1;have hal:ab≠lb:=fun e=>by rw[<- e,hob,hOB]at hzl;simp at hzl
               obtain⟨⟨z0,z1,z2,z3⟩,y0,y1,y2,y3⟩:=four_cellsX hzl;have HFIN:=zA (HRS.out.touch (u':=set4K u5 lb (.int .i64 (x0:Int)) (.int .i64 (x1:Int)) (.pointer (some ⟨sb1,0,none⟩)) (.pointer (some ⟨sb2,0,none⟩))) (zL ..) HLB.out.1 HLB.out.2 (set4K_size ..) rfl rfl rfl (fun k hk=>set4K_other _ _ _ _ _ _ hk) (set4K_at hzl));have HOB:Hid ((set4K u5 lb (.int .i64 (x0:Int)) (.int .i64 (x1:Int)) (.pointer (some ⟨sb1,0,none⟩)) (.pointer (some ⟨sb2,0,none⟩))).heap[ab]?=some OB):=zA ((set4K_other _ _ _ _ _ _ hal).trans hob);unfold set4K at HFIN HOB;clear hzl hob hal HRS;refine wpAnyH_ready (rs:=[21]) (by kernel_rfl) (by simp) ?_;refine AllReadyH.cons (o:=⟨none,.store 140 (.tmp 9) (.tmp 43),0, "join.go:42",#[⟨20,.data⟩,⟨19,.data⟩,⟨18,.chain⟩,⟨0,.phase⟩,⟨1,.phase⟩,⟨2,.phase⟩,⟨3,.phase⟩,⟨4,.phase⟩,⟨5,.phase⟩,⟨6,.phase⟩,⟨7,.phase⟩,⟨8,.phase⟩,⟨9,.phase⟩,⟨10,.phase⟩,⟨11,.phase⟩,⟨12,.phase⟩,⟨13,.phase⟩,⟨14,.phase⟩,⟨15,.phase⟩,⟨16,.phase⟩,⟨17,.phase⟩,⟨18,.phase⟩,⟨19,.phase⟩,⟨20,.phase⟩],none⟩) rfl (fun K hK=>?_) AllReadyH.nil;go_simp;refine hK.out _ _ (KS.out _ HOB.out) (fun hHeld=>?_);clear hK K z0 z1 z2 z3 y0 y1 y2 y3;refine wpAnyH_done (by kernel_rfl) ?_ _;refine Met.intro ?_;go_step
               apply_assumption
               (repeat apply Exists.intro)
               refine⟨?_,rfl⟩;exact⟨lb,_,_,_,x0,x1,sb1,sb2,kp1,kp2,m1,m2,rfl,by rw[HT2E.out];exact HFIN,zA ⟨by rw[HT2E.out,HX0.out];exact addT_get (addT_idx _ _),by rw[HT2E.out,HX1.out];exact addT_idx _ _⟩⟩
           . go_simp;obtain⟨ua,hua⟩:∃W,W=u3.alloc (.cells #[.int .i64 0,.int .i64 0,.pointer none,.pointer none] 140):=⟨_,rfl⟩
             obtain⟨lb,hlb⟩:∃b,b=u3.heap.size:=⟨_,rfl⟩
             have HRa:=zA (HRS.out.alloc (.cells #[.int .i64 0,.int .i64 0,.pointer none,.pointer none] 140));have HLB:Hid (w1.heap.size<=lb/\w.heap.size<=lb):=zA (by have h1:=HRS.out.fr.size;have h2:=HRS.out.jb_.Bw;omega);rw[<- hua,<- hlb]at HRa;rw[<- hua,<- hlb];clear HRS hua hlb;have HRS:=HRa;clear HRa;refine hK.out _ _ (KS.out _ (HRS.out.bx (ab,OB) (by simp)).1) (fun hHeld=>?_);clear hK K;refine wpAnyH_ready (rs:=[17]) (by kernel_rfl) (by simp) ?_;refine(AllReadyH.cons (o:=⟨some 41,.call { callee:=.value (.func 74),args:=#[.tmp 40],argTypes:=#[25] },25, "join.go:42",#[⟨16,.data⟩,⟨13,.chain⟩],none⟩) rfl (fun K hK=>?_) AllReadyH.nil);go_simp;refine(turnedP_any ⟨pk,pw,.slice pa pn pc,pl⟩ 12 _ _ HSH.out (HVO.out _ HRS.out.fr)).mono ?_;rintro e u4 ⟨tb,tn,tkids,rfl,hv4,hp4,hb4⟩;dsimp only at hv4 hp4;have HR4:=zA (HRS.out.below hb4);clear HRS hb4;have HRS:=HR4;clear HR4;have HV4:=zA hv4;have HP4:=zA hp4;clear hv4 hp4;refine hK.out _ _ (KS.out _ (HRS.out.bx (ab,OB) (by simp)).1) (fun hHeld=>?_);clear hK K;refine wpAnyH_ready (rs:=[18]) (by kernel_rfl) (by simp) ?_;refine(AllReadyH.cons (o:=⟨some 42,.call { callee:=.value (.func 73),args:=#[.tmp 38,.tmp 41],argTypes:=#[65,25] },67, "join.go:42",#[⟨14,.data⟩,⟨17,.data⟩,⟨17,.chain⟩],none⟩) rfl (fun K hK=>?_) AllReadyH.nil);go_simp;refine(along_any (t:=⟨pk,pw,.slice (some ⟨tb,0,none⟩) tn tn,tkids⟩) (HGB.out _ _ _ _ _ _ _ _ _ HRS.out).1 HV4.out (by rw[HP4.out];exact may_turn HMP.out) hVl (by rw[zH];exact hEl) HEB.out).mono ?_;intro e u5 hs;rw[HP4.out]at hs;obtain⟨sb2,m2,kp2,he,hR⟩:=HRS.out.search hs;subst he;clear hs HRS;have HRS:=zA hR;clear hR;refine hK.out _ _ (KS.out _ (HRS.out.bx (ab,OB) (by simp)).1) (fun hHeld=>?_);clear hK K;refine tkH (i:=19) (oi:=⟨some 43,.build 140 #[(0,.tmp 28),(1,.tmp 33),(2,.tmp 37),(3,.tmp 42)],140, "join.go:42",#[⟨4,.data⟩,⟨9,.data⟩,⟨13,.data⟩,⟨18,.data⟩],none⟩) (v:=?_) rfl ?_ hHeld ?_;rotate_left 1
             . rintro W ⟨l1,l2,l3,l4,l5,l6,l7⟩;go_simp;try with_reducible rfl
             simp only[Act.put,zIB,zSZ,zSS];have hzl:=(HRS.out.bx (lb,_) (zL ..)).1;have hob:=(HRS.out.bx (ab,OB) (by simp)).1;have hal:ab≠lb:=fun e=>by rw[<- e,hob,hOB]at hzl;simp at hzl
             obtain⟨⟨z0,z1,z2,z3⟩,y0,y1,y2,y3⟩:=four_cellsX hzl;have HFIN:=zA (HRS.out.touch (u':=set4K u5 lb (.int .i64 (x0:Int)) (.int .i64 (x1:Int)) (.pointer (some ⟨sb1,0,none⟩)) (.pointer (some ⟨sb2,0,none⟩))) (zL ..) HLB.out.1 HLB.out.2 (set4K_size ..) rfl rfl rfl (fun k hk=>set4K_other _ _ _ _ _ _ hk) (set4K_at hzl));have HOB:Hid ((set4K u5 lb (.int .i64 (x0:Int)) (.int .i64 (x1:Int)) (.pointer (some ⟨sb1,0,none⟩)) (.pointer (some ⟨sb2,0,none⟩))).heap[ab]?=some OB):=zA ((set4K_other _ _ _ _ _ _ hal).trans hob);unfold set4K at HFIN HOB;clear hzl hob hal HRS;refine wpAnyH_ready (rs:=[21]) (by kernel_rfl) (by simp) ?_;refine AllReadyH.cons (o:=⟨none,.store 140 (.tmp 9) (.tmp 43),0, "join.go:42",#[⟨20,.data⟩,⟨19,.data⟩,⟨18,.chain⟩,⟨0,.phase⟩,⟨1,.phase⟩,⟨2,.phase⟩,⟨3,.phase⟩,⟨4,.phase⟩,⟨5,.phase⟩,⟨6,.phase⟩,⟨7,.phase⟩,⟨8,.phase⟩,⟨9,.phase⟩,⟨10,.phase⟩,⟨11,.phase⟩,⟨12,.phase⟩,⟨13,.phase⟩,⟨14,.phase⟩,⟨15,.phase⟩,⟨16,.phase⟩,⟨17,.phase⟩,⟨18,.phase⟩,⟨19,.phase⟩,⟨20,.phase⟩],none⟩) rfl (fun K hK=>?_) AllReadyH.nil;go_simp;refine hK.out _ _ (KS.out _ HOB.out) (fun hHeld=>?_);clear hK K z0 z1 z2 z3 y0 y1 y2 y3;refine wpAnyH_done (by kernel_rfl) ?_ _;refine Met.intro ?_;go_step
             apply_assumption
             (repeat apply Exists.intro)
             refine⟨?_,rfl⟩;exact⟨lb,_,_,_,x0,x1,sb1,sb2,kp1,kp2,m1,m2,rfl,by rw[HT2E.out];exact HFIN,zA ⟨by rw[HT2E.out,HX0.out];exact addT_get (addT_idx _ _),by rw[HT2E.out,HX1.out];exact addT_idx _ _⟩⟩
         . go_simp;obtain⟨ua,hua⟩:∃W,W=u2.alloc (.cells #[.int .i64 0,.int .i64 0,.pointer none,.pointer none] 140):=⟨_,rfl⟩
           obtain⟨lb,hlb⟩:∃b,b=u2.heap.size:=⟨_,rfl⟩
           have HRa:=zA (HRS.out.alloc (.cells #[.int .i64 0,.int .i64 0,.pointer none,.pointer none] 140));have HLB:Hid (w1.heap.size<=lb/\w.heap.size<=lb):=zA (by have h1:=HRS.out.fr.size;have h2:=HRS.out.jb_.Bw;omega);rw[<- hua,<- hlb]at HRa;rw[<- hua,<- hlb];clear HRS hua hlb;have HRS:=HRa;clear HRa;refine hK.out _ _ (KS.out _ (HRS.out.bx (ab,OB) (by simp)).1) (fun hHeld=>?_);clear hK K;refine wpAnyH_ready (rs:=[13]) (by kernel_rfl) (by simp) ?_;refine(AllReadyH.cons (o:=⟨some 37,.call { callee:=.value (.func 73),args:=#[.tmp 34,.tmp 36],argTypes:=#[65,25] },67, "join.go:42",#[⟨10,.data⟩,⟨12,.data⟩,⟨9,.chain⟩],none⟩) rfl (fun K hK=>?_) AllReadyH.nil);go_simp;refine(along_any (HGA.out _ _ _ _ _ _ _ _ _ HRS.out).1 (HVO.out _ HRS.out.fr) HMP.out hVl hEl HE.out).mono ?_;intro e u3 hs;obtain⟨sb1,m1,kp1,he,hR⟩:=HRS.out.search hs;subst he;clear hs HRS;have HRS:=zA hR;clear hR;refine hK.out _ _ (KS.out _ (HRS.out.bx (ab,OB) (by simp)).1) (fun hHeld=>?_);clear hK K;refine wpAnyH_ready (rs:=[17]) (by kernel_rfl) (by simp) ?_;refine(AllReadyH.cons (o:=⟨some 41,.call { callee:=.value (.func 74),args:=#[.tmp 40],argTypes:=#[25] },25, "join.go:42",#[⟨16,.data⟩,⟨13,.chain⟩],none⟩) rfl (fun K hK=>?_) AllReadyH.nil);go_simp;refine(turnedP_any ⟨pk,pw,.slice pa pn pc,pl⟩ 12 _ _ HSH.out (HVO.out _ HRS.out.fr)).mono ?_;rintro e u4 ⟨tb,tn,tkids,rfl,hv4,hp4,hb4⟩;dsimp only at hv4 hp4;have HR4:=zA (HRS.out.below hb4);clear HRS hb4;have HRS:=HR4;clear HR4;have HV4:=zA hv4;have HP4:=zA hp4;clear hv4 hp4;refine hK.out _ _ (KS.out _ (HRS.out.bx (ab,OB) (by simp)).1) (fun hHeld=>?_);clear hK K;refine wpAnyH_ready (rs:=[18]) (by kernel_rfl) (by simp) ?_;refine(AllReadyH.cons (o:=⟨some 42,.call { callee:=.value (.func 73),args:=#[.tmp 38,.tmp 41],argTypes:=#[65,25] },67, "join.go:42",#[⟨14,.data⟩,⟨17,.data⟩,⟨17,.chain⟩],none⟩) rfl (fun K hK=>?_) AllReadyH.nil);go_simp;refine(along_any (t:=⟨pk,pw,.slice (some ⟨tb,0,none⟩) tn tn,tkids⟩) (HGB.out _ _ _ _ _ _ _ _ _ HRS.out).1 HV4.out (by rw[HP4.out];exact may_turn HMP.out) hVl (by rw[zH];exact hEl) HEB.out).mono ?_;intro e u5 hs;rw[HP4.out]at hs;obtain⟨sb2,m2,kp2,he,hR⟩:=HRS.out.search hs;subst he;clear hs HRS;have HRS:=zA hR;clear hR;refine hK.out _ _ (KS.out _ (HRS.out.bx (ab,OB) (by simp)).1) (fun hHeld=>?_);clear hK K;refine tkH (i:=19) (oi:=⟨some 43,.build 140 #[(0,.tmp 28),(1,.tmp 33),(2,.tmp 37),(3,.tmp 42)],140, "join.go:42",#[⟨4,.data⟩,⟨9,.data⟩,⟨13,.data⟩,⟨18,.data⟩],none⟩) (v:=?_) rfl ?_ hHeld ?_;rotate_left 1
           . rintro W ⟨l1,l2,l3,l4,l5,l6,l7⟩;go_simp;try with_reducible rfl
           simp only[Act.put,zIB,zSZ,zSS];have hzl:=(HRS.out.bx (lb,_) (zL ..)).1;have hob:=(HRS.out.bx (ab,OB) (by simp)).1;have hal:ab≠lb:=fun e=>by rw[<- e,hob,hOB]at hzl;simp at hzl
           obtain⟨⟨z0,z1,z2,z3⟩,y0,y1,y2,y3⟩:=four_cellsX hzl;have HFIN:=zA (HRS.out.touch (u':=set4K u5 lb (.int .i64 (x0:Int)) (.int .i64 (x1:Int)) (.pointer (some ⟨sb1,0,none⟩)) (.pointer (some ⟨sb2,0,none⟩))) (zL ..) HLB.out.1 HLB.out.2 (set4K_size ..) rfl rfl rfl (fun k hk=>set4K_other _ _ _ _ _ _ hk) (set4K_at hzl));have HOB:Hid ((set4K u5 lb (.int .i64 (x0:Int)) (.int .i64 (x1:Int)) (.pointer (some ⟨sb1,0,none⟩)) (.pointer (some ⟨sb2,0,none⟩))).heap[ab]?=some OB):=zA ((set4K_other _ _ _ _ _ _ hal).trans hob);unfold set4K at HFIN HOB;clear hzl hob hal HRS;refine wpAnyH_ready (rs:=[21]) (by kernel_rfl) (by simp) ?_;refine AllReadyH.cons (o:=⟨none,.store 140 (.tmp 9) (.tmp 43),0, "join.go:42",#[⟨20,.data⟩,⟨19,.data⟩,⟨18,.chain⟩,⟨0,.phase⟩,⟨1,.phase⟩,⟨2,.phase⟩,⟨3,.phase⟩,⟨4,.phase⟩,⟨5,.phase⟩,⟨6,.phase⟩,⟨7,.phase⟩,⟨8,.phase⟩,⟨9,.phase⟩,⟨10,.phase⟩,⟨11,.phase⟩,⟨12,.phase⟩,⟨13,.phase⟩,⟨14,.phase⟩,⟨15,.phase⟩,⟨16,.phase⟩,⟨17,.phase⟩,⟨18,.phase⟩,⟨19,.phase⟩,⟨20,.phase⟩],none⟩) rfl (fun K hK=>?_) AllReadyH.nil;go_simp;refine hK.out _ _ (KS.out _ HOB.out) (fun hHeld=>?_);clear hK K z0 z1 z2 z3 y0 y1 y2 y3;refine wpAnyH_done (by kernel_rfl) ?_ _;refine Met.intro ?_;go_step
           apply_assumption
           (repeat apply Exists.intro)
           refine⟨?_,rfl⟩;exact⟨lb,_,_,_,x0,x1,sb1,sb2,kp1,kp2,m1,m2,rfl,by rw[HT2E.out];exact HFIN,zA ⟨by rw[HT2E.out,HX0.out];exact addT_get (addT_idx _ _),by rw[HT2E.out,HX1.out];exact addT_idx _ _⟩⟩
       . go_simp;obtain⟨ua,hua⟩:∃W,W=u1.alloc (.cells #[.int .i64 0,.int .i64 0,.pointer none,.pointer none] 140):=⟨_,rfl⟩
         obtain⟨lb,hlb⟩:∃b,b=u1.heap.size:=⟨_,rfl⟩
         have HRa:=zA (HRS.out.alloc (.cells #[.int .i64 0,.int .i64 0,.pointer none,.pointer none] 140));have HLB:Hid (w1.heap.size<=lb/\w.heap.size<=lb):=zA (by have h1:=HRS.out.fr.size;have h2:=HRS.out.jb_.Bw;omega);rw[<- hua,<- hlb]at HRa;rw[<- hua,<- hlb];clear HRS hua hlb;have HRS:=HRa;clear HRa;refine hK.out _ _ (KS.out _ (HRS.out.bx (ab,OB) (by simp)).1) (fun hHeld=>?_);clear hK K;refine wpAnyH_ready (rs:=[9]) (by kernel_rfl) (by simp) ?_;refine(AllReadyH.cons (o:=⟨some 33,.call { callee:=.value (.func 72),args:=#[.tmp 29,.tmp 30,.tmp 32],argTypes:=#[85,65,53] },3, "join.go:42",#[⟨5,.data⟩,⟨6,.data⟩,⟨8,.data⟩,⟨4,.chain⟩],none⟩) rfl (fun K hK=>?_) AllReadyH.nil);go_simp;refine(slot_any HRS.out.jb_.sl (HGA.out _ _ _ _ _ _ _ _ _ HRS.out).1 (HGA.out _ _ _ _ _ _ _ _ _ HRS.out).2 HRS.out.jb_.Bw (t:=(ov0,on)) HF1.out (by have:=addT_len (termsOf (P.take i)) ((sv0,sn):Tm);omega) hVl).mono ?_;intro e u2 hs;obtain⟨J2,frs2,D2,he,hR⟩:=HRS.out.slot hs;obtain⟨x1,hx1⟩:∃x:Nat,x=(addT (addT (termsOf (P.take i)) ((sv0,sn):Tm)) (ov0,on)).idxOf ((ov0,on):Tm):=⟨_,rfl⟩
         rw[<- hx1]at he;subst he;have HX1:=zA hx1;clear hs HRS hx1;have HRS:=zA hR;clear hR;refine hK.out _ _ (KS.out _ (HRS.out.bx (ab,OB) (by simp)).1) (fun hHeld=>?_);clear hK K;refine wpAnyH_ready (rs:=[13]) (by kernel_rfl) (by simp) ?_;refine(AllReadyH.cons (o:=⟨some 37,.call { callee:=.value (.func 73),args:=#[.tmp 34,.tmp 36],argTypes:=#[65,25] },67, "join.go:42",#[⟨10,.data⟩,⟨12,.data⟩,⟨9,.chain⟩],none⟩) rfl (fun K hK=>?_) AllReadyH.nil);go_simp;refine(along_any (HGA.out _ _ _ _ _ _ _ _ _ HRS.out).1 (HVO.out _ HRS.out.fr) HMP.out hVl hEl HE.out).mono ?_;intro e u3 hs;obtain⟨sb1,m1,kp1,he,hR⟩:=HRS.out.search hs;subst he;clear hs HRS;have HRS:=zA hR;clear hR;refine hK.out _ _ (KS.out _ (HRS.out.bx (ab,OB) (by simp)).1) (fun hHeld=>?_);clear hK K;refine wpAnyH_ready (rs:=[17]) (by kernel_rfl) (by simp) ?_;refine(AllReadyH.cons (o:=⟨some 41,.call { callee:=.value (.func 74),args:=#[.tmp 40],argTypes:=#[25] },25, "join.go:42",#[⟨16,.data⟩,⟨13,.chain⟩],none⟩) rfl (fun K hK=>?_) AllReadyH.nil);go_simp;refine(turnedP_any ⟨pk,pw,.slice pa pn pc,pl⟩ 12 _ _ HSH.out (HVO.out _ HRS.out.fr)).mono ?_;rintro e u4 ⟨tb,tn,tkids,rfl,hv4,hp4,hb4⟩;dsimp only at hv4 hp4;have HR4:=zA (HRS.out.below hb4);clear HRS hb4;have HRS:=HR4;clear HR4;have HV4:=zA hv4;have HP4:=zA hp4;clear hv4 hp4;refine hK.out _ _ (KS.out _ (HRS.out.bx (ab,OB) (by simp)).1) (fun hHeld=>?_);clear hK K;refine wpAnyH_ready (rs:=[18]) (by kernel_rfl) (by simp) ?_;refine(AllReadyH.cons (o:=⟨some 42,.call { callee:=.value (.func 73),args:=#[.tmp 38,.tmp 41],argTypes:=#[65,25] },67, "join.go:42",#[⟨14,.data⟩,⟨17,.data⟩,⟨17,.chain⟩],none⟩) rfl (fun K hK=>?_) AllReadyH.nil);go_simp;refine(along_any (t:=⟨pk,pw,.slice (some ⟨tb,0,none⟩) tn tn,tkids⟩) (HGB.out _ _ _ _ _ _ _ _ _ HRS.out).1 HV4.out (by rw[HP4.out];exact may_turn HMP.out) hVl (by rw[zH];exact hEl) HEB.out).mono ?_;intro e u5 hs;rw[HP4.out]at hs;obtain⟨sb2,m2,kp2,he,hR⟩:=HRS.out.search hs;subst he;clear hs HRS;have HRS:=zA hR;clear hR;refine hK.out _ _ (KS.out _ (HRS.out.bx (ab,OB) (by simp)).1) (fun hHeld=>?_);clear hK K;refine tkH (i:=19) (oi:=⟨some 43,.build 140 #[(0,.tmp 28),(1,.tmp 33),(2,.tmp 37),(3,.tmp 42)],140, "join.go:42",#[⟨4,.data⟩,⟨9,.data⟩,⟨13,.data⟩,⟨18,.data⟩],none⟩) (v:=?_) rfl ?_ hHeld ?_;rotate_left 1
         . rintro W ⟨l1,l2,l3,l4,l5,l6,l7⟩;go_simp;try with_reducible rfl
         simp only[Act.put,zIB,zSZ,zSS];have hzl:=(HRS.out.bx (lb,_) (zL ..)).1;have hob:=(HRS.out.bx (ab,OB) (by simp)).1;have hal:ab≠lb:=fun e=>by rw[<- e,hob,hOB]at hzl;simp at hzl
         obtain⟨⟨z0,z1,z2,z3⟩,y0,y1,y2,y3⟩:=four_cellsX hzl;have HFIN:=zA (HRS.out.touch (u':=set4K u5 lb (.int .i64 (x0:Int)) (.int .i64 (x1:Int)) (.pointer (some ⟨sb1,0,none⟩)) (.pointer (some ⟨sb2,0,none⟩))) (zL ..) HLB.out.1 HLB.out.2 (set4K_size ..) rfl rfl rfl (fun k hk=>set4K_other _ _ _ _ _ _ hk) (set4K_at hzl));have HOB:Hid ((set4K u5 lb (.int .i64 (x0:Int)) (.int .i64 (x1:Int)) (.pointer (some ⟨sb1,0,none⟩)) (.pointer (some ⟨sb2,0,none⟩))).heap[ab]?=some OB):=zA ((set4K_other _ _ _ _ _ _ hal).trans hob);unfold set4K at HFIN HOB;clear hzl hob hal HRS;refine wpAnyH_ready (rs:=[21]) (by kernel_rfl) (by simp) ?_;refine AllReadyH.cons (o:=⟨none,.store 140 (.tmp 9) (.tmp 43),0, "join.go:42",#[⟨20,.data⟩,⟨19,.data⟩,⟨18,.chain⟩,⟨0,.phase⟩,⟨1,.phase⟩,⟨2,.phase⟩,⟨3,.phase⟩,⟨4,.phase⟩,⟨5,.phase⟩,⟨6,.phase⟩,⟨7,.phase⟩,⟨8,.phase⟩,⟨9,.phase⟩,⟨10,.phase⟩,⟨11,.phase⟩,⟨12,.phase⟩,⟨13,.phase⟩,⟨14,.phase⟩,⟨15,.phase⟩,⟨16,.phase⟩,⟨17,.phase⟩,⟨18,.phase⟩,⟨19,.phase⟩,⟨20,.phase⟩],none⟩) rfl (fun K hK=>?_) AllReadyH.nil;go_simp;refine hK.out _ _ (KS.out _ HOB.out) (fun hHeld=>?_);clear hK K z0 z1 z2 z3 y0 y1 y2 y3;refine wpAnyH_done (by kernel_rfl) ?_ _;refine Met.intro ?_;go_step
         apply_assumption
         (repeat apply Exists.intro)
         refine⟨?_,rfl⟩;exact⟨lb,_,_,_,x0,x1,sb1,sb2,kp1,kp2,m1,m2,rfl,by rw[HT2E.out];exact HFIN,zA ⟨by rw[HT2E.out,HX0.out];exact addT_get (addT_idx _ _),by rw[HT2E.out,HX1.out];exact addT_idx _ _⟩⟩
     . go_simp;obtain⟨ua,hua⟩:∃W,W=u0.alloc (.cells #[.int .i64 0,.int .i64 0,.pointer none,.pointer none] 140):=⟨_,rfl⟩
       obtain⟨lb,hlb⟩:∃b,b=u0.heap.size:=⟨_,rfl⟩
       have HRa:=zA (HRS.out.alloc (.cells #[.int .i64 0,.int .i64 0,.pointer none,.pointer none] 140));have HLB:Hid (w1.heap.size<=lb/\w.heap.size<=lb):=zA (by have h1:=HRS.out.fr.size;have h2:=HRS.out.jb_.Bw;omega);rw[<- hua,<- hlb]at HRa;rw[<- hua,<- hlb];clear HRS hua hlb;have HRS:=HRa;clear HRa;refine hK.out _ _ (KS.out _ (HRS.out.bx (ab,OB) (by simp)).1) (fun hHeld=>?_);clear hK K;refine wpAnyH_ready (rs:=[4]) (by kernel_rfl) (by simp) ?_;refine(AllReadyH.cons (o:=⟨some 28,.call { callee:=.value (.func 72),args:=#[.tmp 24,.tmp 25,.tmp 27],argTypes:=#[85,65,53] },3, "join.go:42",#[⟨0,.data⟩,⟨1,.data⟩,⟨3,.data⟩],none⟩) rfl (fun K hK=>?_) AllReadyH.nil);go_simp;refine(slot_any HRS.out.jb_.sl (HGA.out _ _ _ _ _ _ _ _ _ HRS.out).1 (HGA.out _ _ _ _ _ _ _ _ _ HRS.out).2 HRS.out.jb_.Bw (t:=(sv0,sn)) HF0.out (by have:=htl;omega) hVl).mono ?_;intro e u1 hs;obtain⟨J1,frs1,D1,he,hR⟩:=HRS.out.slot hs;obtain⟨x0,hx0⟩:∃x:Nat,x=(addT (termsOf (P.take i)) (sv0,sn)).idxOf ((sv0,sn):Tm):=⟨_,rfl⟩
       rw[<- hx0]at he;subst he;have HX0:=zA hx0;clear hs HRS hx0;have HRS:=zA hR;clear hR;refine hK.out _ _ (KS.out _ (HRS.out.bx (ab,OB) (by simp)).1) (fun hHeld=>?_);clear hK K;refine wpAnyH_ready (rs:=[9]) (by kernel_rfl) (by simp) ?_;refine(AllReadyH.cons (o:=⟨some 33,.call { callee:=.value (.func 72),args:=#[.tmp 29,.tmp 30,.tmp 32],argTypes:=#[85,65,53] },3, "join.go:42",#[⟨5,.data⟩,⟨6,.data⟩,⟨8,.data⟩,⟨4,.chain⟩],none⟩) rfl (fun K hK=>?_) AllReadyH.nil);go_simp;refine(slot_any HRS.out.jb_.sl (HGA.out _ _ _ _ _ _ _ _ _ HRS.out).1 (HGA.out _ _ _ _ _ _ _ _ _ HRS.out).2 HRS.out.jb_.Bw (t:=(ov0,on)) HF1.out (by have:=addT_len (termsOf (P.take i)) ((sv0,sn):Tm);omega) hVl).mono ?_;intro e u2 hs;obtain⟨J2,frs2,D2,he,hR⟩:=HRS.out.slot hs;obtain⟨x1,hx1⟩:∃x:Nat,x=(addT (addT (termsOf (P.take i)) ((sv0,sn):Tm)) (ov0,on)).idxOf ((ov0,on):Tm):=⟨_,rfl⟩
       rw[<- hx1]at he;subst he;have HX1:=zA hx1;clear hs HRS hx1;have HRS:=zA hR;clear hR;refine hK.out _ _ (KS.out _ (HRS.out.bx (ab,OB) (by simp)).1) (fun hHeld=>?_);clear hK K;refine wpAnyH_ready (rs:=[13]) (by kernel_rfl) (by simp) ?_;refine(AllReadyH.cons (o:=⟨some 37,.call { callee:=.value (.func 73),args:=#[.tmp 34,.tmp 36],argTypes:=#[65,25] },67, "join.go:42",#[⟨10,.data⟩,⟨12,.data⟩,⟨9,.chain⟩],none⟩) rfl (fun K hK=>?_) AllReadyH.nil);go_simp;refine(along_any (HGA.out _ _ _ _ _ _ _ _ _ HRS.out).1 (HVO.out _ HRS.out.fr) HMP.out hVl hEl HE.out).mono ?_;intro e u3 hs;obtain⟨sb1,m1,kp1,he,hR⟩:=HRS.out.search hs;subst he;clear hs HRS;have HRS:=zA hR;clear hR;refine hK.out _ _ (KS.out _ (HRS.out.bx (ab,OB) (by simp)).1) (fun hHeld=>?_);clear hK K;refine wpAnyH_ready (rs:=[17]) (by kernel_rfl) (by simp) ?_;refine(AllReadyH.cons (o:=⟨some 41,.call { callee:=.value (.func 74),args:=#[.tmp 40],argTypes:=#[25] },25, "join.go:42",#[⟨16,.data⟩,⟨13,.chain⟩],none⟩) rfl (fun K hK=>?_) AllReadyH.nil);go_simp;refine(turnedP_any ⟨pk,pw,.slice pa pn pc,pl⟩ 12 _ _ HSH.out (HVO.out _ HRS.out.fr)).mono ?_;rintro e u4 ⟨tb,tn,tkids,rfl,hv4,hp4,hb4⟩;dsimp only at hv4 hp4;have HR4:=zA (HRS.out.below hb4);clear HRS hb4;have HRS:=HR4;clear HR4;have HV4:=zA hv4;have HP4:=zA hp4;clear hv4 hp4;refine hK.out _ _ (KS.out _ (HRS.out.bx (ab,OB) (by simp)).1) (fun hHeld=>?_);clear hK K;refine wpAnyH_ready (rs:=[18]) (by kernel_rfl) (by simp) ?_;refine(AllReadyH.cons (o:=⟨some 42,.call { callee:=.value (.func 73),args:=#[.tmp 38,.tmp 41],argTypes:=#[65,25] },67, "join.go:42",#[⟨14,.data⟩,⟨17,.data⟩,⟨17,.chain⟩],none⟩) rfl (fun K hK=>?_) AllReadyH.nil);go_simp;refine(along_any (t:=⟨pk,pw,.slice (some ⟨tb,0,none⟩) tn tn,tkids⟩) (HGB.out _ _ _ _ _ _ _ _ _ HRS.out).1 HV4.out (by rw[HP4.out];exact may_turn HMP.out) hVl (by rw[zH];exact hEl) HEB.out).mono ?_;intro e u5 hs;rw[HP4.out]at hs;obtain⟨sb2,m2,kp2,he,hR⟩:=HRS.out.search hs;subst he;clear hs HRS;have HRS:=zA hR;clear hR;refine hK.out _ _ (KS.out _ (HRS.out.bx (ab,OB) (by simp)).1) (fun hHeld=>?_);clear hK K;refine tkH (i:=19) (oi:=⟨some 43,.build 140 #[(0,.tmp 28),(1,.tmp 33),(2,.tmp 37),(3,.tmp 42)],140, "join.go:42",#[⟨4,.data⟩,⟨9,.data⟩,⟨13,.data⟩,⟨18,.data⟩],none⟩) (v:=?_) rfl ?_ hHeld ?_;rotate_left 1
       . rintro W ⟨l1,l2,l3,l4,l5,l6,l7⟩;go_simp;try with_reducible rfl
       simp only[Act.put,zIB,zSZ,zSS];have hzl:=(HRS.out.bx (lb,_) (zL ..)).1;have hob:=(HRS.out.bx (ab,OB) (by simp)).1;have hal:ab≠lb:=fun e=>by rw[<- e,hob,hOB]at hzl;simp at hzl
       obtain⟨⟨z0,z1,z2,z3⟩,y0,y1,y2,y3⟩:=four_cellsX hzl;have HFIN:=zA (HRS.out.touch (u':=set4K u5 lb (.int .i64 (x0:Int)) (.int .i64 (x1:Int)) (.pointer (some ⟨sb1,0,none⟩)) (.pointer (some ⟨sb2,0,none⟩))) (zL ..) HLB.out.1 HLB.out.2 (set4K_size ..) rfl rfl rfl (fun k hk=>set4K_other _ _ _ _ _ _ hk) (set4K_at hzl));have HOB:Hid ((set4K u5 lb (.int .i64 (x0:Int)) (.int .i64 (x1:Int)) (.pointer (some ⟨sb1,0,none⟩)) (.pointer (some ⟨sb2,0,none⟩))).heap[ab]?=some OB):=zA ((set4K_other _ _ _ _ _ _ hal).trans hob);unfold set4K at HFIN HOB;clear hzl hob hal HRS;refine wpAnyH_ready (rs:=[21]) (by kernel_rfl) (by simp) ?_;refine AllReadyH.cons (o:=⟨none,.store 140 (.tmp 9) (.tmp 43),0, "join.go:42",#[⟨20,.data⟩,⟨19,.data⟩,⟨18,.chain⟩,⟨0,.phase⟩,⟨1,.phase⟩,⟨2,.phase⟩,⟨3,.phase⟩,⟨4,.phase⟩,⟨5,.phase⟩,⟨6,.phase⟩,⟨7,.phase⟩,⟨8,.phase⟩,⟨9,.phase⟩,⟨10,.phase⟩,⟨11,.phase⟩,⟨12,.phase⟩,⟨13,.phase⟩,⟨14,.phase⟩,⟨15,.phase⟩,⟨16,.phase⟩,⟨17,.phase⟩,⟨18,.phase⟩,⟨19,.phase⟩,⟨20,.phase⟩],none⟩) rfl (fun K hK=>?_) AllReadyH.nil;go_simp;refine hK.out _ _ (KS.out _ HOB.out) (fun hHeld=>?_);clear hK K z0 z1 z2 z3 y0 y1 y2 y3;refine wpAnyH_done (by kernel_rfl) ?_ _;refine Met.intro ?_;go_step
       apply_assumption
       (repeat apply Exists.intro)
       refine⟨?_,rfl⟩;exact⟨lb,_,_,_,x0,x1,sb1,sb2,kp1,kp2,m1,m2,rfl,by rw[HT2E.out];exact HFIN,zA ⟨by rw[HT2E.out,HX0.out];exact addT_get (addT_idx _ _),by rw[HT2E.out,HX1.out];exact addT_idx _ _⟩⟩
    case rest=>
     obtain⟨lb,J2,frs2,D2,x0,x1,sb1,sb2,kp1,kp2,m1,m2,rfl,HR,HX⟩:=hcut;obtain⟨wb,hwb⟩:∃W,W=wc:=⟨_,rfl⟩
     subst hwb;obtain⟨⟨f0,f1,f2,f3⟩,_⟩:=four_cellsX (HR.out.bx _ (zK.2 rfl)).1;have KS8:Hid (∀u,Below wb.heap.size wb u->u.cell? ⟨lb,0,none⟩=some (.int .i64 (x0:Int))/\u.cell? ⟨lb,1,none⟩=some (.int .i64 (x1:Int))/\u.cell? ⟨lb,2,none⟩=some (.pointer (some ⟨sb1,0,none⟩))/\u.cell? ⟨lb,3,none⟩=some (.pointer (some ⟨sb2,0,none⟩))):=zA (fun u hu=>by
      have h1:=(HR.out.bx _ (zK.2 rfl)).1;exact(four_cellsX ((hu.block lb (lt_of_block h1)).trans h1)).1)
     by_cases hto:((sv0,sn):Tm)=(ov0,on)
     . have hx01:x0=x1:=by
        obtain⟨d1,d2⟩:=HX.out;obtain⟨_,DM,_,_,hT⟩:=HR.out.jb_.sl.map;exact(List.getElem?_inj (zF.1 d1).1 hT.nd).1 (by rw[d1,d2,hto])
       subst hx01;obtain⟨ra,rc,hre⟩:=own_slice HR.out.jb_.ri;obtain⟨nk,hnk⟩:∃k,k=rks.length:=⟨_,rfl⟩
       rw[<- hnk]at hre;have hnkl:nk<=100:=by
        rw[hnk,HLR.out.len];refine zT (yF _ _) ?_;rw[zX];omega
       have HOWN:Hid (wb.ownsRow w.heap.size 140 4 (.slice ra nk rc) nk (rks.flatMap csL)):=zA (by have h1:=HR.out.jb_.ri;rw[<- hnk,hre]at h1;exact h1);have hjbl:=lt_of_block HR.out.jb_.sl.blk;have q4:wb.cell? ⟨jb,4,none⟩=some (.slice ra nk rc):=by
        have h1:=HR.out.jb_.sl.blk;rw[<- hre];simp[World.cell?,h1,Jv.cells]
       have HA1:Hid (Below wb.heap.size wb wb.drew):=zA (zE _ _).drew;have HA2:Hid (Below wb.heap.size wb (wb.drew.alloc (.cells #[.int .i64 (x0:Int),.int .i64 (x0:Int),.pointer (some ⟨sb1,0,none⟩),.pointer (some ⟨sb2,0,none⟩)] 140))):=zA ((zE _ _).drew.alloc (zD _) _);have hl2:wb.drew.cell? ⟨jb,4,none⟩=some (.slice ra nk rc):=q4;have hl3:(wb.alloc (.cells #[.int .i64 (x0:Int),.int .i64 (x0:Int),.pointer (some ⟨sb1,0,none⟩),.pointer (some ⟨sb2,0,none⟩)] 140)).cell? ⟨jb,4,none⟩=some (.slice ra nk rc):=by
        have h:=(HA2.out.cell (p:=⟨jb,4,none⟩) hjbl).trans q4;exact h
       have HOE:Hid ((wb.drew.alloc (.cells #[.int .i64 (x0:Int),.int .i64 (x0:Int),.pointer (some ⟨sb1,0,none⟩),.pointer (some ⟨sb2,0,none⟩)] 140)).ownsRow w.heap.size 140 4 (.slice ra nk rc) nk (rks.flatMap csL)):=zA (owns_below HOWN.out HA2.out);have HNW:Hid (∀(j:Nat) u,(csL (x0,x0,sb1,sb2))[j]?=some u->(wb.drew.alloc (.cells #[.int .i64 (x0:Int),.int .i64 (x0:Int),.pointer (some ⟨sb1,0,none⟩),.pointer (some ⟨sb2,0,none⟩)] 140)).cell? ((⟨wb.heap.size,0,none⟩:Addr).add j)=some u):=zA (World.news_of_block (cs:=#[.int .i64 (x0:Int),.int .i64 (x0:Int),.pointer (some ⟨sb1,0,none⟩),.pointer (some ⟨sb2,0,none⟩)]) (t:=140) (fr:=(0,0)) (heap_alloc_new wb.drew _));have hBc:=HR.out.jb_.Bw;have HKG:Hid (∀gg cap2 w9,w9.ownsRow w.heap.size 140 4 (.slice (some ⟨gg,0,none⟩) (nk+1) cap2) (nk+1) (rks.flatMap csL++csL (x0,x0,sb1,sb2))->(wb.drew.alloc (.cells #[.int .i64 (x0:Int),.int .i64 (x0:Int),.pointer (some ⟨sb1,0,none⟩),.pointer (some ⟨sb2,0,none⟩)] 140)).grownBy w9 (Value.slice ra nk rc).ownBlock->((Value.slice ra nk rc).ownBlock=some gg\/gg=wb.heap.size+1)->
        (w9.cell? ⟨lb,0,none⟩=some (.int .i64 (x0:Int))/\w9.cell? ⟨lb,1,none⟩=some (.int .i64 (x0:Int))/\w9.cell? ⟨lb,2,none⟩=some (.pointer (some ⟨sb1,0,none⟩))/\w9.cell? ⟨lb,3,none⟩=some (.pointer (some ⟨sb2,0,none⟩)))/\((w9.setCell ⟨jb,4,none⟩ (.slice (some ⟨gg,0,none⟩) (nk+1) cap2)).cell? ⟨lb,0,none⟩=some (.int .i64 (x0:Int))/\(w9.setCell ⟨jb,4,none⟩ (.slice (some ⟨gg,0,none⟩) (nk+1) cap2)).cell? ⟨lb,1,none⟩=some (.int .i64 (x0:Int))/\(w9.setCell ⟨jb,4,none⟩ (.slice (some ⟨gg,0,none⟩) (nk+1) cap2)).cell? ⟨lb,2,none⟩=some (.pointer (some ⟨sb1,0,none⟩))/\(w9.setCell ⟨jb,4,none⟩ (.slice (some ⟨gg,0,none⟩) (nk+1) cap2)).cell? ⟨lb,3,none⟩=some (.pointer (some ⟨sb2,0,none⟩)))/\(w9.cell? ⟨jb,4,none⟩=some (.slice ra nk rc)/\w9.frozen? ⟨jb,4,none⟩=false)/\Hid (LP w.heap.size V E w w1 jb mp (P.take (i+1)) (w9.setCell ⟨jb,4,none⟩ (.slice (some ⟨gg,0,none⟩) (nk+1) cap2)))):=zA (fun gg cap2 w9 h1 h2 hat=>by
        have hs9:wb.heap.size+1<=w9.heap.size:=by have:=h2.size;simpa using this
        have hk9:∀k,k<(wb.drew.alloc (.cells #[.int .i64 (x0:Int),.int .i64 (x0:Int),.pointer (some ⟨sb1,0,none⟩),.pointer (some ⟨sb2,0,none⟩)] 140)).heap.size->J2.rv.ownBlock≠some k->w9.heap[k]?=(wb.drew.alloc (.cells #[.int .i64 (x0:Int),.int .i64 (x0:Int),.pointer (some ⟨sb1,0,none⟩),.pointer (some ⟨sb2,0,none⟩)] 140)).heap[k]?:=fun k hk hne=>h2.block k hk (fun e=>hne (by rw[hre];exact e.symm))
        obtain⟨b1,b2,_,_⟩:=HR.out.bx _ (zK.2 rfl);have hlbl:=lt_of_block b1;have hfl:J2.rv.ownBlock≠some lb:=fun e=>b2 (.inr (.inr e))
        have hfj:J2.rv.ownBlock≠some jb:=fun e=>HR.out.jb_.lx HR.out.jb_.ri e (.inl rfl)
        have hlj:lb≠jb:=fun e=>b2 (.inl (.inl e))
        have hlb9:w9.heap[lb]?=_:=(hk9 lb (by simp;omega) hfl).trans ((HA2.out.block lb hlbl).trans b1);have hjb9:w9.heap[jb]?=_:=(hk9 jb (by simp;omega) hfj).trans ((HA2.out.block jb hjbl).trans HR.out.jb_.sl.blk);have hlbF:(w9.setCell ⟨jb,4,none⟩ (.slice (some ⟨gg,0,none⟩) (nk+1) cap2)).heap[lb]?=_:=(zN w9 ⟨jb,4,none⟩ _ lb hlj).trans hlb9;refine⟨(four_cellsX hlb9).1,(four_cellsX hlbF).1,by rw[<- hre];simp[World.cell?,World.frozen?,hjb9,Jv.cells],zA ?_⟩;have hput:=HR.out.putR (L:=(x0,x0,sb1,sb2)) HA2.out (by rw[<- hnk];exact h1) hk9 (by simp;omega) h2.os h2.tape h2.output (fun g hg=>by
         have e:gg=g:=by simpa[Value.ownBlock]using hg
         subst e;rw[hre];exact hat.imp id (fun e=>by simp;omega))
        obtain⟨d1,d2⟩:=HX.out;have hmono:∀(k:Nat) t,(termsOf (P.take i))[k]?=some t->(termsOf (P.take (i+1)))[k]?=some t:=fun k t hk=>by rw[<- HT2.out,HT2E.out];exact addT_get (addT_get hk)
        have hsn:=(HLR.out.mono hmono).snoc (a:=ta) (fr:=x0) (to_:=x0) (sb:=sb1) (sb':=sb2) (kp:=kp1) (kp':=kp2) (m:=m1) (m':=m2) (by rw[HTA.out,<- HT2.out];exact d1) (by rw[HTA.out,<- HT2.out];exact d2);rw[show ta.2.1=Vt.pt ⟨pk,pw,.slice pa pn pc,pl⟩ by rw[HTA.out]]at hsn;rw[HT2.out]at hput;refine⟨_,_,_,_,_,A,R++[(sb1,sdOf kp1 V.length E (autoOf (Vt.pt ⟨pk,pw,.slice pa pn pc,pl⟩)),m1),(sb2,sdOf kp2 V.length (E.map turnE) (autoOf (turnP (Vt.pt ⟨pk,pw,.slice pa pn pc,pl⟩))),m2)],hput.perm (by rw[List.append_assoc,List.append_assoc];exact List.Perm.refl _),?_,?_⟩
        . rw[show linkP (P.take (i+1))=linkP (P.take i) by rw[HTK.out];simp[linkP,HTA.out,hto]];exact HLA.out.mono hmono
        . rw[show ringP (P.take (i+1))=ringP (P.take i)++[ta] by rw[HTK.out];simp[ringP,HTA.out,hto]];exact hsn)
       clear hjbl q4 hnk hre hto;go_wp2_with fail;refine wp_region_held_drew (S:=fun u=>u.cell? ⟨lb,0,none⟩=some (.int .i64 (x0:Int))/\u.cell? ⟨lb,1,none⟩=some (.int .i64 (x0:Int))/\u.cell? ⟨lb,2,none⟩=some (.pointer (some ⟨sb1,0,none⟩))/\u.cell? ⟨lb,3,none⟩=some (.pointer (some ⟨sb2,0,none⟩))) (by kernel_rfl) ?_ (fun hHeld=>?_)
       . exact KS8.out _ HA1.out
       refine tkH (i:=0) (oi:=⟨some 49,.move (.tmp 5),85, "join.go:44",#[],none⟩) (v:=?_) rfl ?_ hHeld ?_;rotate_left 1
       . rintro W ⟨l1,l2,l3,l4⟩;go_simp;try with_reducible rfl
       simp only[Act.put,zIB,zSZ,zSS];refine tkH (i:=1) (oi:=⟨some 50,.move (.tmp 5),85, "join.go:44",#[],none⟩) (v:=?_) rfl ?_ hHeld ?_;rotate_left 1
       . rintro W ⟨l1,l2,l3,l4⟩;go_simp;try with_reducible rfl
       simp only[Act.put,zIB,zSZ,zSS];refine tkH (i:=2) (oi:=⟨some 51,.nilCheck (.tmp 50),0, "join.go:44",#[⟨1,.data⟩],none⟩) (v:=?_) rfl ?_ hHeld ?_;rotate_left 1
       . rintro W ⟨l1,l2,l3,l4⟩;go_simp;try with_reducible rfl
       simp only[Act.put,zIB,zSZ,zSS];refine tkH (i:=3) (oi:=⟨some 52,.fieldAddr 134 (.tmp 51) 4,0, "join.go:44",#[⟨2,.data⟩],none⟩) (v:=?_) rfl ?_ hHeld ?_;rotate_left 1
       . rintro W ⟨l1,l2,l3,l4⟩;go_simp;try with_reducible rfl
       simp only[Act.put,zIB,zSZ,zSS];refine tkH (i:=5) (oi:=⟨some 54,.load 140 (.tmp 9),140, "join.go:44",#[],none⟩) (v:=?_) rfl ?_ hHeld ?_;rotate_left 1
       . rintro W ⟨l1,l2,l3,l4⟩;go_simp;try with_reducible rfl
       simp only[Act.put,zIB,zSZ,zSS];refine wpAnyH_ready (rs:=[4,6]) (by kernel_rfl) (by simp) ?_;refine AllReadyH.cons (o:=⟨some 53,.load 131 (.tmp 52),131, "join.go:44",#[⟨3,.data⟩],none⟩) rfl (fun K hK=>?_) (AllReadyH.cons (o:=⟨some 55,.buildSlice 131 1 #[(0,.tmp 54)],131, "join.go:44",#[⟨5,.data⟩],none⟩) rfl (fun K hK=>?_) AllReadyH.nil)
       . go_simp;refine hK.out _ _ (KS8.out _ HA1.out) (fun hHeld=>?_);clear hK K;refine wpAnyH_ready (rs:=[6]) (by kernel_rfl) (by simp) ?_;refine AllReadyH.cons (o:=⟨some 55,.buildSlice 131 1 #[(0,.tmp 54)],131, "join.go:44",#[⟨5,.data⟩],none⟩) rfl (fun K hK=>?_) AllReadyH.nil;go_simp;refine hK.out _ _ (KS8.out _ HA2.out) (fun hHeld=>?_);clear hK K;refine wpAnyH_ready (rs:=[7]) (by kernel_rfl) (by simp) ?_;refine AllReadyH.cons (o:=⟨some 56,.call { callee:=.builtin .append,args:=#[.tmp 53,.tmp 55],argTypes:=#[131,131] },131, "join.go:44",#[⟨4,.data⟩,⟨6,.data⟩],none⟩) rfl (fun K hK=>?_) AllReadyH.nil;refine step_append_lies _ (by rfl) _ _ _ (by rfl) w.heap.size 140 i4 _ 4 32 Tryz.underlying131 hi4 hy0 hy1 hy2 rfl (by decide) (.slice ra nk rc) _ _ (by rfl) HOE.out ⟨wb.heap.size,0,none⟩ 1 1 (csL (x0,x0,sb1,sb2)) (by rfl) (by rfl) HNW.out (by simp[Value.oneCell']) (by decide) (by unfold maxLen;omega) (by omega) (by simp;omega) (wb.heap.size+1) (by simp) ?_;intro gg cap2 w9 hown9 hgrow9 hat9 hlt9;have HW9:=zA (HKG.out gg cap2 w9 hown9 hgrow9 hat9);refine hK.out _ _ HW9.out.1 (fun hHeld=>?_);clear hK K hown9 hgrow9 hat9 hlt9;obtain⟨cz1,cz2⟩:=HW9.out.2.2.1;refine tkH (i:=8) (oi:=⟨some 57,.nilCheck (.tmp 49),0, "join.go:44",#[⟨0,.data⟩,⟨0,.phase⟩,⟨1,.phase⟩,⟨2,.phase⟩,⟨3,.phase⟩,⟨4,.phase⟩,⟨5,.phase⟩,⟨6,.phase⟩,⟨7,.phase⟩],none⟩) (v:=?_) rfl ?_ hHeld ?_;rotate_left 1
         . rintro W ⟨l1,l2,l3,l4⟩;go_simp;try with_reducible rfl
         simp only[Act.put,zIB,zSZ,zSS];refine tkH (i:=9) (oi:=⟨some 58,.fieldAddr 134 (.tmp 57) 4,0, "join.go:44",#[⟨8,.data⟩,⟨0,.phase⟩,⟨1,.phase⟩,⟨2,.phase⟩,⟨3,.phase⟩,⟨4,.phase⟩,⟨5,.phase⟩,⟨6,.phase⟩,⟨7,.phase⟩],none⟩) (v:=?_) rfl ?_ hHeld ?_;rotate_left 1
         . rintro W ⟨l1,l2,l3,l4⟩;go_simp;try with_reducible rfl
         simp only[Act.put,zIB,zSZ,zSS];refine wpAnyH_ready (rs:=[10]) (by kernel_rfl) (by simp) ?_;refine AllReadyH.cons (o:=⟨none,.store 131 (.tmp 58) (.tmp 56),0, "join.go:44",#[⟨9,.data⟩,⟨7,.data⟩,⟨7,.chain⟩,⟨0,.phase⟩,⟨1,.phase⟩,⟨2,.phase⟩,⟨3,.phase⟩,⟨4,.phase⟩,⟨5,.phase⟩,⟨6,.phase⟩,⟨7,.phase⟩],none⟩) rfl (fun K hK=>?_) AllReadyH.nil;go_simp;refine hK.out _ _ HW9.out.2.1 (fun hHeld=>?_);clear hK K cz1 cz2;refine wpAnyH_done (by kernel_rfl) ?_ _;go_wp2;go_roundw
         case rel=>exact⟨i+1,by omega,by go_num,HW9.out.2.2.2⟩
         case measure=>simp[intOf];omega
       . go_simp;refine hK.out _ _ (KS8.out _ HA2.out) (fun hHeld=>?_);clear hK K;refine wpAnyH_ready (rs:=[4]) (by kernel_rfl) (by simp) ?_;refine AllReadyH.cons (o:=⟨some 53,.load 131 (.tmp 52),131, "join.go:44",#[⟨3,.data⟩],none⟩) rfl (fun K hK=>?_) AllReadyH.nil;go_simp;refine hK.out _ _ (KS8.out _ HA2.out) (fun hHeld=>?_);clear hK K;refine wpAnyH_ready (rs:=[7]) (by kernel_rfl) (by simp) ?_;refine AllReadyH.cons (o:=⟨some 56,.call { callee:=.builtin .append,args:=#[.tmp 53,.tmp 55],argTypes:=#[131,131] },131, "join.go:44",#[⟨4,.data⟩,⟨6,.data⟩],none⟩) rfl (fun K hK=>?_) AllReadyH.nil;refine step_append_lies _ (by rfl) _ _ _ (by rfl) w.heap.size 140 i4 _ 4 32 Tryz.underlying131 hi4 hy0 hy1 hy2 rfl (by decide) (.slice ra nk rc) _ _ (by rfl) HOE.out ⟨wb.heap.size,0,none⟩ 1 1 (csL (x0,x0,sb1,sb2)) (by rfl) (by rfl) HNW.out (by simp[Value.oneCell']) (by decide) (by unfold maxLen;omega) (by omega) (by simp;omega) (wb.heap.size+1) (by simp) ?_;intro gg cap2 w9 hown9 hgrow9 hat9 hlt9;have HW9:=zA (HKG.out gg cap2 w9 hown9 hgrow9 hat9);refine hK.out _ _ HW9.out.1 (fun hHeld=>?_);clear hK K hown9 hgrow9 hat9 hlt9;obtain⟨cz1,cz2⟩:=HW9.out.2.2.1;refine tkH (i:=8) (oi:=⟨some 57,.nilCheck (.tmp 49),0, "join.go:44",#[⟨0,.data⟩,⟨0,.phase⟩,⟨1,.phase⟩,⟨2,.phase⟩,⟨3,.phase⟩,⟨4,.phase⟩,⟨5,.phase⟩,⟨6,.phase⟩,⟨7,.phase⟩],none⟩) (v:=?_) rfl ?_ hHeld ?_;rotate_left 1
         . rintro W ⟨l1,l2,l3,l4⟩;go_simp;try with_reducible rfl
         simp only[Act.put,zIB,zSZ,zSS];refine tkH (i:=9) (oi:=⟨some 58,.fieldAddr 134 (.tmp 57) 4,0, "join.go:44",#[⟨8,.data⟩,⟨0,.phase⟩,⟨1,.phase⟩,⟨2,.phase⟩,⟨3,.phase⟩,⟨4,.phase⟩,⟨5,.phase⟩,⟨6,.phase⟩,⟨7,.phase⟩],none⟩) (v:=?_) rfl ?_ hHeld ?_;rotate_left 1
         . rintro W ⟨l1,l2,l3,l4⟩;go_simp;try with_reducible rfl
         simp only[Act.put,zIB,zSZ,zSS];refine wpAnyH_ready (rs:=[10]) (by kernel_rfl) (by simp) ?_;refine AllReadyH.cons (o:=⟨none,.store 131 (.tmp 58) (.tmp 56),0, "join.go:44",#[⟨9,.data⟩,⟨7,.data⟩,⟨7,.chain⟩,⟨0,.phase⟩,⟨1,.phase⟩,⟨2,.phase⟩,⟨3,.phase⟩,⟨4,.phase⟩,⟨5,.phase⟩,⟨6,.phase⟩,⟨7,.phase⟩],none⟩) rfl (fun K hK=>?_) AllReadyH.nil;go_simp;refine hK.out _ _ HW9.out.2.1 (fun hHeld=>?_);clear hK K cz1 cz2;refine wpAnyH_done (by kernel_rfl) ?_ _;go_wp2;go_roundw
         case rel=>exact⟨i+1,by omega,by go_num,HW9.out.2.2.2⟩
         case measure=>simp[intOf];omega
     . have hx01:¬x0=x1:=fun e=>by
        obtain⟨d1,d2⟩:=HX.out;rw[e,d2]at d1;injection d1 with d1;exact hto d1.symm
       have hx01I:¬(x0:Int)=(x1:Int):=by omega
       have hx01B:((x0:Int)==(x1:Int))=false:=by simp;omega
       obtain⟨la,lc,hle⟩:=own_slice HR.out.jb_.li;obtain⟨nk,hnk⟩:∃k,k=lks.length:=⟨_,rfl⟩
       rw[<- hnk]at hle;have hnkl:nk<=100:=by
        rw[hnk,HLA.out.len];refine zT (yF _ _) ?_;rw[zX];omega
       have HOWN:Hid (wb.ownsRow w.heap.size 140 4 (.slice la nk lc) nk (lks.flatMap csL)):=zA (by have h1:=HR.out.jb_.li;rw[<- hnk,hle]at h1;exact h1);have hjbl:=lt_of_block HR.out.jb_.sl.blk;have q4:wb.cell? ⟨jb,3,none⟩=some (.slice la nk lc):=by
        have h1:=HR.out.jb_.sl.blk;rw[<- hle];simp[World.cell?,h1,Jv.cells]
       have HA1:Hid (Below wb.heap.size wb wb.drew):=zA (zE _ _).drew;have HA2:Hid (Below wb.heap.size wb (wb.drew.alloc (.cells #[.int .i64 (x0:Int),.int .i64 (x1:Int),.pointer (some ⟨sb1,0,none⟩),.pointer (some ⟨sb2,0,none⟩)] 140))):=zA ((zE _ _).drew.alloc (zD _) _);have hl2:wb.drew.cell? ⟨jb,3,none⟩=some (.slice la nk lc):=q4;have hl3:(wb.alloc (.cells #[.int .i64 (x0:Int),.int .i64 (x1:Int),.pointer (some ⟨sb1,0,none⟩),.pointer (some ⟨sb2,0,none⟩)] 140)).cell? ⟨jb,3,none⟩=some (.slice la nk lc):=by
        have h:=(HA2.out.cell (p:=⟨jb,3,none⟩) hjbl).trans q4;exact h
       have HOE:Hid ((wb.drew.alloc (.cells #[.int .i64 (x0:Int),.int .i64 (x1:Int),.pointer (some ⟨sb1,0,none⟩),.pointer (some ⟨sb2,0,none⟩)] 140)).ownsRow w.heap.size 140 4 (.slice la nk lc) nk (lks.flatMap csL)):=zA (owns_below HOWN.out HA2.out);have HNW:Hid (∀(j:Nat) u,(csL (x0,x1,sb1,sb2))[j]?=some u->(wb.drew.alloc (.cells #[.int .i64 (x0:Int),.int .i64 (x1:Int),.pointer (some ⟨sb1,0,none⟩),.pointer (some ⟨sb2,0,none⟩)] 140)).cell? ((⟨wb.heap.size,0,none⟩:Addr).add j)=some u):=zA (World.news_of_block (cs:=#[.int .i64 (x0:Int),.int .i64 (x1:Int),.pointer (some ⟨sb1,0,none⟩),.pointer (some ⟨sb2,0,none⟩)]) (t:=140) (fr:=(0,0)) (heap_alloc_new wb.drew _));have hBc:=HR.out.jb_.Bw;have HKG:Hid (∀gg cap2 w9,w9.ownsRow w.heap.size 140 4 (.slice (some ⟨gg,0,none⟩) (nk+1) cap2) (nk+1) (lks.flatMap csL++csL (x0,x1,sb1,sb2))->(wb.drew.alloc (.cells #[.int .i64 (x0:Int),.int .i64 (x1:Int),.pointer (some ⟨sb1,0,none⟩),.pointer (some ⟨sb2,0,none⟩)] 140)).grownBy w9 (Value.slice la nk lc).ownBlock->((Value.slice la nk lc).ownBlock=some gg\/gg=wb.heap.size+1)->
        (w9.cell? ⟨lb,0,none⟩=some (.int .i64 (x0:Int))/\w9.cell? ⟨lb,1,none⟩=some (.int .i64 (x1:Int))/\w9.cell? ⟨lb,2,none⟩=some (.pointer (some ⟨sb1,0,none⟩))/\w9.cell? ⟨lb,3,none⟩=some (.pointer (some ⟨sb2,0,none⟩)))/\((w9.setCell ⟨jb,3,none⟩ (.slice (some ⟨gg,0,none⟩) (nk+1) cap2)).cell? ⟨lb,0,none⟩=some (.int .i64 (x0:Int))/\(w9.setCell ⟨jb,3,none⟩ (.slice (some ⟨gg,0,none⟩) (nk+1) cap2)).cell? ⟨lb,1,none⟩=some (.int .i64 (x1:Int))/\(w9.setCell ⟨jb,3,none⟩ (.slice (some ⟨gg,0,none⟩) (nk+1) cap2)).cell? ⟨lb,2,none⟩=some (.pointer (some ⟨sb1,0,none⟩))/\(w9.setCell ⟨jb,3,none⟩ (.slice (some ⟨gg,0,none⟩) (nk+1) cap2)).cell? ⟨lb,3,none⟩=some (.pointer (some ⟨sb2,0,none⟩)))/\(w9.cell? ⟨jb,3,none⟩=some (.slice la nk lc)/\w9.frozen? ⟨jb,3,none⟩=false)/\Hid (LP w.heap.size V E w w1 jb mp (P.take (i+1)) (w9.setCell ⟨jb,3,none⟩ (.slice (some ⟨gg,0,none⟩) (nk+1) cap2)))):=zA (fun gg cap2 w9 h1 h2 hat=>by
        have hs9:wb.heap.size+1<=w9.heap.size:=by have:=h2.size;simpa using this
        have hk9:∀k,k<(wb.drew.alloc (.cells #[.int .i64 (x0:Int),.int .i64 (x1:Int),.pointer (some ⟨sb1,0,none⟩),.pointer (some ⟨sb2,0,none⟩)] 140)).heap.size->J2.lv.ownBlock≠some k->w9.heap[k]?=(wb.drew.alloc (.cells #[.int .i64 (x0:Int),.int .i64 (x1:Int),.pointer (some ⟨sb1,0,none⟩),.pointer (some ⟨sb2,0,none⟩)] 140)).heap[k]?:=fun k hk hne=>h2.block k hk (fun e=>hne (by rw[hle];exact e.symm))
        obtain⟨b1,b2,_,_⟩:=HR.out.bx _ (zK.2 rfl);have hlbl:=lt_of_block b1;have hfl:J2.lv.ownBlock≠some lb:=fun e=>b2 (.inr (.inl e))
        have hfj:J2.lv.ownBlock≠some jb:=fun e=>HR.out.jb_.lx HR.out.jb_.li e (.inl rfl)
        have hlj:lb≠jb:=fun e=>b2 (.inl (.inl e))
        have hlb9:w9.heap[lb]?=_:=(hk9 lb (by simp;omega) hfl).trans ((HA2.out.block lb hlbl).trans b1);have hjb9:w9.heap[jb]?=_:=(hk9 jb (by simp;omega) hfj).trans ((HA2.out.block jb hjbl).trans HR.out.jb_.sl.blk);have hlbF:(w9.setCell ⟨jb,3,none⟩ (.slice (some ⟨gg,0,none⟩) (nk+1) cap2)).heap[lb]?=_:=(zN w9 ⟨jb,3,none⟩ _ lb hlj).trans hlb9;refine⟨(four_cellsX hlb9).1,(four_cellsX hlbF).1,by rw[<- hle];simp[World.cell?,World.frozen?,hjb9,Jv.cells],zA ?_⟩;have hput:=HR.out.putL (L:=(x0,x1,sb1,sb2)) HA2.out (by rw[<- hnk];exact h1) hk9 (by simp;omega) h2.os h2.tape h2.output (fun g hg=>by
         have e:gg=g:=by simpa[Value.ownBlock]using hg
         subst e;rw[hle];exact hat.imp id (fun e=>by simp;omega))
        obtain⟨d1,d2⟩:=HX.out;have hmono:∀(k:Nat) t,(termsOf (P.take i))[k]?=some t->(termsOf (P.take (i+1)))[k]?=some t:=fun k t hk=>by rw[<- HT2.out,HT2E.out];exact addT_get (addT_get hk)
        have hsn:=(HLA.out.mono hmono).snoc (a:=ta) (fr:=x0) (to_:=x1) (sb:=sb1) (sb':=sb2) (kp:=kp1) (kp':=kp2) (m:=m1) (m':=m2) (by rw[HTA.out,<- HT2.out];exact d1) (by rw[HTA.out,<- HT2.out];exact d2);rw[show ta.2.1=Vt.pt ⟨pk,pw,.slice pa pn pc,pl⟩ by rw[HTA.out]]at hsn;rw[HT2.out]at hput;refine⟨_,_,_,_,_,A++[(sb1,sdOf kp1 V.length E (autoOf (Vt.pt ⟨pk,pw,.slice pa pn pc,pl⟩)),m1),(sb2,sdOf kp2 V.length (E.map turnE) (autoOf (turnP (Vt.pt ⟨pk,pw,.slice pa pn pc,pl⟩))),m2)],R,hput.perm (by rw[List.append_assoc (A++R)];exact perm_mid A R _ _),?_,?_⟩
        . rw[show linkP (P.take (i+1))=linkP (P.take i)++[ta] by rw[HTK.out];simp[linkP,HTA.out,hto]];exact hsn
        . rw[show ringP (P.take (i+1))=ringP (P.take i) by rw[HTK.out];simp[ringP,HTA.out,hto]];exact HLR.out.mono hmono)
       clear hjbl q4 hnk hle hto hx01;go_wp2_with fail;refine wp_region_held_drew (S:=fun u=>u.cell? ⟨lb,0,none⟩=some (.int .i64 (x0:Int))/\u.cell? ⟨lb,1,none⟩=some (.int .i64 (x1:Int))/\u.cell? ⟨lb,2,none⟩=some (.pointer (some ⟨sb1,0,none⟩))/\u.cell? ⟨lb,3,none⟩=some (.pointer (some ⟨sb2,0,none⟩))) (by kernel_rfl) ?_ (fun hHeld=>?_)
       . exact KS8.out _ HA1.out
       refine tkH (i:=0) (oi:=⟨some 59,.move (.tmp 5),85, "join.go:46",#[],none⟩) (v:=?_) rfl ?_ hHeld ?_;rotate_left 1
       . rintro W ⟨l1,l2,l3,l4⟩;go_simp;try with_reducible rfl
       simp only[Act.put,zIB,zSZ,zSS];refine tkH (i:=1) (oi:=⟨some 60,.move (.tmp 5),85, "join.go:46",#[],none⟩) (v:=?_) rfl ?_ hHeld ?_;rotate_left 1
       . rintro W ⟨l1,l2,l3,l4⟩;go_simp;try with_reducible rfl
       simp only[Act.put,zIB,zSZ,zSS];refine tkH (i:=2) (oi:=⟨some 61,.nilCheck (.tmp 60),0, "join.go:46",#[⟨1,.data⟩],none⟩) (v:=?_) rfl ?_ hHeld ?_;rotate_left 1
       . rintro W ⟨l1,l2,l3,l4⟩;go_simp;try with_reducible rfl
       simp only[Act.put,zIB,zSZ,zSS];refine tkH (i:=3) (oi:=⟨some 62,.fieldAddr 134 (.tmp 61) 3,0, "join.go:46",#[⟨2,.data⟩],none⟩) (v:=?_) rfl ?_ hHeld ?_;rotate_left 1
       . rintro W ⟨l1,l2,l3,l4⟩;go_simp;try with_reducible rfl
       simp only[Act.put,zIB,zSZ,zSS];refine tkH (i:=5) (oi:=⟨some 64,.load 140 (.tmp 9),140, "join.go:46",#[],none⟩) (v:=?_) rfl ?_ hHeld ?_;rotate_left 1
       . rintro W ⟨l1,l2,l3,l4⟩;go_simp;try with_reducible rfl
       simp only[Act.put,zIB,zSZ,zSS];refine wpAnyH_ready (rs:=[4,6]) (by kernel_rfl) (by simp) ?_;refine AllReadyH.cons (o:=⟨some 63,.load 131 (.tmp 62),131, "join.go:46",#[⟨3,.data⟩],none⟩) rfl (fun K hK=>?_) (AllReadyH.cons (o:=⟨some 65,.buildSlice 131 1 #[(0,.tmp 64)],131, "join.go:46",#[⟨5,.data⟩],none⟩) rfl (fun K hK=>?_) AllReadyH.nil)
       . go_simp;refine hK.out _ _ (KS8.out _ HA1.out) (fun hHeld=>?_);clear hK K;refine wpAnyH_ready (rs:=[6]) (by kernel_rfl) (by simp) ?_;refine AllReadyH.cons (o:=⟨some 65,.buildSlice 131 1 #[(0,.tmp 64)],131, "join.go:46",#[⟨5,.data⟩],none⟩) rfl (fun K hK=>?_) AllReadyH.nil;go_simp;refine hK.out _ _ (KS8.out _ HA2.out) (fun hHeld=>?_);clear hK K;refine wpAnyH_ready (rs:=[7]) (by kernel_rfl) (by simp) ?_;refine AllReadyH.cons (o:=⟨some 66,.call { callee:=.builtin .append,args:=#[.tmp 63,.tmp 65],argTypes:=#[131,131] },131, "join.go:46",#[⟨4,.data⟩,⟨6,.data⟩],none⟩) rfl (fun K hK=>?_) AllReadyH.nil;refine step_append_lies _ (by rfl) _ _ _ (by rfl) w.heap.size 140 i4 _ 4 32 Tryz.underlying131 hi4 hy0 hy1 hy2 rfl (by decide) (.slice la nk lc) _ _ (by rfl) HOE.out ⟨wb.heap.size,0,none⟩ 1 1 (csL (x0,x1,sb1,sb2)) (by rfl) (by rfl) HNW.out (by simp[Value.oneCell']) (by decide) (by unfold maxLen;omega) (by omega) (by simp;omega) (wb.heap.size+1) (by simp) ?_;intro gg cap2 w9 hown9 hgrow9 hat9 hlt9;have HW9:=zA (HKG.out gg cap2 w9 hown9 hgrow9 hat9);refine hK.out _ _ HW9.out.1 (fun hHeld=>?_);clear hK K hown9 hgrow9 hat9 hlt9;obtain⟨cz1,cz2⟩:=HW9.out.2.2.1;refine tkH (i:=8) (oi:=⟨some 67,.nilCheck (.tmp 59),0, "join.go:46",#[⟨0,.data⟩,⟨0,.phase⟩,⟨1,.phase⟩,⟨2,.phase⟩,⟨3,.phase⟩,⟨4,.phase⟩,⟨5,.phase⟩,⟨6,.phase⟩,⟨7,.phase⟩],none⟩) (v:=?_) rfl ?_ hHeld ?_;rotate_left 1
         . rintro W ⟨l1,l2,l3,l4⟩;go_simp;try with_reducible rfl
         simp only[Act.put,zIB,zSZ,zSS];refine tkH (i:=9) (oi:=⟨some 68,.fieldAddr 134 (.tmp 67) 3,0, "join.go:46",#[⟨8,.data⟩,⟨0,.phase⟩,⟨1,.phase⟩,⟨2,.phase⟩,⟨3,.phase⟩,⟨4,.phase⟩,⟨5,.phase⟩,⟨6,.phase⟩,⟨7,.phase⟩],none⟩) (v:=?_) rfl ?_ hHeld ?_;rotate_left 1
         . rintro W ⟨l1,l2,l3,l4⟩;go_simp;try with_reducible rfl
         simp only[Act.put,zIB,zSZ,zSS];refine wpAnyH_ready (rs:=[10]) (by kernel_rfl) (by simp) ?_;refine AllReadyH.cons (o:=⟨none,.store 131 (.tmp 68) (.tmp 66),0, "join.go:46",#[⟨9,.data⟩,⟨7,.data⟩,⟨7,.chain⟩,⟨0,.phase⟩,⟨1,.phase⟩,⟨2,.phase⟩,⟨3,.phase⟩,⟨4,.phase⟩,⟨5,.phase⟩,⟨6,.phase⟩,⟨7,.phase⟩],none⟩) rfl (fun K hK=>?_) AllReadyH.nil;go_simp;refine hK.out _ _ HW9.out.2.1 (fun hHeld=>?_);clear hK K cz1 cz2;refine wpAnyH_done (by kernel_rfl) ?_ _;go_wp2;go_roundw
         case rel=>exact⟨i+1,by omega,by go_num,HW9.out.2.2.2⟩
         case measure=>simp[intOf];omega
       . go_simp;refine hK.out _ _ (KS8.out _ HA2.out) (fun hHeld=>?_);clear hK K;refine wpAnyH_ready (rs:=[4]) (by kernel_rfl) (by simp) ?_;refine AllReadyH.cons (o:=⟨some 63,.load 131 (.tmp 62),131, "join.go:46",#[⟨3,.data⟩],none⟩) rfl (fun K hK=>?_) AllReadyH.nil;go_simp;refine hK.out _ _ (KS8.out _ HA2.out) (fun hHeld=>?_);clear hK K;refine wpAnyH_ready (rs:=[7]) (by kernel_rfl) (by simp) ?_;refine AllReadyH.cons (o:=⟨some 66,.call { callee:=.builtin .append,args:=#[.tmp 63,.tmp 65],argTypes:=#[131,131] },131, "join.go:46",#[⟨4,.data⟩,⟨6,.data⟩],none⟩) rfl (fun K hK=>?_) AllReadyH.nil;refine step_append_lies _ (by rfl) _ _ _ (by rfl) w.heap.size 140 i4 _ 4 32 Tryz.underlying131 hi4 hy0 hy1 hy2 rfl (by decide) (.slice la nk lc) _ _ (by rfl) HOE.out ⟨wb.heap.size,0,none⟩ 1 1 (csL (x0,x1,sb1,sb2)) (by rfl) (by rfl) HNW.out (by simp[Value.oneCell']) (by decide) (by unfold maxLen;omega) (by omega) (by simp;omega) (wb.heap.size+1) (by simp) ?_;intro gg cap2 w9 hown9 hgrow9 hat9 hlt9;have HW9:=zA (HKG.out gg cap2 w9 hown9 hgrow9 hat9);refine hK.out _ _ HW9.out.1 (fun hHeld=>?_);clear hK K hown9 hgrow9 hat9 hlt9;obtain⟨cz1,cz2⟩:=HW9.out.2.2.1;refine tkH (i:=8) (oi:=⟨some 67,.nilCheck (.tmp 59),0, "join.go:46",#[⟨0,.data⟩,⟨0,.phase⟩,⟨1,.phase⟩,⟨2,.phase⟩,⟨3,.phase⟩,⟨4,.phase⟩,⟨5,.phase⟩,⟨6,.phase⟩,⟨7,.phase⟩],none⟩) (v:=?_) rfl ?_ hHeld ?_;rotate_left 1
         . rintro W ⟨l1,l2,l3,l4⟩;go_simp;try with_reducible rfl
         simp only[Act.put,zIB,zSZ,zSS];refine tkH (i:=9) (oi:=⟨some 68,.fieldAddr 134 (.tmp 67) 3,0, "join.go:46",#[⟨8,.data⟩,⟨0,.phase⟩,⟨1,.phase⟩,⟨2,.phase⟩,⟨3,.phase⟩,⟨4,.phase⟩,⟨5,.phase⟩,⟨6,.phase⟩,⟨7,.phase⟩],none⟩) (v:=?_) rfl ?_ hHeld ?_;rotate_left 1
         . rintro W ⟨l1,l2,l3,l4⟩;go_simp;try with_reducible rfl
         simp only[Act.put,zIB,zSZ,zSS];refine wpAnyH_ready (rs:=[10]) (by kernel_rfl) (by simp) ?_;refine AllReadyH.cons (o:=⟨none,.store 131 (.tmp 68) (.tmp 66),0, "join.go:46",#[⟨9,.data⟩,⟨7,.data⟩,⟨7,.chain⟩,⟨0,.phase⟩,⟨1,.phase⟩,⟨2,.phase⟩,⟨3,.phase⟩,⟨4,.phase⟩,⟨5,.phase⟩,⟨6,.phase⟩,⟨7,.phase⟩],none⟩) rfl (fun K hK=>?_) AllReadyH.nil;go_simp;refine hK.out _ _ HW9.out.2.1 (fun hHeld=>?_);clear hK K cz1 cz2;refine wpAnyH_done (by kernel_rfl) ?_ _;go_wp2;go_roundw
         case rel=>exact⟨i+1,by omega,by go_num,HW9.out.2.2.2⟩
         case measure=>simp[intOf];omega
  . have hltI:¬(i:Int)<(na:Int):=by omega
    have htk:P.take i=P:=zJ (by rw[HP.out,zH,<- HNA.out];omega);rw[htk]at HLP;clear htk;obtain⟨J,frs,D,lks,rks,A,R,hrs,hla,hlr⟩:=HLP.out.ex;have HRS:=zA hrs;have HLA:=zA hla;have HLR:=zA hlr;obtain⟨q0,_⟩:=HQC.out wx hrs.fr;obtain⟨us,hus⟩:∃us,us=qvars.map fun v=>(termsOf P).idxOf ((true,v):Tm):=⟨_,rfl⟩
    have HUS:=zA hus;have HUL:Hid (us.length=nvs):=zA (by rw[hus,zH,HNV.out]);have hmj:mp≠jb:=by have:=HJBE.out;have:=HMPE.out;omega
    have hjl:=lt_of_block hrs.jb_.sl.blk;have hmpl:mp<wx.heap.size:=by obtain⟨_,_,h1,_⟩:=hrs.jb_.sl.map;exact h1.lt
    have HLK:Hid (∀(u:World) (s:Wd),u.heap[mp]?=wx.heap[mp]?->s∈qvars->(Instr.lookup 130 (.map (some mp)) (.agg #[.bool true,.string ⟨s.toArray⟩]) false).run Tryz.prog u=.ok (.int .i64 ((termsOf P).idxOf ((true,s):Tm):Nat)) u):=zA (fun u s hu hs=>by
     obtain⟨cnt,DM,hmap,_,hTM⟩:=HRS.out.jb_.sl.map;have hmu:=map_keyG hmap (w':=u) (fun o ho=>hu.trans ho);have hfm:FineM (true,s):=by
      have h1:=HQ.out.vb s hs;unfold FineM maxLen;dsimp only;omega
     obtain⟨c,h1,h2,_⟩:=hmu.lookup_int lawM underM Tryz.underlying3 (zeroIM u) (keyM hfm);have hmem:=HVS.out s hs;rw[hTM.at_ _ _ (show (termsOf P)[(termsOf P).idxOf ((true,s):Tm)]?=some (true,s) by rw[zB (yC hmem)];simp)]at h2;injection h2 with h2;injection h2 with _ h2;rw[h1,<- h2])
    have HCJ:Hid (∀(u:World) (v:Value),u.heap[jb]?=some (.cells ({ J with vv:=v }:Jv).cells 134 (0,0))->u.cell? ⟨jb,0,none⟩=some (.map (some mp))/\u.cell? ⟨jb,2,none⟩=some v/\u.frozen? ⟨jb,2,none⟩=false):=zA (fun u v hu=>by
     have h1:=HRS.out.jb_.sl.sv;refine⟨by rw[<- h1];simp[World.cell?,hu,Jv.cells],by simp[World.cell?,hu,Jv.cells],by simp[World.frozen?,hu]⟩)
    have HTX:Hid (TxtS (fun k=>k<w.heap.size) wx (.slice va nvs vc) qvars):=zA (HQ1.out wx hrs.fr).vs;have hw1x:w1.heap.size<=wx.heap.size:=hrs.fr.size;have HV0:Hid (wx.heap[jb]?=some (.cells ({ J with vv:=.slice none 0 0 }:Jv).cells 134 (0,0))):=zA (by
     have h1:=hrs.jb_.sl.blk;have h2:=hrs.jb_.vv;rw[h1];obtain⟨a1,a2,a3,a4,a5,a6,a7⟩:=J;dsimp only at h2 ⊢;rw[h2])
    clear hrs hla hlr hus;go_wp2_with fail;go_loopw [73] (fun c wr=>∃(k:Nat) (v:Value),k<=nvs/\c=.int .i64 k/\Hid (wr.heap[jb]?=some (.cells ({ J with vv:=v }:Jv).cells 134 (0,0)))/\Hid (wr.ownsRow wx.heap.size 3 1 v (us.take k).length ((us.take k).flatMap csI))/\Hid (Fr (fun k=>k<wx.heap.size/\k≠jb) wx wr)) (fun c _=>nvs-(intOf c).toNat)
    case atStart=>exact⟨0,.slice none 0 0,zO _,rfl,HV0,zA (by rw[List.take_zero];exact World.ownsRow_nil _ _ _ _),zA (Fr.refl _ _)⟩
    case round=>
     obtain⟨k,v,hk,rfl,HBK,HROW,HFR⟩:=hrel;obtain⟨wy,hwy⟩:∃wy,wy=wr:=⟨_,rfl⟩
     subst hwy;clear q0;by_cases hkl:k<nvs
     . have hkI:(k:Int)<(nvs:Int):=by omega
       obtain⟨s,hs⟩:∃s,qvars[k]?=some s:=⟨_,zB (by rw[<- HNV.out];exact hkl)⟩
       obtain⟨x,hx⟩:∃x:Nat,x=(termsOf P).idxOf ((true,s):Tm):=⟨_,rfl⟩
       have hux:us[k]?=some x:=by rw[HUS.out,zI,hs,hx];rfl
       obtain⟨gv,goff,hgv,hgs,hgl,hcell⟩:=HTX.out.get hs;subst hgv;have c0:=hcell 0 _ rfl;rw[yD,yA]at c0;have c0:wy.cell? ⟨gv,goff+k,none⟩=some (.string ⟨s.toArray⟩):=by
        have h1:=HFR.out.block gv ⟨hgl,by have:=HJBE.out;omega⟩;simpa only[World.cell?,h1]using c0
       have HTK:Hid (us.take (k+1)=us.take k++[x]):=zA (by rw[zS,hux];rfl);obtain⟨Y,hY⟩:∃Y,Y=us.take k:=⟨_,rfl⟩
       rw[<- hY]at HROW HTK;obtain⟨ya,yc,hve⟩:=own_slice HROW.out;obtain⟨ny,hny⟩:∃q,q=Y.length:=⟨_,rfl⟩
       rw[<- hny]at hve;have hnyl:ny<=100:=by rw[hny,hY,zX];omega
       subst hve;have HNY:=zA hny;have HRW:Hid (wy.ownsRow wx.heap.size 3 1 (.slice ya ny yc) ny (Y.flatMap csI)):=zA (by have h1:=HROW.out;rw[<- hny]at h1;exact h1);have hsm:=zC hs;have KS14:Hid (∀(u:World) (v:Value),u.heap[jb]?=some (.cells ({ J with vv:=v }:Jv).cells 134 (0,0))->u.heap[mp]?=wx.heap[mp]?->u.cell? ⟨jb,0,none⟩=some (.map (some mp))/\(Instr.lookup 130 (.map (some mp)) (.agg #[.bool true,.string ⟨s.toArray⟩]) false).run Tryz.prog u=.ok (.int .i64 (x:Int)) u):=zA (fun u v h1 h2=>⟨(HCJ.out u v h1).1,by rw[hx];exact HLK.out u s h2 hsm⟩);have hjy:=lt_of_block HBK.out;have hmy:wy.heap[mp]?=wx.heap[mp]?:=HFR.out.block mp ⟨hmpl,hmj⟩;have HMY:=zA hmy;have hszy:wx.heap.size<=wy.heap.size:=HFR.out.size;have HA1:Hid (Below wy.heap.size wy wy.drew):=zA (zE _ _).drew;have HA2:Hid (Below wy.heap.size wy (wy.drew.alloc (.cells #[.int .i64 (x:Int)] 3))):=zA ((zE _ _).drew.alloc (zD _) _);have KB:Hid (∀u,Below wy.heap.size wy u->u.cell? ⟨jb,0,none⟩=some (.map (some mp))/\(Instr.lookup 130 (.map (some mp)) (.agg #[.bool true,.string ⟨s.toArray⟩]) false).run Tryz.prog u=.ok (.int .i64 (x:Int)) u):=zA (fun u hu=>KS14.out u _ ((hu.block jb hjy).trans HBK.out) ((hu.block mp (by omega)).trans HMY.out));have q2:wy.cell? ⟨jb,2,none⟩=some (.slice ya ny yc):=(HCJ.out wy _ HBK.out).2.1;have hl2:wy.drew.cell? ⟨jb,2,none⟩=some (.slice ya ny yc):=q2;have hl3:(wy.alloc (.cells #[.int .i64 (x:Int)] 3)).cell? ⟨jb,2,none⟩=some (.slice ya ny yc):=by
        have h:=(HA2.out.cell (p:=⟨jb,2,none⟩) hjy).trans q2;exact h
       have HOE:Hid ((wy.drew.alloc (.cells #[.int .i64 (x:Int)] 3)).ownsRow wx.heap.size 3 1 (.slice ya ny yc) ny (Y.flatMap csI)):=zA (owns_below HRW.out HA2.out);have HNW:Hid (∀(j:Nat) u,(csI x)[j]?=some u->(wy.drew.alloc (.cells #[.int .i64 (x:Int)] 3)).cell? ((⟨wy.heap.size,0,none⟩:Addr).add j)=some u):=zA (World.news_of_block (cs:=#[.int .i64 (x:Int)]) (t:=3) (fr:=(0,0)) (heap_alloc_new wy.drew _));have HKG:Hid (∀gg cap2 w9,w9.ownsRow wx.heap.size 3 1 (.slice (some ⟨gg,0,none⟩) (ny+1) cap2) (ny+1) (Y.flatMap csI++csI x)->(wy.drew.alloc (.cells #[.int .i64 (x:Int)] 3)).grownBy w9 (Value.slice ya ny yc).ownBlock->
        (w9.cell? ⟨jb,0,none⟩=some (.map (some mp))/\(Instr.lookup 130 (.map (some mp)) (.agg #[.bool true,.string ⟨s.toArray⟩]) false).run Tryz.prog w9=.ok (.int .i64 (x:Int)) w9)/\((w9.setCell ⟨jb,2,none⟩ (.slice (some ⟨gg,0,none⟩) (ny+1) cap2)).cell? ⟨jb,0,none⟩=some (.map (some mp))/\(Instr.lookup 130 (.map (some mp)) (.agg #[.bool true,.string ⟨s.toArray⟩]) false).run Tryz.prog (w9.setCell ⟨jb,2,none⟩ (.slice (some ⟨gg,0,none⟩) (ny+1) cap2))=.ok (.int .i64 (x:Int)) (w9.setCell ⟨jb,2,none⟩ (.slice (some ⟨gg,0,none⟩) (ny+1) cap2)))/\(w9.cell? ⟨jb,2,none⟩=some (.slice ya ny yc)/\w9.frozen? ⟨jb,2,none⟩=false)/\Hid ((w9.setCell ⟨jb,2,none⟩ (.slice (some ⟨gg,0,none⟩) (ny+1) cap2)).heap[jb]?=some (.cells ({ J with vv:=.slice (some ⟨gg,0,none⟩) (ny+1) cap2 }:Jv).cells 134 (0,0)))/\Hid ((w9.setCell ⟨jb,2,none⟩ (.slice (some ⟨gg,0,none⟩) (ny+1) cap2)).ownsRow wx.heap.size 3 1 (.slice (some ⟨gg,0,none⟩) (ny+1) cap2) (us.take (k+1)).length ((us.take (k+1)).flatMap csI))/\Hid (Fr (fun k=>k<wx.heap.size/\k≠jb) wx (w9.setCell ⟨jb,2,none⟩ (.slice (some ⟨gg,0,none⟩) (ny+1) cap2)))):=zA (fun gg cap2 w9 h1 h2=>by
        have hs9:wy.heap.size+1<=w9.heap.size:=by have:=h2.size;simpa using this
        have hold:∀b,b<wy.heap.size->(Value.slice ya ny yc).ownBlock≠some b->w9.heap[b]?=wy.heap[b]?:=fun b hb hne=>(h2.block b (by simp;omega) (fun e=>hne e.symm)).trans (HA2.out.block b hb)
        have hlow:∀b,b<wx.heap.size->(Value.slice ya ny yc).ownBlock≠some b:=fun b hb e=>by have:=(HRW.out.lt b e).1;omega
        have hjb9:w9.heap[jb]?=_:=(hold jb hjy (hlow jb hjl)).trans HBK.out;have hmp9:w9.heap[mp]?=wx.heap[mp]?:=(hold mp (by omega) (hlow mp hmpl)).trans HMY.out;have hset:∀b,b≠jb->(w9.setCell ⟨jb,2,none⟩ (.slice (some ⟨gg,0,none⟩) (ny+1) cap2)).heap[b]?=w9.heap[b]?:=fun b hb=>zN _ _ _ _ hb
        have hjbF:(w9.setCell ⟨jb,2,none⟩ (.slice (some ⟨gg,0,none⟩) (ny+1) cap2)).heap[jb]?=some (.cells ({ J with vv:=.slice (some ⟨gg,0,none⟩) (ny+1) cap2 }:Jv).cells 134 (0,0)):=by
         simp[World.setCell,Array.getElem?_modify,hjb9,Jv.cells]
        have hgj:gg≠jb:=by have:=(h1.lt gg rfl).1;omega
        refine⟨KS14.out w9 _ hjb9 hmp9,KS14.out (w9.setCell ⟨jb,2,none⟩ (.slice (some ⟨gg,0,none⟩) (ny+1) cap2)) _ hjbF ((hset mp hmj).trans hmp9),(HCJ.out w9 _ hjb9).2,zA hjbF,zA ?_,zA (HFR.out.trans ⟨?_,?_,?_,by simp;omega,fun b hb=>(hset b hb.2).trans (hold b (by omega) (hlow b hb.1))⟩)⟩
        . rw[HTK.out,zG,<- HNY.out,zR];refine owns_key h1 (fun g o hg ho=>(hset g ?_).trans ho);have e:gg=g:=by simpa[Value.ownBlock]using hg
          omega
        . exact h2.os.trans HA2.out.os
        . exact h2.tape.trans HA2.out.tape
        . exact h2.output.trans HA2.out.output)
       clear hs hux hcell hx hY hny hsm hjy hmy q2;go_wp2_with fail;refine wp_region_held_drew (S:=fun u=>u.cell? ⟨jb,0,none⟩=some (.map (some mp))/\(Instr.lookup 130 (.map (some mp)) (.agg #[.bool true,.string ⟨s.toArray⟩]) false).run Tryz.prog u=.ok (.int .i64 (x:Int)) u) (by kernel_rfl) ?_ (fun hHeld=>?_)
       . exact KB.out _ HA1.out
       refine tkH (i:=0) (oi:=⟨some 77,.move (.tmp 5),85, "join.go:50",#[],none⟩) (v:=?_) rfl ?_ hHeld ?_;rotate_left 1
       . rintro W ⟨l1,l2⟩;go_simp;try with_reducible rfl
       simp only[Act.put,zIB,zSZ,zSS];refine tkH (i:=1) (oi:=⟨some 78,.move (.tmp 5),85, "join.go:50",#[],none⟩) (v:=?_) rfl ?_ hHeld ?_;rotate_left 1
       . rintro W ⟨l1,l2⟩;go_simp;try with_reducible rfl
       simp only[Act.put,zIB,zSZ,zSS];refine tkH (i:=2) (oi:=⟨some 79,.nilCheck (.tmp 78),0, "join.go:50",#[⟨1,.data⟩],none⟩) (v:=?_) rfl ?_ hHeld ?_;rotate_left 1
       . rintro W ⟨l1,l2⟩;go_simp;try with_reducible rfl
       simp only[Act.put,zIB,zSZ,zSS];refine tkH (i:=3) (oi:=⟨some 80,.fieldAddr 134 (.tmp 79) 2,0, "join.go:50",#[⟨2,.data⟩],none⟩) (v:=?_) rfl ?_ hHeld ?_;rotate_left 1
       . rintro W ⟨l1,l2⟩;go_simp;try with_reducible rfl
       simp only[Act.put,zIB,zSZ,zSS];refine tkH (i:=5) (oi:=⟨some 82,.move (.tmp 5),85, "join.go:50",#[],none⟩) (v:=?_) rfl ?_ hHeld ?_;rotate_left 1
       . rintro W ⟨l1,l2⟩;go_simp;try with_reducible rfl
       simp only[Act.put,zIB,zSZ,zSS];refine tkH (i:=6) (oi:=⟨some 83,.nilCheck (.tmp 82),0, "join.go:50",#[⟨5,.data⟩],none⟩) (v:=?_) rfl ?_ hHeld ?_;rotate_left 1
       . rintro W ⟨l1,l2⟩;go_simp;try with_reducible rfl
       simp only[Act.put,zIB,zSZ,zSS];refine tkH (i:=7) (oi:=⟨some 84,.fieldAddr 134 (.tmp 83) 0,0, "join.go:50",#[⟨6,.data⟩],none⟩) (v:=?_) rfl ?_ hHeld ?_;rotate_left 1
       . rintro W ⟨l1,l2⟩;go_simp;try with_reducible rfl
       simp only[Act.put,zIB,zSZ,zSS];refine tkH (i:=8) (oi:=⟨some 85,.load 130 (.tmp 84),130, "join.go:50",#[⟨7,.data⟩],none⟩) (v:=?_) rfl ?_ hHeld ?_;rotate_left 1
       . rintro W ⟨l1,l2⟩;go_simp;try with_reducible rfl
       simp only[Act.put,zIB,zSZ,zSS];refine tkH (i:=9) (oi:=⟨some 86,.move (.tmp 11),9, "join.go:50",#[],none⟩) (v:=?_) rfl ?_ hHeld ?_;rotate_left 1
       . rintro W ⟨l1,l2⟩;go_simp;try with_reducible rfl
       simp only[Act.put,zIB,zSZ,zSS];refine tkH (i:=10) (oi:=⟨some 87,.build 53 #[(0,.const (.bool true)),(1,.tmp 86)],53, "join.go:50",#[⟨9,.data⟩],none⟩) (v:=?_) rfl ?_ hHeld ?_;rotate_left 1
       . rintro W ⟨l1,l2⟩;go_simp;try with_reducible rfl
       simp only[Act.put,zIB,zSZ,zSS];refine tkH (i:=11) (oi:=⟨some 88,.lookup 130 (.tmp 85) (.tmp 87) false,3, "join.go:50",#[⟨8,.data⟩,⟨10,.data⟩],none⟩) (v:=?_) rfl ?_ hHeld ?_;rotate_left 1
       . rintro W ⟨l1,l2⟩;go_simp;try with_reducible rfl
       simp only[Act.put,zIB,zSZ,zSS];refine wpAnyH_ready (rs:=[4,12]) (by kernel_rfl) (by simp) ?_;refine AllReadyH.cons (o:=⟨some 81,.load 59 (.tmp 80),59, "join.go:50",#[⟨3,.data⟩],none⟩) rfl (fun K hK=>?_) (AllReadyH.cons (o:=⟨some 89,.buildSlice 59 1 #[(0,.tmp 88)],59, "join.go:50",#[⟨11,.data⟩],none⟩) rfl (fun K hK=>?_) AllReadyH.nil)
       . go_simp;refine hK.out _ _ (KB.out _ HA1.out) (fun hHeld=>?_);clear hK K;refine wpAnyH_ready (rs:=[12]) (by kernel_rfl) (by simp) ?_;refine AllReadyH.cons (o:=⟨some 89,.buildSlice 59 1 #[(0,.tmp 88)],59, "join.go:50",#[⟨11,.data⟩],none⟩) rfl (fun K hK=>?_) AllReadyH.nil;go_simp;refine hK.out _ _ (KB.out _ HA2.out) (fun hHeld=>?_);clear hK K;refine wpAnyH_ready (rs:=[13]) (by kernel_rfl) (by simp) ?_;refine AllReadyH.cons (o:=⟨some 90,.call { callee:=.builtin .append,args:=#[.tmp 81,.tmp 89],argTypes:=#[59,59] },59, "join.go:50",#[⟨4,.data⟩,⟨12,.data⟩],none⟩) rfl (fun K hK=>?_) AllReadyH.nil;refine step_append_lies _ (by rfl) _ _ _ (by rfl) wx.heap.size 3 i0 _ 1 8 Tryz.underlying59 hi0 hz0 hz1 hz2 rfl (by decide) (.slice ya ny yc) _ _ (by rfl) HOE.out ⟨wy.heap.size,0,none⟩ 1 1 (csI x) (by rfl) (by rfl) HNW.out (by simp[Value.oneCell']) (by decide) (by unfold maxLen;omega) (by omega) (by simp;omega) (wy.heap.size+1) (by simp) ?_;intro gg cap2 w9 hown9 hgrow9 hat9 hlt9;have HW9:=zA (HKG.out gg cap2 w9 hown9 hgrow9);refine hK.out _ _ HW9.out.1 (fun hHeld=>?_);clear hK K hown9 hgrow9 hat9 hlt9;obtain⟨cz1,cz2⟩:=HW9.out.2.2.1;refine tkH (i:=14) (oi:=⟨some 91,.nilCheck (.tmp 77),0, "join.go:50",#[⟨0,.data⟩,⟨0,.phase⟩,⟨1,.phase⟩,⟨2,.phase⟩,⟨3,.phase⟩,⟨4,.phase⟩,⟨5,.phase⟩,⟨6,.phase⟩,⟨7,.phase⟩,⟨8,.phase⟩,⟨9,.phase⟩,⟨10,.phase⟩,⟨11,.phase⟩,⟨12,.phase⟩,⟨13,.phase⟩],none⟩) (v:=?_) rfl ?_ hHeld ?_;rotate_left 1
         . rintro W ⟨l1,l2⟩;go_simp;try with_reducible rfl
         simp only[Act.put,zIB,zSZ,zSS];refine tkH (i:=15) (oi:=⟨some 92,.fieldAddr 134 (.tmp 91) 2,0, "join.go:50",#[⟨14,.data⟩,⟨0,.phase⟩,⟨1,.phase⟩,⟨2,.phase⟩,⟨3,.phase⟩,⟨4,.phase⟩,⟨5,.phase⟩,⟨6,.phase⟩,⟨7,.phase⟩,⟨8,.phase⟩,⟨9,.phase⟩,⟨10,.phase⟩,⟨11,.phase⟩,⟨12,.phase⟩,⟨13,.phase⟩],none⟩) (v:=?_) rfl ?_ hHeld ?_;rotate_left 1
         . rintro W ⟨l1,l2⟩;go_simp;try with_reducible rfl
         simp only[Act.put,zIB,zSZ,zSS];refine wpAnyH_ready (rs:=[16]) (by kernel_rfl) (by simp) ?_;refine AllReadyH.cons (o:=⟨none,.store 59 (.tmp 92) (.tmp 90),0, "join.go:50",#[⟨15,.data⟩,⟨13,.data⟩,⟨13,.chain⟩,⟨0,.phase⟩,⟨1,.phase⟩,⟨2,.phase⟩,⟨3,.phase⟩,⟨4,.phase⟩,⟨5,.phase⟩,⟨6,.phase⟩,⟨7,.phase⟩,⟨8,.phase⟩,⟨9,.phase⟩,⟨10,.phase⟩,⟨11,.phase⟩,⟨12,.phase⟩,⟨13,.phase⟩],none⟩) rfl (fun K hK=>?_) AllReadyH.nil;go_simp;refine hK.out _ _ HW9.out.2.1 (fun hHeld=>?_);clear hK K cz1 cz2;refine wpAnyH_done (by kernel_rfl) ?_ _;go_wp2;go_roundw
         case rel=>exact⟨k+1,_,by omega,by go_num,HW9.out.2.2.2.1,HW9.out.2.2.2.2.1,HW9.out.2.2.2.2.2⟩
         case measure=>simp[intOf];omega
       . go_simp;refine hK.out _ _ (KB.out _ HA2.out) (fun hHeld=>?_);clear hK K;refine wpAnyH_ready (rs:=[4]) (by kernel_rfl) (by simp) ?_;refine AllReadyH.cons (o:=⟨some 81,.load 59 (.tmp 80),59, "join.go:50",#[⟨3,.data⟩],none⟩) rfl (fun K hK=>?_) AllReadyH.nil;go_simp;refine hK.out _ _ (KB.out _ HA2.out) (fun hHeld=>?_);clear hK K;refine wpAnyH_ready (rs:=[13]) (by kernel_rfl) (by simp) ?_;refine AllReadyH.cons (o:=⟨some 90,.call { callee:=.builtin .append,args:=#[.tmp 81,.tmp 89],argTypes:=#[59,59] },59, "join.go:50",#[⟨4,.data⟩,⟨12,.data⟩],none⟩) rfl (fun K hK=>?_) AllReadyH.nil;refine step_append_lies _ (by rfl) _ _ _ (by rfl) wx.heap.size 3 i0 _ 1 8 Tryz.underlying59 hi0 hz0 hz1 hz2 rfl (by decide) (.slice ya ny yc) _ _ (by rfl) HOE.out ⟨wy.heap.size,0,none⟩ 1 1 (csI x) (by rfl) (by rfl) HNW.out (by simp[Value.oneCell']) (by decide) (by unfold maxLen;omega) (by omega) (by simp;omega) (wy.heap.size+1) (by simp) ?_;intro gg cap2 w9 hown9 hgrow9 hat9 hlt9;have HW9:=zA (HKG.out gg cap2 w9 hown9 hgrow9);refine hK.out _ _ HW9.out.1 (fun hHeld=>?_);clear hK K hown9 hgrow9 hat9 hlt9;obtain⟨cz1,cz2⟩:=HW9.out.2.2.1;refine tkH (i:=14) (oi:=⟨some 91,.nilCheck (.tmp 77),0, "join.go:50",#[⟨0,.data⟩,⟨0,.phase⟩,⟨1,.phase⟩,⟨2,.phase⟩,⟨3,.phase⟩,⟨4,.phase⟩,⟨5,.phase⟩,⟨6,.phase⟩,⟨7,.phase⟩,⟨8,.phase⟩,⟨9,.phase⟩,⟨10,.phase⟩,⟨11,.phase⟩,⟨12,.phase⟩,⟨13,.phase⟩],none⟩) (v:=?_) rfl ?_ hHeld ?_;rotate_left 1
         . rintro W ⟨l1,l2⟩;go_simp;try with_reducible rfl
         simp only[Act.put,zIB,zSZ,zSS];refine tkH (i:=15) (oi:=⟨some 92,.fieldAddr 134 (.tmp 91) 2,0, "join.go:50",#[⟨14,.data⟩,⟨0,.phase⟩,⟨1,.phase⟩,⟨2,.phase⟩,⟨3,.phase⟩,⟨4,.phase⟩,⟨5,.phase⟩,⟨6,.phase⟩,⟨7,.phase⟩,⟨8,.phase⟩,⟨9,.phase⟩,⟨10,.phase⟩,⟨11,.phase⟩,⟨12,.phase⟩,⟨13,.phase⟩],none⟩) (v:=?_) rfl ?_ hHeld ?_;rotate_left 1
         . rintro W ⟨l1,l2⟩;go_simp;try with_reducible rfl
         simp only[Act.put,zIB,zSZ,zSS];refine wpAnyH_ready (rs:=[16]) (by kernel_rfl) (by simp) ?_;refine AllReadyH.cons (o:=⟨none,.store 59 (.tmp 92) (.tmp 90),0, "join.go:50",#[⟨15,.data⟩,⟨13,.data⟩,⟨13,.chain⟩,⟨0,.phase⟩,⟨1,.phase⟩,⟨2,.phase⟩,⟨3,.phase⟩,⟨4,.phase⟩,⟨5,.phase⟩,⟨6,.phase⟩,⟨7,.phase⟩,⟨8,.phase⟩,⟨9,.phase⟩,⟨10,.phase⟩,⟨11,.phase⟩,⟨12,.phase⟩,⟨13,.phase⟩],none⟩) rfl (fun K hK=>?_) AllReadyH.nil;go_simp;refine hK.out _ _ HW9.out.2.1 (fun hHeld=>?_);clear hK K cz1 cz2;refine wpAnyH_done (by kernel_rfl) ?_ _;go_wp2;go_roundw
         case rel=>exact⟨k+1,_,by omega,by go_num,HW9.out.2.2.2.1,HW9.out.2.2.2.2.1,HW9.out.2.2.2.2.2⟩
         case measure=>simp[intOf];omega
     . have hkI:¬(k:Int)<(nvs:Int):=by omega
       have htk:us.take k=us:=zJ (by rw[HUL.out];omega);rw[htk]at HROW;clear htk;have HFIN:Hid (Q (.returned (.pointer (some ⟨jb,0,none⟩))) wy):=zA (by
        rw[HQQ.out,<- HUS.out];exact⟨wx,jb,mp,J,frs,D,lks,rks,A,R,v,rfl,HRS.out.jb_,HLA.out,HLR.out,HFR.out,HBK.out,HROW.out⟩)
       go_wp2;all_goals (first|(go_ret;exact HFIN.out)|exact HFIN.out)
theorem sd_out{kp:Nat->Prop}{n:Nat}{E:List Eg}{a:Au}(u:Nat):((sdOf kp n E a).out u).length<=E.length:=by
 unfold Sd.out sdOf;rw[List.getD,zI];by_cases h:u<n
 . rw[yQ h];exact List.length_filterMap_le _ _
 . rw[yE (by simp;omega)];simp
theorem at_mid{α:Type}{A R:List α}{i:Nat}{x:α}(h:A[i]?=some x):(A++R)[i]?=some x:=by
 rw[yH (zF.1 h).1];exact h
theorem at_end{α:Type}{A R:List α}{i:Nat}{x:α}(h:R[i]?=some x):(A++R)[A.length+i]?=some x:=by
 rw[yO (by omega)];rw[show A.length+i-A.length=i by omega];exact h
theorem sea_of{fs:List Fa}{n:Nat}(hn:n=(vertsL fs).length){E:List Eg}(hE:E=fs.map (egOf (vertsL fs)))(hEl:E.length<=10000){p:Pt}(hp:mayP p=true){kp:Nat->Prop}{l:List Sx}{q sb:Nat}{x:Sx}(hx:l[q]?=some x)(hs:syOf x=(sb,sdOf kp n E (autoOf p))):SeaOk (l.map syOf) n q sb (fun u v=>leadP fs p ((vertsL fs).getD u []) ((vertsL fs).getD v [])):=by
 refine⟨_,by rw[zI,hx,Option.map_some,hs],rfl,fun u=>zT (sd_out u) (by omega),fun u v hu hv=>?_⟩;have hget:∀k,k<n->(vertsL fs)[k]?=some ((vertsL fs).getD k []):=fun k hk=>by
  rw[List.getD,zB (by omega)];rfl
 subst hn hE;exact search_lead hp (hget u hu) (hget v hv)
theorem sea_back{fs:List Fa}{n:Nat}(hn:n=(vertsL fs).length){E:List Eg}(hE:E=fs.map (egOf (vertsL fs)))(hEl:E.length<=10000){p:Pt}(hp:mayP p=true){kp:Nat->Prop}{l:List Sx}{q sb:Nat}{x:Sx}(hx:l[q]?=some x)(hs:syOf x=(sb,sdOf kp n (E.map turnE) (autoOf (turnP p)))):SeaOk (l.map syOf) n q sb (fun v u=>leadP fs p ((vertsL fs).getD u []) ((vertsL fs).getD v [])):=by
 refine⟨_,by rw[zI,hx,Option.map_some,hs],rfl,fun u=>zT (sd_out u) (by rw[zH];omega),fun v u hv hu=>?_⟩;have hget:∀k,k<n->(vertsL fs)[k]?=some ((vertsL fs).getD k []):=fun k hk=>by
  rw[List.getD,zB (by omega)];rfl
 subst hn hE;exact search_back hp (hget u hu) (hget v hv)
theorem idx_get{ts:List Tm}{t:Tm}(h:t∈ts):ts[ts.idxOf t]?=some t:=by
 rw[zB (yC h)];simp
theorem linkP_ring{ts:List Tm}{P:List Pa}(hmem:∀t,t∈ts↔∃a∈P,t=a.1\/t=a.2.2):linkP P=P.filter (fun a=> !isRing ts a)/\ringP P=P.filter (isRing ts):=by
 have key:∀a∈P,isRing ts a=decide (a.1=a.2.2):=fun a ha=>by
  unfold isRing;refine decide_eq_decide.2 ⟨fun h=>?_,fun h=>by rw[h]⟩;have h1:=idx_get ((hmem _).2 ⟨a,ha,.inl rfl⟩);have h2:=idx_get ((hmem _).2 ⟨a,ha,.inr rfl⟩);rw[h,h2]at h1;injection h1 with h1;exact h1.symm
 exact⟨List.filter_congr (fun a ha=>by rw[key a ha]),List.filter_congr (fun a ha=>by rw[key a ha])⟩
theorem idx_of{ts:List Tm}(hts:ts.Nodup){i:Nat}{t:Tm}(h:ts[i]?=some t):ts.idxOf t=i:=by
 have h1:=idx_get (zC h);exact(List.getElem?_inj (zF.1 h1).1 hts).1 (by rw[h1,h])
theorem NJE.jw{fs:List Fa}{w w':World}{P:List Pa}{us:List Nat}{e:Ending}(h:NJE w (vertsL fs) (fs.map (egOf (vertsL fs))) P us e w')(hfl:fs.length<=1000)(hm:∀a∈P,mayP a.2.1=true)(hP0:P≠[])(hPl:P.length<=100)(hT:TabG w)(h0:0<w.heap.size)(hus:us≠[])(husl:us.length<=100)(hult:∀u∈us,u<(termsOf P).length):
 ∃jb J l frs lks rks,e=.returned (.pointer (some ⟨jb,0,none⟩))/\w.heap.size<=jb/\Below w.heap.size w w'/\(∀x∈l,∀k,OwnX x k->w.heap.size<=k)/\(termsOf P).Nodup/\
  JW (fun k=>k<w'.heap.size/\k≠jb/\UL l k) w' jb J (l.map syOf) (vertsL fs).length (termsOf P).length lks ((P.filter fun a=> !isRing (termsOf P) a).map (lkOf fs (termsOf P))) us l frs ((termsOf P).map (firstT (vertsL fs))) rks ((P.filter (isRing (termsOf P))).map (lkOf fs (termsOf P))):=by
 obtain⟨w2,jb,mp,J,frs,D,lks,rks,A,R,v,he,hJ,hA,hR,hf,hb,hv⟩:=h;obtain⟨cnt,DM,hmap,_,hTM⟩:=hJ.sl.map;have hnd:=hTM.nd;have hVl:(vertsL fs).length<=2000:=zT (verts_len fs) (by omega);have hEl:(fs.map (egOf (vertsL fs))).length<=10000:=by rw[zH];omega
 have hmem:∀t,t∈termsOf P↔∃a∈P,t=a.1\/t=a.2.2:=fun t=>terms_mem
 obtain⟨e1,e2⟩:=linkP_ring hmem;have hjl:=lt_of_block hJ.sl.blk;have hjB:=hJ.sl.jB;have hz2:=hf.size;have hBw:=hJ.Bw;have hxj:XJ jb mp J jb:=.inl (.inl rfl);have hown:∀x∈A++R,∀k,OwnX x k->w.heap.size<=k:=fun x hx k hk=>hJ.pB x hx k (.inl hk)
 have hbw:Below w.heap.size w w':=⟨hf.os.trans hJ.bel.os,hf.tape.trans hJ.bel.tape,hf.output.trans hJ.bel.output,by omega,fun k hk=>(hf.block k ⟨by omega,by omega⟩).trans (hJ.bel.block k hk)⟩
 have hxF:∀k,XJ jb mp J k->k≠jb->k<w2.heap.size->(k<w'.heap.size/\k≠jb/\UL (A++R) k)/\w'.heap[k]?=w2.heap[k]?:=fun k hk hne hl=>⟨⟨by omega,hne,fun x hx=>(hJ.px k hk x hx).1⟩,hf.block k ⟨hl,hne⟩⟩
 have hnej:∀ {u:Value} {ty:TypeId} {s n:Nat} {xs:List Value},w2.ownsRow w.heap.size ty s u n xs->ty≠134->∀g,u.ownBlock=some g->g≠jb:=fun hu hne g hg e=>own_neG hu hJ.sl.blk hne (e▸hg)
 have hidx:∀ {la:List Pa} {ks:List Lm} {X:List Sx},LA (vertsL fs).length (fs.map (egOf (vertsL fs))) (termsOf P) la ks X->∀(i:Nat) a L,la[i]?=some a->ks[i]?=some L->(termsOf P).idxOf a.1=L.1/\(termsOf P).idxOf a.2.2=L.2.1/\L.1<(termsOf P).length/\L.2.1<(termsOf P).length:=fun hL i a L h1 h2=>by
  obtain⟨a1,a2,_⟩:=hL.at_ i a L h1 h2;exact⟨idx_of hnd a1,idx_of hnd a2,(zF.1 a1).1,(zF.1 a2).1⟩
 have hlsub:∀a∈linkP P,a∈P/\a.1≠a.2.2:=fun a ha=>by
  obtain⟨h1,h2⟩:=zY.1 ha;exact⟨h1,by simpa using h2⟩
 have hrsub:∀a∈ringP P,a∈P:=fun a ha=>(zY.1 ha).1
 have hm0:0<(termsOf P).length:=by
  obtain⟨a,P',rfl⟩:=List.exists_cons_of_ne_nil hP0;exact List.length_pos_iff.2 (fun e0=>by
   have h1:=(hmem a.1).2 ⟨a,zL ..,.inl rfl⟩;rw[e0]at h1;simp at h1)
 have htl:=terms_len P;have hlks:lks.length<=100:=by
  rw[hA.len];exact zT (yF _ _) hPl
 have hrks:rks.length<=100:=by
  rw[hR.len];exact zT (yF _ _) hPl
 have hlen:=hJ.sl.fl;refine⟨jb,{ J with vv:=v },A++R,frs,lks,rks,he,hjB,hbw,hown,hnd,⟨?_,rfl,?_,⟨by omega,by omega,fun x hx ho=>by have:=hown x hx 0 ho;omega⟩,fun k hk=>hk.1,fun k hk=>hk.2.2,fun x hx=>(hJ.px jb hxj x hx).1,fun hk=>hk.2.1 rfl,fun y hy=>?_,hb,?_,?_,?_,by omega,?_,by omega,by omega,by omega⟩,?_,fun r hr=>?_,fun r hr=>?_,hJ.sl.frc,by rw[zH],hm0,hJ.fv,?_,?_,?_,by omega,hus,hult⟩
 . exact hJ.pool.keep (by omega) (fun x hx k hk=>hf.block k ⟨hk.elim (hJ.pool.own_lt hx) (hJ.pool.kp_lt hx),fun e0=>hk.elim (fun h1=>(hJ.px jb hxj x hx).1 (e0▸h1)) (fun h1=>(hJ.px jb hxj x hx).2 (e0▸h1))⟩)
 . exact hT.below (B:=w.heap.size) h0 hbw
 . obtain⟨x,hx,rfl⟩:=zV.1 hy;exact(hJ.px jb hxj x hx).2
 . exact(own_sl csL_len hJ.li rfl).keep (by omega) (fun k hk hl=>hxF k (.inr (.inl hk)) (hnej hJ.li (by decide) k hk) hl)
 . have h1:=own_natC (l:=List.range (termsOf P).length) (by rw[List.length_range];exact hJ.sl.al);exact h1.keep (by omega) (fun k hk hl=>hxF k (.inl (.inr (.inr (.inl hk)))) (hnej hJ.sl.al (by decide) k hk) hl)
 . refine(own_natC hv).sub (fun k hk hl=>⟨hl,?_,fun x hx ho=>?_⟩)
   . have:=(hv.lt k hk).1;omega
   . have:=(hv.lt k hk).1;have:=hJ.pool.own_lt hx ho;omega
 . rw[<- e1];refine⟨by rw[zH,hA.len],fun i L l hL hl=>?_⟩;rw[zI]at hl;cases ha:(linkP P)[i]? with
   |none=>rw[ha]at hl;simp at hl
   |some a=>
    rw[ha]at hl;simp at hl;subst hl;obtain⟨i1,i2,i3,i4⟩:=hidx hA i a L ha hL;obtain⟨a1,a2,x,y,kp,kp',a3,a4,a5,a6⟩:=hA.at_ i a L ha hL;obtain⟨hap,hne⟩:=hlsub a (zC ha);refine⟨i1,i2,fun e0=>?_,i3,i4,?_,?_⟩
    . rw[e0,a2]at a1;injection a1 with a1;exact hne a1.symm
    . exact sea_of rfl rfl hEl (hm a hap) (at_mid a3) a5
    . exact sea_back rfl rfl hEl (hm a hap) (at_mid a4) a6
 . exact(own_sl csRow_len hJ.sl.fi rfl).keep (by omega) (fun k hk hl=>hxF k (.inl (.inr (.inr (.inr hk)))) (hnej hJ.sl.fi (by decide) k hk) hl)
 . exact(hJ.sl.fat r hr).keep (by omega) (fun k hk hl=>⟨⟨by omega,fun e0=>hJ.sl.dx k hk (.inl e0),fun x hx=>hJ.pd k hk x hx⟩,hf.block k ⟨hl,fun e0=>hJ.sl.dx k hk (.inl e0)⟩⟩)
 . have h1:r.2∈(termsOf P).map (firstT (vertsL fs)):=by rw[<- hJ.sl.frc];exact zW hr
   obtain⟨t,_,ht⟩:=zV.1 h1;rw[<- ht];exact⟨firstT_lt _ t,zT (firstT_len _ t) (by omega)⟩
 . exact(own_sl csL_len hJ.ri rfl).keep (by omega) (fun k hk hl=>hxF k (.inr (.inr hk)) (hnej hJ.ri (by decide) k hk) hl)
 . rw[<- e2,zH,hR.len]
 . intro i L r hL hr;rw[<- e2,zI]at hr;cases ha:(ringP P)[i]? with
   |none=>rw[ha]at hr;simp at hr
   |some a=>
    rw[ha]at hr;simp at hr;subst hr;obtain⟨i1,i2,i3,i4⟩:=hidx hR i a L ha hL;obtain⟨a1,a2,x,y,kp,kp',a3,a4,a5,a6⟩:=hR.at_ i a L ha hL;exact⟨i1,i3,_,sea_of rfl rfl hEl (hm a (hrsub a (zC ha))) (at_end a3) a5⟩
end Go.Proofs.YtkbgmcmcpbegjaaGreatDoor
