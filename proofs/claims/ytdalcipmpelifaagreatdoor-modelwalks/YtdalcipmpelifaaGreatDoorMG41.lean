/- XRows1, XRows2, XTerm. -/
import Derived.Test.YtdalcipmpelifaaGreatDoorMG39
import Derived.Test.YtdalcipmpelifaaGreatDoorMG40
import Derived.DeepKeys4
set_option maxRecDepth 100000
namespace Go.Proofs.YtdalcipmpelifaaGreatDoor
open Go.RowKit Go.Shelf
theorem NI.rebase{w0:World}{O F:Nat->Prop}{v:Value}{ds:List Sy}{n:Nat}{c:Ch}{w:World}{l:List Sx}{Z:Nat->Prop}{rows:List (Value×List Nat)}(h:NI w0 O F (fun _=>False) v ds n c w l Z rows)(hO:∀k,w0.heap.size<=k->O k):NI w O F (fun _=>False) v ds n c w l Z rows:=
 ⟨h.pool,h.like,h.ch,h.rc,h.zl,h.zu,h.kv,h.cb,Fr.refl _ _,h.fo,h.go,h.gk,h.gf,fun k hk _=>by
  by_cases hkw:k<w0.heap.size
  . exact h.zo k hk hkw
  . exact hO k (by omega)⟩
structure RSt (F:Nat->Prop) (w0:World) (l0:List Sx) (ds:List Sy) (n m:Nat) (v:Value) (c:Ch) (w:World):Prop where
 ex:∃l Z rows,NI w (fun k=>F k\/w0.heap.size<=k) (fun k=>k<w0.heap.size/\UL l0 k) (fun _=>False) v ds n c w l Z rows
 fr:Fr (fun k=>k<w0.heap.size/\UL l0 k) w0 w
 cl:c.length=m
section
variable {F:Nat->Prop} {w0 w w':World} {jb:Nat} {J:Jv} {ds:List Sy} {n m:Nat} {lks:List Lm} {ls:List Lk} {us:List Nat} {l0:List Sx} {v:Value} {c:Ch}
theorem RSt.below(h:RSt F w0 l0 ds n m v c w)(hb:Below w.heap.size w w'):RSt F w0 l0 ds n m v c w':=by
 obtain⟨l,Z,rows,hn⟩:=h.ex;have h1:NI w (fun k=>F k\/w0.heap.size<=k) (fun k=>k<w0.heap.size/\UL l0 k) (fun _=>False) v ds n c w' l Z rows:=hn.grow hb.size hb.os hb.tape hb.output (fun k hk _=>hb.block k hk) (fun _ hk=>hk.elim) (fun k hk=>(hn.fo k hk).1) (zD _);refine⟨⟨l,Z,rows,h1.rebase (fun k hk=>.inr (zQ h.fr.size hk))⟩,h.fr.trans ⟨hb.os,hb.tape,hb.output,hb.size,fun k hk=>hb.block k (zO hk.1 h.fr.size)⟩,h.cl⟩
theorem NI.jz{l:List Sx}{Z:Nat->Prop}{rows:List (Value×List Nat)}{O:Nat->Prop}(h0:Jz F w0 jb J ds n m lks ls us l0)(hfr:Fr (fun k=>k<w0.heap.size/\UL l0 k) w0 w)(hn:NI w O (fun k=>k<w0.heap.size/\UL l0 k) (fun _=>False) v ds n c w l Z rows):Jz F w jb J ds n m lks ls us l:=by
 have hF:Fr F w0 w:=hfr.sub (fun k hk=>⟨h0.low k hk,h0.un k hk⟩);exact⟨hn.pool,hn.like,h0.tab.fr h0.f0 hF,h0.f0,h0.low.fr hF,fun k hk=>(hn.fo k ⟨h0.low k hk,h0.un k hk⟩).2.1,(hn.fo jb ⟨h0.lt,h0.ju⟩).2.1,h0.jF,h0.jk,(hfr.block jb ⟨h0.lt,h0.ju⟩).trans h0.blk,h0.lk.fr hF,h0.al.fr hF,h0.va.fr hF,h0.ll,h0.ok,h0.nn,h0.mm,h0.ul⟩
theorem RSt.jz(h0:Jz F w0 jb J ds n m lks ls us l0)(h:RSt F w0 l0 ds n m v c w):∃l Z rows,NI w (fun k=>F k\/w0.heap.size<=k) (fun k=>k<w0.heap.size/\UL l0 k) (fun _=>False) v ds n c w l Z rows/\Jz F w jb J ds n m lks ls us l:=by
 obtain⟨l,Z,rows,hn⟩:=h.ex;exact⟨l,Z,rows,hn,hn.jz h0 h.fr⟩
theorem RSt.narrow(h0:Jz F w0 jb J ds n m lks ls us l0)(hm:0<m)(h:RSt F w0 l0 ds n m v c w):Calls Tryz.prog 52 #[.pointer (some ⟨jb,0,none⟩),v,J.av] w fun e w'=>e=.returned (.tuple #[])/\RSt F w0 l0 ds n m v (narrowC ls c) w':=by
 obtain⟨l,Z,rows,hn,hj⟩:=h.jz h0;have hcl:=h.cl;have hmm:=h0.mm;have hFU:∀k,F k->k<w0.heap.size/\UL l0 k:=fun k hk=>⟨h0.low k hk,h0.un k hk⟩
 have hok:LinksOk ds n c.length lks ls:=by rw[hcl];exact h0.ok
 have C:=narrow_any (jb:=jb) (lv:=J.lv) (chv:=J.av) (T0:=List.range m) hn h0.nn hj.tab (hFU 0 h0.f0) (fun k hk=>(hn.fo k hk).1) (by omega) hj.cell.2.2.1 ⟨h0.lt,h0.ju⟩ (hj.lk.sub (fun k hk _=>hFU k hk)) h0.ll hok (hj.al.1.sub (fun k hk _=>hFU k hk)) (by intro e;have:=congrArg List.length e;simp at this;omega) (by simpa using hmm) (fun k hk=>by rw[hcl];exact yA.1 hk) (fun l hl=>⟨.inl (yA.2 (h0.ok.lt l hl).1),.inl (yA.2 (h0.ok.lt l hl).2)⟩);refine C.mono ?_;rintro e w' ⟨rfl,l',Z',rows',hn'⟩;exact⟨rfl,⟨l',Z',rows',hn'.rebase (fun k hk=>.inr (zQ h.fr.size hk))⟩,h.fr.trans hn'.fr,by rw[narrow_len];exact hcl⟩
theorem RSt.ring{wz:World}(h0:Jz F w0 jb J ds n m lks ls us l0)(h:RSt F w0 l0 ds n m v c w)(hbz:Below w.heap.size w wz){a q sb:Nat}{r:Lk}(ha:a<m)(hr:r.fr=a)(hs:SeaOk ds n q sb r.R):
 ∃g cap av na,v=.slice (some ⟨g,0,none⟩) m cap/\g<w.heap.size/\(∃aa ac,av=.slice aa na ac)/\wz.cell? ⟨g,a,none⟩=some av/\Calls Tryz.prog 53 #[.pointer (some ⟨sb,0,none⟩),av] wz fun e w'=>∃lv,e=.returned lv/\(∃la nl lc,lv=.slice la nl lc)/\w'.cell? ⟨g,a,none⟩=some av/\w'.frozen? ⟨g,a,none⟩=false/\(∀k,w.heap.size<=k->k<wz.heap.size->w'.heap[k]?=wz.heap[k]?)/\RSt F w0 l0 ds n m v (ringC c r) (w'.setCell ⟨g,a,none⟩ lv):=by
 obtain⟨l,Z,rows,hno⟩:=h.ex;have hn1:NI w (fun k=>F k\/w0.heap.size<=k) (fun k=>k<w0.heap.size/\UL l0 k) (fun _=>False) v ds n c wz l Z rows:=hno.grow hbz.size hbz.os hbz.tape hbz.output (fun k hk _=>hbz.block k hk) (fun _ hk=>hk.elim) (fun k hk=>(hno.fo k hk).1) (zD _);have hn:=hn1.rebase (fun k hk=>.inr (zQ h.fr.size hk));have hfz1:Fr (fun k=>k<w0.heap.size/\UL l0 k) w0 wz:=h.fr.trans ⟨hbz.os,hbz.tape,hbz.output,hbz.size,fun k hk=>hbz.block k (zO hk.1 h.fr.size)⟩;have hj:=hn.jz h0 hfz1;have hcl:=h.cl;obtain⟨d,hq,hdn,hol,hQ⟩:=hs.ex;have hql:∃x,l[q]?=some x/\syOf x=(sb,d):=by
  have h1:=hn.like;rw[<- h1,zI]at hq;cases hx:l[q]? with
  |none=>rw[hx]at hq;simp at hq
  |some x=>rw[hx]at hq;exact⟨x,rfl,by simpa using hq⟩
 obtain⟨x,hx,hxe⟩:=hql;obtain⟨xb,xd,xm⟩:=x;unfold syOf at hxe;simp only[Prod.mk.injEq]at hxe;obtain⟨rfl,rfl⟩:=hxe;have hxm:=zC hx;obtain⟨s,hsr,hre⟩:=hn.pool.at_ _ hxm;dsimp only at hsr hre;have hrl:rows.length=m:=by rw[<- hcl,<- hn.rc,zH]
 obtain⟨ra,hra⟩:∃r,rows[a]?=some r:=⟨_,zB (by omega)⟩
 have hca:atC c a=ra.2:=by unfold atC;rw[<- hn.rc,List.getD,zI,hra];rfl
 obtain⟨g,cap,hv,hcell,hfz⟩:=hn.ch.at_ hra;rw[hrl]at hv;have hram:=zC hra;have hnat:=hn.ch.ats ra hram;have hcb:=hn.cb ra hram;have hgo:v.ownBlock=some g:=by rw[hv];rfl
 have hgZ:=hn.ch.own g hgo;have hgw:g<w.heap.size:=by
  have:=hno.zl g (hno.ch.own g hgo);exact this
 obtain⟨aa,ac,hav⟩:=hnat.1.slice;have h0':=hn.fo 0 ⟨h0.low 0 h0.f0,h0.un 0 h0.f0⟩;have C:=loops_any (P:=ringB r) (Z:=fun k=>Z k/\v.ownBlock≠some k) hsr (fun k hk=>hk.1) hre (by rw[hdn];exact h0.nn) hol hj.tab ⟨h0'.1,h0'.2.1 _ hxm⟩ hnat (fun k hk=>⟨hn.zl k hk.1,hn.zu k hk.1 _ hxm⟩) (fun x hx2=>by rw[hdn];exact hcb.1 x hx2) hcb.2 (fun x hx2=>by
  rw[ringB_iff];rw[hdn]at hx2;exact(hQ x x hx2 hx2).symm)
 refine⟨g,cap,ra.1,ra.2.length,hv,hgw,⟨aa,ac,hav⟩,hcell,C.mono ?_⟩;rintro e w' ⟨lv,rfl,hown,T,s',m',t1,t2,t3,t4,t5,t6⟩;have hgS:g<wz.heap.size/\¬OwnX (xb,xd,xm) g:=⟨hn.zl g hgZ,hn.zu g hgZ _ hxm⟩
 have hgb:=t6.block g hgS;have hzz:wz.heap.size<=w'.heap.size:=t6.size;obtain⟨la,lc,hlve⟩:=own_slice hown;refine⟨lv,rfl,⟨la,_,lc,hlve⟩,by simpa only[World.cell?,hgb]using hcell,by simpa only[World.frozen?,hgb]using hfz,fun k hk1 hk2=>t6.block k ⟨hk2,fun ho=>?_⟩,?_⟩
 . have:=hno.pool.own_lt hxm ho;omega
 . have hset:∀k,k≠g->(w'.setCell ⟨g,a,none⟩ lv).heap[k]?=w'.heap[k]?:=fun k hk=>zM _ _ _ _ hk
   have hsz:(w'.setCell ⟨g,a,none⟩ lv).heap.size=w'.heap.size:=by simp
   have hTg:T g:=t1 g hgS;have hil:=(zE.1 hx).1;have hcase:∀y∈l.set q (xb,xd,m'),y=(xb,xd,m')\/∃j,j≠q/\l[j]?=some y:=fun y hy=>by
    obtain⟨j,hj⟩:=List.getElem?_of_mem hy;rw[List.getElem?_set]at hj;by_cases ej:q=j
    . rw[if_pos ej,if_pos (by omega)]at hj;injection hj with hj;exact .inl hj.symm
    . rw[if_neg ej]at hj;exact .inr ⟨j,fun e=>ej e.symm,hj⟩
   have hnot:∀k,k<wz.heap.size->(∀x∈l,¬OwnX x k)->∀y∈l.set q (xb,xd,m'),¬OwnX y k:=fun k hk1 hk2 y hy=>by
    rcases hcase y hy with rfl|⟨j,_,hj⟩
    . exact fun ho=>t3.own_no ho (t1 k ⟨hk1,hk2 _ hxm⟩)
    . exact hk2 y (zC hj)
   have hsrF:SrS T (w'.setCell ⟨g,a,none⟩ lv) xb xd s' m':=t3.keep (by rw[hsz];exact zD _) (fun k hk ho=>⟨t3.own_no ho,hset k (fun e=>t3.own_no ho (e▸hTg))⟩) (fun k hk hkk=>hset k (fun e=>hn.kv _ hxm k hkk (by rw[e];exact hgo))) t3.kS;have hlowF:Low T (w'.setCell ⟨g,a,none⟩ lv):=fun k hk=>by rw[hsz];exact t2 k hk
   have hpool:=hn.pool.turn hx (T:=T) (s':=s') (m':=m') (fun k hk=>t1 k hk) hlowF hsrF t4 (by rw[hsz];exact hzz) (fun y hy k hk hnx=>(hset k (fun e=>hk.elim (fun ho=>hn.zu g hgZ y hy (e▸ho)) (fun hkp=>hn.kv y hy k hkp (by rw[e];exact hgo)))).trans (t6.block k ⟨hk.elim (hn.pool.own_lt hy) (hn.pool.kp_lt hy),hnx⟩));have hmap:(rows.set a (lv,ra.2.filter (ringB r))).map (·.2)=ringC c r:=by rw[List.map_set,hn.rc,ringC,hr,hca]
   have hF2:∀k,k<w0.heap.size/\UL l0 k->(w'.setCell ⟨g,a,none⟩ lv).heap[k]?=wz.heap[k]?:=fun k hk=>by
    obtain⟨a1,a2,a3⟩:=hn.fo k hk;exact(hset k (fun e=>a3 (by rw[e];exact hgo))).trans (t6.block k ⟨a1,a2 _ hxm⟩)
   refine⟨⟨l.set q (xb,xd,m'),fun k=>(Z k\/wz.heap.size<=k)/\T k,rows.set a (lv,ra.2.filter (ringB r)),hpool,?_,⟨?_,fun k hk=>?_,fun y hy=>?_⟩,hmap,fun k hk=>hlowF k hk.2,fun k hk y hy=>?_,fun y hy k hk=>?_,fun y hy=>?_,Fr.refl _ _,fun k hk=>?_,fun _ hk=>hk.elim,fun _ hk=>hk.elim,fun _ hk=>hk.elim,fun k hk _=>?_⟩,hfz1.trans ⟨t6.os,t6.tape,t6.output,by rw[hsz];exact hzz,hF2⟩,by rw[ring_len];exact hcl⟩
   . rw[List.map_set,<- hn.like];apply List.ext_getElem?;intro j;rw[List.getElem?_set];by_cases ej:q=j
     . subst ej;rw[if_pos rfl,if_pos (by rw[zH];exact hil),zI,hx];rfl
     . rw[if_neg ej]
   . have h1:w'.ownsRow 0 56 1 v rows.length (rows.flatMap csRow):=owns_key hn.ch.row (fun k o hk ho=>by
      have e:g=k:=by rw[hgo]at hk;injection hk
      subst e;exact hgb.trans ho)
     rw[List.length_set,flat_set,hrl,hv];rw[hv,hrl]at h1;exact(h1.stored a lv).1
   . have e:g=k:=by rw[hgo]at hk;injection hk
     subst e;exact⟨.inl hgZ,hTg⟩
   . have hlift:∀ {u:Value} {L:List Nat} {Y:Nat->Prop},NatC Y w' u L->(∀k,Y k->k<w'.heap.size->((Z k\/wz.heap.size<=k)/\T k)/\k≠g)->NatC (fun k=>((Z k\/wz.heap.size<=k)/\T k)/\v.ownBlock≠some k) (w'.setCell ⟨g,a,none⟩ lv) u L:=fun hu hY=>hu.keep (by rw[hsz];exact zD _) (fun k hk hkl=>⟨⟨(hY k hk hkl).1,fun e=>(hY k hk hkl).2 (by rw[hgo]at e;injection e with e;exact e.symm)⟩,hset k (hY k hk hkl).2⟩)
     rcases List.mem_or_eq_of_mem_set hy with hy|hy
     . refine hlift ((hn.ch.ats y hy).keep (T:=fun k=>Z k/\v.ownBlock≠some k) hzz (fun k hk hkl=>⟨hk,t6.block k ⟨hkl,hn.zu k hk.1 _ hxm⟩⟩)) (fun k hk _=>⟨⟨.inl hk.1,t1 k ⟨hn.zl k hk.1,hn.zu k hk.1 _ hxm⟩⟩,fun e=>hk.2 (by rw[e];exact hgo)⟩)
     . rw[hy];refine hlift (own_natC hown) (fun k hk _=>?_);have h2:=hown.lt k hk;exact⟨⟨.inr h2.1,t5 k hk⟩,fun e=>by have:=hgS.1;omega⟩
   . rcases hcase y hy with rfl|⟨j,hj1,hj2⟩
     . exact fun ho=>t3.own_no ho hk.2
     . rcases hk.1 with h1|h1
       . exact hn.zu k h1 y (zC hj2)
       . exact fun ho=>by have:=hn.pool.own_lt (zC hj2) ho;omega
   . rcases hcase y hy with rfl|⟨j,hj1,hj2⟩
     . exact hn.kv _ hxm k hk
     . exact hn.kv y (zC hj2) k hk
   . rcases List.mem_or_eq_of_mem_set hy with hy|hy
     . exact hn.cb y hy
     . rw[hy];exact⟨fun u hu=>hcb.1 u (zV.1 hu).1,zQ (yD _ _) hcb.2⟩
   . obtain⟨a1,a2,a3⟩:=hn.fo k hk;exact⟨by rw[hsz];omega,hnot k a1 a2,a3⟩
   . rcases hk.1 with h1|h1
     . exact hn.zo k h1 (hn.zl k h1)
     . exact .inr (zQ hfz1.size h1)
theorem Jz.begin{w1:World}{rows:List (Value×List Nat)}{g1 nr cap:Nat}(h0:Jz F w0 jb J ds n m lks ls us l0)(hrc:rows.map (·.2)=c)(hcl:c.length=m)(hat:∀r∈rows,NatC F w0 r.1 r.2)(hbd:∀r∈rows,(∀u∈r.2,u<n)/\r.2.length<=10000)(hnr:nr=rows.length)(hb1:Below w0.heap.size w0 w1)(hown:w1.ownsRow w0.heap.size 56 1 (.slice (some ⟨g1,0,none⟩) nr cap) nr (rows.flatMap csRow)):RSt F w0 l0 ds n m (.slice (some ⟨g1,0,none⟩) nr cap) c w1:=by
 have hz1:=hb1.size;have hg1:=hown.lt g1 rfl;have hob:∀k,(Value.slice (some ⟨g1,0,none⟩) nr cap).ownBlock=some k->k=g1:=fun k e=>by
  have h3:g1=k:=by simpa[Value.ownBlock]using e
  exact h3.symm
 have hnew:∀k,w0.heap.size<=k->UL l0 k:=fun k hk2=>(h0.fresh hk2).1
 refine⟨⟨l0,fun k=>(k<w1.heap.size/\UL l0 k)/\(F k\/w0.heap.size<=k),rows,h0.pool.below hb1,h0.like,⟨?_,fun k hk=>?_,fun r hr=>?_⟩,hrc,fun k hk=>hk.1.1,fun k hk=>hk.1.2,fun x hx k hk e=>?_,hbd,Fr.refl _ _,fun k hk=>?_,fun _ hk=>hk.elim,fun _ hk=>hk.elim,fun _ hk=>hk.elim,fun k hk _=>hk.2⟩,⟨hb1.os,hb1.tape,hb1.output,hb1.size,fun k hk=>hb1.block k hk.1⟩,hcl⟩
 . rw[<- hnr];refine⟨hown.1,hown.2.imp id ?_⟩;rintro⟨g,cp,cur,e1,_,e3⟩;exact⟨g,cp,cur,e1,zS _,e3⟩
 . rw[hob k hk];exact⟨⟨hg1.2,hnew g1 hg1.1⟩,.inr hg1.1⟩
 . exact(hat r hr).keep hz1 (fun k hk hl=>⟨⟨⟨⟨by omega,h0.un k hk⟩,.inl hk⟩,fun e=>by have:=hob k e;omega⟩,hb1.block k hl⟩)
 . have:=h0.pool.kp_lt hx hk;have:=hob k e;omega
 . exact⟨by omega,hk.2,fun e=>by have:=hob k e;omega⟩
theorem RSt.fill(h0:Jz F w0 jb J ds n m lks ls us l0)(hm:0<m)(hfv:J.fv=.slice none 0 0)(h:RSt F w0 l0 ds n m v c w)(hac:AC ls c):∃l C,FI F w jb J ds n m lks ls us l (fun _=>False) C v c (.slice none 0 0) [] []/\FFr w0 w l0 l (fun _=>False):=by
 obtain⟨l,Z,rows,hn,hj⟩:=h.jz h0;have hqn:∀k,¬QB (.slice none 0 0) k:=fun k hk=>by obtain⟨_,_,_,e⟩:=hk;cases e
 refine⟨l,Z,⟨hj,fun _ hk=>hk.elim,⟨[],rfl,by rw[hfv];exact World.ownsRow_nil _ _ _ _,fun g hg=>by rw[hfv]at hg;simp[Value.ownBlock]at hg,fun r hr=>by simp at hr⟩,.inl ⟨rfl,rfl⟩,fun k hk=>absurd hk (hqn k),fun k hk=>absurd hk (hqn k),⟨rows,hn.rc,(own_sl csRow_len hn.ch.row rfl).sub (fun k hk _=>hn.ch.own k hk),fun r hr=>(hn.ch.ats r hr).sub (fun k hk _=>hk.1),hn.cb⟩,fun k hk=>⟨hn.zl k hk,hn.zu k hk,fun e=>?_,fun h2=>h2,hqn k⟩,hac,h.cl,hm,by simp⟩,h.fr.os,h.fr.tape,h.fr.output,h.fr.size,fun k hk hu _=>h.fr.block k ⟨hk,hu⟩,fun k hk hu=>(hn.fo k ⟨hk,hu⟩).2.1⟩;subst e;rcases hn.zo k hk (hn.zl k hk)with h1|h1
 . exact h0.jF h1
 . have:=h0.lt;omega
end
structure JW (F:Nat->Prop) (w:World) (jb:Nat) (J:Jv) (ds:List Sy) (n m:Nat) (lks:List Lm) (ls:List Lk) (us:List Nat) (l:List Sx) (frs:List (Value×List Nat)) (c:Ch) (rks:List Lm) (rs:List Lk):Prop where
 jz:Jz F w jb J ds n m lks ls us l
 fsl:SlS csRow 1 F w J.cv frs
 fat:∀r∈frs,NatC F w r.1 r.2
 fbd:∀r∈frs,(∀u∈r.2,u<n)/\r.2.length<=10000
 frc:frs.map (·.2)=c
 fcl:c.length=m
 m0:0<m
 fv0:J.fv=.slice none 0 0
 rsl:SlS csL 4 F w J.rv rks
 rlen:rs.length=rks.length
 rat:∀(i:Nat) R r,rks[i]?=some R->rs[i]?=some r->r.fr=R.1/\R.1<m/\∃q,SeaOk ds n q R.2.2.1 r.R
 rll:rks.length<=1000
 une:us≠[]
 ult:∀u∈us,u<m
def RowE(w:World)(jb:Nat)(l:List Sx)(R:List (List Nat))(e:Ending)(w':World):Prop:=
 ∃fv,e=.returned fv/\∃(X:Nat->Prop) (l':List Sx),FoS w' X fv (R.take 4097)/\(∀k,X k->w.heap.size<=k/\k<w'.heap.size)/\FFr w w' l l' (fun k=>k=jb)
set_option maxHeartbeats 16000000 in
theorem rowsJ_any{F:Nat->Prop}{w:World}{jb:Nat}{J:Jv}{ds:List Sy}{n m:Nat}{lks:List Lm}{ls:List Lk}{us:List Nat}{l:List Sx}{frs:List (Value×List Nat)}{c:Ch}{rks:List Lm}{rs:List Lk}(h:JW F w jb J ds n m lks ls us l frs c rks rs):
 Calls Tryz.prog 31 #[.pointer (some ⟨jb,0,none⟩)] w (RowE w jb l (rowsN ls rs m us c)):=by
 have h0:=h.jz;have hfl:frs.length=m:=by rw[<- h.fcl,<- h.frc,zH]
 have hmm:=h0.mm;have C0:=zA (cloneC_any h.fsl h.fat (fun e=>by rw[e]at hfl;have:=h.m0;simp at hfl;omega) (by omega));rw[hfl]at C0;obtain⟨j1,j2,j3,j4,j5,j6,j7⟩:=h0.cell;obtain⟨ra,rc,hrv⟩:=h.rsl.slice;obtain⟨nk,hnk⟩:∃q,q=rks.length:=⟨_,rfl⟩
 rw[<- hnk]at hrv;have hnkl:nk<=1000:=by rw[hnk];exact h.rll
 have HRV:=zA hrv;have HNK:=zA hnk;have HJW:=zA h;have HBEG:Hid (∀w1 g1 cap,w1.ownsRow w.heap.size 56 1 (.slice (some ⟨g1,0,none⟩) m cap) m (frs.flatMap csRow)->Below w.heap.size w w1->RSt F w l ds n m (.slice (some ⟨g1,0,none⟩) m cap) c w1):=zA (fun w1 g1 cap hown hb=>h0.begin h.frc h.fcl h.fat h.fbd hfl.symm hb hown);have HCE:Hid (∀W:World,Fr (fun k=>k<w.heap.size/\UL l k) w W->W.cell? ⟨jb,1,none⟩=some J.av/\W.cell? ⟨jb,4,none⟩=some (.slice ra nk rc)/\W.cell? ⟨jb,6,none⟩=some J.fv):=zA (fun W hW=>by
  have h1:=(hW.block jb ⟨h0.lt,h0.ju⟩).trans h0.blk;rw[<- hrv];simp[World.cell?,h1,Jv.cells])
 obtain⟨Q,hQ⟩:∃Q,Q=RowE w jb l (rowsN ls rs m us c):=⟨_,rfl⟩
 rw[<- hQ];have HQ:=zA hQ;clear h h0 hfl hmm hQ j1 j2 j3 j4 j6 j7 hrv hnk;go_enter Tryz.func31,Tryz.ntmps31;go_wp2_with fail;refine C0.out.mono ?_;rintro e w1 ⟨g1,cap,rfl,hown,hb⟩;have HR1:=zA (HBEG.out w1 g1 cap hown hb);clear hown hb C0 HBEG j5;obtain⟨k1,_,_⟩:=HCE.out w1 HR1.out.fr;have CN:=zA (HR1.out.narrow HJW.out.jz HJW.out.m0);go_wp2_with fail;refine CN.out.mono ?_;rintro e w2 ⟨rfl,hr2⟩;have HR2:=zA hr2;obtain⟨_,k2,_⟩:=HCE.out w2 hr2.fr;clear hr2 CN k1;go_wp2_with fail;obtain⟨wb,hwb⟩:∃W,W=w2:=⟨_,rfl⟩
 subst hwb;go_loopw [23] (fun kk wr=>∃j:Nat,j<=nk/\kk=.int .i64 j/\Hid (RSt F w l ds n m (.slice (some ⟨g1,0,none⟩) m cap) ((rs.take j).foldl ringC (narrowC ls c)) wr)) (fun kk _=>nk-(intOf kk).toNat)
 case atStart=>exact⟨0,zS _,rfl,by rw[List.take_zero];exact HR2⟩
 case round=>
  obtain⟨j,hj,rfl,HR⟩:=hrel;obtain⟨wx,hwx⟩:∃wx,wx=wr:=⟨_,rfl⟩
  subst hwx;by_cases hjl:j<nk
  . have hjI:(j:Int)<(nk:Int):=by omega
    obtain⟨⟨a,tox,tb,bb⟩,hL⟩:∃x,rks[j]?=some x:=⟨_,zB (by rw[<- HNK.out];exact hjl)⟩
    obtain⟨r,hr⟩:∃x,rs[j]?=some x:=⟨_,zB (by rw[HJW.out.rlen,<- HNK.out];exact hjl)⟩
    obtain⟨r1,r2,q,r3⟩:=HJW.out.rat j _ r hL hr;dsimp only at r1 r2 r3;have HTK:Hid ((rs.take (j+1)).foldl ringC (narrowC ls c)=ringC ((rs.take j).foldl ringC (narrowC ls c)) r):=zA (by rw[zT,hr,yR,List.foldl_append];rfl);have hrsl:=HJW.out.rsl;rw[HRV.out]at hrsl;have hFr:Fr F w wx:=HR.out.fr.sub (fun k hk=>⟨HJW.out.jz.low k hk,HJW.out.jz.un k hk⟩);obtain⟨kg,koff,hka,hkF,hkl,hcell⟩:=(hrsl.fr hFr).get hL;subst hka;have c0:=hcell 0 _ rfl;have c1:=hcell 1 _ rfl;have c2':=hcell 2 _ rfl;have c3:=hcell 3 _ rfl;dsimp only at c0 c1 c2' c3;rw[yF]at c0;obtain⟨lb,hlb⟩:∃b,b=wx.heap.size:=⟨_,rfl⟩
    obtain⟨o,ho⟩:∃o,o=Obj.cells #[.int .i64 (a:Int),.int .i64 (tox:Int),.pointer (some ⟨tb,0,none⟩),.pointer (some ⟨bb,0,none⟩)] 120 (0,0):=⟨_,rfl⟩
    obtain⟨wz,hwz⟩:∃W,W=wx.alloc o:=⟨_,rfl⟩
    have hbz:Below wx.heap.size wx wz:=by rw[hwz];exact(zF _ _).alloc (zD _) _
    have hszz:wz.heap.size=wx.heap.size+1:=by rw[hwz];simp
    have hlbz:wz.heap[lb]?=some (.cells #[.int .i64 (a:Int),.int .i64 (tox:Int),.pointer (some ⟨tb,0,none⟩),.pointer (some ⟨bb,0,none⟩)] 120 (0,0)):=by rw[hwz,hlb,<- ho];exact heap_alloc_new _ _
    obtain⟨g,cap2,av,na,hv,hgw,⟨aa,ac,hav⟩,hcz,CR0⟩:=HR.out.ring HJW.out.jz (wz:=wz.drew) hbz.drew r2 r1 r3;injection hv with hv1 _ hv2;injection hv1 with hv1;injection hv1 with hv1 _;subst hv1 hv2 hav;have CR:=zA CR0;have KS:Hid (∀u,Below wz.heap.size wz u->u.cell? ⟨lb,0,none⟩=some (.int .i64 (a:Int))/\u.cell? ⟨lb,2,none⟩=some (.pointer (some ⟨tb,0,none⟩))):=zA (fun u hu=>by
     have h1:=(hu.block lb (by omega)).trans hlbz;exact⟨by simp[World.cell?,h1],by simp[World.cell?,h1]⟩)
    have HA0:Hid (Below wz.heap.size wz wz.drew):=zA (zF _ _).drew;have KN:Hid (∀w5:World,(∀k,wx.heap.size<=k->k<wz.drew.heap.size->w5.heap[k]?=wz.drew.heap[k]?)->(w5.cell? ⟨lb,0,none⟩=some (.int .i64 (a:Int))/\w5.cell? ⟨lb,2,none⟩=some (.pointer (some ⟨tb,0,none⟩)))/\∀z,(w5.setCell ⟨g1,a,none⟩ z).cell? ⟨lb,0,none⟩=some (.int .i64 (a:Int))/\(w5.setCell ⟨g1,a,none⟩ z).cell? ⟨lb,2,none⟩=some (.pointer (some ⟨tb,0,none⟩))):=zA (fun w5 hk5=>by
     have h1:w5.heap[lb]?=_:=(hk5 lb (by omega) (by show lb<wz.heap.size;omega)).trans hlbz;have h2:∀z,(w5.setCell ⟨g1,a,none⟩ z).heap[lb]?=_:=fun z=>(zM w5 ⟨g1,a,none⟩ z lb (by show lb≠g1;omega)).trans h1
     exact⟨⟨by simp[World.cell?,h1],by simp[World.cell?,h1]⟩,fun z=>⟨by simp[World.cell?,h2 z],by simp[World.cell?,h2 z]⟩⟩)
    have hcz2:wz.cell? ⟨g1,a,none⟩=some (.slice aa na ac):=hcz;have HWZ:Hid (wx.alloc (.cells #[.int .i64 (a:Int),.int .i64 (tox:Int),.pointer (some ⟨tb,0,none⟩),.pointer (some ⟨bb,0,none⟩)] 120)=wz):=zA (by rw[hwz,ho]);obtain⟨b0z,b2z⟩:=KS.out wz (zF _ _);have b1z:wz.cell? ⟨lb,1,none⟩=some (.int .i64 (tox:Int)):=by simp[World.cell?,hlbz]
    have b3z:wz.cell? ⟨lb,3,none⟩=some (.pointer (some ⟨bb,0,none⟩)):=by simp[World.cell?,hlbz]
    rw[hwz,hlb,ho]at b0z b1z b2z b3z;have haI:(a:Int)<(m:Int):=by omega
    have HLB:Hid (wx.heap.size=lb):=zA hlb.symm;clear hL hr r1 r3 hrsl hFr hcell CR0 hbz hszz hlbz hwz ho hlb hgw;go_wp2_with fail;rw[HWZ.out,HLB.out];clear b0z b1z b2z b3z c0 c1 c2' c3;refine wp_region_held_drew (S:=fun u=>u.cell? ⟨lb,0,none⟩=some (.int .i64 (a:Int))/\u.cell? ⟨lb,2,none⟩=some (.pointer (some ⟨tb,0,none⟩))) (by kernel_rfl) ?_ (fun hHeld=>?_)
    . exact KS.out _ HA0.out
    refine tkH (i:=0) (oi:=⟨some 27,.move (.tmp 3),112, "join.go:107",#[],none⟩) (v:=?_) rfl ?_ hHeld ?_;rotate_left 1
    . rintro W ⟨l1,l2⟩;go_simp;try with_reducible rfl
    simp only[Act.put,zIB,zSZ,zSS];refine tkH (i:=1) (oi:=⟨some 28,.fieldAddr 120 (.tmp 5) 0,0, "join.go:107",#[],none⟩) (v:=?_) rfl ?_ hHeld ?_;rotate_left 1
    . rintro W ⟨l1,l2⟩;go_simp;try with_reducible rfl
    simp only[Act.put,zIB,zSZ,zSS];refine tkH (i:=2) (oi:=⟨some 29,.load 3 (.tmp 28),3, "join.go:107",#[⟨1,.data⟩],none⟩) (v:=?_) rfl ?_ hHeld ?_;rotate_left 1
    . rintro W ⟨l1,l2⟩;go_simp;try with_reducible rfl
    simp only[Act.put,zIB,zSZ,zSS];refine tkH (i:=3) (oi:=⟨some 30,.fieldAddr 120 (.tmp 5) 2,0, "join.go:107",#[],none⟩) (v:=?_) rfl ?_ hHeld ?_;rotate_left 1
    . rintro W ⟨l1,l2⟩;go_simp;try with_reducible rfl
    simp only[Act.put,zIB,zSZ,zSS];refine tkH (i:=4) (oi:=⟨some 31,.load 64 (.tmp 30),64, "join.go:107",#[⟨3,.data⟩],none⟩) (v:=?_) rfl ?_ hHeld ?_;rotate_left 1
    . rintro W ⟨l1,l2⟩;go_simp;try with_reducible rfl
    simp only[Act.put,zIB,zSZ,zSS];refine tkH (i:=5) (oi:=⟨some 32,.move (.tmp 3),112, "join.go:107",#[],none⟩) (v:=?_) rfl ?_ hHeld ?_;rotate_left 1
    . rintro W ⟨l1,l2⟩;go_simp;try with_reducible rfl
    simp only[Act.put,zIB,zSZ,zSS];refine tkH (i:=6) (oi:=⟨some 33,.fieldAddr 120 (.tmp 5) 0,0, "join.go:107",#[],none⟩) (v:=?_) rfl ?_ hHeld ?_;rotate_left 1
    . rintro W ⟨l1,l2⟩;go_simp;try with_reducible rfl
    simp only[Act.put,zIB,zSZ,zSS];refine tkH (i:=7) (oi:=⟨some 34,.load 3 (.tmp 33),3, "join.go:107",#[⟨6,.data⟩],none⟩) (v:=?_) rfl ?_ hHeld ?_;rotate_left 1
    . rintro W ⟨l1,l2⟩;go_simp;try with_reducible rfl
    simp only[Act.put,zIB,zSZ,zSS];refine tkH (i:=8) (oi:=⟨some 35,.indexAddr 112 (.tmp 32) (.tmp 34),0, "join.go:107",#[⟨5,.data⟩,⟨7,.data⟩],none⟩) (v:=?_) rfl ?_ hHeld ?_;rotate_left 1
    . rintro W ⟨l1,l2⟩;go_simp;try with_reducible rfl
    simp only[Act.put,zIB,zSZ,zSS];refine wpAnyH_ready (rs:=[9]) (by kernel_rfl) (by simp) ?_;refine AllReadyH.cons (o:=⟨some 36,.load 56 (.tmp 35),56, "join.go:107",#[⟨8,.data⟩],none⟩) rfl (fun K hK=>?_) AllReadyH.nil;go_simp;refine hK.out _ _ (KS.out _ HA0.out) (fun hHeld=>?_);clear hK K;refine wpAnyH_ready (rs:=[10]) (by kernel_rfl) (by simp) ?_;refine AllReadyH.cons (o:=⟨some 37,.call { callee:=.value (.func 53),args:=#[.tmp 31,.tmp 36],argTypes:=#[64,56] },56, "join.go:107",#[⟨4,.data⟩,⟨9,.data⟩],none⟩) rfl (fun K hK=>?_) AllReadyH.nil;go_simp;refine CR.out.mono ?_;rintro e w5 ⟨lv,rfl,⟨la,nl,lc,hlv⟩,c5,f5,k5,h5⟩;subst hlv;have HR5:=zA h5;have HK5:=zA (KN.out w5 k5);clear h5 k5;refine hK.out _ _ HK5.out.1 (fun hHeld=>?_);clear hK K;refine tkH (i:=11) (oi:=⟨some 38,.indexAddr 112 (.tmp 27) (.tmp 29),0, "join.go:107",#[⟨0,.data⟩,⟨2,.data⟩,⟨0,.phase⟩,⟨1,.phase⟩,⟨2,.phase⟩,⟨3,.phase⟩,⟨4,.phase⟩,⟨5,.phase⟩,⟨6,.phase⟩,⟨7,.phase⟩,⟨8,.phase⟩,⟨9,.phase⟩,⟨10,.phase⟩],none⟩) (v:=?_) rfl ?_ hHeld ?_;rotate_left 1
    . rintro W ⟨l1,l2⟩;go_simp;try with_reducible rfl
    simp only[Act.put,zIB,zSZ,zSS];refine wpAnyH_ready (rs:=[12]) (by kernel_rfl) (by simp) ?_;refine AllReadyH.cons (o:=⟨none,.store 56 (.tmp 38) (.tmp 37),0, "join.go:107",#[⟨11,.data⟩,⟨10,.data⟩,⟨10,.chain⟩,⟨0,.phase⟩,⟨1,.phase⟩,⟨2,.phase⟩,⟨3,.phase⟩,⟨4,.phase⟩,⟨5,.phase⟩,⟨6,.phase⟩,⟨7,.phase⟩,⟨8,.phase⟩,⟨9,.phase⟩,⟨10,.phase⟩],none⟩) rfl (fun K hK=>?_) AllReadyH.nil;go_simp;refine hK.out _ _ (HK5.out.2 _) (fun hHeld=>?_);clear hK K c5 f5;refine wpAnyH_done (by kernel_rfl) ?_ _;go_wp2;go_roundw
    case rel=>exact⟨j+1,by omega,by go_num,zA (by rw[HTK.out];exact HR5.out)⟩
    case measure=>simp[intOf];omega
  . have hjI:¬(j:Int)<(nk:Int):=by omega
    have htk:rs.take j=rs:=zK (by rw[HJW.out.rlen,<- HNK.out];omega);rw[htk]at HR;obtain⟨k1,_,k6⟩:=HCE.out wx HR.out.fr;have CN:=zA (HR.out.narrow HJW.out.jz HJW.out.m0);clear htk;go_wp2_with fail;refine CN.out.mono ?_;rintro e w3 ⟨rfl,hr3⟩;obtain⟨l3,C3,hfi,hff⟩:=hr3.fill HJW.out.jz HJW.out.m0 HJW.out.fv0 (narrow_ac _ _);have CF:=zA (fillJ_any HJW.out.une HJW.out.ult us.length w3 J l3 (fun _=>False) C3 _ _ _ [] [] [] us rfl rfl (zD _) hfi);have HFF:=zA hff;clear hr3 CN k1 k6 hfi hff k2;go_wp2_with fail;refine CF.out.mono ?_;rintro e w4 ⟨he,ho4⟩;obtain⟨bb4,hb4⟩:∃b,e=.returned (.bool b):=⟨_,he⟩
    subst hb4;clear he;obtain⟨fv4,l4,X4,a1,a2,a3,a4,a5,a6⟩:=ho4.ex;have c6:=a1.cell.2.2.2.2.2.1;dsimp only[Jv.with]at c6;have HFIN:Hid (Q (.returned fv4) w4):=zA (by
     rw[HQ.out];refine⟨fv4,rfl,X4,l4,a3,fun k hk=>⟨?_,(a2 k hk).1⟩,(HFF.out.mono (fun _ h=>h.elim)).trans a6 (fun k hk=>?_)⟩
     . rcases a5 k hk with h1|h1
       . exact h1.elim
       . exact zQ HFF.out.size h1
     . rcases hk with hk|hk|hk
       . exact .inl hk
       . exact hk.elim
       . obtain⟨_,_,_,e⟩:=hk;cases e)
    obtain⟨rows4,_,hrow4,_⟩:=a3;obtain⟨fa,fc,hfe⟩:=own_slice hrow4;obtain⟨n4,hn4⟩:∃q,q=rows4.length:=⟨_,rfl⟩
    rw[<- hn4]at hfe;subst hfe;clear a1 a2 a4 a5 a6 ho4 CF hrow4 hn4;go_wp2;all_goals (first|(go_ret;exact HFIN.out)|exact HFIN.out)
abbrev encTm(t:Tm):Value:=.agg #[.bool t.1,.string ⟨t.2.toArray⟩]
def FineM(t:Tm):Prop:=t.2.length<=maxLen
def kM(t:Tm):Lit:=.string (keyBytes [.bool t.1,.string t.2])
theorem kM_key(t:Tm):WideAt.IsKeyLit (kM t):=trivial
theorem laidOutM:laidOutB Tryz.prog=true:=by kernel_rfl
theorem rowM:42<Tryz.prog.types.size:=of_decide_eq_true (by kernel_rfl)
theorem cellsM:Tryz.prog.cellsOf 42=2:=by kernel_rfl
theorem cellsSM:Tryz.prog.cellsOf 9=1:=by kernel_rfl
theorem cellsBM:Tryz.prog.cellsOf 4=1:=by kernel_rfl
theorem typesBM:Nat.ble 2 (Tryz.prog.types.size+1)=true:=by kernel_rfl
theorem typesNM:∃d,Tryz.prog.types.size+1=2+d:=⟨Tryz.prog.types.size+1-2,by have:=Nat.le_of_ble_eq_true typesBM;omega⟩
theorem ktM:Tryz.prog.keyTypeAt 2 42=true:=by kernel_rfl
theorem wideM:(match Tryz.prog.underlying 42 with|some (.array _ _)|some (.struct _)=>true|_=>false)=true:=by rw[Tryz.underlying42]
theorem lawM:Maps.Keyed Tryz.prog 42:=Maps.Keyed.of_law (deep_law_laid laidOutM (m:=2) (by omega) rowM ktM wideM)
theorem keyTypeM:Tryz.prog.keyType 42=true:=by kernel_rfl
theorem formedM(a b:Value):(Value.agg #[a,b]).formed Tryz.prog 42=true:=by simp[Value.formed,Tryz.underlying42,cellsM]
theorem litsSM(d:Nat)(v:Value):Tryz.prog.keyLits (d+1) 9 [v]=match v with| .string s=>if s.size<=maxLen then some [.string s.data.toList]else none|_=>none:=by
 unfold Program.keyLits;rw[Tryz.underlying9];cases v<;>rfl
theorem litsBM(d:Nat)(v:Value):Tryz.prog.keyLits (d+1) 4 [v]=match v with| .bool b=>some [.bool b]|_=>none:=by
 unfold Program.keyLits;rw[show Tryz.prog.underlying 4=some .bool by kernel_rfl];cases v<;>rfl
theorem litsM(d:Nat)(a b:Value):Tryz.prog.keyLits (2+d) 42 [a,b]=(do
 let x <- Tryz.prog.keyLits (1+d) 4 [a];let y <- Tryz.prog.keyLits (1+d) 9 [b]
 pure (x++y)):=by
 rw[show 2+d=(1+d)+1 by omega];conv=>lhs;unfold Program.keyLits
 rw[Tryz.underlying42];simp[cellsM,cellsSM,cellsBM];cases Tryz.prog.keyLits (1+d) 4 [a]<;>simp
 cases Tryz.prog.keyLits (1+d) 9 [b]<;>simp
theorem keyM{t:Tm}(h:FineM t):keyOf Tryz.prog 42 (encTm t)=some (kM t):=by
 unfold keyOf;rw[Tryz.underlying42];simp only[keyTypeM,formedM,Bool.and_self,if_true,Value.cells];obtain⟨d,hd⟩:=typesNM;rw[hd,litsM,show 1+d=d+1 by omega,litsSM,litsBM];have h:t.2.length<=maxLen:=h;simp[size_list,h,kM]
theorem kM_inj{a b:Tm}(ha:FineM a)(hb:FineM b)(h:kM a=kM b):a=b:=by
 have:=lawM.inj (keyM ha) (by rw[h];exact keyM hb);simp[encTm]at this;exact Prod.ext this.1 this.2
structure TellM (D:DataW Unit) (ts:List Tm):Prop where
 has:∀t,FineM t->Maps.has D (kM t)=decide (t∈ts)
 at_:∀(i:Nat) t,ts[i]?=some t->D.atKey (kM t) (.lit (.int .i64 0))=.lit (.int .i64 (i:Int))
 fine:∀t∈ts,FineM t
 nd:ts.Nodup
theorem tellM_nil:TellM (.map []) []:=⟨fun t _=>by simp[Maps.has],fun i t h=>by simp at h,fun t h=>by simp at h,List.nodup_nil⟩
def addT(ts:List Tm)(t:Tm):List Tm:=if t∈ts then ts else ts++[t]
theorem TellM.put{D:DataW Unit}{ts:List Tm}(hm:Maps.IsMap D)(h:TellM D ts){t:Tm}(hf:FineM t)(ht:t∉ts):TellM (D.put (kM t) (.lit (.int .i64 (ts.length:Int)))) (ts++[t]):=by
 refine⟨fun x hx=>?_,fun i x hx=>?_,fun x hx=>?_,?_⟩
 . by_cases e:x=t
   . subst e;rw[Maps.has_put_same hm (kM_key x)];simp
   . rw[Maps.has_put_other (fun h2=>e (kM_inj hx hf h2)),h.has x hx];simp[e]
 . by_cases hi:i<ts.length
   . rw[yH hi]at hx;have hxm:=zC hx;rw[Maps.atKey_put_other (fun h2=>ht (by rw[<- kM_inj (h.fine x hxm) hf h2];exact hxm))];exact h.at_ i x hx
   . have hil:=(zE.1 hx).1;rw[zG]at hil;simp only[List.length_singleton]at hil;have e:i=ts.length:=by omega
     rw[e,yM (zD _)]at hx;simp at hx;rw[<- hx,Maps.atKey_put_same hm (kM_key t),e]
 . rcases zN.1 hx with hx|hx
   . exact h.fine x hx
   . rw[zJ.1 hx];exact hf
 . rw[List.nodup_append];exact⟨h.nd,by simp,fun a ha b hb e=>ht (by rw[<- zJ.1 hb,<- e];exact ha)⟩
theorem idx_add{ts:List Tm}{t:Tm}(h:t∉ts):(ts++[t]).idxOf t=ts.length:=by
 rw[List.idxOf_append,if_neg h];simp
def XS(jb mp:Nat)(J:Jv)(k:Nat):Prop:=k=jb\/k=mp\/J.av.ownBlock=some k\/J.cv.ownBlock=some k
structure SL (B:Nat) (V:List Wd) (w:World) (jb mp:Nat) (J:Jv) (ts:List Tm) (frs:List (Value×List Nat)) (D:Nat->Prop):Prop where
 blk:w.heap[jb]?=some (.cells J.cells 114 (0,0))
 sv:J.sv=.map (some mp)
 jB:B<=jb
 mB:B<=mp
 map:∃cnt DM,w.ownsMap Tryz.prog 42 (plainElem Tryz.prog 3) mp cnt DM/\cnt<=ts.length/\TellM DM ts
 al:w.ownsRow B 3 1 J.av ts.length ((List.range ts.length).flatMap csI)
 fi:w.ownsRow B 56 1 J.cv frs.length (frs.flatMap csRow)
 frc:frs.map (·.2)=ts.map (firstT V)
 fat:∀r∈frs,NatC D w r.1 r.2
 dl:∀k,D k->B<=k/\k<w.heap.size
 dx:∀k,D k->¬XS jb mp J k
theorem SL.fl{B:Nat}{V:List Wd}{w:World}{jb mp:Nat}{J:Jv}{ts:List Tm}{frs:List (Value×List Nat)}{D:Nat->Prop}(h:SL B V w jb mp J ts frs D):frs.length=ts.length:=by
 have:=congrArg List.length h.frc;rw[zH,zH]at this;exact this
theorem SL.xlt{B:Nat}{V:List Wd}{w:World}{jb mp:Nat}{J:Jv}{ts:List Tm}{frs:List (Value×List Nat)}{D:Nat->Prop}(h:SL B V w jb mp J ts frs D){k:Nat}(hk:XS jb mp J k):B<=k/\k<w.heap.size:=by
 rcases hk with rfl|rfl|hk|hk
 . exact⟨h.jB,lt_of_block h.blk⟩
 . obtain⟨_,_,h1,_⟩:=h.map;exact⟨h.mB,h1.lt⟩
 . exact h.al.lt k hk
 . exact h.fi.lt k hk
theorem SL.keep{B:Nat}{V:List Wd}{w w':World}{jb mp:Nat}{J:Jv}{ts:List Tm}{frs:List (Value×List Nat)}{D:Nat->Prop}(h:SL B V w jb mp J ts frs D)(hz:w.heap.size<=w'.heap.size)(hk:∀k,XS jb mp J k\/D k->w'.heap[k]?=w.heap[k]?):SL B V w' jb mp J ts frs D:=by
 obtain⟨cnt,DM,h1,h2⟩:=h.map;exact⟨(hk jb (.inl (.inl rfl))).trans h.blk,h.sv,h.jB,h.mB,⟨cnt,DM,map_keyG h1 (fun _ ho=>(hk mp (.inl (.inr (.inl rfl)))).trans ho),h2⟩,owns_key h.al (fun g o hg ho=>(hk g (.inl (.inr (.inr (.inl hg))))).trans ho),owns_key h.fi (fun g o hg ho=>(hk g (.inl (.inr (.inr (.inr hg))))).trans ho),h.frc,fun r hr=>(h.fat r hr).keep hz (fun k hk2 _=>⟨hk2,hk k (.inr hk2)⟩),fun k hk2=>⟨(h.dl k hk2).1,zO (h.dl k hk2).2 hz⟩,h.dx⟩
def SloE(B:Nat)(V:List Wd)(w:World)(jb mp:Nat)(J:Jv)(ts:List Tm)(D:Nat->Prop)(t:Tm)(e:Ending)(w':World):Prop:=
 e=.returned (.int .i64 ((addT ts t).idxOf t:Nat))/\∃av cv frs' D',SL B V w' jb mp { J with av:=av,cv:=cv } (addT ts t) frs' D'/\(∀k,XS jb mp { J with av:=av,cv:=cv } k->XS jb mp J k\/w.heap.size<=k)/\(∀k,D' k->D k\/w.heap.size<=k)/\Fr (fun k=>k<w.heap.size/\¬XS jb mp J k) w w'
end Go.Proofs.YtdalcipmpelifaaGreatDoor
