/- XRows1, XRows2, XTerm, XSlot1. -/
import Derived.Test.YtkbgmcmcpbegjaaGreatDoorZR42
import Derived.Test.YtkbgmcmcpbegjaaGreatDoorZR43
import Derived.DeepKeys4
set_option maxRecDepth 100000
set_option maxHeartbeats 16000000
namespace Go.Proofs.YtkbgmcmcpbegjaaGreatDoor
open Go.RowKit Go.Shelf
theorem NI.rebase{w0:World}{O F:Nat->Prop}{v:Value}{ds:List Sy}{n:Nat}{c:Ch}{w:World}{l:List Sx}{Z:Nat->Prop}{rows:List (Value×List Nat)}(h:NI w0 O F (fun _=>False) v ds n c w l Z rows)(hO:∀k,w0.heap.size<=k->O k):NI w O F (fun _=>False) v ds n c w l Z rows:=
 ⟨h.pool,h.like,h.ch,h.rc,h.zl,h.zu,h.kv,h.cb,Fr.refl _ _,h.fo,h.go,h.gk,h.gf,fun k hk _=>by
  by_cases hkw:k<w0.heap.size
  . exact h.zo k hk hkw
  . exact hO k (by omega)⟩
structure RSt (F:Nat->Prop) (w0:World) (l0:List Sx) (ds:List Sy) (n m:Nat) (v:Value) (c:Ch) (w:World):Prop where
 ex:∃l Z rows,NI w (fun k=>F k\/w0.heap.size<=k) (fun k=>k<w0.heap.size/\UL l0 k) (fun _=>False) v ds n c w l Z rows
 fr:Fr (fun k=>k<w0.heap.size/\UL l0 k) w0 w
 cl:c.length=m
section
variable {F:Nat->Prop} {w0 w w':World} {jb:Nat} {J:Jv} {ds:List Sy} {n m:Nat} {lks:List Lm} {ls:List Lk} {us:List Nat} {l0:List Sx} {v:Value} {c:Ch}
theorem RSt.below(h:RSt F w0 l0 ds n m v c w)(hb:Below w.heap.size w w'):RSt F w0 l0 ds n m v c w':=by
 obtain⟨l,Z,aa,hn⟩:=h.ex;have h1:NI w (fun k=>F k\/w0.heap.size<=k) (fun k=>k<w0.heap.size/\UL l0 k) (fun _=>False) v ds n c w' l Z aa:=hn.grow hb.size hb.os hb.tape hb.output (fun k hk _=>hb.block k hk) (fun _ hk=>hk.elim) (fun k hk=>(hn.fo k hk).1) (zD _);refine⟨⟨l,Z,aa,h1.rebase (fun k hk=>.inr (zT h.fr.size hk))⟩,h.fr.trans ⟨hb.os,hb.tape,hb.output,hb.size,fun k hk=>hb.block k (zQ hk.1 h.fr.size)⟩,h.cl⟩
theorem NI.jz{l:List Sx}{Z:Nat->Prop}{rows:List (Value×List Nat)}{O:Nat->Prop}(h0:Jz F w0 jb J ds n m lks ls us l0)(hfr:Fr (fun k=>k<w0.heap.size/\UL l0 k) w0 w)(hn:NI w O (fun k=>k<w0.heap.size/\UL l0 k) (fun _=>False) v ds n c w l Z rows):Jz F w jb J ds n m lks ls us l:=by
 have hF:Fr F w0 w:=hfr.sub (fun k hk=>⟨h0.low k hk,h0.un k hk⟩);exact⟨hn.pool,hn.like,h0.tab.fr h0.f0 hF,h0.f0,h0.low.fr hF,fun k hk=>(hn.fo k ⟨h0.low k hk,h0.un k hk⟩).2.1,(hn.fo jb ⟨h0.lt,h0.ju⟩).2.1,h0.jF,h0.jk,(hfr.block jb ⟨h0.lt,h0.ju⟩).trans h0.blk,h0.lk.fr hF,h0.al.fr hF,h0.va.fr hF,h0.ll,h0.ok,h0.nn,h0.mm,h0.ul⟩
theorem RSt.jz(h0:Jz F w0 jb J ds n m lks ls us l0)(h:RSt F w0 l0 ds n m v c w):∃l Z rows,NI w (fun k=>F k\/w0.heap.size<=k) (fun k=>k<w0.heap.size/\UL l0 k) (fun _=>False) v ds n c w l Z rows/\Jz F w jb J ds n m lks ls us l:=by
 obtain⟨l,Z,rows,hn⟩:=h.ex;exact⟨l,Z,rows,hn,hn.jz h0 h.fr⟩
theorem RSt.narrow(h0:Jz F w0 jb J ds n m lks ls us l0)(hm:0<m)(h:RSt F w0 l0 ds n m v c w):Calls Tryz.prog 76 #[.pointer (some ⟨jb,0,none⟩),v,J.av] w fun e w'=>e=.returned (.tuple #[])/\RSt F w0 l0 ds n m v (jaH ls c) w':=by
 obtain⟨l,Z,rows,hn,hj⟩:=h.jz h0;have ab:=h.cl;have ae:=h0.mm;have ac:∀k,F k->k<w0.heap.size/\UL l0 k:=fun k hk=>⟨h0.low k hk,h0.un k hk⟩
 have af:jbE ds n c.length lks ls:=by rw[ab];exact h0.ok
 have C:=narrow_any (jb:=jb) (lv:=J.lv) (chv:=J.av) (T0:=List.range m) hn h0.nn hj.tab (ac 0 h0.f0) (fun k hk=>(hn.fo k hk).1) (by omega) hj.cell.2.2.1 ⟨h0.lt,h0.ju⟩ (hj.lk.sub (fun k hk _=>ac k hk)) h0.ll af (hj.al.1.sub (fun k hk _=>ac k hk)) (by intro e;have:=congrArg List.length e;simp at this;omega) (by simpa using ae) (fun k hk=>by rw[ab];exact yK.1 hk) (fun l hl=>⟨.inl (yK.2 (h0.ok.lt l hl).1),.inl (yK.2 (h0.ok.lt l hl).2)⟩);refine C.mono ?_;rintro e w' ⟨rfl,l',Z',aa,ad⟩;exact⟨rfl,⟨l',Z',aa,ad.rebase (fun k hk=>.inr (zT h.fr.size hk))⟩,h.fr.trans ad.fr,by rw[jaI];exact ab⟩
theorem RSt.ring{wz:World}(h0:Jz F w0 jb J ds n m lks ls us l0)(h:RSt F w0 l0 ds n m v c w)(hbz:Below w.heap.size w wz){a q sb:Nat}{r:Lk}(ha:a<m)(hr:r.fr=a)(hs:jhj ds n q sb r.R):
 ∃g cap av na,v=.slice (some ⟨g,0,none⟩) m cap/\g<w.heap.size/\(∃aa ac,av=.slice aa na ac)/\wz.cell? ⟨g,a,none⟩=some av/\Calls Tryz.prog 77 #[.pointer (some ⟨sb,0,none⟩),av] wz fun e w'=>∃lv,e=.returned lv/\(∃la nl lc,lv=.slice la nl lc)/\w'.cell? ⟨g,a,none⟩=some av/\w'.frozen? ⟨g,a,none⟩=false/\(∀k,w.heap.size<=k->k<wz.heap.size->w'.heap[k]?=wz.heap[k]?)/\RSt F w0 l0 ds n m v (jcn c r) (w'.setCell ⟨g,a,none⟩ lv):=by
 obtain⟨l,Z,ab,aq⟩:=h.ex;have aQ:NI w (fun k=>F k\/w0.heap.size<=k) (fun k=>k<w0.heap.size/\UL l0 k) (fun _=>False) v ds n c wz l Z ab:=aq.grow hbz.size hbz.os hbz.tape hbz.output (fun k hk _=>hbz.block k hk) (fun _ hk=>hk.elim) (fun k hk=>(aq.fo k hk).1) (zD _);have hn:=aQ.rebase (fun k hk=>.inr (zT h.fr.size hk));have ak:Fr (fun k=>k<w0.heap.size/\UL l0 k) w0 wz:=h.fr.trans ⟨hbz.os,hbz.tape,hbz.output,hbz.size,fun k hk=>hbz.block k (zQ hk.1 h.fr.size)⟩;have hj:=hn.jz h0 ak;have aM:=h.cl;obtain⟨d,hq,ay,aS,hQ⟩:=hs.ex;have aW:∃x,l[q]?=some x/\syOf x=(sb,d):=by
  have h1:=hn.like;rw[<- h1,zI]at hq;cases hx:l[q]? with
  |none=>rw[hx]at hq;simp at hq
  |some x=>rw[hx]at hq;exact⟨x,rfl,by simpa using hq⟩
 obtain⟨x,hx,aD⟩:=aW;obtain⟨xb,xd,xm⟩:=x;unfold syOf at aD;simp only[Prod.mk.injEq]at aD;obtain⟨rfl,rfl⟩:=aD;have ae:=zC hx;obtain⟨s,aI,aL⟩:=hn.pool.at_ _ ae;dsimp only at aI aL;have ax:ab.length=m:=by rw[<- aM,<- hn.rc,zH]
 obtain⟨ra,aE⟩:∃r,ab[a]?=some r:=⟨_,zB (by omega)⟩
 have aP:atC c a=ra.2:=by unfold atC;rw[<- hn.rc,List.getD,zI,aE];rfl
 obtain⟨g,cap,hv,ah,aU⟩:=hn.ch.at_ aE;rw[ax]at hv;have ao:=zC aE;have an:=hn.ch.ats ra ao;have ar:=hn.cb ra ao;have ag:v.ownBlock=some g:=by rw[hv];rfl
 have au:=hn.ch.own g ag;have aO:g<w.heap.size:=by
  have:=aq.zl g (aq.ch.own g ag);exact this
 obtain⟨aa,ac,aT⟩:=an.1.slice;have aK:=hn.fo 0 ⟨h0.low 0 h0.f0,h0.un 0 h0.f0⟩;have C:=loops_any (P:=jiz r) (Z:=fun k=>Z k/\v.ownBlock≠some k) aI (fun k hk=>hk.1) aL (by rw[ay];exact h0.nn) aS hj.tab ⟨aK.1,aK.2.1 _ ae⟩ an (fun k hk=>⟨hn.zl k hk.1,hn.zu k hk.1 _ ae⟩) (fun x hx2=>by rw[ay];exact ar.1 x hx2) ar.2 (fun x hx2=>by
  rw[jeI];rw[ay]at hx2;exact(hQ x x hx2 hx2).symm)
 refine⟨g,cap,ra.1,ra.2.length,hv,aO,⟨aa,ac,aT⟩,ah,C.mono ?_⟩;rintro e w' ⟨lv,rfl,al,T,s',m',t1,t2,t3,t4,t5,t6⟩;have aC:g<wz.heap.size/\¬OwnX (xb,xd,xm) g:=⟨hn.zl g au,hn.zu g au _ ae⟩
 have az:=t6.block g aC;have aF:wz.heap.size<=w'.heap.size:=t6.size;obtain⟨la,lc,aH⟩:=jab al;refine⟨lv,rfl,⟨la,_,lc,aH⟩,by simpa only[World.cell?,az]using ah,by simpa only[World.frozen?,az]using aU,fun k hk1 hk2=>t6.block k ⟨hk2,fun ho=>?_⟩,?_⟩
 . have:=aq.pool.own_lt ae ho;omega
 . have af:∀k,k≠g->(w'.setCell ⟨g,a,none⟩ lv).heap[k]?=w'.heap[k]?:=fun k hk=>zM _ _ _ _ hk
   have am:(w'.setCell ⟨g,a,none⟩ lv).heap.size=w'.heap.size:=by simp
   have aJ:T g:=t1 g aC;have aN:=(zE.1 hx).1;have ad:∀y∈l.set q (xb,xd,m'),y=(xb,xd,m')\/∃j,j≠q/\l[j]?=some y:=fun y hy=>by
    obtain⟨j,hj⟩:=List.getElem?_of_mem hy;rw[List.getElem?_set]at hj;by_cases ej:q=j
    . rw[if_pos ej,if_pos (by omega)]at hj;injection hj with hj;exact .inl hj.symm
    . rw[if_neg ej]at hj;exact .inr ⟨j,fun e=>ej e.symm,hj⟩
   have aA:∀k,k<wz.heap.size->(∀x∈l,¬OwnX x k)->∀y∈l.set q (xb,xd,m'),¬OwnX y k:=fun k hk1 hk2 y hy=>by
    rcases ad y hy with rfl|⟨j,_,hj⟩
    . exact fun ho=>t3.own_no ho (t1 k ⟨hk1,hk2 _ ae⟩)
    . exact hk2 y (zC hj)
   have aB:SrS T (w'.setCell ⟨g,a,none⟩ lv) xb xd s' m':=t3.keep (by rw[am];exact zD _) (fun k hk ho=>⟨t3.own_no ho,af k (fun e=>t3.own_no ho (e▸aJ))⟩) (fun k hk hkk=>af k (fun e=>hn.kv _ ae k hkk (by rw[e];exact ag))) t3.kS;have aj:Low T (w'.setCell ⟨g,a,none⟩ lv):=fun k hk=>by rw[am];exact t2 k hk
   have ap:=hn.pool.turn hx (T:=T) (s':=s') (m':=m') (fun k hk=>t1 k hk) aj aB t4 (by rw[am];exact aF) (fun y hy k hk hnx=>(af k (fun e=>hk.elim (fun ho=>hn.zu g au y hy (e▸ho)) (fun hkp=>hn.kv y hy k hkp (by rw[e];exact ag)))).trans (t6.block k ⟨hk.elim (hn.pool.own_lt hy) (hn.pool.kp_lt hy),hnx⟩));have aG:(ab.set a (lv,ra.2.filter (jiz r))).map (·.2)=jcn c r:=by rw[List.map_set,hn.rc,jcn,hr,aP]
   have aV:∀k,k<w0.heap.size/\UL l0 k->(w'.setCell ⟨g,a,none⟩ lv).heap[k]?=wz.heap[k]?:=fun k hk=>by
    obtain⟨a1,a2,a3⟩:=hn.fo k hk;exact(af k (fun e=>a3 (by rw[e];exact ag))).trans (t6.block k ⟨a1,a2 _ ae⟩)
   refine⟨⟨l.set q (xb,xd,m'),fun k=>(Z k\/wz.heap.size<=k)/\T k,ab.set a (lv,ra.2.filter (jiz r)),ap,?_,⟨?_,fun k hk=>?_,fun y hy=>?_⟩,aG,fun k hk=>aj k hk.2,fun k hk y hy=>?_,fun y hy k hk=>?_,fun y hy=>?_,Fr.refl _ _,fun k hk=>?_,fun _ hk=>hk.elim,fun _ hk=>hk.elim,fun _ hk=>hk.elim,fun k hk _=>?_⟩,ak.trans ⟨t6.os,t6.tape,t6.output,by rw[am];exact aF,aV⟩,by rw[jd9];exact aM⟩
   . rw[List.map_set,<- hn.like];apply List.ext_getElem?;intro j;rw[List.getElem?_set];by_cases ej:q=j
     . subst ej;rw[if_pos rfl,if_pos (by rw[zH];exact aN),zI,hx];rfl
     . rw[if_neg ej]
   . have h1:w'.ownsRow 0 59 1 v ab.length (ab.flatMap jaN):=jae hn.ch.row (fun k o hk ho=>by
      have e:g=k:=by rw[ag]at hk;injection hk
      subst e;exact az.trans ho)
     rw[List.length_set,jfE,ax,hv];rw[hv,ax]at h1;exact(h1.stored a lv).1
   . have e:g=k:=by rw[ag]at hk;injection hk
     subst e;exact⟨.inl au,aJ⟩
   . have ai:∀ {u:Value} {L:List Nat} {Y:Nat->Prop},NatC Y w' u L->(∀k,Y k->k<w'.heap.size->((Z k\/wz.heap.size<=k)/\T k)/\k≠g)->NatC (fun k=>((Z k\/wz.heap.size<=k)/\T k)/\v.ownBlock≠some k) (w'.setCell ⟨g,a,none⟩ lv) u L:=fun hu hY=>hu.keep (by rw[am];exact zD _) (fun k hk hkl=>⟨⟨(hY k hk hkl).1,fun e=>(hY k hk hkl).2 (by rw[ag]at e;injection e with e;exact e.symm)⟩,af k (hY k hk hkl).2⟩)
     rcases List.mem_or_eq_of_mem_set hy with hy|hy
     . refine ai ((hn.ch.ats y hy).keep (T:=fun k=>Z k/\v.ownBlock≠some k) aF (fun k hk hkl=>⟨hk,t6.block k ⟨hkl,hn.zu k hk.1 _ ae⟩⟩)) (fun k hk _=>⟨⟨.inl hk.1,t1 k ⟨hn.zl k hk.1,hn.zu k hk.1 _ ae⟩⟩,fun e=>hk.2 (by rw[e];exact ag)⟩)
     . rw[hy];refine ai (jc4 al) (fun k hk _=>?_);have h2:=al.lt k hk;exact⟨⟨.inr h2.1,t5 k hk⟩,fun e=>by have:=aC.1;omega⟩
   . rcases ad y hy with rfl|⟨j,aR,aw⟩
     . exact fun ho=>t3.own_no ho hk.2
     . rcases hk.1 with h1|h1
       . exact hn.zu k h1 y (zC aw)
       . exact fun ho=>by have:=hn.pool.own_lt (zC aw) ho;omega
   . rcases ad y hy with rfl|⟨j,aR,aw⟩
     . exact hn.kv _ ae k hk
     . exact hn.kv y (zC aw) k hk
   . rcases List.mem_or_eq_of_mem_set hy with hy|hy
     . exact hn.cb y hy
     . rw[hy];exact⟨fun u hu=>ar.1 u (zY.1 hu).1,zT (yH _ _) ar.2⟩
   . obtain⟨a1,a2,a3⟩:=hn.fo k hk;exact⟨by rw[am];omega,aA k a1 a2,a3⟩
   . rcases hk.1 with h1|h1
     . exact hn.zo k h1 (hn.zl k h1)
     . exact .inr (zT ak.size h1)
theorem Jz.begin{w1:World}{rows:List (Value×List Nat)}{g1 nr cap:Nat}(h0:Jz F w0 jb J ds n m lks ls us l0)(hrc:rows.map (·.2)=c)(hcl:c.length=m)(hat:∀r∈rows,NatC F w0 r.1 r.2)(hbd:∀r∈rows,(∀u∈r.2,u<n)/\r.2.length<=10000)(hnr:nr=rows.length)(hb1:Below w0.heap.size w0 w1)(hown:w1.ownsRow w0.heap.size 59 1 (.slice (some ⟨g1,0,none⟩) nr cap) nr (rows.flatMap jaN)):RSt F w0 l0 ds n m (.slice (some ⟨g1,0,none⟩) nr cap) c w1:=by
 have ae:=hb1.size;have ab:=hown.lt g1 rfl;have aa:∀k,(Value.slice (some ⟨g1,0,none⟩) nr cap).ownBlock=some k->k=g1:=fun k e=>by
  have h3:g1=k:=by simpa[Value.ownBlock]using e
  exact h3.symm
 have ac:∀k,w0.heap.size<=k->UL l0 k:=fun k hk2=>(h0.fresh hk2).1
 refine⟨⟨l0,fun k=>(k<w1.heap.size/\UL l0 k)/\(F k\/w0.heap.size<=k),rows,h0.pool.below hb1,h0.like,⟨?_,fun k hk=>?_,fun r hr=>?_⟩,hrc,fun k hk=>hk.1.1,fun k hk=>hk.1.2,fun x hx k hk e=>?_,hbd,Fr.refl _ _,fun k hk=>?_,fun _ hk=>hk.elim,fun _ hk=>hk.elim,fun _ hk=>hk.elim,fun k hk _=>hk.2⟩,⟨hb1.os,hb1.tape,hb1.output,hb1.size,fun k hk=>hb1.block k hk.1⟩,hcl⟩
 . rw[<- hnr];refine⟨hown.1,hown.2.imp id ?_⟩;rintro⟨g,cp,ad,e1,_,e3⟩;exact⟨g,cp,ad,e1,zO _,e3⟩
 . rw[aa k hk];exact⟨⟨ab.2,ac g1 ab.1⟩,.inr ab.1⟩
 . exact(hat r hr).keep ae (fun k hk hl=>⟨⟨⟨⟨by omega,h0.un k hk⟩,.inl hk⟩,fun e=>by have:=aa k e;omega⟩,hb1.block k hl⟩)
 . have:=h0.pool.kp_lt hx hk;have:=aa k e;omega
 . exact⟨by omega,hk.2,fun e=>by have:=aa k e;omega⟩
theorem RSt.fill(h0:Jz F w0 jb J ds n m lks ls us l0)(hm:0<m)(hfv:J.fv=.slice none 0 0)(h:RSt F w0 l0 ds n m v c w)(hac:AC ls c):∃l C,FI F w jb J ds n m lks ls us l (fun _=>False) C v c (.slice none 0 0) [] []/\FFr w0 w l0 l (fun _=>False):=by
 obtain⟨l,Z,aa,hn,hj⟩:=h.jz h0;have ab:∀k,¬QB (.slice none 0 0) k:=fun k hk=>by obtain⟨_,_,_,e⟩:=hk;cases e
 refine⟨l,Z,⟨hj,fun _ hk=>hk.elim,⟨[],rfl,by rw[hfv];exact World.ownsRow_nil _ _ _ _,fun g hg=>by rw[hfv]at hg;simp[Value.ownBlock]at hg,fun r hr=>by simp at hr⟩,.inl ⟨rfl,rfl⟩,fun k hk=>absurd hk (ab k),fun k hk=>absurd hk (ab k),⟨aa,hn.rc,(jaD jaU hn.ch.row rfl).sub (fun k hk _=>hn.ch.own k hk),fun r hr=>(hn.ch.ats r hr).sub (fun k hk _=>hk.1),hn.cb⟩,fun k hk=>⟨hn.zl k hk,hn.zu k hk,fun e=>?_,fun h2=>h2,ab k⟩,hac,h.cl,hm,by simp⟩,h.fr.os,h.fr.tape,h.fr.output,h.fr.size,fun k hk hu _=>h.fr.block k ⟨hk,hu⟩,fun k hk hu=>(hn.fo k ⟨hk,hu⟩).2.1⟩;subst e;rcases hn.zo k hk (hn.zl k hk)with h1|h1
 . exact h0.jF h1
 . have:=h0.lt;omega
end
structure JW (F:Nat->Prop) (w:World) (jb:Nat) (J:Jv) (ds:List Sy) (n m:Nat) (lks:List Lm) (ls:List Lk) (us:List Nat) (l:List Sx) (frs:List (Value×List Nat)) (c:Ch) (rks:List Lm) (rs:List Lk):Prop where
 jz:Jz F w jb J ds n m lks ls us l
 fsl:SlS jaN 1 F w J.cv frs
 fat:∀r∈frs,NatC F w r.1 r.2
 fbd:∀r∈frs,(∀u∈r.2,u<n)/\r.2.length<=10000
 frc:frs.map (·.2)=c
 fcl:c.length=m
 m0:0<m
 fv0:J.fv=.slice none 0 0
 rsl:SlS csL 4 F w J.rv rks
 rlen:rs.length=rks.length
 rat:∀(i:Nat) R r,rks[i]?=some R->rs[i]?=some r->r.fr=R.1/\R.1<m/\∃q,jhj ds n q R.2.2.1 r.R
 rll:rks.length<=1000
 une:us≠[]
 ult:∀u∈us,u<m
def RowE(w:World)(jb:Nat)(l:List Sx)(R:List (List Nat))(e:Ending)(w':World):Prop:=
 ∃fv,e=.returned fv/\∃(X:Nat->Prop) (l':List Sx),FoS w' X fv (R.take 4097)/\(∀k,X k->w.heap.size<=k/\k<w'.heap.size)/\FFr w w' l l' (fun k=>k=jb)
theorem jjK{F:Nat->Prop}{w:World}{jb:Nat}{J:Jv}{ds:List Sy}{n m:Nat}{lks:List Lm}{ls:List Lk}{us:List Nat}{l:List Sx}{frs:List (Value×List Nat)}{c:Ch}{rks:List Lm}{rs:List Lk}(h:JW F w jb J ds n m lks ls us l frs c rks rs):
 Calls Tryz.prog 42 #[.pointer (some ⟨jb,0,none⟩)] w (RowE w jb l (jeR ls rs m us c)):=by
 have h0:=h.jz;have an:frs.length=m:=by rw[<- h.fcl,<- h.frc,zH]
 have aV:=h0.mm;have C0:=zA (jfo h.fsl h.fat (fun e=>by rw[e]at an;have:=h.m0;simp at an;omega) (by omega));rw[an]at C0;obtain⟨j1,j2,j3,j4,j5,j6,j7⟩:=h0.cell;obtain⟨ra,rc,ap⟩:=h.rsl.slice;obtain⟨nk,ar⟩:=eX rks.length;rw[<- ar]at ap;have hnkl:nk<=1000:=by rw[ar];exact h.rll
 have aY:=zA ap;have ax:=zA ar;have ad:=zA h;have ak:Hid (∀w1 g1 aj,w1.ownsRow w.heap.size 59 1 (.slice (some ⟨g1,0,none⟩) m aj) m (frs.flatMap jaN)->Below w.heap.size w w1->RSt F w l ds n m (.slice (some ⟨g1,0,none⟩) m aj) c w1):=zA (fun w1 g1 aj af hb=>h0.begin h.frc h.fcl h.fat h.fbd an.symm hb af);have au:Hid (∀W:World,Fr (fun k=>k<w.heap.size/\UL l k) w W->W.cell? ⟨jb,1,none⟩=some J.av/\W.cell? ⟨jb,4,none⟩=some (.slice ra nk rc)/\W.cell? ⟨jb,6,none⟩=some J.fv):=zA (fun W hW=>by
  have h1:=(hW.block jb ⟨h0.lt,h0.ju⟩).trans h0.blk;rw[<- ap];simp[World.cell?,h1,Jv.cells])
 obtain⟨Q,hQ⟩:=eX (RowE w jb l (jeR ls rs m us c));rw[<- hQ];have HQ:=zA hQ;clear h h0 an aV hQ j1 j2 j3 j4 j6 j7 ap ar;go_enter Tryz.func42,Tryz.ntmps42;go_wp2_with fail;refine C0.out.mono ?_;rintro e w1 ⟨g1,aj,rfl,af,hb⟩;have aC:=zA (ak.out w1 g1 aj af hb);clear af hb C0 ak j5;obtain⟨k1,_,_⟩:=au.out w1 aC.out.fr;have CN:=zA (aC.out.narrow ad.out.jz ad.out.m0);go_wp2_with fail;refine CN.out.mono ?_;rintro e w2 ⟨rfl,aw⟩;have aT:=zA aw;obtain⟨_,k2,_⟩:=au.out w2 aw.fr;clear aw CN k1;go_wp2_with fail;obtain⟨wb,a9⟩:=eX w2;subst a9;go_loopw [23] (fun kk wr=>∃j:Nat,j<=nk/\kk=.int .i64 j/\Hid (RSt F w l ds n m (.slice (some ⟨g1,0,none⟩) m aj) ((rs.take j).foldl jcn (jaH ls c)) wr)) (fun kk _=>nk-(intOf kk).toNat)
 case atStart=>exact⟨0,zO _,rfl,by rw[List.take_zero];exact aT⟩
 case round=>
  obtain⟨j,hj,rfl,HR⟩:=hrel;obtain⟨wx,aX⟩:=eX wr;subst aX;by_cases hjl:j<nk
  . have bd:(j:Int)<(nk:Int):=by omega
    obtain⟨⟨a,ao,tb,bb⟩,hL⟩:∃x,rks[j]?=some x:=⟨_,zB (by rw[<- ax.out];exact hjl)⟩
    obtain⟨r,hr⟩:∃x,rs[j]?=some x:=⟨_,zB (by rw[ad.out.rlen,<- ax.out];exact hjl)⟩
    obtain⟨r1,r2,q,r3⟩:=ad.out.rat j _ r hL hr;dsimp only at r1 r2 r3;have a8:Hid ((rs.take (j+1)).foldl jcn (jaH ls c)=jcn ((rs.take j).foldl jcn (jaH ls c)) r):=zA (by rw[zS,hr,yQ,List.foldl_append];rfl);have ah:=ad.out.rsl;rw[aY.out]at ah;have aM:Fr F w wx:=HR.out.fr.sub (fun k hk=>⟨ad.out.jz.low k hk,ad.out.jz.un k hk⟩);obtain⟨kg,koff,bc,hkF,hkl,ab⟩:=(ah.fr aM).get hL;subst bc;have c0:=ab 0 _ rfl;have c1:=ab 1 _ rfl;have aF:=ab 2 _ rfl;have c3:=ab 3 _ rfl;dsimp only at c0 c1 aF c3;rw[yA]at c0;obtain⟨lb,aq⟩:=eX wx.heap.size;obtain⟨o,ho⟩:=eX (Obj.cells #[.int .i64 (a:Int),.int .i64 (ao:Int),.pointer (some ⟨tb,0,none⟩),.pointer (some ⟨bb,0,none⟩)] 140 (0,0));obtain⟨wz,ai⟩:=eX (wx.alloc o);have aA:Below wx.heap.size wx wz:=by rw[ai];exact(zF _ _).alloc (zD _) _
    have ay:wz.heap.size=wx.heap.size+1:=by rw[ai];simp
    have ae:wz.heap[lb]?=some (.cells #[.int .i64 (a:Int),.int .i64 (ao:Int),.pointer (some ⟨tb,0,none⟩),.pointer (some ⟨bb,0,none⟩)] 140 (0,0)):=by rw[ai,aq,<- ho];exact heap_alloc_new _ _
    obtain⟨g,cap2,av,na,hv,ba,⟨aa,ac,bf⟩,bg,aS⟩:=HR.out.ring ad.out.jz (wz:=wz.drew) aA.drew r2 r1 r3;injection hv with hv1 _ hv2;injection hv1 with hv1;injection hv1 with hv1 _;subst hv1 hv2 bf;have CR:=zA aS;have KS:Hid (∀u,Below wz.heap.size wz u->u.cell? ⟨lb,0,none⟩=some (.int .i64 (a:Int))/\u.cell? ⟨lb,2,none⟩=some (.pointer (some ⟨tb,0,none⟩))):=zA (fun u hu=>by
     have h1:=(hu.block lb (by omega)).trans ae;exact⟨by simp[World.cell?,h1],by simp[World.cell?,h1]⟩)
    have aB:Hid (Below wz.heap.size wz wz.drew):=zA (zF _ _).drew;have KN:Hid (∀w5:World,(∀k,wx.heap.size<=k->k<wz.drew.heap.size->w5.heap[k]?=wz.drew.heap[k]?)->(w5.cell? ⟨lb,0,none⟩=some (.int .i64 (a:Int))/\w5.cell? ⟨lb,2,none⟩=some (.pointer (some ⟨tb,0,none⟩)))/\∀z,(w5.setCell ⟨g1,a,none⟩ z).cell? ⟨lb,0,none⟩=some (.int .i64 (a:Int))/\(w5.setCell ⟨g1,a,none⟩ z).cell? ⟨lb,2,none⟩=some (.pointer (some ⟨tb,0,none⟩))):=zA (fun w5 hk5=>by
     have h1:w5.heap[lb]?=_:=(hk5 lb (by omega) (by show lb<wz.heap.size;omega)).trans ae;have h2:∀z,(w5.setCell ⟨g1,a,none⟩ z).heap[lb]?=_:=fun z=>(zM w5 ⟨g1,a,none⟩ z lb (by show lb≠g1;omega)).trans h1
     exact⟨⟨by simp[World.cell?,h1],by simp[World.cell?,h1]⟩,fun z=>⟨by simp[World.cell?,h2 z],by simp[World.cell?,h2 z]⟩⟩)
    have hcz2:wz.cell? ⟨g1,a,none⟩=some (.slice aa na ac):=bg;have aU:Hid (wx.alloc (.cells #[.int .i64 (a:Int),.int .i64 (ao:Int),.pointer (some ⟨tb,0,none⟩),.pointer (some ⟨bb,0,none⟩)] 140)=wz):=zA (by rw[ai,ho]);obtain⟨aN,aR⟩:=KS.out wz (zF _ _);have aP:wz.cell? ⟨lb,1,none⟩=some (.int .i64 (ao:Int)):=by simp[World.cell?,ae]
    have aH:wz.cell? ⟨lb,3,none⟩=some (.pointer (some ⟨bb,0,none⟩)):=by simp[World.cell?,ae]
    rw[ai,aq,ho]at aN aP aR aH;have haI:(a:Int)<(m:Int):=by omega
    have aW:Hid (wx.heap.size=lb):=zA aq.symm;clear hL hr r1 r3 ah aM ab aS aA ay ae ai ho aq ba;go_wp2_with fail;rw[aU.out,aW.out];clear aN aP aR aH c0 c1 aF c3;refine wp_region_held_drew (S:=fun u=>u.cell? ⟨lb,0,none⟩=some (.int .i64 (a:Int))/\u.cell? ⟨lb,2,none⟩=some (.pointer (some ⟨tb,0,none⟩))) (by kernel_rfl) ?_ (fun hHeld=>?_)
    . exact KS.out _ aB.out
    refine tkH (i:=0) (oi:=⟨some 27,.move (.tmp 3),132, "join.go:107",#[],none⟩) (v:=?_) rfl ?_ hHeld ?_;rotate_left 1
    . rintro W ⟨l1,l2⟩;go_simp;try with_reducible rfl
    simp only[Act.put,zIB,zSZ,zSS];refine tkH (i:=1) (oi:=⟨some 28,.fieldAddr 140 (.tmp 5) 0,0, "join.go:107",#[],none⟩) (v:=?_) rfl ?_ hHeld ?_;rotate_left 1
    . rintro W ⟨l1,l2⟩;go_simp;try with_reducible rfl
    simp only[Act.put,zIB,zSZ,zSS];refine tkH (i:=2) (oi:=⟨some 29,.load 3 (.tmp 28),3, "join.go:107",#[⟨1,.data⟩],none⟩) (v:=?_) rfl ?_ hHeld ?_;rotate_left 1
    . rintro W ⟨l1,l2⟩;go_simp;try with_reducible rfl
    simp only[Act.put,zIB,zSZ,zSS];refine tkH (i:=3) (oi:=⟨some 30,.fieldAddr 140 (.tmp 5) 2,0, "join.go:107",#[],none⟩) (v:=?_) rfl ?_ hHeld ?_;rotate_left 1
    . rintro W ⟨l1,l2⟩;go_simp;try with_reducible rfl
    simp only[Act.put,zIB,zSZ,zSS];refine tkH (i:=4) (oi:=⟨some 31,.load 67 (.tmp 30),67, "join.go:107",#[⟨3,.data⟩],none⟩) (v:=?_) rfl ?_ hHeld ?_;rotate_left 1
    . rintro W ⟨l1,l2⟩;go_simp;try with_reducible rfl
    simp only[Act.put,zIB,zSZ,zSS];refine tkH (i:=5) (oi:=⟨some 32,.move (.tmp 3),132, "join.go:107",#[],none⟩) (v:=?_) rfl ?_ hHeld ?_;rotate_left 1
    . rintro W ⟨l1,l2⟩;go_simp;try with_reducible rfl
    simp only[Act.put,zIB,zSZ,zSS];refine tkH (i:=6) (oi:=⟨some 33,.fieldAddr 140 (.tmp 5) 0,0, "join.go:107",#[],none⟩) (v:=?_) rfl ?_ hHeld ?_;rotate_left 1
    . rintro W ⟨l1,l2⟩;go_simp;try with_reducible rfl
    simp only[Act.put,zIB,zSZ,zSS];refine tkH (i:=7) (oi:=⟨some 34,.load 3 (.tmp 33),3, "join.go:107",#[⟨6,.data⟩],none⟩) (v:=?_) rfl ?_ hHeld ?_;rotate_left 1
    . rintro W ⟨l1,l2⟩;go_simp;try with_reducible rfl
    simp only[Act.put,zIB,zSZ,zSS];refine tkH (i:=8) (oi:=⟨some 35,.indexAddr 132 (.tmp 32) (.tmp 34),0, "join.go:107",#[⟨5,.data⟩,⟨7,.data⟩],none⟩) (v:=?_) rfl ?_ hHeld ?_;rotate_left 1
    . rintro W ⟨l1,l2⟩;go_simp;try with_reducible rfl
    simp only[Act.put,zIB,zSZ,zSS];refine rdH (k:=9) (o:=⟨some 36,.load 59 (.tmp 35),59, "join.go:107",#[⟨8,.data⟩],none⟩) rfl (fun K hK=>?_);go_simp;refine hK.out _ _ (KS.out _ aB.out) (fun hHeld=>?_);clear hK K;refine rdH (k:=10) (o:=⟨some 37,.call { callee:=.value (.func 77),args:=#[.tmp 31,.tmp 36],argTypes:=#[67,59] },59, "join.go:107",#[⟨4,.data⟩,⟨9,.data⟩],none⟩) rfl (fun K hK=>?_);go_simp;refine CR.out.mono ?_;rintro e w5 ⟨lv,rfl,⟨la,nl,lc,a7⟩,c5,f5,k5,h5⟩;subst a7;have aZ:=zA h5;have aK:=zA (KN.out w5 k5);clear h5 k5;refine hK.out _ _ aK.out.1 (fun hHeld=>?_);clear hK K;refine tkH (i:=11) (oi:=⟨some 38,.indexAddr 132 (.tmp 27) (.tmp 29),0, "join.go:107",#[⟨0,.data⟩,⟨2,.data⟩,⟨0,.phase⟩,⟨1,.phase⟩,⟨2,.phase⟩,⟨3,.phase⟩,⟨4,.phase⟩,⟨5,.phase⟩,⟨6,.phase⟩,⟨7,.phase⟩,⟨8,.phase⟩,⟨9,.phase⟩,⟨10,.phase⟩],none⟩) (v:=?_) rfl ?_ hHeld ?_;rotate_left 1
    . rintro W ⟨l1,l2⟩;go_simp;try with_reducible rfl
    simp only[Act.put,zIB,zSZ,zSS];refine rdH (k:=12) (o:=⟨none,.store 59 (.tmp 38) (.tmp 37),0, "join.go:107",#[⟨11,.data⟩,⟨10,.data⟩,⟨10,.chain⟩,⟨0,.phase⟩,⟨1,.phase⟩,⟨2,.phase⟩,⟨3,.phase⟩,⟨4,.phase⟩,⟨5,.phase⟩,⟨6,.phase⟩,⟨7,.phase⟩,⟨8,.phase⟩,⟨9,.phase⟩,⟨10,.phase⟩],none⟩) rfl (fun K hK=>?_);go_simp;refine hK.out _ _ (aK.out.2 _) (fun hHeld=>?_);clear hK K c5 f5;refine wpAnyH_done (by kernel_rfl) ?_ _;go_wp2;go_roundw
    case rel=>exact⟨j+1,by omega,by go_num,zA (by rw[a8.out];exact aZ.out)⟩
    case measure=>simp[intOf];omega
  . have bd:¬(j:Int)<(nk:Int):=by omega
    have aL:rs.take j=rs:=zJ (by rw[ad.out.rlen,<- ax.out];omega);rw[aL]at HR;obtain⟨k1,_,k6⟩:=au.out wx HR.out.fr;have CN:=zA (HR.out.narrow ad.out.jz ad.out.m0);clear aL;go_wp2_with fail;refine CN.out.mono ?_;rintro e w3 ⟨rfl,aO⟩;obtain⟨l3,C3,az,aG⟩:=aO.fill ad.out.jz ad.out.m0 ad.out.fv0 (jdb _ _);have CF:=zA (fillJ_any ad.out.une ad.out.ult us.length w3 J l3 (fun _=>False) C3 _ _ _ [] [] [] us rfl rfl (zD _) az);have aI:=zA aG;clear aO CN k1 k6 az aG k2;go_wp2_with fail;refine CF.out.mono ?_;rintro e w4 ⟨he,aD⟩;obtain⟨bb4,a0⟩:∃b,e=.returned (.bool b):=⟨_,he⟩
    subst a0;clear he;obtain⟨aQ,l4,X4,a1,a2,a3,a4,a5,a6⟩:=aD.ex;have c6:=a1.cell.2.2.2.2.2.1;dsimp only[Jv.with]at c6;have al:Hid (Q (.returned aQ) w4):=zA (by
     rw[HQ.out];refine⟨aQ,rfl,X4,l4,a3,fun k hk=>⟨?_,(a2 k hk).1⟩,(aI.out.mono (fun _ h=>h.elim)).trans a6 (fun k hk=>?_)⟩
     . rcases a5 k hk with h1|h1
       . exact h1.elim
       . exact zT aI.out.size h1
     . rcases hk with hk|hk|hk
       . exact .inl hk
       . exact hk.elim
       . obtain⟨_,_,_,e⟩:=hk;cases e)
    obtain⟨am,_,ag,_⟩:=a3;obtain⟨fa,fc,aE⟩:=jab ag;obtain⟨n4,aJ⟩:=eX am.length;rw[<- aJ]at aE;subst aE;clear a1 a2 a4 a5 a6 aD CF ag aJ;go_wp2;all_goals (first|(go_ret;exact al.out)|exact al.out)
abbrev jky(t:Tm):Value:=.agg #[.bool t.1,.string ⟨t.2.toArray⟩]
def jdX(t:Tm):Prop:=t.2.length<=maxLen
def kM(t:Tm):Lit:=.string (keyBytes [.bool t.1,.string t.2])
theorem jkW(t:Tm):WideAt.IsKeyLit (kM t):=trivial
theorem jkt:laidOutB Tryz.prog=true:=by kernel_rfl
theorem rowM:53<Tryz.prog.types.size:=of_decide_eq_true (by kernel_rfl)
theorem jk8:Tryz.prog.cellsOf 53=2:=by kernel_rfl
theorem jlY:Tryz.prog.cellsOf 9=1:=by kernel_rfl
theorem jlB:Tryz.prog.cellsOf 4=1:=by kernel_rfl
theorem jlS:Nat.ble 2 (Tryz.prog.types.size+1)=true:=by kernel_rfl
theorem jlK:∃d,Tryz.prog.types.size+1=2+d:=⟨Tryz.prog.types.size+1-2,by have:=Nat.le_of_ble_eq_true jlS;omega⟩
theorem ktM:Tryz.prog.keyTypeAt 2 53=true:=by kernel_rfl
theorem jmq:(match Tryz.prog.underlying 53 with|some (.array _ _)|some (.struct _)=>true|_=>false)=true:=by rw[Tryz.underlying53]
theorem lawM:Maps.Keyed Tryz.prog 53:=Maps.Keyed.of_law (deep_law_laid jkt (m:=2) (by omega) rowM ktM jmq)
theorem jkw:Tryz.prog.keyType 53=true:=by kernel_rfl
theorem jlN(a b:Value):(Value.agg #[a,b]).formed Tryz.prog 53=true:=by simp[Value.formed,Tryz.underlying53,jk8]
theorem jmb(d:Nat)(v:Value):Tryz.prog.keyLits (d+1) 9 [v]=match v with| .string s=>if s.size<=maxLen then some [.string s.data.toList]else none|_=>none:=by
 unfold Program.keyLits;rw[Tryz.underlying9];cases v<;>rfl
theorem jl8(d:Nat)(v:Value):Tryz.prog.keyLits (d+1) 4 [v]=match v with| .bool b=>some [.bool b]|_=>none:=by
 unfold Program.keyLits;rw[show Tryz.prog.underlying 4=some .bool by kernel_rfl];cases v<;>rfl
theorem jml(d:Nat)(a b:Value):Tryz.prog.keyLits (2+d) 53 [a,b]=(do
 let x <- Tryz.prog.keyLits (1+d) 4 [a];let y <- Tryz.prog.keyLits (1+d) 9 [b]
 pure (x++y)):=by
 rw[show 2+d=(1+d)+1 by omega];conv=>lhs;unfold Program.keyLits
 rw[Tryz.underlying53];simp[jk8,jlY,jlB];cases Tryz.prog.keyLits (1+d) 4 [a]<;>simp
 cases Tryz.prog.keyLits (1+d) 9 [b]<;>simp
theorem keyM{t:Tm}(h:jdX t):keyOf Tryz.prog 53 (jky t)=some (kM t):=by
 unfold keyOf;rw[Tryz.underlying53];simp only[jkw,jlN,Bool.and_self,if_true,Value.cells];obtain⟨d,hd⟩:=jlK;rw[hd,jml,show 1+d=d+1 by omega,jmb,jl8];have h:t.2.length<=maxLen:=h;simp[jbG,h,kM]
theorem jkX{a b:Tm}(ha:jdX a)(hb:jdX b)(h:kM a=kM b):a=b:=by
 have:=lawM.inj (keyM ha) (by rw[h];exact keyM hb);simp[jky]at this;exact Prod.ext this.1 this.2
structure jg3 (D:DataW Unit) (ts:List Tm):Prop where
 has:∀t,jdX t->Maps.has D (kM t)=decide (t∈ts)
 at_:∀(i:Nat) t,ts[i]?=some t->D.atKey (kM t) (.lit (.int .i64 0))=.lit (.int .i64 (i:Int))
 fine:∀t∈ts,jdX t
 nd:ts.Nodup
theorem ji5:jg3 (.map []) []:=⟨fun t _=>by simp[Maps.has],fun i t h=>by simp at h,fun t h=>by simp at h,List.nodup_nil⟩
def addT(ts:List Tm)(t:Tm):List Tm:=if t∈ts then ts else ts++[t]
theorem jg3.put{D:DataW Unit}{ts:List Tm}(hm:Maps.IsMap D)(h:jg3 D ts){t:Tm}(hf:jdX t)(ht:t∉ts):jg3 (D.put (kM t) (.lit (.int .i64 (ts.length:Int)))) (ts++[t]):=by
 refine⟨fun x hx=>?_,fun i x hx=>?_,fun x hx=>?_,?_⟩
 . by_cases e:x=t
   . subst e;rw[Maps.has_put_same hm (jkW x)];simp
   . rw[Maps.has_put_other (fun h2=>e (jkX hx hf h2)),h.has x hx];simp[e]
 . by_cases hi:i<ts.length
   . rw[yJ hi]at hx;have aa:=zC hx;rw[Maps.atKey_put_other (fun h2=>ht (by rw[<- jkX (h.fine x aa) hf h2];exact aa))];exact h.at_ i x hx
   . have ab:=(zE.1 hx).1;rw[zG]at ab;simp only[List.length_singleton]at ab;have e:i=ts.length:=by omega
     rw[e,yM (zD _)]at hx;simp at hx;rw[<- hx,Maps.atKey_put_same hm (jkW t),e]
 . rcases zL.1 hx with hx|hx
   . exact h.fine x hx
   . rw[zK.1 hx];exact hf
 . rw[List.nodup_append];exact⟨h.nd,by simp,fun a ha b hb e=>ht (by rw[<- zK.1 hb,<- e];exact ha)⟩
theorem jlk{ts:List Tm}{t:Tm}(h:t∉ts):(ts++[t]).idxOf t=ts.length:=by
 rw[List.idxOf_append,if_neg h];simp
def XS(jb mp:Nat)(J:Jv)(k:Nat):Prop:=k=jb\/k=mp\/J.av.ownBlock=some k\/J.cv.ownBlock=some k
structure SL (B:Nat) (V:List Wd) (w:World) (jb mp:Nat) (J:Jv) (ts:List Tm) (frs:List (Value×List Nat)) (D:Nat->Prop):Prop where
 blk:w.heap[jb]?=some (.cells J.cells 134 (0,0))
 sv:J.sv=.map (some mp)
 jB:B<=jb
 mB:B<=mp
 map:∃cnt DM,w.ownsMap Tryz.prog 53 (plainElem Tryz.prog 3) mp cnt DM/\cnt<=ts.length/\jg3 DM ts
 al:w.ownsRow B 3 1 J.av ts.length ((List.range ts.length).flatMap csI)
 fi:w.ownsRow B 59 1 J.cv frs.length (frs.flatMap jaN)
 frc:frs.map (·.2)=ts.map (jaG V)
 fat:∀r∈frs,NatC D w r.1 r.2
 dl:∀k,D k->B<=k/\k<w.heap.size
 dx:∀k,D k->¬XS jb mp J k
theorem SL.fl{B:Nat}{V:List Wd}{w:World}{jb mp:Nat}{J:Jv}{ts:List Tm}{frs:List (Value×List Nat)}{D:Nat->Prop}(h:SL B V w jb mp J ts frs D):frs.length=ts.length:=by
 have:=congrArg List.length h.frc;rw[zH,zH]at this;exact this
theorem SL.xlt{B:Nat}{V:List Wd}{w:World}{jb mp:Nat}{J:Jv}{ts:List Tm}{frs:List (Value×List Nat)}{D:Nat->Prop}(h:SL B V w jb mp J ts frs D){k:Nat}(hk:XS jb mp J k):B<=k/\k<w.heap.size:=by
 rcases hk with rfl|rfl|hk|hk
 . exact⟨h.jB,lt_of_block h.blk⟩
 . obtain⟨_,_,h1,_⟩:=h.map;exact⟨h.mB,h1.lt⟩
 . exact h.al.lt k hk
 . exact h.fi.lt k hk
theorem SL.keep{B:Nat}{V:List Wd}{w w':World}{jb mp:Nat}{J:Jv}{ts:List Tm}{frs:List (Value×List Nat)}{D:Nat->Prop}(h:SL B V w jb mp J ts frs D)(hz:w.heap.size<=w'.heap.size)(hk:∀k,XS jb mp J k\/D k->w'.heap[k]?=w.heap[k]?):SL B V w' jb mp J ts frs D:=by
 obtain⟨aa,DM,h1,h2⟩:=h.map;exact⟨(hk jb (.inl (.inl rfl))).trans h.blk,h.sv,h.jB,h.mB,⟨aa,DM,map_keyG h1 (fun _ ho=>(hk mp (.inl (.inr (.inl rfl)))).trans ho),h2⟩,jae h.al (fun g o hg ho=>(hk g (.inl (.inr (.inr (.inl hg))))).trans ho),jae h.fi (fun g o hg ho=>(hk g (.inl (.inr (.inr (.inr hg))))).trans ho),h.frc,fun r hr=>(h.fat r hr).keep hz (fun k hk2 _=>⟨hk2,hk k (.inr hk2)⟩),fun k hk2=>⟨(h.dl k hk2).1,zQ (h.dl k hk2).2 hz⟩,h.dx⟩
def SloE(B:Nat)(V:List Wd)(w:World)(jb mp:Nat)(J:Jv)(ts:List Tm)(D:Nat->Prop)(t:Tm)(e:Ending)(w':World):Prop:=
 e=.returned (.int .i64 ((addT ts t).idxOf t:Nat))/\∃av cv frs' D',SL B V w' jb mp { J with av:=av,cv:=cv } (addT ts t) frs' D'/\(∀k,XS jb mp { J with av:=av,cv:=cv } k->XS jb mp J k\/w.heap.size<=k)/\(∀k,D' k->D k\/w.heap.size<=k)/\Fr (fun k=>k<w.heap.size/\¬XS jb mp J k) w w'
theorem jd4{w:World}{B1 B2 n1 n2 s1 s2:Nat}{e1 e2:TypeId}{v1 v2:Value}{xs1 xs2:List Value}(h1:w.ownsRow B1 e1 s1 v1 n1 xs1)(h2:w.ownsRow B2 e2 s2 v2 n2 xs2)(hne:e1≠e2){k:Nat}(hk:v1.ownBlock=some k):v2.ownBlock≠some k:=by
 rcases h1.2 with⟨e,_⟩|⟨g,cap,cur,e,_,hb,_⟩
 . rw[e]at hk;simp[Value.ownBlock]at hk
 . have aa:g=k:=by rw[e]at hk;simpa[Value.ownBlock]using hk
   subst aa;exact jan h2 hb (fun e2=>hne e2.symm)
theorem SL.done{B:Nat}{V:List Wd}{w:World}{jb mp:Nat}{J:Jv}{ts:List Tm}{frs:List (Value×List Nat)}{D:Nat->Prop}(h:SL B V w jb mp J ts frs D){t:Tm}(ht:t∉ts)(hf:jdX t)(hBw:B<=w.heap.size)
 {w2 w3 w5 w8 w9:World} {cnt:Nat} {DM:DataW Unit} {av5 cv9 lv:Value} (hb2:Below w.heap.size w w2) (hcnt:cnt<=ts.length) (hDM:Maps.IsMap DM) (hT:jg3 DM ts) (hm3:w3.ownsMap Tryz.prog 53 (plainElem Tryz.prog 3) mp (cnt+1) (DM.put (kM t) (.lit (.int .i64 (ts.length:Int))))) (hg3:w2.grownBy w3 (some mp))
 (hr5:w5.ownsRow B 3 1 av5 (ts.length+1) ((List.range ts.length).flatMap csI++csI ts.length)) (hk5:∀k,k<w3.heap.size->J.av.ownBlock≠some k->w5.heap[k]?=w3.heap[k]?) (hz5:w3.heap.size<=w5.heap.size) (ho5:w5.os=w3.os) (ht5:w5.tape=w3.tape) (hu5:w5.output=w3.output) (ha5:∀g,av5.ownBlock=some g->J.av.ownBlock=some g\/w3.heap.size<=g)
 (hb8:Below w5.heap.size (w5.setCell ⟨jb,1,none⟩ av5) w8) (hL:NatC (fun k=>w5.heap.size<=k) w8 lv (jaG V t))
 (hr9:w9.ownsRow B 59 1 cv9 (frs.length+1) (frs.flatMap jaN++[lv])) (hk9:∀k,k<w8.heap.size->J.cv.ownBlock≠some k->w9.heap[k]?=w8.heap[k]?) (hz9:w8.heap.size<=w9.heap.size) (ho9:w9.os=w8.os) (ht9:w9.tape=w8.tape) (hu9:w9.output=w8.output) (ha9:∀g,cv9.ownBlock=some g->J.cv.ownBlock=some g\/w8.heap.size<=g):
 ∃frs' D',SL B V (w9.setCell ⟨jb,5,none⟩ cv9) jb mp { J with av:=av5,cv:=cv9 } (ts++[t]) frs' D'/\(∀k,XS jb mp { J with av:=av5,cv:=cv9 } k->XS jb mp J k\/w.heap.size<=k)/\(∀k,D' k->D k\/w.heap.size<=k)/\Fr (fun k=>k<w.heap.size/\¬XS jb mp J k) w (w9.setCell ⟨jb,5,none⟩ cv9):=by
 have hz2:=hb2.size;have hz3:=hg3.size;have hz6:(w5.setCell ⟨jb,1,none⟩ av5).heap.size=w5.heap.size:=by simp
 have hz8:w5.heap.size<=w8.heap.size:=by have:=hb8.size;omega
 have hzF:(w9.setCell ⟨jb,5,none⟩ cv9).heap.size=w9.heap.size:=by simp
 have ar:=lt_of_block h.blk;obtain⟨_,_,ai,_⟩:=h.map;have am:mp≠jb:=blk_ne_mapG h.blk ai;have hml:=ai.lt;have aq:J.av.ownBlock≠some jb:=jan h.al h.blk (by decide);have ao:J.cv.ownBlock≠some jb:=jan h.fi h.blk (by decide);have an:J.av.ownBlock≠some mp:=own_ne_mapG h.al ai;have aw:J.cv.ownBlock≠some mp:=own_ne_mapG h.fi ai;have au:∀k,J.av.ownBlock=some k->J.cv.ownBlock≠some k:=fun k hk=>jd4 h.al h.fi (by decide) hk
 have ax:∀k,k≠jb->(w5.setCell ⟨jb,1,none⟩ av5).heap[k]?=w5.heap[k]?:=fun k hk=>zM _ _ _ _ hk
 have af:∀k,k≠jb->(w9.setCell ⟨jb,5,none⟩ cv9).heap[k]?=w9.heap[k]?:=fun k hk=>zM _ _ _ _ hk
 have ak:∀k,k<w5.heap.size->k≠jb->w8.heap[k]?=w5.heap[k]?:=fun k hk hne=>(hb8.block k hk).trans (ax k hne)
 have ap:∀k,k<w2.heap.size->k≠mp->w3.heap[k]?=w2.heap[k]?:=fun k hk hne=>hg3.block k hk (fun e=>hne (by injection e))
 have ab:w3.heap[jb]?=some (.cells J.cells 134 (0,0)):=(ap jb (by omega) (fun e=>am e.symm)).trans ((hb2.block jb ar).trans h.blk);have ah:w5.heap[jb]?=some (.cells J.cells 134 (0,0)):=(hk5 jb (by omega) aq).trans ab;have ac:(w5.setCell ⟨jb,1,none⟩ av5).heap[jb]?=some (.cells ({ J with av:=av5 }:Jv).cells 134 (0,0)):=by
  simp[World.setCell,Array.getElem?_modify,ah,Jv.cells]
 have aa:w9.heap[jb]?=some (.cells ({ J with av:=av5 }:Jv).cells 134 (0,0)):=(hk9 jb (by omega) ao).trans ((hb8.block jb (by omega)).trans ac);have ad:(w9.setCell ⟨jb,5,none⟩ cv9).heap[jb]?=some (.cells ({ J with av:=av5,cv:=cv9 }:Jv).cells 134 (0,0)):=by
  simp[World.setCell,Array.getElem?_modify,aa,Jv.cells]
 have ag:∀k,k<w.heap.size->¬XS jb mp J k->(w9.setCell ⟨jb,5,none⟩ cv9).heap[k]?=w.heap[k]?:=fun k hk hx=>by
  have n1:k≠jb:=fun e=>hx (.inl e)
  have n2:k≠mp:=fun e=>hx (.inr (.inl e))
  have n3:J.av.ownBlock≠some k:=fun e=>hx (.inr (.inr (.inl e)))
  have n4:J.cv.ownBlock≠some k:=fun e=>hx (.inr (.inr (.inr e)))
  exact(af k n1).trans ((hk9 k (by omega) n4).trans ((ak k (by omega) n1).trans ((hk5 k (by omega) n3).trans ((ap k (by omega) n2).trans (hb2.block k hk)))))
 have ae:∀g,av5.ownBlock=some g->g≠jb/\g≠mp/\J.cv.ownBlock≠some g/\g<w5.heap.size:=fun g hg=>by
  have hl:=(hr5.lt g hg).2;rcases ha5 g hg with h1|h1
  . exact⟨fun e=>aq (e▸h1),fun e=>an (e▸h1),au g h1,hl⟩
  . refine⟨by omega,by omega,fun e=>?_,hl⟩;have:=(h.fi.lt g e).2;omega
 have ay:∀k,D k->¬XS jb mp { J with av:=av5,cv:=cv9 } k:=fun k hk hx=>by
  have hkl:=(h.dl k hk).2;rcases hx with e|e|e|e
  . exact h.dx k hk (.inl e)
  . exact h.dx k hk (.inr (.inl e))
  . rcases ha5 k e with h1|h1
    . exact h.dx k hk (.inr (.inr (.inl h1)))
    . omega
  . rcases ha9 k e with h1|h1
    . exact h.dx k hk (.inr (.inr (.inr h1)))
    . omega
 refine⟨frs++[(lv,jaG V t)],fun k=>D k\/(w5.heap.size<=k/\k<w8.heap.size),⟨ad,h.sv,h.jB,h.mB,⟨cnt+1,_,map_keyG hm3 (fun o ho=>?_),by rw[zG];simp only[List.length_singleton];omega,hT.put hDM hf ht⟩,?_,?_,?_,fun r hr=>?_,fun k hk=>?_,fun k hk=>?_⟩,fun k hk=>?_,fun k hk=>?_,?_⟩
 . have aj:w5.heap[mp]?=w3.heap[mp]?:=hk5 mp (by omega) an;exact(af mp am).trans ((hk9 mp (by omega) aw).trans ((ak mp (by omega) am).trans (aj.trans ho)))
 . rw[zG,List.length_singleton,List.range_succ,zP];refine jae (show w5.ownsRow B 3 1 av5 (ts.length+1) _ from by simpa using hr5) (fun g o hg ho=>?_);obtain⟨a1,a2,a3,a4⟩:=ae g hg;exact(af g a1).trans ((hk9 g (by omega) a3).trans ((ak g a4 a1).trans ho))
 . rw[zG,zP];refine jae hr9 (fun g o hg ho=>(af g (fun e=>?_)).trans ho);rcases ha9 g hg with h1|h1
   . exact ao (e▸h1)
   . omega
 . rw[yG,yG,h.frc];rfl
 . rcases zL.1 hr with hr|hr
   . refine(h.fat r hr).keep (by omega) (fun k hk hl=>⟨.inl hk,ag k hl (h.dx k hk)⟩)
   . rw[zK.1 hr];refine hL.keep (by omega) (fun k hk hl=>⟨.inr ⟨hk,hl⟩,(af k (by omega)).trans (hk9 k hl (fun e=>?_))⟩);have:=(h.fi.lt k e).2;omega
 . rcases hk with hk|hk
   . have:=h.dl k hk;exact⟨this.1,by omega⟩
   . exact⟨by omega,by omega⟩
 . rcases hk with hk|hk
   . exact ay k hk
   . intro hx;rcases hx with e|e|e|e
     . omega
     . omega
     . have:=(ae k e).2.2.2;omega
     . rcases ha9 k e with h1|h1
       . have:=(h.fi.lt k h1).2;omega
       . omega
 . rcases hk with e|e|e|e
   . exact .inl (.inl e)
   . exact .inl (.inr (.inl e))
   . rcases ha5 k e with h1|h1
     . exact .inl (.inr (.inr (.inl h1)))
     . exact .inr (by omega)
   . rcases ha9 k e with h1|h1
     . exact .inl (.inr (.inr (.inr h1)))
     . exact .inr (by omega)
 . exact hk.imp id (fun h1=>by omega)
 . refine⟨?_,?_,?_,by omega,fun k hk=>ag k hk.1 hk.2⟩
   . exact ho9.trans (hb8.os.trans (ho5.trans (hg3.os.trans hb2.os)))
   . exact ht9.trans (hb8.tape.trans (ht5.trans (hg3.tape.trans hb2.tape)))
   . exact hu9.trans (hb8.output.trans (hu5.trans (hg3.output.trans hb2.output)))
end Go.Proofs.YtkbgmcmcpbegjaaGreatDoor
