/- XPool, XNi, XQueue, XNarrow. -/
import Derived.Test.YtkbgmcmcpbegjaaGreatDoorZR35
import Derived.ArgAppend
set_option maxRecDepth 100000
namespace Go.Proofs.YtkbgmcmcpbegjaaGreatDoor
open Go.RowKit Go.Shelf
abbrev Sx:=Nat×Sd×Sp
abbrev OwnX(x:Sx)(k:Nat):Prop:=OwnB x.1 x.2.2 k
structure Pool (w:World) (l:List Sx):Prop where
 at_:∀x∈l,∃s,SrS (fun k=>k<w.heap.size/\¬OwnX x k) w x.1 x.2.1 s x.2.2/\Rest x.2.1 s
 apart:∀(i j:Nat) x y,l[i]?=some x->l[j]?=some y->i≠j->∀k,OwnX x k->¬OwnX y k
 kp:∀x∈l,∀y∈l,∀k,x.2.1.kp k->¬OwnX y k
theorem Pool.own_lt{w:World}{l:List Sx}(h:Pool w l){x:Sx}(hx:x∈l){k:Nat}(hk:OwnX x k):k<w.heap.size:=by
 obtain⟨s,hs,_⟩:=h.at_ x hx;exact hs.own_lt hk
theorem Pool.kp_lt{w:World}{l:List Sx}(h:Pool w l){x:Sx}(hx:x∈l){k:Nat}(hk:x.2.1.kp k):k<w.heap.size:=by
 obtain⟨s,hs,_⟩:=h.at_ x hx;exact(hs.kS k hk).1
theorem Pool.keep{w w':World}{l:List Sx}(h:Pool w l)(hz:w.heap.size<=w'.heap.size)(hk:∀x∈l,∀k,(OwnX x k\/x.2.1.kp k)->w'.heap[k]?=w.heap[k]?):Pool w' l:=
 ⟨fun x hx=>by
  obtain⟨s,hs,hr⟩:=h.at_ x hx;exact⟨s,hs.keep hz (fun k _ ho=>⟨fun h2=>h2.2 ho,hk x hx k (.inl ho)⟩) (fun k _ hkk=>hk x hx k (.inr hkk)) (fun k hkk=>⟨zQ (h.kp_lt hx hkk) hz,h.kp x hx x hx k hkk⟩),hr⟩,h.apart,h.kp⟩
theorem Pool.below{w w':World}{l:List Sx}(h:Pool w l)(hb:Below w.heap.size w w'):Pool w' l:=
 h.keep hb.size (fun _ hx k hk=>hb.block k (hk.elim (h.own_lt hx) (h.kp_lt hx)))
theorem Pool.turn{w w':World}{l:List Sx}(h:Pool w l){i:Nat}{x:Sx}(hi:l[i]?=some x){T:Nat->Prop}{s':Ss}{m':Sp}(hT:∀k,(k<w.heap.size/\¬OwnX x k)->T k)(hTl:Low T w')(hs:SrS T w' x.1 x.2.1 s' m')(hr:Rest x.2.1 s')(hz:w.heap.size<=w'.heap.size)(hk:∀y∈l,∀k,(OwnX y k\/y.2.1.kp k)->¬OwnX x k->w'.heap[k]?=w.heap[k]?):Pool w' (l.set i (x.1,x.2.1,m')):=by
 have aj:=(zE.1 hi).1;have ag:∀j,(l.set i (x.1,x.2.1,m'))[j]?=if i=j then some (x.1,x.2.1,m')else l[j]?:=fun j=>by
  rw[List.getElem?_set];simp[aj]
 have ah:=zC hi;have aa:∀y∈l.set i (x.1,x.2.1,m'),y=(x.1,x.2.1,m')\/∃j,j≠i/\l[j]?=some y:=fun y hy=>by
  obtain⟨j,hj⟩:=List.getElem?_of_mem hy;rw[ag]at hj;split at hj
  . injection hj with hj;exact .inl hj.symm
  . rename_i af;exact .inr ⟨j,fun e=>af e.symm,hj⟩
 have ae:∀ {y:Sx} {j:Nat},j≠i->l[j]?=some y->∀k,OwnX y k->T k:=fun {y j} af hj k hk2=>hT k ⟨h.own_lt (zC hj) hk2,fun h2=>h.apart j i y x hj hi af k hk2 h2⟩
 have ad:∀y∈l,∀k,y.2.1.kp k->T k:=fun y hy k hk2=>hT k ⟨h.kp_lt hy hk2,h.kp y hy x ah k hk2⟩
 have ab:∀k,OwnX (x.1,x.2.1,m') k->¬T k:=fun k hk2=>hs.own_no hk2
 refine⟨fun y hy=>?_,fun a b y z hy hz2 hab k h1 h2=>?_,fun y hy z hz2 k h1 h2=>?_⟩
 . rcases aa y hy with rfl|⟨j,af,hj⟩
   . exact⟨s',hs.keep (zD _) (fun k _ ho=>⟨fun h2=>h2.2 ho,rfl⟩) (fun _ _ _=>rfl) (fun k hkk=>⟨hTl k (hs.kS k hkk),fun ho=>ab k ho (hs.kS k hkk)⟩),hr⟩
   . have ac:=zC hj;obtain⟨s,ak,al⟩:=h.at_ y ac;exact⟨s,ak.keep hz (fun k _ ho=>⟨fun h2=>h2.2 ho,hk y ac k (.inl ho) (fun h2=>h.apart j i y x hj hi af k ho h2)⟩) (fun k _ hkk=>hk y ac k (.inr hkk) (h.kp y ac x ah k hkk)) (fun k hkk=>⟨zQ (h.kp_lt ac hkk) hz,h.kp y ac y ac k hkk⟩),al⟩
 . rw[ag]at hy hz2;split at hy
   . rename_i ea;injection hy with hy;subst hy;rw[if_neg (fun e=>hab (ea.symm.trans e))]at hz2;exact ab k h1 (ae (fun e=>hab (ea.symm.trans e.symm)) hz2 k h2)
   . rename_i ea;split at hz2
     . rename_i eb;injection hz2 with hz2;subst hz2;exact ab k h2 (ae (fun e=>ea e.symm) hy k h1)
     . exact h.apart a b y z hy hz2 hab k h1 h2
 . rcases aa z hz2 with rfl|⟨j,_,hj⟩
   . rcases aa y hy with rfl|⟨j2,_,ai⟩
     . exact ab k h2 (ad x ah k h1)
     . exact ab k h2 (ad y (zC ai) k h1)
   . rcases aa y hy with rfl|⟨j2,_,ai⟩
     . exact h.kp x ah z (zC hj) k h1 h2
     . exact h.kp y (zC ai) z (zC hj) k h1 h2
def QRow(B:Nat)(w:World)(v:Value)(L:List Nat):Prop:=
 (v=.slice none 0 0/\L=[])\/∃g off cap cur,v=.slice (some ⟨g,off,none⟩) L.length cap/\B<=g/\w.heap[g]?=some (.cells cur 3 (0,0))/\off+cap<=cur.size/\L.length<=cap/\∀(j:Nat) x,L[j]?=some x->cur[off+j]?=some (.int .i64 (x:Int))
theorem QRow.of_own{B:Nat}{w:World}{v:Value}{L:List Nat}(h:w.ownsRow B 3 1 v L.length (L.flatMap csI)):QRow B w v L:=by
 rcases h.2 with⟨e,h0⟩|⟨g,aa,ab,e1,e2,e3,e4,e5,e6,e7⟩
 . exact .inl ⟨e,yP.1 h0⟩
 . refine .inr ⟨g,0,aa,ab,e1,e2,e3,by omega,e4,fun j x hx=>?_⟩;have hj:=(zE.1 hx).1;have h8:(L.flatMap csI)[j]?=some (.int .i64 (x:Int)):=by
    rw[ja1,zI,zI,hx];rfl
   rw[<- e7,List.getElem?_take]at h8;split at h8
   . rw[Nat.zero_add,<- Array.getElem?_toList];exact h8
   . cases h8
theorem QRow.keep{B:Nat}{w w':World}{v:Value}{L:List Nat}(h:QRow B w v L)(hk:∀g,B<=g->(∃off n c,v=.slice (some ⟨g,off,none⟩) n c)->w'.heap[g]?=w.heap[g]?):QRow B w' v L:=by
 rcases h with h|⟨g,off,aa,ab,e1,e2,e3,e4,e5,e6⟩
 . exact .inl h
 . exact .inr ⟨g,off,aa,ab,e1,e2,(hk g e2 ⟨off,_,aa,e1⟩).trans e3,e4,e5,e6⟩
abbrev Sy:=Nat×Sd
def syOf(x:Sx):Sy:=(x.1,x.2.1)
structure NI (w0:World) (O F G:Nat->Prop) (v:Value) (ds:List Sy) (n:Nat) (c:Ch) (w:World) (l:List Sx) (Z:Nat->Prop) (rows:List (Value×List Nat)):Prop where
 pool:Pool w l
 like:l.map syOf=ds
 ch:ChO Z w v rows
 rc:rows.map (·.2)=c
 zl:Low Z w
 zu:∀k,Z k->∀x∈l,¬OwnX x k
 kv:∀x∈l,∀k,x.2.1.kp k->v.ownBlock≠some k
 cb:∀r∈rows,(∀u∈r.2,u<n)/\r.2.length<=10000
 fr:Fr F w0 w
 fo:∀k,F k->k<w.heap.size/\(∀x∈l,¬OwnX x k)/\v.ownBlock≠some k
 go:∀k,G k->k<w.heap.size/\(∀x∈l,¬OwnX x k)/\v.ownBlock≠some k/\¬Z k
 gk:∀k,G k->∀x∈l,¬x.2.1.kp k
 gf:∀k,G k->¬F k
 zo:∀k,Z k->k<w0.heap.size->O k
theorem NI.grow{w0:World}{O F G G':Nat->Prop}{v:Value}{ds:List Sy}{n:Nat}{c:Ch}{w w':World}{l:List Sx}{Z:Nat->Prop}{rows:List (Value×List Nat)}(h:NI w0 O F G v ds n c w l Z rows)(hz:w.heap.size<=w'.heap.size)(ho:w'.os=w.os)(ht:w'.tape=w.tape)(hu:w'.output=w.output)(hk:∀k,k<w.heap.size->¬G k->w'.heap[k]?=w.heap[k]?)(hG:∀k,G' k->G k\/(w.heap.size<=k/\k<w'.heap.size))(hF:∀k,F k->k<w0.heap.size)(hw0:w0.heap.size<=w.heap.size):NI w0 O F G' v ds n c w' l Z rows:=by
 have aa:∀x∈l,∀k,(OwnX x k\/x.2.1.kp k)->w'.heap[k]?=w.heap[k]?:=fun x hx k hk2=>by
  rcases hk2 with h1|h1
  . exact hk k (h.pool.own_lt hx h1) (fun hg=>(h.go k hg).2.1 x hx h1)
  . exact hk k (h.pool.kp_lt hx h1) (fun hg=>h.gk k hg x hx h1)
 have hZ:∀k,Z k->w'.heap[k]?=w.heap[k]?:=fun k hz2=>hk k (h.zl k hz2) (fun hg=>(h.go k hg).2.2.2 hz2)
 refine⟨h.pool.keep hz aa,h.like,⟨jae h.ch.row (fun g o hg ho2=>(hZ g (h.ch.own g hg)).trans ho2),h.ch.own,fun r hr=>(h.ch.ats r hr).keep hz (fun k hk2 _=>⟨hk2,hZ k hk2.1⟩)⟩,h.rc,fun k hk2=>zQ (h.zl k hk2) hz,h.zu,h.kv,h.cb,?_,fun k hk2=>⟨zQ (h.fo k hk2).1 hz,(h.fo k hk2).2⟩,fun k hk2=>?_,fun k hk2 x hx hkp=>?_,fun k hk2 hf=>?_,h.zo⟩
 . exact h.fr.trans ⟨ho,ht,hu,hz,fun k hk2=>hk k (h.fo k hk2).1 (fun hg=>h.gf k hg hk2)⟩
 . rcases hG k hk2 with h1|h1
   . obtain⟨a1,a2⟩:=h.go k h1;exact⟨zQ a1 hz,a2⟩
   . refine⟨h1.2,fun x hx ho2=>?_,fun e=>?_,fun hz2=>?_⟩
     . have:=h.pool.own_lt hx ho2;omega
     . have:=h.zl k (h.ch.own k e);omega
     . have:=h.zl k hz2;omega
 . rcases hG k hk2 with h1|h1
   . exact h.gk k h1 x hx hkp
   . have:=h.pool.kp_lt hx hkp;omega
 . rcases hG k hk2 with h1|h1
   . exact h.gf k h1 hf
   . have:=hF k hf;omega
theorem NI.strike{w0:World}{O F G:Nat->Prop}{v:Value}{ds:List Sy}{n:Nat}{c:Ch}{w:World}{l:List Sx}{Z:Nat->Prop}{rows:List (Value×List Nat)}(h:NI w0 O F G v ds n c w l Z rows)(hn:n<=10000)(hT:TabG w)(hF0:F 0){q:Nat}{sb:Nat}{d:Sd}(hq:ds[q]?=some (sb,d))(hdn:d.n=n)(hol:∀u,(d.out u).length<=1000000){a b:Nat}(ha:a<c.length)(hb:b<c.length){Q:Nat->Nat->Prop}(hQ:∀u x,u<n->x<n->(d.leads [u] x↔Q u x)):
 Calls Tryz.prog 99 #[v,.pointer (some ⟨sb,0,none⟩),.int .i64 (a:Int),.int .i64 (b:Int)] w fun e w'=>e=.returned (.bool (decide (((atC c b).filter (jbr c a Q)).length≠(atC c b).length)))/\(∃l' Z' rows',NI w0 O F G v ds n (jaC c a b Q) w' l' Z' rows')/\Fr G w w':=by
 have ap:∃x,l[q]?=some x/\syOf x=(sb,d):=by
  have h1:=h.like;rw[<- h1,zI]at hq;cases hx:l[q]? with
  |none=>rw[hx]at hq;simp at hq
  |some x=>rw[hx]at hq;exact⟨x,rfl,by simpa using hq⟩
 obtain⟨x,hx,ak⟩:=ap;obtain⟨xb,xd,xm⟩:=x;unfold syOf at ak;simp only[Prod.mk.injEq]at ak;obtain⟨rfl,rfl⟩:=ak;have ab:=zC hx;obtain⟨s,hs,hr⟩:=h.pool.at_ _ ab;dsimp only at hs hr;have hrl:rows.length=c.length:=by rw[<- h.rc,zH]
 obtain⟨ra,ag⟩:∃r,rows[a]?=some r:=⟨_,zB (by omega)⟩
 obtain⟨rb,ai⟩:∃r,rows[b]?=some r:=⟨_,zB (by omega)⟩
 have ao:atC c a=ra.2:=by unfold atC;rw[<- h.rc,List.getD,zI,ag];rfl
 have aj:atC c b=rb.2:=by unfold atC;rw[<- h.rc,List.getD,zI,ai];rfl
 have aq:∀k,Z k->k<w.heap.size/\¬OwnX (xb,xd,xm) k:=fun k hk=>⟨h.zl k hk,h.zu k hk _ ab⟩
 have au:(0:Nat)<w.heap.size/\¬OwnX (xb,xd,xm) 0:=⟨(h.fo 0 hF0).1,(h.fo 0 hF0).2.1 _ ab⟩
 have am:=jiq (P:=jbr c a Q) (S:=fun k=>k<w.heap.size/\¬OwnX (xb,xd,xm) k) hs (fun k hk=>hk.1) hr (by omega) hol hT au (h.fo 0 hF0).2.2 aq h.ch ag ai (fun r hr2=>by rw[hdn];exact h.cb r hr2) (fun x hx2=>by
  rw[jcN,ao,Sd.leads_any];rw[hdn]at hx2;constructor
  . rintro⟨u,hu,ah⟩;exact⟨u,hu,(hQ u x ((h.cb ra (zC ag)).1 u hu) hx2).2 ah⟩
  . rintro⟨u,hu,ah⟩;exact⟨u,hu,(hQ u x ((h.cb ra (zC ag)).1 u hu) hx2).1 ah⟩) (fun k hk=>h.kv _ ab k hk)
 refine am.mono ?_;rintro e w' ⟨he,T,s',m',rows',t1,t2,t3,t4,t5,t6,t7⟩;have hz:w.heap.size<=w'.heap.size:=t7.size;have an:=(zE.1 hx).1;have aa:∀y∈l.set q (xb,xd,m'),y=(xb,xd,m')\/∃j,j≠q/\l[j]?=some y:=fun y hy=>by
  obtain⟨j,hj⟩:=List.getElem?_of_mem hy;rw[List.getElem?_set]at hj;by_cases ej:q=j
  . rw[if_pos ej,if_pos (by omega)]at hj;injection hj with hj;exact .inl hj.symm
  . rw[if_neg ej]at hj;exact .inr ⟨j,fun e=>ej e.symm,hj⟩
 have ae:∀k,k<w.heap.size->(∀x∈l,¬OwnX x k)->∀y∈l.set q (xb,xd,m'),¬OwnX y k:=fun k hk1 hk2 y hy=>by
  rcases aa y hy with rfl|⟨j,_,hj⟩
  . exact fun ho=>t3.own_no ho (t1 k ⟨hk1,hk2 _ ab⟩)
  . exact hk2 y (zC hj)
 have ad:rows'.map (·.2)=jaC c a b Q:=by
  rw[t6,h.rc,jaC,aj]
 refine⟨by rw[he,aj],⟨l.set q (xb,xd,m'),fun k=>(Z k\/w.heap.size<=k)/\T k,rows',?_⟩,?_⟩
 . have af:=h.pool.turn hx (T:=T) (s':=s') (m':=m') (fun k hk=>t1 k hk) t2 t3 t4 hz (fun y hy k hk hnx=>t7.block k ⟨⟨hk.elim (h.pool.own_lt hy) (h.pool.kp_lt hy),hnx⟩,hk.elim (fun ho e=>h.zu k (h.ch.own k e) y hy ho) (fun hkp=>h.kv y hy k hkp)⟩);refine⟨af,?_,t5,ad,fun k hk=>t2 k hk.2,fun k hk y hy=>?_,fun y hy k hk=>?_,fun r hr2=>?_,?_,fun k hk=>?_,fun k hk=>?_,fun k hk y hy hkp=>?_,h.gf,fun k hk hk0=>hk.1.elim (fun h1=>h.zo k h1 hk0) (fun h1=>absurd (zQ hk0 h.fr.size) (by omega))⟩
   . rw[List.map_set,<- h.like];apply List.ext_getElem?;intro j;rw[List.getElem?_set];by_cases ej:q=j
     . subst ej;rw[if_pos rfl,if_pos (by rw[zH];exact an),zI,hx];rfl
     . rw[if_neg ej]
   . rcases aa y hy with rfl|⟨j,al,ac⟩
     . exact fun ho=>t3.own_no ho hk.2
     . rcases hk.1 with h1|h1
       . exact h.zu k h1 y (zC ac)
       . exact fun ho=>by have:=h.pool.own_lt (zC ac) ho;omega
   . rcases aa y hy with rfl|⟨j,al,ac⟩
     . exact h.kv _ ab k hk
     . exact h.kv y (zC ac) k hk
   . have h1:r.2∈jaC c a b Q:=by rw[<- ad];exact zW hr2
     rcases List.mem_or_eq_of_mem_set h1 with h2|h2
     . rw[<- h.rc]at h2;obtain⟨r0,ar,e0⟩:=zV.1 h2;rw[<- e0];exact h.cb r0 ar
     . rw[h2,aj];have h3:=h.cb rb (zC ai);exact⟨fun u hu=>h3.1 u (zY.1 hu).1,zT (yH _ _) h3.2⟩
   . exact h.fr.trans ⟨t7.os,t7.tape,t7.output,t7.size,fun k hk=>t7.block k ⟨⟨(h.fo k hk).1,(h.fo k hk).2.1 _ ab⟩,(h.fo k hk).2.2⟩⟩
   . obtain⟨a1,a2,a3⟩:=h.fo k hk;exact⟨zQ a1 hz,ae k a1 a2,a3⟩
   . obtain⟨a1,a2,a3,a4⟩:=h.go k hk;refine⟨zQ a1 hz,ae k a1 a2,a3,fun hz2=>?_⟩;rcases hz2.1 with h1|h1
     . exact a4 h1
     . omega
   . rcases aa y hy with rfl|⟨j,al,ac⟩
     . exact h.gk k hk _ ab hkp
     . exact h.gk k hk y (zC ac) hkp
 . exact⟨t7.os,t7.tape,t7.output,t7.size,fun k hk=>t7.block k ⟨⟨(h.go k hk).1,(h.go k hk).2.1 _ ab⟩,(h.go k hk).2.2.1⟩⟩
def QB(u:Value)(k:Nat):Prop:=∃off n c,u=.slice (some ⟨k,off,none⟩) n c
theorem QRow.lt{B:Nat}{w:World}{u:Value}{L:List Nat}(h:QRow B w u L){k:Nat}(hk:QB u k):B<=k/\k<w.heap.size:=by
 obtain⟨off,n,c,e⟩:=hk;rcases h with⟨h1,_⟩|⟨g,off2,cap,cur,e1,e2,e3,_⟩
 . rw[h1]at e;cases e
 . rw[e1]at e;injection e with e;injection e with e;injection e with e;subst e;exact⟨e2,lt_of_block e3⟩
def QExt(u u':Value)(n:Nat):Prop:=∀k,QB u k->QB u' k->∃off c,u=.slice (some ⟨k,off,none⟩) n c/\u'=.slice (some ⟨k,off,none⟩) (n+1) c
theorem jck{ops:Array Oper}{rest:List Oper}{o:Oper}{a:Act}{Qx:Exit->Act->World->Prop}{w:World}(hgd:o.guard=none)(s x:Operand)(ho:o.op=.call { callee:=.builtin .append,args:=#[s,x],argTypes:=#[59,59] })
 {B:Nat} {u:Value} {L:List Nat} (hs:a.eval s=u) (hq:QRow B w u L) (hL:L.length<=1000000000) (ad:Addr) (c y:Nat) (hx:a.eval x=.slice (some ad) 1 c) (hy:w.cell? ad=some (.int .i64 (y:Int))) (hB:B<=w.heap.size)
 (h:∀u' w',QRow B w' u' (L++[y])->QRow B w' u L->w.heap.size<=w'.heap.size->w'.os=w.os->w'.tape=w.tape->w'.output=w.output->(∀k,k<w.heap.size->¬QB u k->w'.heap[k]?=w.heap[k]?)->(∀k,QB u' k->QB u k\/(w.heap.size<=k/\k<w'.heap.size))->QExt u u' L.length->wpList Tryz.prog ops Qx rest (a.put o.dst u') w'):wpList Tryz.prog ops Qx (o::rest) a w:=by
 obtain⟨i0,al,ao,ap,an⟩:=jal jcY;have ac:∀(j:Nat) v,(csI y)[j]?=some v->w.cell? (ad.add j)=some v:=fun j v hj=>by
  have:j=0:=by have:=(zE.1 hj).1;simp at this;exact this
  subst this;simp at hj;subst hj;exact hy
 have ai:(L++[y]).flatMap csI=L.flatMap csI++csI y:=by rw[zP];rfl
 have ab:∀v' w',w'.ownsRow w.heap.size 3 1 v' (L.length+1) (L.flatMap csI++csI y)->w.grownBy w' none->wpList Tryz.prog ops Qx rest (a.put o.dst v') w':=fun v' w' h1 h2=>by
  have h3:w'.ownsRow w.heap.size 3 1 v' (L++[y]).length ((L++[y]).flatMap csI):=by rw[ai,zG];exact h1
  have ag:=QRow.of_own h3;refine h v' w' ?_ (hq.keep (fun g hg1 hg2=>h2.block g (hq.lt hg2).2 (by simp))) h2.size h2.os h2.tape h2.output (fun k hk _=>h2.block k hk (by simp)) (fun k hk=>.inr (ag.lt hk)) (fun k h1 h2=>by have:=(hq.lt h1).2;have:=(ag.lt h2).1;omega);rcases ag with ag|⟨g,aa,ae,ah,e1,e2,e3⟩
  . exact .inl ag
  . exact .inr ⟨g,aa,ae,ah,e1,by omega,e3⟩
 have au:=hq;rcases au with⟨e,ar⟩|⟨g,aa,ae,ah,e1,e2,e3,e4,e5,e6⟩
 . subst ar;exact wpList_append_grows w hgd s x 59 ho 3 i0 _ 1 8 Tryz.underlying59 al ao ap an rfl (by decide) none 0 0 [] (by rw[hs,e]) (fun _=>⟨rfl,rfl⟩) (by simp) (by simp) ad 1 c (csI y) hx rfl ac (by simp[Value.oneCell']) (by omega) (by unfold maxLen;omega) (by omega) (fun v' w' h1 h2=>ab v' w' (by simpa using h1) h2)
 . have af:∀j v,(L.flatMap csI)[j]?=some v->w.cell? ⟨g,aa+j,none⟩=some v:=fun j v hj=>by
    rw[ja1,zI,zI]at hj;cases hLj:L[j]? with
    |none=>rw[hLj]at hj;simp at hj
    |some z=>
     rw[hLj]at hj;simp at hj;subst hj;simp only[World.cell?,e3];exact e6 j z hLj
   refine wpList_append_arg w hgd s x 59 ho 3 i0 _ 1 8 Tryz.underlying59 al ao ap an rfl (by decide) g aa L.length ae (L.flatMap csI) (by rw[hs,e1]) (by rw[jgr];omega) af ad 1 c (csI y) hx rfl ac (by simp[Value.oneCell']) (fun hroom j hj=>?_) (by unfold maxLen;omega) (by omega) (fun hroom=>?_) (fun hfull v' w' h1 h2=>ab v' w' h1 h2)
   . have av:j=0:=by simp at hj;exact hj
     subst av;have hb:aa+L.length*1+0<ah.size:=by omega
     constructor
     . simp only[World.cell?,e3];rw[Array.getElem?_eq_getElem hb];rfl
     . simp[World.frozen?,e3]
   . have ak:(w.setCells g (aa+L.length*1) (csI y))=w.setCell ⟨g,aa+L.length*1,none⟩ (.int .i64 (y:Int)):=rfl;rw[ak];have am:(w.setCell ⟨g,aa+L.length*1,none⟩ (.int .i64 (y:Int))).heap[g]?=some (.cells (ah.setIfInBounds (aa+L.length) (.int .i64 (y:Int))) 3 (0,0)):=by
      simp[World.setCell,Array.getElem?_modify,e3]
     refine h _ _ (.inr ⟨g,aa,ae,_,by rw[zG];rfl,e2,am,by simpa using e4,by rw[zG];simpa using hroom,fun j z hz=>?_⟩) (.inr ⟨g,aa,ae,_,e1,e2,am,by simpa using e4,e5,fun j z hz=>by rw[Array.getElem?_setIfInBounds,if_neg (by have:=(zE.1 hz).1;omega)];exact e6 j z hz⟩) (by simp) rfl rfl rfl (fun k hk hne=>zM _ _ _ _ (fun e=>hne ⟨aa,L.length,ae,by rw[e1,show k=g from e]⟩)) (fun k hk=>.inl ?_) (fun k h1 _=>?_)
     . rw[Array.getElem?_setIfInBounds];by_cases ej:j=L.length
       . subst ej;rw[yM (zD _)]at hz;simp at hz;subst hz;rw[if_pos rfl,if_pos (by omega)]
       . have aq:j<L.length:=by
          have:=(zE.1 hz).1;simp at this;omega
         rw[yJ aq]at hz;rw[if_neg (by omega)];exact e6 j z hz
     . obtain⟨aj,n3,c3,e7⟩:=hk;injection e7 with e7;injection e7 with e7;injection e7 with e7;subst e7;exact⟨aa,L.length,ae,e1⟩
     . obtain⟨aj,n3,c3,e7⟩:=h1;rw[e1]at e7;injection e7 with e7 e8 e9;injection e7 with e7;injection e7 with e7 e10;subst e7;exact⟨aa,ae,e1,rfl⟩
theorem jbf{ops:Array Oper}{rest:List Oper}{o:Oper}{a:Act}{Qx:Exit->Act->World->Prop}{w:World}(hgd:o.guard=none)(s x:Operand)(ho:o.op=.call { callee:=.builtin .append,args:=#[s,x],argTypes:=#[59,59] })
 {B:Nat} {u:Value} {L:List Nat} (hs:a.eval s=u) (hq:QRow B w u L) (hL:L.length<=1000000000) (ad:Addr) (c y:Nat) (hx:a.eval x=.slice (some ad) 1 c) (hy:w.cell? ad=some (.int .i64 (y:Int))) (hB:B<=w.heap.size)
 (h:∀u' w',QRow B w' u' (L++[y])->w.heap.size<=w'.heap.size->w'.os=w.os->w'.tape=w.tape->w'.output=w.output->(∀k,k<w.heap.size->¬QB u k->w'.heap[k]?=w.heap[k]?)->(∀k,QB u' k->QB u k\/(w.heap.size<=k/\k<w'.heap.size))->wpList Tryz.prog ops Qx rest (a.put o.dst u') w'):wpList Tryz.prog ops Qx (o::rest) a w:=
 jck hgd s x ho hs hq hL ad c y hx hy hB (fun u' w' a1 _ a2 a3 a4 a5 a6 a7 _=>h u' w' a1 a2 a3 a4 a5 a6 a7)
theorem jdC{S:Nat->Prop}{w:World}{v:Value}{L:List Nat}(h:NatS S w v L)(hne:L≠[])(hL:L.length<=1000000000):
 Calls Tryz.prog 98 #[v] w fun e w'=>∃v',e=.returned v'/\w'.ownsRow w.heap.size 3 1 v' L.length (L.flatMap csI)/\Below w.heap.size w w':=by
 obtain⟨i0,af,ag,ai,ae⟩:=jal jcY;obtain⟨ao,ac,e,h⟩:=h;subst e;have ah:∀w,(Go.sizeOf 3).run Tryz.prog w=.ok 1 w:=fun w=>by kernel_rfl
 cases ao with
 |none=>
  rcases h with h|⟨g,aa,e,_⟩
  . exact absurd h hne
  . cases e
 |some ad=>
  have ab:∃g aa,ad=⟨g,aa,none⟩/\∀j u,(L.flatMap csI)[j]?=some u->w.cell? ⟨g,aa+j,none⟩=some u:=by
   rcases h with h|⟨g,aa,e,_,_,hc⟩
   . exact absurd h hne
   . injection e with e;refine⟨g,aa,e,fun j u hj=>?_⟩;rw[ja1,zI,zI]at hj;cases hLj:L[j]? with
     |none=>rw[hLj]at hj;simp at hj
     |some z=>
      rw[hLj]at hj;simp at hj;subst hj;have:=hc j z hLj 0 _ rfl;rw[yC,yA]at this;exact this
  obtain⟨g,aa,rfl,hc⟩:=ab;refine(Tryz.slices_Clone_f98 i0 _ 1 8 af ag ai ae rfl (by decide) ah g aa L.length ac (L.flatMap csI) w (by rw[jgr];omega) (by unfold maxLen;omega) (by omega) hc (fun u hu=>by
   rw[ja1]at hu;obtain⟨z,_,rfl⟩:=zV.1 hu;rfl)).mono ?_
  rintro e w' ⟨v',rfl,h1,_,h2⟩;exact⟨v',rfl,h1,h2⟩
abbrev Lm:=Nat×Nat×Nat×Nat
abbrev csL(x:Lm):List Value:=[.int .i64 (x.1:Int),.int .i64 (x.2.1:Int),.pointer (some ⟨x.2.2.1,0,none⟩),.pointer (some ⟨x.2.2.2,0,none⟩)]
theorem jhh(x:Lm):(csL x).length=4:=rfl
structure jhj (ds:List Sy) (n q sb:Nat) (Q:Nat->Nat->Prop):Prop where
 ex:∃d,ds[q]?=some (sb,d)/\d.n=n/\(∀u,(d.out u).length<=1000000)/\∀u x,u<n->x<n->(d.leads [u] x↔Q u x)
structure jbE (ds:List Sy) (n m:Nat) (lks:List Lm) (ls:List Lk):Prop where
 len:ls.length=lks.length
 at_:∀(i:Nat) L l,lks[i]?=some L->ls[i]?=some l->l.fr=L.1/\l.to=L.2.1/\L.1≠L.2.1/\L.1<m/\L.2.1<m/\jhj ds n (2*i) L.2.2.1 l.R/\jhj ds n (2*i+1) L.2.2.2 (fun v u=>l.R u v)
def NarE(w:World)(O F:Nat->Prop)(v:Value)(ds:List Sy)(n:Nat)(c:Ch)(e:Ending)(w':World):Prop:=
 e=.returned (.tuple #[])/\∃l' Z' rows',NI w O F (fun _=>False) v ds n c w' l' Z' rows'
theorem NI.some_strike{w0:World}{O F G:Nat->Prop}{v:Value}{ds:List Sy}{n:Nat}{c:Ch}{w:World}{l:List Sx}{Z:Nat->Prop}{rows:List (Value×List Nat)}(h:NI w0 O F G v ds n c w l Z rows)(hn:n<=10000)(hT:TabG w)(hF0:F 0){q sb:Nat}{Q:Nat->Nat->Prop}(hs:jhj ds n q sb Q){a b:Nat}(ha:a<c.length)(hb:b<c.length):
 Calls Tryz.prog 99 #[v,.pointer (some ⟨sb,0,none⟩),.int .i64 (a:Int),.int .i64 (b:Int)] w fun e w'=>e=.returned (.bool (decide (((atC c b).filter (jbr c a Q)).length≠(atC c b).length)))/\(∃l' Z' rows',NI w0 O F G v ds n (jaC c a b Q) w' l' Z' rows')/\Fr G w w':=by
 obtain⟨d,h1,h2,h3,h4⟩:=hs.ex;exact h.strike hn hT hF0 h1 h2 h3 ha hb h4
theorem je8(c:Ch)(a b:Nat)(Q:Nat->Nat->Prop):(jaC c a b Q).length=c.length:=by rw[jaC,List.length_set]
end Go.Proofs.YtkbgmcmcpbegjaaGreatDoor
