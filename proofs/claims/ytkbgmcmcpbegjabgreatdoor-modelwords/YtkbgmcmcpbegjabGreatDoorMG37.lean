/- XNi, XQueue, XNarrow. -/
import Derived.Test.YtkbgmcmcpbegjabGreatDoorMG36
set_option maxRecDepth 100000
namespace Go.Proofs.YtkbgmcmcpbegjabGreatDoor
open Go.RowKit Go.Shelf
abbrev Sy:=Nat×Sd
def syOf(x:Sx):Sy:=(x.1,x.2.1)
structure NI (w0:World) (O F G:Nat->Prop) (v:Value) (ds:List Sy) (n:Nat) (c:Ch) (w:World) (l:List Sx) (Z:Nat->Prop) (rows:List (Value×List Nat)):Prop where
 pool:Pool w l
 like:l.map syOf=ds
 ch:ChO Z w v rows
 rc:rows.map (·.2)=c
 zl:Low Z w
 zu:∀k,Z k->∀x∈l,¬OwnX x k
 kv:∀x∈l,∀k,x.2.1.kp k->v.ownBlock≠some k
 cb:∀r∈rows,(∀u∈r.2,u<n)/\r.2.length<=10000
 fr:Fr F w0 w
 fo:∀k,F k->k<w.heap.size/\(∀x∈l,¬OwnX x k)/\v.ownBlock≠some k
 go:∀k,G k->k<w.heap.size/\(∀x∈l,¬OwnX x k)/\v.ownBlock≠some k/\¬Z k
 gk:∀k,G k->∀x∈l,¬x.2.1.kp k
 gf:∀k,G k->¬F k
 zo:∀k,Z k->k<w0.heap.size->O k
theorem NI.grow{w0:World}{O F G G':Nat->Prop}{v:Value}{ds:List Sy}{n:Nat}{c:Ch}{w w':World}{l:List Sx}{Z:Nat->Prop}{rows:List (Value×List Nat)}(h:NI w0 O F G v ds n c w l Z rows)(hz:w.heap.size<=w'.heap.size)(ho:w'.os=w.os)(ht:w'.tape=w.tape)(hu:w'.output=w.output)(hk:∀k,k<w.heap.size->¬G k->w'.heap[k]?=w.heap[k]?)(hG:∀k,G' k->G k\/(w.heap.size<=k/\k<w'.heap.size))(hF:∀k,F k->k<w0.heap.size)(hw0:w0.heap.size<=w.heap.size):NI w0 O F G' v ds n c w' l Z rows:=by
 have hown:∀x∈l,∀k,(OwnX x k\/x.2.1.kp k)->w'.heap[k]?=w.heap[k]?:=fun x hx k hk2=>by
  rcases hk2 with h1|h1
  . exact hk k (h.pool.own_lt hx h1) (fun hg=>(h.go k hg).2.1 x hx h1)
  . exact hk k (h.pool.kp_lt hx h1) (fun hg=>h.gk k hg x hx h1)
 have hZ:∀k,Z k->w'.heap[k]?=w.heap[k]?:=fun k hz2=>hk k (h.zl k hz2) (fun hg=>(h.go k hg).2.2.2 hz2)
 refine⟨h.pool.keep hz hown,h.like,⟨owns_key h.ch.row (fun g o hg ho2=>(hZ g (h.ch.own g hg)).trans ho2),h.ch.own,fun r hr=>(h.ch.ats r hr).keep hz (fun k hk2 _=>⟨hk2,hZ k hk2.1⟩)⟩,h.rc,fun k hk2=>zO (h.zl k hk2) hz,h.zu,h.kv,h.cb,?_,fun k hk2=>⟨zO (h.fo k hk2).1 hz,(h.fo k hk2).2⟩,fun k hk2=>?_,fun k hk2 x hx hkp=>?_,fun k hk2 hf=>?_,h.zo⟩
 . exact h.fr.trans ⟨ho,ht,hu,hz,fun k hk2=>hk k (h.fo k hk2).1 (fun hg=>h.gf k hg hk2)⟩
 . rcases hG k hk2 with h1|h1
   . obtain⟨a1,a2⟩:=h.go k h1;exact⟨zO a1 hz,a2⟩
   . refine⟨h1.2,fun x hx ho2=>?_,fun e=>?_,fun hz2=>?_⟩
     . have:=h.pool.own_lt hx ho2;omega
     . have:=h.zl k (h.ch.own k e);omega
     . have:=h.zl k hz2;omega
 . rcases hG k hk2 with h1|h1
   . exact h.gk k h1 x hx hkp
   . have:=h.pool.kp_lt hx hkp;omega
 . rcases hG k hk2 with h1|h1
   . exact h.gf k h1 hf
   . have:=hF k hf;omega
theorem NI.strike{w0:World}{O F G:Nat->Prop}{v:Value}{ds:List Sy}{n:Nat}{c:Ch}{w:World}{l:List Sx}{Z:Nat->Prop}{rows:List (Value×List Nat)}(h:NI w0 O F G v ds n c w l Z rows)(hn:n<=10000)(hT:TabG w)(hF0:F 0){q:Nat}{sb:Nat}{d:Sd}(hq:ds[q]?=some (sb,d))(hdn:d.n=n)(hol:∀u,(d.out u).length<=1000000){a b:Nat}(ha:a<c.length)(hb:b<c.length){Q:Nat->Nat->Prop}(hQ:∀u x,u<n->x<n->(d.leads [u] x↔Q u x)):
 Calls Tryz.prog 67 #[v,.pointer (some ⟨sb,0,none⟩),.int .i64 (a:Int),.int .i64 (b:Int)] w fun e w'=>e=.returned (.bool (decide (((atC c b).filter (leadB1 c a Q)).length≠(atC c b).length)))/\(∃l' Z' rows',NI w0 O F G v ds n (strikeC c a b Q) w' l' Z' rows')/\Fr G w w':=by
 have hql:∃x,l[q]?=some x/\syOf x=(sb,d):=by
  have h1:=h.like;rw[<- h1,zI]at hq;cases hx:l[q]? with
  |none=>rw[hx]at hq;simp at hq
  |some x=>rw[hx]at hq;exact⟨x,rfl,by simpa using hq⟩
 obtain⟨x,hx,hxe⟩:=hql;obtain⟨xb,xd,xm⟩:=x;unfold syOf at hxe;simp only[Prod.mk.injEq]at hxe;obtain⟨rfl,rfl⟩:=hxe;have hxm:=zC hx;obtain⟨s,hs,hr⟩:=h.pool.at_ _ hxm;dsimp only at hs hr;have hrl:rows.length=c.length:=by rw[<- h.rc,zH]
 obtain⟨ra,hra⟩:∃r,rows[a]?=some r:=⟨_,zB (by omega)⟩
 obtain⟨rb,hrb⟩:∃r,rows[b]?=some r:=⟨_,zB (by omega)⟩
 have hca:atC c a=ra.2:=by unfold atC;rw[<- h.rc,List.getD,zI,hra];rfl
 have hcb:atC c b=rb.2:=by unfold atC;rw[<- h.rc,List.getD,zI,hrb];rfl
 have hZS:∀k,Z k->k<w.heap.size/\¬OwnX (xb,xd,xm) k:=fun k hk=>⟨h.zl k hk,h.zu k hk _ hxm⟩
 have hS0:(0:Nat)<w.heap.size/\¬OwnX (xb,xd,xm) 0:=⟨(h.fo 0 hF0).1,(h.fo 0 hF0).2.1 _ hxm⟩
 have hst:=strike_any (P:=leadB1 c a Q) (S:=fun k=>k<w.heap.size/\¬OwnX (xb,xd,xm) k) hs (fun k hk=>hk.1) hr (by omega) hol hT hS0 (h.fo 0 hF0).2.2 hZS h.ch hra hrb (fun r hr2=>by rw[hdn];exact h.cb r hr2) (fun x hx2=>by
  rw[leadB1_iff,hca,Sd.leads_any];rw[hdn]at hx2;constructor
  . rintro⟨u,hu,hq2⟩;exact⟨u,hu,(hQ u x ((h.cb ra (zC hra)).1 u hu) hx2).2 hq2⟩
  . rintro⟨u,hu,hq2⟩;exact⟨u,hu,(hQ u x ((h.cb ra (zC hra)).1 u hu) hx2).1 hq2⟩) (fun k hk=>h.kv _ hxm k hk)
 refine hst.mono ?_;rintro e w' ⟨he,T,s',m',rows',t1,t2,t3,t4,t5,t6,t7⟩;have hz:w.heap.size<=w'.heap.size:=t7.size;have hil:=(zE.1 hx).1;have hcase:∀y∈l.set q (xb,xd,m'),y=(xb,xd,m')\/∃j,j≠q/\l[j]?=some y:=fun y hy=>by
  obtain⟨j,hj⟩:=List.getElem?_of_mem hy;rw[List.getElem?_set]at hj;by_cases ej:q=j
  . rw[if_pos ej,if_pos (by omega)]at hj;injection hj with hj;exact .inl hj.symm
  . rw[if_neg ej]at hj;exact .inr ⟨j,fun e=>ej e.symm,hj⟩
 have hnot:∀k,k<w.heap.size->(∀x∈l,¬OwnX x k)->∀y∈l.set q (xb,xd,m'),¬OwnX y k:=fun k hk1 hk2 y hy=>by
  rcases hcase y hy with rfl|⟨j,_,hj⟩
  . exact fun ho=>t3.own_no ho (t1 k ⟨hk1,hk2 _ hxm⟩)
  . exact hk2 y (zC hj)
 have hrl':rows'.map (·.2)=strikeC c a b Q:=by
  rw[t6,h.rc,strikeC,hcb]
 refine⟨by rw[he,hcb],⟨l.set q (xb,xd,m'),fun k=>(Z k\/w.heap.size<=k)/\T k,rows',?_⟩,?_⟩
 . have hpool:=h.pool.turn hx (T:=T) (s':=s') (m':=m') (fun k hk=>t1 k hk) t2 t3 t4 hz (fun y hy k hk hnx=>t7.block k ⟨⟨hk.elim (h.pool.own_lt hy) (h.pool.kp_lt hy),hnx⟩,hk.elim (fun ho e=>h.zu k (h.ch.own k e) y hy ho) (fun hkp=>h.kv y hy k hkp)⟩);refine⟨hpool,?_,t5,hrl',fun k hk=>t2 k hk.2,fun k hk y hy=>?_,fun y hy k hk=>?_,fun r hr2=>?_,?_,fun k hk=>?_,fun k hk=>?_,fun k hk y hy hkp=>?_,h.gf,fun k hk hk0=>hk.1.elim (fun h1=>h.zo k h1 hk0) (fun h1=>absurd (zO hk0 h.fr.size) (by omega))⟩
   . rw[List.map_set,<- h.like];apply List.ext_getElem?;intro j;rw[List.getElem?_set];by_cases ej:q=j
     . subst ej;rw[if_pos rfl,if_pos (by rw[zH];exact hil),zI,hx];rfl
     . rw[if_neg ej]
   . rcases hcase y hy with rfl|⟨j,hj1,hj2⟩
     . exact fun ho=>t3.own_no ho hk.2
     . rcases hk.1 with h1|h1
       . exact h.zu k h1 y (zC hj2)
       . exact fun ho=>by have:=h.pool.own_lt (zC hj2) ho;omega
   . rcases hcase y hy with rfl|⟨j,hj1,hj2⟩
     . exact h.kv _ hxm k hk
     . exact h.kv y (zC hj2) k hk
   . have h1:r.2∈strikeC c a b Q:=by rw[<- hrl'];exact zV hr2
     rcases List.mem_or_eq_of_mem_set h1 with h2|h2
     . rw[<- h.rc]at h2;obtain⟨r0,hr0,e0⟩:=zS.1 h2;rw[<- e0];exact h.cb r0 hr0
     . rw[h2,hcb];have h3:=h.cb rb (zC hrb);exact⟨fun u hu=>h3.1 u (zW.1 hu).1,zQ (yC _ _) h3.2⟩
   . exact h.fr.trans ⟨t7.os,t7.tape,t7.output,t7.size,fun k hk=>t7.block k ⟨⟨(h.fo k hk).1,(h.fo k hk).2.1 _ hxm⟩,(h.fo k hk).2.2⟩⟩
   . obtain⟨a1,a2,a3⟩:=h.fo k hk;exact⟨zO a1 hz,hnot k a1 a2,a3⟩
   . obtain⟨a1,a2,a3,a4⟩:=h.go k hk;refine⟨zO a1 hz,hnot k a1 a2,a3,fun hz2=>?_⟩;rcases hz2.1 with h1|h1
     . exact a4 h1
     . omega
   . rcases hcase y hy with rfl|⟨j,hj1,hj2⟩
     . exact h.gk k hk _ hxm hkp
     . exact h.gk k hk y (zC hj2) hkp
 . exact⟨t7.os,t7.tape,t7.output,t7.size,fun k hk=>t7.block k ⟨⟨(h.go k hk).1,(h.go k hk).2.1 _ hxm⟩,(h.go k hk).2.2.1⟩⟩
def QB(u:Value)(k:Nat):Prop:=∃off n c,u=.slice (some ⟨k,off,none⟩) n c
theorem QRow.lt{B:Nat}{w:World}{u:Value}{L:List Nat}(h:QRow B w u L){k:Nat}(hk:QB u k):B<=k/\k<w.heap.size:=by
 obtain⟨off,n,c,e⟩:=hk;rcases h with⟨h1,_⟩|⟨g,off2,cap,cur,e1,e2,e3,_⟩
 . rw[h1]at e;cases e
 . rw[e1]at e;injection e with e;injection e with e;injection e with e;subst e;exact⟨e2,lt_of_block e3⟩
def QExt(u u':Value)(n:Nat):Prop:=∀k,QB u k->QB u' k->∃off c,u=.slice (some ⟨k,off,none⟩) n c/\u'=.slice (some ⟨k,off,none⟩) (n+1) c
theorem wpList_append_q2{ops:Array Oper}{rest:List Oper}{o:Oper}{a:Act}{Qx:Exit->Act->World->Prop}{w:World}(hgd:o.guard=none)(s x:Operand)(ho:o.op=.call { callee:=.builtin .append,args:=#[s,x],argTypes:=#[63,63] })
 {B:Nat} {u:Value} {L:List Nat} (hs:a.eval s=u) (hq:QRow B w u L) (hL:L.length<=1000000000) (ad:Addr) (c y:Nat) (hx:a.eval x=.slice (some ad) 1 c) (hy:w.cell? ad=some (.int .i64 (y:Int))) (hB:B<=w.heap.size)
 (h:∀u' w',QRow B w' u' (L++[y])->QRow B w' u L->w.heap.size<=w'.heap.size->w'.os=w.os->w'.tape=w.tape->w'.output=w.output->(∀k,k<w.heap.size->¬QB u k->w'.heap[k]?=w.heap[k]?)->(∀k,QB u' k->QB u k\/(w.heap.size<=k/\k<w'.heap.size))->QExt u u' L.length->wpList Tryz.prog ops Qx rest (a.put o.dst u') w'):wpList Tryz.prog ops Qx (o::rest) a w:=by
 obtain⟨i0,hi0,hz0,hz1,hz2⟩:=info_partsG infoZG;have hnews:∀(j:Nat) v,(csI y)[j]?=some v->w.cell? (ad.add j)=some v:=fun j v hj=>by
  have:j=0:=by have:=(zE.1 hj).1;simp at this;exact this
  subst this;simp at hj;subst hj;exact hy
 have hlen:(L++[y]).flatMap csI=L.flatMap csI++csI y:=by rw[zT];rfl
 have hgrown:∀v' w',w'.ownsRow w.heap.size 3 1 v' (L.length+1) (L.flatMap csI++csI y)->w.grownBy w' none->wpList Tryz.prog ops Qx rest (a.put o.dst v') w':=fun v' w' h1 h2=>by
  have h3:w'.ownsRow w.heap.size 3 1 v' (L++[y]).length ((L++[y]).flatMap csI):=by rw[hlen,zG];exact h1
  have hq':=QRow.of_own h3;refine h v' w' ?_ (hq.keep (fun g hg1 hg2=>h2.block g (hq.lt hg2).2 (by simp))) h2.size h2.os h2.tape h2.output (fun k hk _=>h2.block k hk (by simp)) (fun k hk=>.inr (hq'.lt hk)) (fun k h1 h2=>by have:=(hq.lt h1).2;have:=(hq'.lt h2).1;omega);rcases hq' with hq'|⟨g,off,cap,cur,e1,e2,e3⟩
  . exact .inl hq'
  . exact .inr ⟨g,off,cap,cur,e1,by omega,e3⟩
 have hq0:=hq;rcases hq0 with⟨e,hL0⟩|⟨g,off,cap,cur,e1,e2,e3,e4,e5,e6⟩
 . subst hL0;exact wpList_append_grows w hgd s x 63 ho 3 i0 _ 1 8 Tryz.underlying63 hi0 hz0 hz1 hz2 rfl (by decide) none 0 0 [] (by rw[hs,e]) (fun _=>⟨rfl,rfl⟩) (by simp) (by simp) ad 1 c (csI y) hx rfl hnews (by simp[Value.oneCell']) (by omega) (by unfold maxLen;omega) (by omega) (fun v' w' h1 h2=>hgrown v' w' (by simpa using h1) h2)
 . have hcell:∀j v,(L.flatMap csI)[j]?=some v->w.cell? ⟨g,off+j,none⟩=some v:=fun j v hj=>by
    rw[flat_mapI,zI,zI]at hj;cases hLj:L[j]? with
    |none=>rw[hLj]at hj;simp at hj
    |some z=>
     rw[hLj]at hj;simp at hj;subst hj;simp only[World.cell?,e3];exact e6 j z hLj
   refine wpList_append_arg w hgd s x 63 ho 3 i0 _ 1 8 Tryz.underlying63 hi0 hz0 hz1 hz2 rfl (by decide) g off L.length cap (L.flatMap csI) (by rw[hs,e1]) (by rw[flatI_len];omega) hcell ad 1 c (csI y) hx rfl hnews (by simp[Value.oneCell']) (fun hroom j hj=>?_) (by unfold maxLen;omega) (by omega) (fun hroom=>?_) (fun hfull v' w' h1 h2=>hgrown v' w' h1 h2)
   . have hj0:j=0:=by simp at hj;exact hj
     subst hj0;have hb:off+L.length*1+0<cur.size:=by omega
     constructor
     . simp only[World.cell?,e3];rw[Array.getElem?_eq_getElem hb];rfl
     . simp[World.frozen?,e3]
   . have hset:(w.setCells g (off+L.length*1) (csI y))=w.setCell ⟨g,off+L.length*1,none⟩ (.int .i64 (y:Int)):=rfl;rw[hset];have hhb:(w.setCell ⟨g,off+L.length*1,none⟩ (.int .i64 (y:Int))).heap[g]?=some (.cells (cur.setIfInBounds (off+L.length) (.int .i64 (y:Int))) 3 (0,0)):=by
      simp[World.setCell,Array.getElem?_modify,e3]
     refine h _ _ (.inr ⟨g,off,cap,_,by rw[zG];rfl,e2,hhb,by simpa using e4,by rw[zG];simpa using hroom,fun j z hz=>?_⟩) (.inr ⟨g,off,cap,_,e1,e2,hhb,by simpa using e4,e5,fun j z hz=>by rw[Array.getElem?_setIfInBounds,if_neg (by have:=(zE.1 hz).1;omega)];exact e6 j z hz⟩) (by simp) rfl rfl rfl (fun k hk hne=>zL _ _ _ _ (fun e=>hne ⟨off,L.length,cap,by rw[e1,show k=g from e]⟩)) (fun k hk=>.inl ?_) (fun k h1 _=>?_)
     . rw[Array.getElem?_setIfInBounds];by_cases ej:j=L.length
       . subst ej;rw[yM (zD _)]at hz;simp at hz;subst hz;rw[if_pos rfl,if_pos (by omega)]
       . have hjl:j<L.length:=by
          have:=(zE.1 hz).1;simp at this;omega
         rw[yE hjl]at hz;rw[if_neg (by omega)];exact e6 j z hz
     . obtain⟨off3,n3,c3,e7⟩:=hk;injection e7 with e7;injection e7 with e7;injection e7 with e7;subst e7;exact⟨off,L.length,cap,e1⟩
     . obtain⟨off3,n3,c3,e7⟩:=h1;rw[e1]at e7;injection e7 with e7 e8 e9;injection e7 with e7;injection e7 with e7 e10;subst e7;exact⟨off,cap,e1,rfl⟩
theorem wpList_append_q{ops:Array Oper}{rest:List Oper}{o:Oper}{a:Act}{Qx:Exit->Act->World->Prop}{w:World}(hgd:o.guard=none)(s x:Operand)(ho:o.op=.call { callee:=.builtin .append,args:=#[s,x],argTypes:=#[63,63] })
 {B:Nat} {u:Value} {L:List Nat} (hs:a.eval s=u) (hq:QRow B w u L) (hL:L.length<=1000000000) (ad:Addr) (c y:Nat) (hx:a.eval x=.slice (some ad) 1 c) (hy:w.cell? ad=some (.int .i64 (y:Int))) (hB:B<=w.heap.size)
 (h:∀u' w',QRow B w' u' (L++[y])->w.heap.size<=w'.heap.size->w'.os=w.os->w'.tape=w.tape->w'.output=w.output->(∀k,k<w.heap.size->¬QB u k->w'.heap[k]?=w.heap[k]?)->(∀k,QB u' k->QB u k\/(w.heap.size<=k/\k<w'.heap.size))->wpList Tryz.prog ops Qx rest (a.put o.dst u') w'):wpList Tryz.prog ops Qx (o::rest) a w:=
 wpList_append_q2 hgd s x ho hs hq hL ad c y hx hy hB (fun u' w' a1 _ a2 a3 a4 a5 a6 a7 _=>h u' w' a1 a2 a3 a4 a5 a6 a7)
theorem cloneI_any{S:Nat->Prop}{w:World}{v:Value}{L:List Nat}(h:NatS S w v L)(hne:L≠[])(hL:L.length<=1000000000):
 Calls Tryz.prog 66 #[v] w fun e w'=>∃v',e=.returned v'/\w'.ownsRow w.heap.size 3 1 v' L.length (L.flatMap csI)/\Below w.heap.size w w':=by
 obtain⟨i0,hi0,hz0,hz1,hz2⟩:=info_partsG infoZG;obtain⟨ao,cap,e,h⟩:=h;subst e;have hsz:∀w,(Go.sizeOf 3).run Tryz.prog w=.ok 1 w:=fun w=>by kernel_rfl
 cases ao with
 |none=>
  rcases h with h|⟨g,off,e,_⟩
  . exact absurd h hne
  . cases e
 |some ad=>
  have hcells:∃g off,ad=⟨g,off,none⟩/\∀j u,(L.flatMap csI)[j]?=some u->w.cell? ⟨g,off+j,none⟩=some u:=by
   rcases h with h|⟨g,off,e,_,_,hc⟩
   . exact absurd h hne
   . injection e with e;refine⟨g,off,e,fun j u hj=>?_⟩;rw[flat_mapI,zI,zI]at hj;cases hLj:L[j]? with
     |none=>rw[hLj]at hj;simp at hj
     |some z=>
      rw[hLj]at hj;simp at hj;subst hj;have:=hc j z hLj 0 _ rfl;rw[yF,yJ]at this;exact this
  obtain⟨g,off,rfl,hc⟩:=hcells;refine(Tryz.slices_Clone_f66 i0 _ 1 8 hi0 hz0 hz1 hz2 rfl (by decide) hsz g off L.length cap (L.flatMap csI) w (by rw[flatI_len];omega) (by unfold maxLen;omega) (by omega) hc (fun u hu=>by
   rw[flat_mapI]at hu;obtain⟨z,_,rfl⟩:=zS.1 hu;rfl)).mono ?_
  rintro e w' ⟨v',rfl,h1,_,h2⟩;exact⟨v',rfl,h1,h2⟩
abbrev Lm:=Nat×Nat×Nat×Nat
abbrev csL(x:Lm):List Value:=[.int .i64 (x.1:Int),.int .i64 (x.2.1:Int),.pointer (some ⟨x.2.2.1,0,none⟩),.pointer (some ⟨x.2.2.2,0,none⟩)]
theorem csL_len(x:Lm):(csL x).length=4:=rfl
structure SeaOk (ds:List Sy) (n q sb:Nat) (Q:Nat->Nat->Prop):Prop where
 ex:∃d,ds[q]?=some (sb,d)/\d.n=n/\(∀u,(d.out u).length<=1000000)/\∀u x,u<n->x<n->(d.leads [u] x↔Q u x)
structure LinksOk (ds:List Sy) (n m:Nat) (lks:List Lm) (ls:List Lk):Prop where
 len:ls.length=lks.length
 at_:∀(i:Nat) L l,lks[i]?=some L->ls[i]?=some l->l.fr=L.1/\l.to=L.2.1/\L.1≠L.2.1/\L.1<m/\L.2.1<m/\SeaOk ds n (2*i) L.2.2.1 l.R/\SeaOk ds n (2*i+1) L.2.2.2 (fun v u=>l.R u v)
def NarE(w:World)(O F:Nat->Prop)(v:Value)(ds:List Sy)(n:Nat)(c:Ch)(e:Ending)(w':World):Prop:=
 e=.returned (.tuple #[])/\∃l' Z' rows',NI w O F (fun _=>False) v ds n c w' l' Z' rows'
theorem NI.some_strike{w0:World}{O F G:Nat->Prop}{v:Value}{ds:List Sy}{n:Nat}{c:Ch}{w:World}{l:List Sx}{Z:Nat->Prop}{rows:List (Value×List Nat)}(h:NI w0 O F G v ds n c w l Z rows)(hn:n<=10000)(hT:TabG w)(hF0:F 0){q sb:Nat}{Q:Nat->Nat->Prop}(hs:SeaOk ds n q sb Q){a b:Nat}(ha:a<c.length)(hb:b<c.length):
 Calls Tryz.prog 67 #[v,.pointer (some ⟨sb,0,none⟩),.int .i64 (a:Int),.int .i64 (b:Int)] w fun e w'=>e=.returned (.bool (decide (((atC c b).filter (leadB1 c a Q)).length≠(atC c b).length)))/\(∃l' Z' rows',NI w0 O F G v ds n (strikeC c a b Q) w' l' Z' rows')/\Fr G w w':=by
 obtain⟨d,h1,h2,h3,h4⟩:=hs.ex;exact h.strike hn hT hF0 h1 h2 h3 ha hb h4
theorem strike_len(c:Ch)(a b:Nat)(Q:Nat->Nat->Prop):(strikeC c a b Q).length=c.length:=by rw[strikeC,List.length_set]
end Go.Proofs.YtkbgmcmcpbegjabGreatDoor
