/- GState, GCome, ABoth, BAcc. -/
import Derived.Test.YtdalcipmpelifaaGreatDoorMG6
import Derived.Laws.OwnMore
import Derived.Maps.AppendAt
import Derived.Deep.RegionLaw
set_option maxRecDepth 100000
namespace Go.Proofs.YtdalcipmpelifaaGreatDoor
open Go.RowKit
theorem own_neG{w:World}{B n b:Nat}{e t:TypeId}{size:Nat}{v:Value}{xs:List Value}{cs:Array Value}{fz:Nat×Nat}(h:w.ownsRow B e size v n xs)(hb:w.heap[b]?=some (.cells cs t fz))(hne:e≠t):v.ownBlock≠some b:=by
 intro hv;rcases h.2 with⟨rfl,_⟩|⟨g,cap,cur,rfl,_,e3,_⟩
 . simp[Value.ownBlock]at hv
 . have:g=b:=by simpa[Value.ownBlock]using hv
   subst this;rw[hb]at e3;injection e3 with e3;injection e3 with _ e4;exact hne e4.symm
theorem blk_neG{w:World}{a b:Nat}{cs ds:Array Value}{t u:TypeId}{fz gz:Nat×Nat}(h:w.heap[a]?=some (.cells cs t fz))(k:w.heap[b]?=some (.cells ds u gz))(hne:t≠u):a≠b:=by
 intro e;subst e;rw[h]at k;injection k with k;injection k with _ k;exact hne k
def uCells(l:List Nat):Array Value:=(l.map fun (x:Nat)=>Value.int .u32 (x:Int)).toArray
theorem uCells_get{l:List Nat}{i:Nat}(h:i<l.length):(uCells l)[i]?=some (.int .u32 (l.getD i 0:Int)):=by
 simp[uCells,List.getD,h]
theorem uCells_set(l:List Nat)(i x:Nat):(uCells l).setIfInBounds i (.int .u32 (x:Int))=uCells (l.set i x):=by
 apply Array.ext';simp[uCells,List.map_set]
def URow(w:World)(g:Nat)(l:List Nat):Prop:=w.heap[g]?=some (.cells (uCells l) 94 (0,0))
theorem URow.cell{w:World}{g i:Nat}{l:List Nat}(h:URow w g l)(hi:i<l.length):w.cell? ⟨g,i,none⟩=some (.int .u32 (l.getD i 0:Int))/\w.frozen? ⟨g,i,none⟩=false:=by
 have h:w.heap[g]?=_:=h;have h2:=uCells_get hi;constructor
 . simp[World.cell?,h,h2]
 . simp[World.frozen?,h]
theorem URow.set{w:World}{g:Nat}{l:List Nat}(h:URow w g l)(i x:Nat):URow (w.setCell ⟨g,i,none⟩ (.int .u32 (x:Int))) g (l.set i x):=by
 unfold URow at h ⊢;simp[World.setCell,Array.getElem?_modify,h,uCells_set]
abbrev csI(i:Nat):List Value:=[.int .i64 (i:Int)]
theorem csI_len(i:Nat):(csI i).length=1:=rfl
abbrev csSt(t:Nat×Nat):List Value:=[.int .i64 (t.1:Int),.int .u32 (t.2:Int)]
theorem csSt_len(t:Nat×Nat):(csSt t).length=2:=rfl
abbrev csRow{α:Type}(r:Value×α):List Value:=[r.1]
theorem csRow_len{α:Type}(r:Value×α):(csRow r).length=1:=rfl
abbrev NatS:=SlS csI 1
structure Sp where
 cb:Nat
 fb:Nat
 sv:Value
 tv:Value
 stv:Value
 rs:List (Value×List (Nat×Nat))
def srCells(d:Sd)(m:Sp):Array Value:=#[.int .u32 (d.beh 0),.int .u32 (d.beh 1),.int .u32 (d.beh 2),.int .u32 (d.beh 3),.int .u32 (d.beh 4),.int .u32 (d.beh 5),.int .u32 (d.beh 6),.int .u32 (d.beh 7),.int .u32 (d.beh 8),.int .u32 (d.beh 9),.int .u32 (d.beh 10),.int .u32 (d.beh 11),.int .u32 (d.beh 12),.int .u32 (d.beh 13),.int .u32 (d.beh 14),.int .u32 (d.beh 15),.int .u32 (d.beh 16),.int .u32 (d.beh 17),.int .u32 (d.beh 18),.int .u32 (d.beh 19),.int .u32 (d.beh 20),.int .u32 (d.beh 21),.int .u32 (d.beh 22),.int .u32 (d.beh 23),.int .u32 (d.beh 24),
 .int .u32 d.last,m.stv,.slice (some ⟨m.cb,0,none⟩) d.n d.n,.slice (some ⟨m.fb,0,none⟩) d.n d.n,m.sv,m.tv]
structure SrS (S:Nat->Prop) (w:World) (sb:Nat) (d:Sd) (s:Ss) (m:Sp):Prop where
 blk:w.heap[sb]?=some (.cells (srCells d m) 100 (0,0))
 came:URow w m.cb s.came
 fresh:URow w m.fb s.fresh
 seen:w.ownsRow 0 3 1 m.sv s.seen.length (s.seen.flatMap csI)
 todo:w.ownsRow 0 3 1 m.tv s.todo.length (s.todo.flatMap csI)
 no:¬S sb
 cno:¬S m.cb
 fno:¬S m.fb
 sno:∀g,m.sv.ownBlock=some g->¬S g
 tno:∀g,m.tv.ownBlock=some g->¬S g
 cf:m.cb≠m.fb
 st:∀g,m.sv.ownBlock=some g->m.tv.ownBlock≠some g
 steps:SlS csRow 1 d.kp w m.stv m.rs
 rows:∀r∈m.rs,SlS csSt 2 d.kp w r.1 r.2
 kS:∀k,d.kp k->S k
 rsd:m.rs.map (·.2)=d.steps
 ok:d.Ok
section
variable {S:Nat->Prop} {w:World} {sb:Nat} {d:Sd} {s:Ss} {m:Sp}
theorem SrS.cells(h:SrS S w sb d s m):w.cell? ⟨sb,25,none⟩=some (.int .u32 (d.last:Int))/\w.cell? ⟨sb,26,none⟩=some m.stv/\w.cell? ⟨sb,27,none⟩=some (.slice (some ⟨m.cb,0,none⟩) d.n d.n)/\w.cell? ⟨sb,28,none⟩=some (.slice (some ⟨m.fb,0,none⟩) d.n d.n)/\w.cell? ⟨sb,29,none⟩=some m.sv/\w.cell? ⟨sb,30,none⟩=some m.tv/\w.frozen? ⟨sb,29,none⟩=false/\w.frozen? ⟨sb,30,none⟩=false:=by
 have hb:=h.blk;simp[World.cell?,World.frozen?,hb,srCells]
theorem sr_beh(d:Sd)(m:Sp):∀j,j<25->(srCells d m)[j]?=some (.int .u32 (d.beh j:Int))
 |0,_|1,_|2,_|3,_|4,_|5,_|6,_|7,_|8,_|9,_|10,_|11,_|12,_|13,_|14,_|15,_|16,_|17,_|18,_|19,_|20,_|21,_|22,_|23,_|24,_=>rfl
 |j+25,h=>by omega
theorem SrS.beh(h:SrS S w sb d s m){j:Nat}(hj:j<25):w.cell? ⟨sb,j,none⟩=some (.int .u32 (d.beh j:Int)):=by
 have hb:=h.blk;simp[World.cell?,hb,sr_beh d m j hj]
theorem SrS.sne(h:SrS S w sb d s m):m.sv.ownBlock≠some sb/\m.tv.ownBlock≠some sb/\m.sv.ownBlock≠some m.cb/\m.tv.ownBlock≠some m.cb/\m.sv.ownBlock≠some m.fb/\m.tv.ownBlock≠some m.fb/\sb≠m.cb/\sb≠m.fb:=
 ⟨own_neG h.seen h.blk (by decide),own_neG h.todo h.blk (by decide),own_neG h.seen h.came (by decide),own_neG h.todo h.came (by decide),own_neG h.seen h.fresh (by decide),own_neG h.todo h.fresh (by decide),blk_neG h.blk h.came (by decide),blk_neG h.blk h.fresh (by decide)⟩
def OwnB(sb:Nat)(m:Sp)(k:Nat):Prop:=k=sb\/k=m.cb\/k=m.fb\/m.sv.ownBlock=some k\/m.tv.ownBlock=some k
theorem SrS.own_lt(h:SrS S w sb d s m){k:Nat}(hk:OwnB sb m k):k<w.heap.size:=by
 rcases hk with rfl|rfl|rfl|hk|hk
 . exact lt_of_block h.blk
 . exact lt_of_block h.came
 . exact lt_of_block h.fresh
 . exact(h.seen.lt k hk).2
 . exact(h.todo.lt k hk).2
theorem SrS.own_no(h:SrS S w sb d s m){k:Nat}(hk:OwnB sb m k):¬S k:=by
 rcases hk with rfl|rfl|rfl|hk|hk
 . exact h.no
 . exact h.cno
 . exact h.fno
 . exact h.sno k hk
 . exact h.tno k hk
theorem SrS.keep{T:Nat->Prop}{w':World}(h:SrS S w sb d s m)(hz:w.heap.size<=w'.heap.size)(hk:∀k,k<w.heap.size->OwnB sb m k->¬T k/\w'.heap[k]?=w.heap[k]?)(hs:∀k,k<w.heap.size->d.kp k->w'.heap[k]?=w.heap[k]?)(ht:∀k,d.kp k->T k):SrS T w' sb d s m:=by
 have hk2:∀k,OwnB sb m k->¬T k/\w'.heap[k]?=w.heap[k]?:=fun k ho=>hk k (h.own_lt ho) ho
 exact { h with
  blk:=(hk2 sb (.inl rfl)).2.trans h.blk
  came:=(hk2 m.cb (.inr (.inl rfl))).2.trans h.came
  fresh:=(hk2 m.fb (.inr (.inr (.inl rfl)))).2.trans h.fresh
  seen:=owns_key h.seen (fun g o hg ho=>(hk2 g (.inr (.inr (.inr (.inl hg))))).2.trans ho)
  todo:=owns_key h.todo (fun g o hg ho=>(hk2 g (.inr (.inr (.inr (.inr hg))))).2.trans ho)
  no:=(hk2 sb (.inl rfl)).1
  cno:=(hk2 m.cb (.inr (.inl rfl))).1
  fno:=(hk2 m.fb (.inr (.inr (.inl rfl)))).1
  sno:=fun g hg=>(hk2 g (.inr (.inr (.inr (.inl hg))))).1
  tno:=fun g hg=>(hk2 g (.inr (.inr (.inr (.inr hg))))).1
  steps:=h.steps.keep hz (fun b hb hl=>⟨hb,hs b hl hb⟩)
  rows:=fun r hr=>(h.rows r hr).keep hz (fun b hb hl=>⟨hb,hs b hl hb⟩)
  kS:=ht }
theorem SrS.below{w':World}(h:SrS S w sb d s m)(hb:Below w.heap.size w w'):SrS S w' sb d s m:=
 h.keep hb.size (fun k hk ho=>⟨h.own_no ho,hb.block k hk⟩) (fun k hk _=>hb.block k hk) h.kS
theorem SrS.plus{w':World}(h:SrS S w sb d s m)(hb:Below w.heap.size w w'):SrS (Plus S w.heap.size w'.heap.size) w' sb d s m:=
 h.keep hb.size (fun k hk ho=>⟨fun hp=>hp.elim (h.own_no ho) (fun h2=>by omega),hb.block k hk⟩) (fun k hk _=>hb.block k hk) (fun k hk=>.inl (h.kS k hk))
theorem SrS.setCame(h:SrS S w sb d s m)(v x:Nat):SrS S (w.setCell ⟨m.cb,v,none⟩ (.int .u32 (x:Int))) sb d ⟨s.came.set v x,s.fresh,s.seen,s.todo⟩ m:=by
 obtain⟨n1,n2,n3,n4,n5,n6,n7,n8⟩:=h.sne;have ho:∀k,k≠m.cb->(w.setCell ⟨m.cb,v,none⟩ (.int .u32 (x:Int))).heap[k]?=w.heap[k]?:=fun k hk=>zM _ _ _ _ hk
 exact { h with
  blk:=(ho sb n7).trans h.blk
  came:=h.came.set v x
  fresh:=(ho m.fb (fun e=>h.cf e.symm)).trans h.fresh
  seen:=owns_key h.seen (fun g o hg ho2=>(ho g (fun e=>n3 (by rw[hg,e]))).trans ho2)
  todo:=owns_key h.todo (fun g o hg ho2=>(ho g (fun e=>n4 (by rw[hg,e]))).trans ho2)
  steps:=h.steps.keep (by simp) (fun b hb _=>⟨hb,ho b (fun e=>h.cno (e▸h.kS b hb))⟩)
  rows:=fun r hr=>(h.rows r hr).keep (by simp) (fun b hb _=>⟨hb,ho b (fun e=>h.cno (e▸h.kS b hb))⟩) }
theorem SrS.setFresh(h:SrS S w sb d s m)(v x:Nat):SrS S (w.setCell ⟨m.fb,v,none⟩ (.int .u32 (x:Int))) sb d ⟨s.came,s.fresh.set v x,s.seen,s.todo⟩ m:=by
 obtain⟨n1,n2,n3,n4,n5,n6,n7,n8⟩:=h.sne;have ho:∀k,k≠m.fb->(w.setCell ⟨m.fb,v,none⟩ (.int .u32 (x:Int))).heap[k]?=w.heap[k]?:=fun k hk=>zM _ _ _ _ hk
 exact { h with
  blk:=(ho sb n8).trans h.blk
  came:=(ho m.cb h.cf).trans h.came
  fresh:=h.fresh.set v x
  seen:=owns_key h.seen (fun g o hg ho2=>(ho g (fun e=>n5 (by rw[hg,e]))).trans ho2)
  todo:=owns_key h.todo (fun g o hg ho2=>(ho g (fun e=>n6 (by rw[hg,e]))).trans ho2)
  steps:=h.steps.keep (by simp) (fun b hb _=>⟨hb,ho b (fun e=>h.fno (e▸h.kS b hb))⟩)
  rows:=fun r hr=>(h.rows r hr).keep (by simp) (fun b hb _=>⟨hb,ho b (fun e=>h.fno (e▸h.kS b hb))⟩) }
theorem sr_set29(d:Sd)(m:Sp)(v:Value):(srCells d m).setIfInBounds 29 v=srCells d ⟨m.cb,m.fb,v,m.tv,m.stv,m.rs⟩:=by
 simp[srCells]
theorem sr_set30(d:Sd)(m:Sp)(v:Value):(srCells d m).setIfInBounds 30 v=srCells d ⟨m.cb,m.fb,m.sv,v,m.stv,m.rs⟩:=by
 simp[srCells]
theorem SrS.setSeen{w':World}{v:Value}{l:List Nat}(h:SrS S w sb d s m)(hS:Low S w)(hz:w.heap.size<=w'.heap.size)(hk:∀k,k<w.heap.size->m.sv.ownBlock≠some k->w'.heap[k]?=w.heap[k]?)(hv:w'.ownsRow 0 3 1 v l.length (l.flatMap csI))(hg:∀g,v.ownBlock=some g->m.sv.ownBlock=some g\/w.heap.size<=g):
 SrS S (w'.setCell ⟨sb,29,none⟩ v) sb d ⟨s.came,s.fresh,l,s.todo⟩ ⟨m.cb,m.fb,v,m.tv,m.stv,m.rs⟩:=by
 obtain⟨n1,n2,n3,n4,n5,n6,n7,n8⟩:=h.sne;have hb1:w'.heap[sb]?=some (.cells (srCells d m) 100 (0,0)):=(hk sb (lt_of_block h.blk) n1).trans h.blk;have ho:∀k,k≠sb->(w'.setCell ⟨sb,29,none⟩ v).heap[k]?=w'.heap[k]?:=fun k hk=>zM _ _ _ _ hk
 have hS2:∀b,d.kp b->b<w.heap.size->d.kp b/\(w'.setCell ⟨sb,29,none⟩ v).heap[b]?=w.heap[b]?:=fun b hb hl=>⟨hb,(ho b (fun e=>h.no (e▸h.kS b hb))).trans (hk b hl (fun e=>h.sno b e (h.kS b hb)))⟩
 exact { h with
  blk:=by simp[World.setCell,Array.getElem?_modify,hb1,sr_set29]
  came:=(ho m.cb (fun e=>n7 e.symm)).trans ((hk m.cb (lt_of_block h.came) n3).trans h.came)
  fresh:=(ho m.fb (fun e=>n8 e.symm)).trans ((hk m.fb (lt_of_block h.fresh) n5).trans h.fresh)
  seen:=owns_key hv (fun g o hg2 ho2=>(ho g (fun e=>by
   rcases hg g hg2 with h1|h1
   . exact n1 (by rw[h1,e])
   . have:=lt_of_block h.blk;omega)).trans ho2)
  todo:=owns_key h.todo (fun g o hg2 ho2=>(ho g (fun e=>n2 (by rw[hg2,e]))).trans ((hk g (lt_of_block ho2) (fun e=>h.st g e hg2)).trans ho2))
  sno:=fun g hg2 hs=>by
   rcases hg g hg2 with h1|h1
   . exact h.sno g h1 hs
   . have:=hS g hs;omega
  st:=fun g hg2 hg3=>by
   rcases hg g hg2 with h1|h1
   . exact h.st g h1 hg3
   . have:=(h.todo.lt g hg3).2;omega
  steps:=h.steps.keep (by simpa using hz) hS2
  rows:=fun r hr=>(h.rows r hr).keep (by simpa using hz) hS2 }
theorem SrS.setTodo{w':World}{v:Value}{l:List Nat}(h:SrS S w sb d s m)(hS:Low S w)(hz:w.heap.size<=w'.heap.size)(hk:∀k,k<w.heap.size->m.tv.ownBlock≠some k->w'.heap[k]?=w.heap[k]?)(hv:w'.ownsRow 0 3 1 v l.length (l.flatMap csI))(hg:∀g,v.ownBlock=some g->m.tv.ownBlock=some g\/w.heap.size<=g):
 SrS S (w'.setCell ⟨sb,30,none⟩ v) sb d ⟨s.came,s.fresh,s.seen,l⟩ ⟨m.cb,m.fb,m.sv,v,m.stv,m.rs⟩:=by
 obtain⟨n1,n2,n3,n4,n5,n6,n7,n8⟩:=h.sne;have hb1:w'.heap[sb]?=some (.cells (srCells d m) 100 (0,0)):=(hk sb (lt_of_block h.blk) n2).trans h.blk;have ho:∀k,k≠sb->(w'.setCell ⟨sb,30,none⟩ v).heap[k]?=w'.heap[k]?:=fun k hk=>zM _ _ _ _ hk
 have hS2:∀b,d.kp b->b<w.heap.size->d.kp b/\(w'.setCell ⟨sb,30,none⟩ v).heap[b]?=w.heap[b]?:=fun b hb hl=>⟨hb,(ho b (fun e=>h.no (e▸h.kS b hb))).trans (hk b hl (fun e=>h.tno b e (h.kS b hb)))⟩
 exact { h with
  blk:=by simp[World.setCell,Array.getElem?_modify,hb1,sr_set30]
  came:=(ho m.cb (fun e=>n7 e.symm)).trans ((hk m.cb (lt_of_block h.came) n4).trans h.came)
  fresh:=(ho m.fb (fun e=>n8 e.symm)).trans ((hk m.fb (lt_of_block h.fresh) n6).trans h.fresh)
  todo:=owns_key hv (fun g o hg2 ho2=>(ho g (fun e=>by
   rcases hg g hg2 with h1|h1
   . exact n2 (by rw[h1,e])
   . have:=lt_of_block h.blk;omega)).trans ho2)
  seen:=owns_key h.seen (fun g o hg2 ho2=>(ho g (fun e=>n1 (by rw[hg2,e]))).trans ((hk g (lt_of_block ho2) (fun e=>h.st g hg2 e)).trans ho2))
  tno:=fun g hg2 hs=>by
   rcases hg g hg2 with h1|h1
   . exact h.tno g h1 hs
   . have:=hS g hs;omega
  st:=fun g hg2 hg3=>by
   rcases hg g hg3 with h1|h1
   . exact h.st g hg2 h1
   . have:=(h.seen.lt g hg2).2;omega
  steps:=h.steps.keep (by simpa using hz) hS2
  rows:=fun r hr=>(h.rows r hr).keep (by simpa using hz) hS2 }
end
theorem infoZG:(Tryz.prog.info? 3).map (fun i=>(i.zero,i.size,i.bytes))=some (some (.int .i64 0),1,8):=by kernel_rfl
theorem info_partsG{t:TypeId}{z:Value}{k b:Nat}(h:(Tryz.prog.info? t).map (fun i=>(i.zero,i.size,i.bytes))=some (some z,k,b)):∃i,Tryz.prog.info? t=some i/\i.zero=some z/\i.size=k/\i.bytes=b:=by
 obtain⟨i,hi,he⟩:=Option.map_eq_some_iff.1 h;simp only[Prod.mk.injEq]at he;exact⟨i,hi,he.1,he.2.1,he.2.2⟩
theorem u32_sub(a c:Nat)(ha:a<33554432)(hc:c<33554432):bits .andNot .u32 (a:Int) (c:Int)=((sub32 a c:Nat):Int):=u32_andNot_nat a c (by omega) (by omega)
structure Fit (d:Sd) (s:Ss):Prop where
 cl:s.came.length=d.n
 fl:s.fresh.length=d.n
 cb:∀x∈s.came,x<33554432
 fb:∀x∈s.fresh,x<33554432
 sl:s.seen.length<=1000000000000
 tl:s.todo.length<=1000000000000
 dn:d.n<=10000
theorem Run.fit{d:Sd}{st:List Nat}{s:Ss}{ex:Nat->Nat->Nat->Prop}(h:Run d st s ex)(hn:d.n<=10000):Fit d s:=by
 have h1:=h.sz;have h2:=sum_le s.came h.cb;rw[h.cl]at h2;exact⟨h.cl,h.fl,h.cb,h.fb,by omega,by omega,hn⟩
theorem Rest.fit{d:Sd}{s:Ss}(h:Rest d s)(hn:d.n<=10000):Fit d s:=by
 have h1:=h.sz;exact⟨h.cl,h.fl,h.cb,fun x hx=>by rw[zero_of_getD h.fz x hx];omega,by omega,by rw[h.td];simp,hn⟩
def ComeE(S:Nat->Prop)(w:World)(sb:Nat)(d:Sd)(s':Ss)(e:Ending)(w':World):Prop:=e=.returned (.tuple #[])/\(∃m',SrS S w' sb d s' m')/\Fr S w w'
theorem grown_keep{w:World}{w9:World}{o:Obj}{row:Option Nat}(hg:(w.alloc o).grownBy w9 row):∀k,k<w.heap.size->row≠some k->w9.heap[k]?=w.heap[k]?:=fun k hk hne=>by
 rw[hg.block k (by simp;omega) (fun e=>hne e.symm),heap_alloc_old _ _ hk]
set_option maxHeartbeats 8000000 in
theorem come_any{S:Nat->Prop}{w:World}{sb:Nat}{d:Sd}{s:Ss}{m:Sp}(h:SrS S w sb d s m)(hS:Low S w)(hf:Fit d s){v a:Nat}(hv:v<d.n)(ha:a<33554432):
 Calls Tryz.prog 65 #[.pointer (some ⟨sb,0,none⟩),.int .i64 (v:Int),.int .u32 (a:Int)] w (ComeE S w sb d (s.come v a)):=by
 obtain⟨i0,hi0,hz0,hz1,hz2⟩:=info_partsG infoZG;obtain⟨R,hR⟩:∃R,R=s.come v a:=⟨_,rfl⟩
 rw[<- hR];have HR:=zA hR;obtain⟨c,hc⟩:∃c,c=s.came.getD v 0:=⟨_,rfl⟩
 obtain⟨f,hfr⟩:∃f,f=s.fresh.getD v 0:=⟨_,rfl⟩
 have hcl:c<33554432:=by rw[hc];exact getD_lt hf.cb v
 have hfl:f<33554432:=by rw[hfr];exact getD_lt hf.fb v
 obtain⟨q,hq⟩:∃q,q=sub32 a c:=⟨_,rfl⟩
 have hql:q<33554432:=by rw[hq];exact sub_lt a c ha
 have b1:bits .andNot .u32 (a:Int) (c:Int)=(q:Int):=by rw[hq];exact u32_sub a c ha hcl
 have HC:=zA hc;have HF:=zA hfr;have HQ:=zA hq;have HFT:=zA hf;have HS:=zA hS;have H:=zA h;obtain⟨⟨k1,_⟩,⟨k2,_⟩⟩:(w.cell? ⟨m.cb,v,none⟩=some (.int .u32 (c:Int))/\True)/\(w.cell? ⟨m.fb,v,none⟩=some (.int .u32 (f:Int))/\True):=by
  rw[hc,hfr];exact⟨⟨(h.came.cell (by rw[hf.cl];exact hv)).1,trivial⟩,⟨(h.fresh.cell (by rw[hf.fl];exact hv)).1,trivial⟩⟩
 obtain⟨g25,g26,g27,g28,g29,g30,f29,f30⟩:=h.cells;have hvI:(v:Int)<(d.n:Int):=by omega
 have hdn:=hf.dn;clear hR hc hfr hq h hf hS;by_cases hq0:q=0
 . have HX:Hid (R=s):=zA (by rw[HR.out,Ss.come,if_pos (by rw[<- HC.out,<- HQ.out];exact hq0)]);subst hq0;go_enter Tryz.func65,Tryz.ntmps65;go_wp2;go_end0;exact⟨rfl,⟨m,by rw[HX.out];exact H.out⟩,Fr.refl _ _⟩
 . have hqI:¬(q:Int)=0:=by omega
   have hqB:((q:Int)==0)=false:=by simp;omega
   have b2:bits .or .u32 (c:Int) (q:Int)=((c ||| q:Nat):Int):=u32_or_nat c q (by omega) (by omega);have b3:bits .or .u32 (f:Int) (q:Int)=((f ||| q:Nat):Int):=u32_or_nat f q (by omega) (by omega);have HX:Hid (R=⟨s.came.set v (c ||| q),s.fresh.set v (f ||| q),if c=0 then s.seen++[v]else s.seen,if f=0 then s.todo++[v]else s.todo⟩):=zA (by
    rw[HR.out,Ss.come,if_neg (by rw[<- HC.out,<- HQ.out];exact hq0),<- HC.out,<- HQ.out,<- HF.out])
   obtain⟨cq,hcq⟩:∃x,x=c ||| q:=⟨_,rfl⟩
   obtain⟨fq,hfq⟩:∃x,x=f ||| q:=⟨_,rfl⟩
   rw[<- hcq]at b2 HX;rw[<- hfq]at b3 HX;clear HR HQ hcq hfq hq0;obtain⟨n1,n2,n3,n4,n5,n6,n7,n8⟩:=H.out.sne;have n9:¬m.cb=sb:=fun e=>n7 e.symm
   have n10:¬m.fb=sb:=fun e=>n8 e.symm
   have n11:=H.out.cf;have n12:¬m.fb=m.cb:=fun e=>H.out.cf e.symm
   have j1:=(H.out.came.cell (i:=v) (by rw[HFT.out.cl];exact hv)).2;have j2:=(H.out.fresh.cell (i:=v) (by rw[HFT.out.fl];exact hv)).2;clear n1 n2 n3 n4 n5 n6;have hsl:=HFT.out.sl;have htl:=HFT.out.tl;by_cases hc0:c=0
   . by_cases hf0:f=0
     . have hcB:((c:Int)==0)=true:=by simp;omega
       have hfB:((f:Int)==0)=true:=by simp;omega
       have HXC:Hid (R=⟨s.came.set v cq,s.fresh.set v fq,s.seen++[v],s.todo++[v]⟩):=zA (by rw[HX.out,if_pos hc0,if_pos hf0]);clear HX;have HC0:=zA hc0;have HF0:=zA hf0;clear hc0 hf0;go_enter Tryz.func65,Tryz.ntmps65;obtain⟨sa1,sc1,hsw1⟩:=own_slice H.out.seen;obtain⟨ns1,hns1⟩:∃n,n=s.seen.length:=⟨_,rfl⟩
       have hsv1:m.sv=.slice sa1 ns1 sc1:=by rw[hns1];exact hsw1
       rw[<- hns1]at hsl;have HNS1:=zA hns1;have HSV1:=zA hsv1;rw[hsv1]at g29;have HOW1:Hid ((w).ownsRow 0 3 1 (.slice sa1 ns1 sc1) ns1 (s.seen.flatMap csI)):=zA (by have:=H.out.seen;(try dsimp only at this);rw[<- HNS1.out,HSV1.out]at this;exact this);clear hns1 hsv1 hsw1;go_wp2_with (at_builtin;refine wpList_append_lies _ rfl _ _ _ rfl 0 3 i0 _ 1 8 Tryz.underlying56 hi0 hz0 hz1 hz2 rfl (by decide) (.slice sa1 ns1 sc1) _ _ (by rfl) (HOW1.out.alloc _) ⟨w.heap.size,0,none⟩ 1 1 (csI v) (by rfl) (by rfl) ?a1 ?b1 (by decide) ?c1 ?d1 ?e1 (w.heap.size+1) (by simp) ?_)
       case a1=>
        have hnew:=heap_alloc_new (w) (.cells #[.int .i64 (v:Int)] 3 (0,0));try simp only[World.size_setCell]at hnew
        exact World.news_of_block (cs:=#[.int .i64 (v:Int)]) (t:=3) (fr:=(0,0)) hnew
       case b1=>simp[Value.oneCell']
       case c1=>unfold maxLen;omega
       case d1=>omega
       case e1=>simp
       intro gg1 cap1 w1 hown1 hgrow1 hat1 hlt1;have hkeep1:=grown_keep hgrow1;have hy1:(w).heap.size<=w1.heap.size:=by have:=hgrow1.size;simp at this ⊢;omega
       have hsb1:w1.heap[sb]?=(w).heap[sb]?:=hkeep1 sb (lt_of_block H.out.blk) (by rw[<- HSV1.out];exact H.out.sne.1);have hown1b:w1.ownsRow 0 3 1 (.slice (some ⟨gg1,0,none⟩) (ns1+1) cap1) (s.seen++[v]).length ((s.seen++[v]).flatMap csI):=by rw[zG,<- HNS1.out,zY];exact hown1
       have HSR1:=zA (H.out.setSeen (HS.out) hy1 (fun k hk hne=>hkeep1 k hk (by rw[<- HSV1.out];exact hne)) hown1b (fun g hg=>by
        have hg:gg1=g:=by simpa[Value.ownBlock]using hg
        subst hg;rcases hat1 with h1|h1
        . left;(try dsimp only);rw[HSV1.out];exact h1
        . right;(try simp only[World.size_setCell]);omega))
       have HFR1:=zA (Fr.setCell (b:=sb) (i:=29) (Fr.trans (Fr.refl S w) ⟨hgrow1.os,hgrow1.tape,hgrow1.output,hy1,fun k hk=>hkeep1 k (HS.out k hk) (fun e=>H.out.sno k (by(try dsimp only);rw[HSV1.out];exact e) hk)⟩) H.out.no (.slice (some ⟨gg1,0,none⟩) (ns1+1) cap1));obtain⟨x25,x26,x27,x28,x29,x30,y29,y30⟩:=H.out.cells;have g291:w1.cell? ⟨sb,29,none⟩=some m.sv:=by simpa only[World.cell?,hsb1]using x29
       obtain⟨z1,z2,z3,z4,z5,z6,z7,z8⟩:=H.out.sne;have g271:w1.cell? ⟨sb,27,none⟩=some (.slice (some ⟨m.cb,0,none⟩) d.n d.n):=by simpa only[World.cell?,hsb1]using x27
       have g281:w1.cell? ⟨sb,28,none⟩=some (.slice (some ⟨m.fb,0,none⟩) d.n d.n):=by simpa only[World.cell?,hsb1]using x28
       have g301:w1.cell? ⟨sb,30,none⟩=some m.tv:=by simpa only[World.cell?,hsb1]using x30
       have f301:w1.frozen? ⟨sb,30,none⟩=false:=by simpa only[World.frozen?,hsb1]using y30
       have f291:w1.frozen? ⟨sb,29,none⟩=false:=by have:=H.out.cells.2.2.2.2.2.2.1;simpa only[World.frozen?,hsb1]using this
       have hcb1:w1.heap[m.cb]?=(w).heap[m.cb]?:=hkeep1 m.cb (lt_of_block H.out.came) (by rw[<- HSV1.out];exact z3);have hfb1:w1.heap[m.fb]?=(w).heap[m.fb]?:=hkeep1 m.fb (lt_of_block H.out.fresh) (by rw[<- HSV1.out];exact z5);have k11:=H.out.came.cell (i:=v) (by rw[HFT.out.cl];exact hv);have k21:=H.out.fresh.cell (i:=v) (by rw[HFT.out.fl];exact hv)
       (try dsimp only at k11)
       (try dsimp only at k21)
       rw[<- HC.out]at k11;rw[<- HF.out]at k21;simp only[World.cell?,World.frozen?]at k11 k21;rw[<- hcb1]at k11;rw[<- hfb1]at k21;obtain⟨k11,j11⟩:w1.cell? ⟨m.cb,v,none⟩=some (.int .u32 (c:Int))/\w1.frozen? ⟨m.cb,v,none⟩=false:=k11;obtain⟨k21,j21⟩:w1.cell? ⟨m.fb,v,none⟩=some (.int .u32 (f:Int))/\w1.frozen? ⟨m.fb,v,none⟩=false:=k21;clear x25 x26 x27 x28 x29 x30 y29 y30 z1 z2 z3 z4 z5 z6 z7 z8 hcb1 hfb1;clear hown1 hgrow1 hat1 hlt1 hown1b hkeep1 hsb1;clear g25 g26 g27 g28 g29 g30 f29 f30 k1 k2 j1 j2;obtain⟨sa2,sc2,hsw2⟩:=own_slice HSR1.out.todo;obtain⟨ns2,hns2⟩:∃n,n=s.todo.length:=⟨_,rfl⟩
       have hsv2:m.tv=.slice sa2 ns2 sc2:=by rw[hns2];exact hsw2
       rw[<- hns2]at htl;have HNS2:=zA hns2;have HSV2:=zA hsv2;rw[hsv2]at g301;have HOW2:Hid ((w1.setCell ⟨sb,29,none⟩ (.slice (some ⟨gg1,0,none⟩) (ns1+1) cap1)).ownsRow 0 3 1 (.slice sa2 ns2 sc2) ns2 (s.todo.flatMap csI)):=zA (by have:=HSR1.out.todo;(try dsimp only at this);rw[<- HNS2.out,HSV2.out]at this;exact this);clear hns2 hsv2 hsw2;go_wp2_with (at_builtin;refine wpList_append_lies _ rfl _ _ _ rfl 0 3 i0 _ 1 8 Tryz.underlying56 hi0 hz0 hz1 hz2 rfl (by decide) (.slice sa2 ns2 sc2) _ _ (by rfl) (HOW2.out.alloc _) ⟨w1.heap.size,0,none⟩ 1 1 (csI v) (by rfl) (by rfl) ?a2 ?b2 (by decide) ?c2 ?d2 ?e2 (w1.heap.size+1) (by simp) ?_)
       case a2=>
        have hnew:=heap_alloc_new (w1.setCell ⟨sb,29,none⟩ (.slice (some ⟨gg1,0,none⟩) (ns1+1) cap1)) (.cells #[.int .i64 (v:Int)] 3 (0,0));try simp only[World.size_setCell]at hnew
        exact World.news_of_block (cs:=#[.int .i64 (v:Int)]) (t:=3) (fr:=(0,0)) hnew
       case b2=>simp[Value.oneCell']
       case c2=>unfold maxLen;omega
       case d2=>omega
       case e2=>simp
       intro gg2 cap2 w2 hown2 hgrow2 hat2 hlt2;have hkeep2:=grown_keep hgrow2;have hy2:(w1.setCell ⟨sb,29,none⟩ (.slice (some ⟨gg1,0,none⟩) (ns1+1) cap1)).heap.size<=w2.heap.size:=by have:=hgrow2.size;simp at this ⊢;omega
       have hsb2:w2.heap[sb]?=(w1.setCell ⟨sb,29,none⟩ (.slice (some ⟨gg1,0,none⟩) (ns1+1) cap1)).heap[sb]?:=hkeep2 sb (lt_of_block HSR1.out.blk) (by rw[<- HSV2.out];exact HSR1.out.sne.2.1);have hown2b:w2.ownsRow 0 3 1 (.slice (some ⟨gg2,0,none⟩) (ns2+1) cap2) (s.todo++[v]).length ((s.todo++[v]).flatMap csI):=by rw[zG,<- HNS2.out,zY];exact hown2
       have HSR2:=zA (HSR1.out.setTodo ((HS.out.fr HFR1.out)) hy2 (fun k hk hne=>hkeep2 k hk (by rw[<- HSV2.out];exact hne)) hown2b (fun g hg=>by
        have hg:gg2=g:=by simpa[Value.ownBlock]using hg
        subst hg;rcases hat2 with h1|h1
        . left;(try dsimp only);rw[HSV2.out];exact h1
        . right;(try simp only[World.size_setCell]);omega))
       have HFR2:=zA (Fr.setCell (b:=sb) (i:=30) (Fr.trans HFR1.out ⟨hgrow2.os,hgrow2.tape,hgrow2.output,hy2,fun k hk=>hkeep2 k ((HS.out.fr HFR1.out) k hk) (fun e=>HSR1.out.tno k (by(try dsimp only);rw[HSV2.out];exact e) hk)⟩) H.out.no (.slice (some ⟨gg2,0,none⟩) (ns2+1) cap2));obtain⟨x25,x26,x27,x28,x29,x30,y29,y30⟩:=HSR1.out.cells;have g292:w2.cell? ⟨sb,29,none⟩=some (.slice (some ⟨gg1,0,none⟩) (ns1+1) cap1):=by simpa only[World.cell?,hsb2]using x29
       obtain⟨z1,z2,z3,z4,z5,z6,z7,z8⟩:=HSR1.out.sne;have g272:w2.cell? ⟨sb,27,none⟩=some (.slice (some ⟨m.cb,0,none⟩) d.n d.n):=by simpa only[World.cell?,hsb2]using x27
       have g282:w2.cell? ⟨sb,28,none⟩=some (.slice (some ⟨m.fb,0,none⟩) d.n d.n):=by simpa only[World.cell?,hsb2]using x28
       have g302:w2.cell? ⟨sb,30,none⟩=some m.tv:=by simpa only[World.cell?,hsb2]using x30
       have f302:w2.frozen? ⟨sb,30,none⟩=false:=by simpa only[World.frozen?,hsb2]using y30
       have f292:w2.frozen? ⟨sb,30,none⟩=false:=by have:=HSR1.out.cells.2.2.2.2.2.2.2;simpa only[World.frozen?,hsb2]using this
       have hcb2:w2.heap[m.cb]?=(w1.setCell ⟨sb,29,none⟩ (.slice (some ⟨gg1,0,none⟩) (ns1+1) cap1)).heap[m.cb]?:=hkeep2 m.cb (lt_of_block HSR1.out.came) (by rw[<- HSV2.out];exact z4);have hfb2:w2.heap[m.fb]?=(w1.setCell ⟨sb,29,none⟩ (.slice (some ⟨gg1,0,none⟩) (ns1+1) cap1)).heap[m.fb]?:=hkeep2 m.fb (lt_of_block HSR1.out.fresh) (by rw[<- HSV2.out];exact z6);have k12:=HSR1.out.came.cell (i:=v) (by rw[HFT.out.cl];exact hv);have k22:=HSR1.out.fresh.cell (i:=v) (by rw[HFT.out.fl];exact hv)
       (try dsimp only at k12)
       (try dsimp only at k22)
       rw[<- HC.out]at k12;rw[<- HF.out]at k22;simp only[World.cell?,World.frozen?]at k12 k22;rw[<- hcb2]at k12;rw[<- hfb2]at k22;obtain⟨k12,j12⟩:w2.cell? ⟨m.cb,v,none⟩=some (.int .u32 (c:Int))/\w2.frozen? ⟨m.cb,v,none⟩=false:=k12;obtain⟨k22,j22⟩:w2.cell? ⟨m.fb,v,none⟩=some (.int .u32 (f:Int))/\w2.frozen? ⟨m.fb,v,none⟩=false:=k22;clear x25 x26 x27 x28 x29 x30 y29 y30 z1 z2 z3 z4 z5 z6 z7 z8 hcb2 hfb2;clear hown2 hgrow2 hat2 hlt2 hown2b hkeep2 hsb2;go_wp2;go_end0;exact⟨rfl,⟨_,by rw[HXC.out];exact(HSR2.out.setCame v cq).setFresh v fq⟩,Fr.setCell (Fr.setCell HFR2.out H.out.cno _) H.out.fno _⟩
     . have hcB:((c:Int)==0)=true:=by simp;omega
       have hfB:((f:Int)==0)=false:=by simp;omega
       have HXC:Hid (R=⟨s.came.set v cq,s.fresh.set v fq,s.seen++[v],s.todo⟩):=zA (by rw[HX.out,if_pos hc0,if_neg hf0]);clear HX;have HC0:=zA hc0;have HF0:=zA hf0;have hfI:¬(f:Int)=0:=by omega
       clear hc0 hf0;go_enter Tryz.func65,Tryz.ntmps65;obtain⟨sa1,sc1,hsw1⟩:=own_slice H.out.seen;obtain⟨ns1,hns1⟩:∃n,n=s.seen.length:=⟨_,rfl⟩
       have hsv1:m.sv=.slice sa1 ns1 sc1:=by rw[hns1];exact hsw1
       rw[<- hns1]at hsl;have HNS1:=zA hns1;have HSV1:=zA hsv1;rw[hsv1]at g29;have HOW1:Hid ((w).ownsRow 0 3 1 (.slice sa1 ns1 sc1) ns1 (s.seen.flatMap csI)):=zA (by have:=H.out.seen;(try dsimp only at this);rw[<- HNS1.out,HSV1.out]at this;exact this);clear hns1 hsv1 hsw1;go_wp2_with (at_builtin;refine wpList_append_lies _ rfl _ _ _ rfl 0 3 i0 _ 1 8 Tryz.underlying56 hi0 hz0 hz1 hz2 rfl (by decide) (.slice sa1 ns1 sc1) _ _ (by rfl) (HOW1.out.alloc _) ⟨w.heap.size,0,none⟩ 1 1 (csI v) (by rfl) (by rfl) ?a1 ?b1 (by decide) ?c1 ?d1 ?e1 (w.heap.size+1) (by simp) ?_)
       case a1=>
        have hnew:=heap_alloc_new (w) (.cells #[.int .i64 (v:Int)] 3 (0,0));try simp only[World.size_setCell]at hnew
        exact World.news_of_block (cs:=#[.int .i64 (v:Int)]) (t:=3) (fr:=(0,0)) hnew
       case b1=>simp[Value.oneCell']
       case c1=>unfold maxLen;omega
       case d1=>omega
       case e1=>simp
       intro gg1 cap1 w1 hown1 hgrow1 hat1 hlt1;have hkeep1:=grown_keep hgrow1;have hy1:(w).heap.size<=w1.heap.size:=by have:=hgrow1.size;simp at this ⊢;omega
       have hsb1:w1.heap[sb]?=(w).heap[sb]?:=hkeep1 sb (lt_of_block H.out.blk) (by rw[<- HSV1.out];exact H.out.sne.1);have hown1b:w1.ownsRow 0 3 1 (.slice (some ⟨gg1,0,none⟩) (ns1+1) cap1) (s.seen++[v]).length ((s.seen++[v]).flatMap csI):=by rw[zG,<- HNS1.out,zY];exact hown1
       have HSR1:=zA (H.out.setSeen (HS.out) hy1 (fun k hk hne=>hkeep1 k hk (by rw[<- HSV1.out];exact hne)) hown1b (fun g hg=>by
        have hg:gg1=g:=by simpa[Value.ownBlock]using hg
        subst hg;rcases hat1 with h1|h1
        . left;(try dsimp only);rw[HSV1.out];exact h1
        . right;(try simp only[World.size_setCell]);omega))
       have HFR1:=zA (Fr.setCell (b:=sb) (i:=29) (Fr.trans (Fr.refl S w) ⟨hgrow1.os,hgrow1.tape,hgrow1.output,hy1,fun k hk=>hkeep1 k (HS.out k hk) (fun e=>H.out.sno k (by(try dsimp only);rw[HSV1.out];exact e) hk)⟩) H.out.no (.slice (some ⟨gg1,0,none⟩) (ns1+1) cap1));obtain⟨x25,x26,x27,x28,x29,x30,y29,y30⟩:=H.out.cells;have g291:w1.cell? ⟨sb,29,none⟩=some m.sv:=by simpa only[World.cell?,hsb1]using x29
       obtain⟨z1,z2,z3,z4,z5,z6,z7,z8⟩:=H.out.sne;have g271:w1.cell? ⟨sb,27,none⟩=some (.slice (some ⟨m.cb,0,none⟩) d.n d.n):=by simpa only[World.cell?,hsb1]using x27
       have g281:w1.cell? ⟨sb,28,none⟩=some (.slice (some ⟨m.fb,0,none⟩) d.n d.n):=by simpa only[World.cell?,hsb1]using x28
       have g301:w1.cell? ⟨sb,30,none⟩=some m.tv:=by simpa only[World.cell?,hsb1]using x30
       have f301:w1.frozen? ⟨sb,30,none⟩=false:=by simpa only[World.frozen?,hsb1]using y30
       have f291:w1.frozen? ⟨sb,29,none⟩=false:=by have:=H.out.cells.2.2.2.2.2.2.1;simpa only[World.frozen?,hsb1]using this
       have hcb1:w1.heap[m.cb]?=(w).heap[m.cb]?:=hkeep1 m.cb (lt_of_block H.out.came) (by rw[<- HSV1.out];exact z3);have hfb1:w1.heap[m.fb]?=(w).heap[m.fb]?:=hkeep1 m.fb (lt_of_block H.out.fresh) (by rw[<- HSV1.out];exact z5);have k11:=H.out.came.cell (i:=v) (by rw[HFT.out.cl];exact hv);have k21:=H.out.fresh.cell (i:=v) (by rw[HFT.out.fl];exact hv)
       (try dsimp only at k11)
       (try dsimp only at k21)
       rw[<- HC.out]at k11;rw[<- HF.out]at k21;simp only[World.cell?,World.frozen?]at k11 k21;rw[<- hcb1]at k11;rw[<- hfb1]at k21;obtain⟨k11,j11⟩:w1.cell? ⟨m.cb,v,none⟩=some (.int .u32 (c:Int))/\w1.frozen? ⟨m.cb,v,none⟩=false:=k11;obtain⟨k21,j21⟩:w1.cell? ⟨m.fb,v,none⟩=some (.int .u32 (f:Int))/\w1.frozen? ⟨m.fb,v,none⟩=false:=k21;clear x25 x26 x27 x28 x29 x30 y29 y30 z1 z2 z3 z4 z5 z6 z7 z8 hcb1 hfb1;clear hown1 hgrow1 hat1 hlt1 hown1b hkeep1 hsb1;clear g25 g26 g27 g28 g29 g30 f29 f30 k1 k2 j1 j2;go_wp2;go_end0;exact⟨rfl,⟨_,by rw[HXC.out];exact(HSR1.out.setCame v cq).setFresh v fq⟩,Fr.setCell (Fr.setCell HFR1.out H.out.cno _) H.out.fno _⟩
   . by_cases hf0:f=0
     . have hcB:((c:Int)==0)=false:=by simp;omega
       have hfB:((f:Int)==0)=true:=by simp;omega
       have HXC:Hid (R=⟨s.came.set v cq,s.fresh.set v fq,s.seen,s.todo++[v]⟩):=zA (by rw[HX.out,if_neg hc0,if_pos hf0]);clear HX;have HC0:=zA hc0;have HF0:=zA hf0;have hcI:¬(c:Int)=0:=by omega
       clear hc0 hf0;go_enter Tryz.func65,Tryz.ntmps65;obtain⟨sa2,sc2,hsw2⟩:=own_slice H.out.todo;obtain⟨ns2,hns2⟩:∃n,n=s.todo.length:=⟨_,rfl⟩
       have hsv2:m.tv=.slice sa2 ns2 sc2:=by rw[hns2];exact hsw2
       rw[<- hns2]at htl;have HNS2:=zA hns2;have HSV2:=zA hsv2;rw[hsv2]at g30;have HOW2:Hid ((w).ownsRow 0 3 1 (.slice sa2 ns2 sc2) ns2 (s.todo.flatMap csI)):=zA (by have:=H.out.todo;(try dsimp only at this);rw[<- HNS2.out,HSV2.out]at this;exact this);clear hns2 hsv2 hsw2;go_wp2_with (at_builtin;refine wpList_append_lies _ rfl _ _ _ rfl 0 3 i0 _ 1 8 Tryz.underlying56 hi0 hz0 hz1 hz2 rfl (by decide) (.slice sa2 ns2 sc2) _ _ (by rfl) (HOW2.out.alloc _) ⟨w.heap.size,0,none⟩ 1 1 (csI v) (by rfl) (by rfl) ?a2 ?b2 (by decide) ?c2 ?d2 ?e2 (w.heap.size+1) (by simp) ?_)
       case a2=>
        have hnew:=heap_alloc_new (w) (.cells #[.int .i64 (v:Int)] 3 (0,0));try simp only[World.size_setCell]at hnew
        exact World.news_of_block (cs:=#[.int .i64 (v:Int)]) (t:=3) (fr:=(0,0)) hnew
       case b2=>simp[Value.oneCell']
       case c2=>unfold maxLen;omega
       case d2=>omega
       case e2=>simp
       intro gg2 cap2 w2 hown2 hgrow2 hat2 hlt2;have hkeep2:=grown_keep hgrow2;have hy2:(w).heap.size<=w2.heap.size:=by have:=hgrow2.size;simp at this ⊢;omega
       have hsb2:w2.heap[sb]?=(w).heap[sb]?:=hkeep2 sb (lt_of_block H.out.blk) (by rw[<- HSV2.out];exact H.out.sne.2.1);have hown2b:w2.ownsRow 0 3 1 (.slice (some ⟨gg2,0,none⟩) (ns2+1) cap2) (s.todo++[v]).length ((s.todo++[v]).flatMap csI):=by rw[zG,<- HNS2.out,zY];exact hown2
       have HSR2:=zA (H.out.setTodo (HS.out) hy2 (fun k hk hne=>hkeep2 k hk (by rw[<- HSV2.out];exact hne)) hown2b (fun g hg=>by
        have hg:gg2=g:=by simpa[Value.ownBlock]using hg
        subst hg;rcases hat2 with h1|h1
        . left;(try dsimp only);rw[HSV2.out];exact h1
        . right;(try simp only[World.size_setCell]);omega))
       have HFR2:=zA (Fr.setCell (b:=sb) (i:=30) (Fr.trans (Fr.refl S w) ⟨hgrow2.os,hgrow2.tape,hgrow2.output,hy2,fun k hk=>hkeep2 k (HS.out k hk) (fun e=>H.out.tno k (by(try dsimp only);rw[HSV2.out];exact e) hk)⟩) H.out.no (.slice (some ⟨gg2,0,none⟩) (ns2+1) cap2));obtain⟨x25,x26,x27,x28,x29,x30,y29,y30⟩:=H.out.cells;have g292:w2.cell? ⟨sb,29,none⟩=some m.sv:=by simpa only[World.cell?,hsb2]using x29
       obtain⟨z1,z2,z3,z4,z5,z6,z7,z8⟩:=H.out.sne;have g272:w2.cell? ⟨sb,27,none⟩=some (.slice (some ⟨m.cb,0,none⟩) d.n d.n):=by simpa only[World.cell?,hsb2]using x27
       have g282:w2.cell? ⟨sb,28,none⟩=some (.slice (some ⟨m.fb,0,none⟩) d.n d.n):=by simpa only[World.cell?,hsb2]using x28
       have g302:w2.cell? ⟨sb,30,none⟩=some m.tv:=by simpa only[World.cell?,hsb2]using x30
       have f302:w2.frozen? ⟨sb,30,none⟩=false:=by simpa only[World.frozen?,hsb2]using y30
       have f292:w2.frozen? ⟨sb,30,none⟩=false:=by have:=H.out.cells.2.2.2.2.2.2.2;simpa only[World.frozen?,hsb2]using this
       have hcb2:w2.heap[m.cb]?=(w).heap[m.cb]?:=hkeep2 m.cb (lt_of_block H.out.came) (by rw[<- HSV2.out];exact z4);have hfb2:w2.heap[m.fb]?=(w).heap[m.fb]?:=hkeep2 m.fb (lt_of_block H.out.fresh) (by rw[<- HSV2.out];exact z6);have k12:=H.out.came.cell (i:=v) (by rw[HFT.out.cl];exact hv);have k22:=H.out.fresh.cell (i:=v) (by rw[HFT.out.fl];exact hv)
       (try dsimp only at k12)
       (try dsimp only at k22)
       rw[<- HC.out]at k12;rw[<- HF.out]at k22;simp only[World.cell?,World.frozen?]at k12 k22;rw[<- hcb2]at k12;rw[<- hfb2]at k22;obtain⟨k12,j12⟩:w2.cell? ⟨m.cb,v,none⟩=some (.int .u32 (c:Int))/\w2.frozen? ⟨m.cb,v,none⟩=false:=k12;obtain⟨k22,j22⟩:w2.cell? ⟨m.fb,v,none⟩=some (.int .u32 (f:Int))/\w2.frozen? ⟨m.fb,v,none⟩=false:=k22;clear x25 x26 x27 x28 x29 x30 y29 y30 z1 z2 z3 z4 z5 z6 z7 z8 hcb2 hfb2;clear hown2 hgrow2 hat2 hlt2 hown2b hkeep2 hsb2;go_wp2;go_end0;exact⟨rfl,⟨_,by rw[HXC.out];exact(HSR2.out.setCame v cq).setFresh v fq⟩,Fr.setCell (Fr.setCell HFR2.out H.out.cno _) H.out.fno _⟩
     . have hcB:((c:Int)==0)=false:=by simp;omega
       have hfB:((f:Int)==0)=false:=by simp;omega
       have HXC:Hid (R=⟨s.came.set v cq,s.fresh.set v fq,s.seen,s.todo⟩):=zA (by rw[HX.out,if_neg hc0,if_neg hf0]);clear HX;have HC0:=zA hc0;have HF0:=zA hf0;have hcI:¬(c:Int)=0:=by omega
       have hfI:¬(f:Int)=0:=by omega
       clear hc0 hf0;go_enter Tryz.func65,Tryz.ntmps65;go_wp2;go_end0;exact⟨rfl,⟨_,by rw[HXC.out];exact(H.out.setCame v cq).setFresh v fq⟩,Fr.setCell (Fr.setCell (Fr.refl S w) H.out.cno _) H.out.fno _⟩
end Go.Proofs.YtdalcipmpelifaaGreatDoor
namespace Go.Proofs.YtdalcipmpelifaaGreatDoor
open Go.RowKit Go.Shelf
structure Src {α:Type} (enc:α->List Value) (k:Nat) (w:World) (v:Value) (L:List α):Prop where
 sl:SlS enc k (fun _=>True) w v L
 no:∀n cap,v=.slice none n cap->n=0/\cap=0
section
variable {α:Type} {enc:α->List Value} {k:Nat}
theorem Src.below{w w':World}{v:Value}{L:List α}(h:Src enc k w v L)(hb:Below w.heap.size w w'):Src enc k w' v L:=⟨h.sl.below hb,h.no⟩
theorem Src.own(hk:∀x,(enc x).length=k){w:World}{B n:Nat}{e:TypeId}{v:Value}{L:List α}(h:w.ownsRow B e k v n (L.flatMap enc))(hn:n=L.length):Src enc k w v L:=by
 refine⟨(own_sl hk h hn).sub (fun _ _ _=>trivial),fun m cap e=>?_⟩;rcases h.2 with⟨h1,_⟩|⟨g,c,cur,h1,_⟩
 . rw[h1]at e;injection e with _ e2 e3;exact⟨e2.symm,e3.symm⟩
 . rw[h1]at e;injection e with e1;cases e1
theorem addA(g i j:Nat):(⟨g,i,none⟩:Addr).add j=⟨g,i+j,none⟩:=by
 unfold Addr.add;split<;>simp_all
theorem Src.cells(hk:∀x,(enc x).length=k)(hk0:0<k){w:World}{ao:Option Addr}{n cap:Nat}{L:List α}(h:Src enc k w (.slice ao n cap) L):∀ad,ao=some ad->∀j u,(L.flatMap enc)[j]?=some u->w.cell? (ad.add j)=some u:=by
 intro ad he j u hu;have hj:j<(L.flatMap enc).length:=(zE.1 hu).1;rw[flat_len hk]at hj;have hq:j/k<L.length:=Nat.div_lt_of_lt_mul (by rw[Nat.mul_comm];exact hj);have hx:=zB hq;have hc:=Nat.mod_lt j hk0;have hs:=Nat.div_add_mod' j k;obtain⟨g,off,e1,_,_,hcell⟩:=h.sl.get hx;rw[he]at e1;injection e1 with e1;subst e1;rw[addA,<- hs,show off+(j/k*k+j%k)=off+j/k*k+j%k by omega];refine hcell _ u ?_;rw[<- flat_at hk L _ _ _ hx hc,hs];exact hu
end
theorem csZ_len(x:Int):(csZ x).length=1:=rfl
end Go.Proofs.YtdalcipmpelifaaGreatDoor
namespace Go.Proofs.YtdalcipmpelifaaGreatDoor
open Go.RowKit
def wsetN(ws:List Wd)(s:Wd):Nat->Nat
 |0=>0
 |k+1=>if ws[k]?=some s then wsetN ws s k ||| 2^k else wsetN ws s k
theorem wset_bit(ws:List Wd)(s:Wd)(j:Nat):∀k,(wsetN ws s k).testBit j=true↔j<k/\ws[j]?=some s
 |0=>by simp[wsetN]
 |k+1=>by
  rw[wsetN];split
  . rename_i h;rw[Nat.testBit_or,Bool.or_eq_true,wset_bit ws s j k,Nat.testBit_two_pow,decide_eq_true_eq];constructor
    . rintro (⟨h1,h2⟩|rfl)
      . exact⟨by omega,h2⟩
      . exact⟨by omega,h⟩
    . rintro⟨h1,h2⟩;by_cases e:k=j
      . exact .inr e
      . exact .inl ⟨by omega,h2⟩
  . rename_i h;rw[wset_bit ws s j k];constructor
    . rintro⟨h1,h2⟩;exact⟨by omega,h2⟩
    . rintro⟨h1,h2⟩;have:j≠k:=fun e=>h (by rw[<- e];exact h2)
      exact⟨by omega,h2⟩
theorem wset_lt(ws:List Wd)(s:Wd):∀k,k<=24->wsetN ws s k<16777216
 |0,_=>by simp[wsetN]
 |k+1,h=>by
  rw[wsetN];have:=wset_lt ws s k (by omega);split
  . exact or_lt24 this (pow_lt24 (by omega))
  . exact this
def FolAt(w:World)(b o:Nat)(F:Nat->Nat):Prop:=∀j,j<24->w.cell? ⟨b,o+j,none⟩=some (.int .u32 (F j:Int))/\w.frozen? ⟨b,o+j,none⟩=false
end Go.Proofs.YtdalcipmpelifaaGreatDoor
