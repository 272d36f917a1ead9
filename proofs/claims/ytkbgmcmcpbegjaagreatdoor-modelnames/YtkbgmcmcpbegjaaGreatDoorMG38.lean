/- MOpen, MNames. -/
import Derived.Test.YtkbgmcmcpbegjaaGreatDoorMG26
set_option maxRecDepth 100000
namespace Go.Proofs.YtkbgmcmcpbegjaaGreatDoor
open Go.RowKit
theorem cellsMT:Tryz.prog.cellsOf 48=3:=by kernel_rfl
theorem open_fact{H:Type}{enc:TypeId×Value->H}{W:World}{fuel:Nat}{cs:List Value}{x:DataW H×List MemPlace}
 (hf:DataW.trod enc Tryz.prog W 0 (fun _=>true) true fuel 48 cs=some x) (hw:∀m∈x.1.weights Tryz.prog 48,m<=reachBytes):∃t:Fa,cs=csF t/\t.1.length<=140737488351232/\t.2.1.length<=140737488351232/\t.2.2.length<=140737488351232:=by
 obtain⟨y0,y1,y2,n,hx,hlen,h0,h1,h2⟩:=Go.Deep.trod_struct3 Tryz.underlying48 hf;rw[cellsMT]at hlen;obtain⟨c0,c1,c2,rfl⟩:∃c0 c1 c2,cs=[c0,c1,c2]:=by
  match cs,hlen with
  |[c0,c1,c2],_=>exact⟨c0,c1,c2,rfl⟩
 simp only[cellsQS,List.drop_zero,List.drop_succ_cons,List.take_succ_cons,List.take_zero]at h0 h1 h2;obtain⟨s0,k0,e0,l0⟩:=DataW.trod_string Tryz.underlying9 h0;obtain⟨s1,k1,e1,l1⟩:=DataW.trod_string Tryz.underlying9 h1;obtain⟨s2,k2,e2,l2⟩:=DataW.trod_string Tryz.underlying9 h2;simp only[List.cons.injEq,and_true]at k0 k1 k2;subst k0 k1 k2;rw[hx]at hw;simp only[DataW.weights,Tryz.underlying48,List.map_cons,List.map_nil,DataW.weightsEach,List.append_nil]at hw;refine⟨(s0.data.toList,s1.data.toList,s2.data.toList),rfl,?_,?_,?_⟩
 . exact hw _ (by rw[e0];simp[DataW.weights])
 . exact hw _ (by rw[e1];simp[DataW.weights])
 . exact hw _ (by rw[e2];simp[DataW.weights])
theorem open_facts{H:Type}{enc:TypeId×Value->H}{W:World}{fuel:Nat}{v:Value}{x:DataW H×List MemPlace}
 (hf:DataW.trod enc Tryz.prog W 0 (fun _=>true) true fuel 22 [v]=some x) (hw:∀m∈x.1.weights Tryz.prog 22,m<=reachBytes):
 ∃L:List Fa,FasS (fun _=>True) W v L/\(∀t∈L,t.1.length<=140737488351232/\t.2.1.length<=140737488351232/\t.2.2.length<=140737488351232)/\L.length<=maxLen/\CapS v L.length:=
 open_slN (en:=csF) ([],[],[]) csF_len (by decide) Tryz.underlying22 cellsMT (fun t=>t.1.length<=140737488351232/\t.2.1.length<=140737488351232/\t.2.2.length<=140737488351232) (fun _ cs y _ h hq=>open_fact h hq) hf hw
def FinF(v:Value)(L:List Fa):Prop:=L.length<=9223372036854775807/\(∀t∈L,t.1.length<=140737488351232/\t.2.1.length<=140737488351232/\t.2.2.length<=140737488351232)/\CapS v L.length
end Go.Proofs.YtkbgmcmcpbegjaaGreatDoor
namespace Go.Proofs.YtkbgmcmcpbegjaaGreatDoor
open Go.RowKit Go.Shelf
theorem own_neN{w:World}{B n b:Nat}{e t:TypeId}{size:Nat}{v:Value}{xs:List Value}{cs:Array Value}{fz:Nat×Nat}(h:w.ownsRow B e size v n xs)(hb:w.heap[b]?=some (.cells cs t fz))(hne:e≠t):v.ownBlock≠some b:=by
 intro hv;rcases h.2 with⟨rfl,_⟩|⟨g,cap,cur,rfl,_,e3,_⟩
 . simp[Value.ownBlock]at hv
 . have:g=b:=by simpa[Value.ownBlock]using hv
   subst this;rw[hb]at e3;injection e3 with e3;injection e3 with _ e4;exact hne e4.symm
structure NmR (w W:World) (o:Obj) (ab:Nat) (cs:Array Value) (u:Value) (N:List Wd):Prop where
 bel:Below (w.alloc o).heap.size (w.alloc o) W
 blk:W.heap[ab]?=some (.cells cs 55 (0,0))
 row:W.ownsRow (w.heap.size+1) 9 1 u N.length (N.flatMap csT)
theorem NmR.grow{w W w9:World}{o:Obj}{ab:Nat}{cs:Array Value}{u v:Value}{N:List Wd}{s:Wd}{o2:Obj}(h:NmR w W o ab cs u N)(hg:(W.alloc o2).grownBy w9 u.ownBlock)(ho:w9.ownsRow (w.heap.size+1) 9 1 v (N++[s]).length ((N++[s]).flatMap csT)):NmR w w9 o ab cs v (N++[s]):=by
 have ba:Below W.heap.size W (W.alloc o2):=(zE _ _).alloc (zD _) _;have hb:=h.bel.trans (ba.mono h.bel.size);have hblk:=(ba.block ab (lt_of_block h.blk)).trans h.blk;have hrow:=owns_below h.row ba;exact⟨hb.grown hg hb.size (fun k e=>by have:=(h.row.lt k e).1;simp;omega),(hg.block ab (lt_of_block hblk) (fun e=>own_neN hrow hblk (by decide) e.symm)).trans hblk,ho⟩
end Go.Proofs.YtkbgmcmcpbegjaaGreatDoor
