/- QOpen. -/
import Derived.Test.YtkbgmcmcpbegjaaGreatDoorMG10
import Derived.Test.YtkbgmcmcpbegjaaGreatDoorMG2
set_option maxRecDepth 100000
namespace Go.Proofs.YtkbgmcmcpbegjaaGreatDoor
open Go.RowKit
theorem open_txts{H:Type}{enc:TypeId×Value->H}{W:World}{fuel:Nat}{v:Value}{x:DataW H×List MemPlace}
 (hf:DataW.trod enc Tryz.prog W 0 (fun _=>true) true fuel 34 [v]=some x) (hw:∀m∈x.1.weights Tryz.prog 34,m<=reachBytes):
 ∃L:List (List UInt8),SlS csT 1 (fun _=>True) W v L/\(∀s∈L,s.length<=140737488351232)/\L.length<=maxLen/\CapS v L.length:=
 open_slN (en:=csT) [] (fun _=>rfl) (by decide) Tryz.underlying34 cellsQS (fun s=>s.length<=140737488351232) (fun _ cs y _ h hq=>by
  obtain⟨s,rfl,hy,_⟩:=DataW.trod_string Tryz.underlying9 h;refine⟨s.data.toList,rfl,?_⟩;rw[hy]at hq;exact hq _ (by simp[DataW.weights])) hf hw
end Go.Proofs.YtkbgmcmcpbegjaaGreatDoor
