/- QMath. -/
import Derived.Test.YtkbgmcmcpbegjaaGreatDoorMG1
set_option maxRecDepth 100000
namespace Go.Proofs.YtkbgmcmcpbegjaaGreatDoor
open Go.RowKit
def high:Pt->Nat
 |⟨_,_,l⟩=>(l.map high).foldl max 0+1
theorem high_mk(k:Int)(w:List UInt8)(l:List Pt):high ⟨k,w,l⟩=(l.map high).foldl max 0+1:=by rw[high]
end Go.Proofs.YtkbgmcmcpbegjaaGreatDoor
