/- QOpen. -/
import Derived.Test.YtkbgmcmcpbegjaaGreatDoorMG17
import Derived.Test.YtkbgmcmcpbegjaaGreatDoorMG3
set_option maxRecDepth 100000
namespace Go.Proofs.YtkbgmcmcpbegjaaGreatDoor
open Go.RowKit
theorem cellsQB:Tryz.prog.cellsOf 4=1:=by kernel_rfl
end Go.Proofs.YtkbgmcmcpbegjaaGreatDoor
