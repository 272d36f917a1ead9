/- NTab. -/
import Derived.Test.YtkbgmcmcpbegjaaGreatDoorMG22
import Derived.Lib.LaidTab
import Derived.MakeChecks
set_option maxRecDepth 100000
namespace Go.Proofs.YtkbgmcmcpbegjaaGreatDoor
open Go.RowKit Go.Shelf
theorem tabG_of_laid{W:World}(h:laidMetH Tryz.prog [("math/bits.deBruijn32tab",Rows.laid_math_bits_deBruijn32tab)] W):TabG W:=by
 rw[MakeChecks.laidMetH_plain _ _ _ (by kernel_rfl)]at h;have hg:Tryz.prog.globalNamed "math/bits.deBruijn32tab" =some 0:=by kernel_rfl
 have ht:(Tryz.prog.globals[0]?).map (·.type)=some 176:=by kernel_rfl
 have h2:Lib.TabIs Tryz.prog W "math/bits.deBruijn32tab" .u8 (Lib.deBruijn32tab.map fun (n:Nat)=>(n:Int)):=Lib.tabIs_of_head (n:=32) (e:=5) hg ht (by kernel_rfl) (by kernel_rfl) (by kernel_rfl) (by kernel_rfl) (rest:=[]) h;intro j hj;have h3:=h2.cell hg j (by simpa using hj);rw[h3];congr 2;have hj':j<Lib.deBruijn32tab.length:=hj;simp only[List.getD,zI];rw[zB hj'];rfl
end Go.Proofs.YtkbgmcmcpbegjaaGreatDoor
