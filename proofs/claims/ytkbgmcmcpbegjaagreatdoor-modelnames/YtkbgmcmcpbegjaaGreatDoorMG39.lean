/- MOpen. -/
import Derived.Test.YtkbgmcmcpbegjaaGreatDoorMG38
import Derived.Test.YtkbgmcmcpbegjaaGreatDoorMG17
import Derived.Test.YtkbgmcmcpbegjaaGreatDoorMG11
set_option maxRecDepth 100000
namespace Go.Proofs.YtkbgmcmcpbegjaaGreatDoor
open Go.RowKit
theorem slice_weight{t el:TypeId}(ht:Tryz.prog.underlying t=some (.slice el)){H:Type}{enc:TypeId×Value->H}{W:World}{fuel:Nat}{v:Value}{x:DataW H×List MemPlace}
 (hf:DataW.trod enc Tryz.prog W 0 (fun _=>true) true fuel t [v]=some x) (hw:∀m∈x.1.weights Tryz.prog t,m<=reachBytes) {ao:Option Addr} {N c:Nat} (hv:v=.slice ao N c):N*Tryz.prog.bytesOf el<=reachBytes:=by
 subst hv;rcases Go.Deep.open_slice ht hf with⟨hcs,_⟩|⟨a,len,cap,m,n,D,Pl,hcs,_,hl,hm,hmm,hx,hcell⟩
 . simp only[List.cons.injEq,and_true]at hcs;injection hcs with _ h2 _;rw[h2,Nat.zero_mul];exact zO _
 . simp only[List.cons.injEq,and_true]at hcs;injection hcs with _ h2 _;subst h2;have h3:=hw ((((List.range N).map D).length+((List.range (m-N)).map fun j=>D (N+j)).length)*Tryz.prog.bytesOf el) (by
    rw[hx];simp only[DataW.weights,ht];exact zL ..)
   rw[zH,List.length_range]at h3;exact zT (Nat.mul_le_mul_right _ (Nat.le_add_right _ _)) h3
end Go.Proofs.YtkbgmcmcpbegjaaGreatDoor
