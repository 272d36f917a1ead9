/- QMath. -/
import Derived.Test.YtkbgmcmcpbegjaaGreatDoorMG2
set_option maxRecDepth 100000
namespace Go.Proofs.YtkbgmcmcpbegjaaGreatDoor
open Go.RowKit
theorem foldl_max_le{l:List Nat}{m n:Nat}(hm:m<=n)(h:∀x∈l,x<=n):l.foldl max m<=n:=by
 induction l generalizing m with
 |nil=>exact hm
 |cons y l ih=>
  rw[yM];exact ih (Nat.max_le.2 ⟨hm,h y (zL ..)⟩) (fun x hx=>h x (zP _ hx))
theorem high_shaped:∀(d:Nat) (t:Pt),shapedP d t=true->high t<=d
 |0,_,h=>by simp[shapedP]at h
 |d+1,⟨k,w,l⟩,h=>by
  simp only[shapedP,Bool.and_eq_true,decide_eq_true_eq,yI]at h;rw[high_mk];have:(l.map high).foldl max 0<=d:=foldl_max_le (zO _) (fun x hx=>by
   obtain⟨y,hy,rfl⟩:=zV.1 hx;exact high_shaped d y (h.2 y hy))
  omega
end Go.Proofs.YtkbgmcmcpbegjaaGreatDoor
