import Derived.Test.YtojjepkmnifngaaCMath
import Derived.WalkKit
import Derived.WalkSpells
import Derived.WalkLawsBesides
import Derived.Laws.BitsAllLaws
import Derived.Laws.BitsLemmas
namespace Go.Proofs.Ytojjepkmnifngaa
open Go.RowKit

theorem chid {p : Prop} (h : p) : Hid p := h

set_option maxRecDepth 100000 in
set_option maxHeartbeats 400000 in
theorem twice_any (n : Nat) (w : World) (hn : n < 4294967296) :
    Calls Try.prog 35 #[.int .u32 (n : Int)] w fun e w' => e = .returned (.int .u32 (tw n : Nat)) ∧ w' = w := by
  by_cases hh : 2147483648 ≤ n
  · have hx : bits .xor .u32 ((n : Int) * 2 % 4294967296) 79764919 = ((tw n : Nat) : Int) := by
      have hx := u32_xor_nat (2 * n - 4294967296) 79764919 (by omega) (by omega)
      rw [← tw_high n hh hn] at hx
      have e : ((2 * n - 4294967296 : Nat) : Int) = (n : Int) * 2 % 4294967296 := by omega
      rw [e] at hx
      exact hx
    go_enter Try.func35, Try.ntmps35
    go_wp2
    go_ret
    exact ⟨by simp, rfl⟩
  · have hx : ((tw n : Nat) : Int) = (n : Int) * 2 := by rw [tw_low n (by omega)]; omega
    go_enter Try.func35, Try.ntmps35
    go_wp2
    go_ret
    exact ⟨by simp [hx], rfl⟩
end Go.Proofs.Ytojjepkmnifngaa
