import Derived.Test.YtiodlbmdkpomhaaNumB
namespace Go.Proofs.Ytiodlbmdkpomhaa
open Go.RowKit

theorem u8s_snoc (l : List UInt8) (x : UInt8) : u8s (l ++ [x]) = u8s l ++ [.int .u8 (x.toNat : Int)] := by simp [u8s]
theorem Hid.mk {p : Prop} (h : p) : Hid p := h

/-- 'string(b)' of bytes that the call owns. -/
theorem conv_own {w1 : World} {B n : Nat} {v : Value} {l : List UInt8} (hown : w1.ownsRow B 5 1 v n (u8s l)) (h : l ≠ []) :
    (convert 27 9 v).run Try.prog w1 = .ok (.string ⟨l.toArray⟩) w1 := by
  rcases hown.2 with ⟨_, hx⟩ | ⟨g, cap, cur, rfl, _⟩
  · have := hown.1; rw [hx] at this; simp [u8s] at this; exact absurd this h
  · have hl : l.length = n := by have := hown.1; simpa [u8s] using this
    subst hl
    exact run_convert_bytes_back (P := Try.prog) w1 27 9 5 ⟨g, 0, none⟩ cap l Try.underlying27 Try.underlying5 Try.underlying9 (fun j hj => by
      have := hown.cellAt j (by omega)
      rw [show (⟨g, 0, none⟩ : Addr).add j = ⟨g, j, none⟩ from by cases j <;> simp [Addr.add], this, u8s, List.getElem?_map, List.getElem?_eq_getElem hj]; rfl)

set_option maxHeartbeats 400000 in
theorem putNum_neg (n : Int) (w : World) (h : n < 0) :
    Calls Try.prog 21 #[.int .i64 n] w fun e w' => e = .returned (.tuple #[.string ⟨#[]⟩, .int .i64 1]) ∧ w' = w := by
  go_enter Try.func21, Try.ntmps21
  go_wp2
  go_ret2
  exact ⟨rfl, rfl⟩

set_option maxHeartbeats 400000 in
theorem putNum_pos (m : Nat) (w : World) (hm : m < 2 ^ 63) :
    Calls Try.prog 21 #[.int .i64 (m : Int)] w fun e w' => e = .returned (.tuple #[.string ⟨(numB m).toArray⟩, .int .i64 0]) ∧ Below w.heap.size w w' := by
  go_enter Try.func21, Try.ntmps21
  go_wp2_with fail
  refine (numBytes_any _ _ hm).mono ?_
  rintro e w' ⟨rfl, hb⟩
  go_wp2
  go_ret2
  exact ⟨rfl, hb⟩

end Go.Proofs.Ytiodlbmdkpomhaa
