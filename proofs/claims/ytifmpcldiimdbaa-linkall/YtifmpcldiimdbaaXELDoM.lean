/- LinkAll: behind whatever script of up to 150 acts on a line of two ends, once all that an end sends again comes, in whatever order, all that was put has come and nothing waits: for every epochs, script and turn. -/
import Derived.Test.YtifmpcldiimdbaaXELComO
import Derived.Test.YtifmpcldiimdbaaXELAllM
import Derived.Test.YtifmpcldiimdbaaXELRight
import Derived.Test.YtifmpcldiimdbaaXELBeg
namespace Go.Proofs.Ytifmpcldiimdbaa
open Go.RowKit Go.Shelf

section
variable {N : Nat} {w0 : World} {T : Nat → Prop} {W W' : World} {x : Nat} {V : LV} {e : Nat → En} {U : Nat → List (List UInt8)} {n c : Nat → Nat}
theorem heard_short {p : List UInt8} {x : Hd} (h : heardP p = some x) : p.length ≤ 1048584 := by
  unfold heardP at h
  split at h
  · rename_i ho
    obtain ⟨hm, he⟩ := onlyP_ok ho
    have := packN_len (onlyP p).1
    rw [packN, if_pos hm, ← he] at this
    exact this
  · cases h
theorem LnI.short (h : LnI e U n c) {k : Nat} (hk : k < 2) : ∀ p ∈ U k, p.length ≤ 1048584 := by
  intro p hp
  obtain ⟨x, hx, _⟩ := (h.at_k hk).2.und p hp
  exact heard_short hx
theorem LnI.cle (h : LnI e U n c) {k : Nat} (hk : k < 2) : c k ≤ n (1 - k) ∧ n (1 - k) ≤ 1000 := ⟨(h.at_k hk).2.cn, (h.at_k hk).2.n2⟩
def StayE (W : World) (r : Ending) (w' : World) : Prop := r = .returned (.tuple #[]) ∧ w' = W
set_option maxRecDepth 100000 in
theorem comes_none (h : LnB w0 T W x V e U n c) {k : Nat} (hk : k < 2) (z : Int) (tw : Bool) (h0 : U k = []) :
    Calls Try.prog 28 #[.pointer (some ⟨x, 0, none⟩), .int .i64 (k : Int), .int .i64 z, .bool tw] W (StayE W) := by
  have HE : Hid (StayE W (.returned (.tuple #[])) W) := Hid.mk ⟨rfl, rfl⟩
  obtain ⟨ao, cap, hu, hu0, hu1, huc⟩ := txr_cells (h.tu k hk)
  obtain ⟨q0, q1⟩ := h.cells _ _ (lnC_u V hk)
  rw [hu, h0] at q0
  have hkI : (k : Int) < 2 := by omega
  clear h hu hu0 hu1 huc
  go_enter Try.func28, Try.ntmps28
  go_wp2
  go_end0
  exact HE.out
theorem comes_any (h : LnB w0 T W x V e U n c) (hi : LnI e U n c) {k : Nat} (hk : k < 2) (z : Int) (tw : Bool) (hm : (U k).length ≤ 1000) :
    Calls Try.prog 28 #[.pointer (some ⟨x, 0, none⟩), .int .i64 (k : Int), .int .i64 z, .bool tw] W (ComE w0 T x V e U n c k tw) := by
  by_cases h0 : U k = []
  · refine (comes_none h hk z tw h0).mono ?_
    rintro r w' ⟨rfl, rfl⟩
    exact ⟨rfl, .inl ⟨h0, h⟩⟩
  · have hA : ∀ s ∈ U k, ∃ f' ns ps, takeE (e k) s = (f', ns, ps, false) ∧ (ns = [] ∨ ns = [nk 5 (c k)]) := fun s hs => by
      obtain ⟨f', ns, ps, h1, h2, _⟩ := hi.come hk hs
      exact ⟨f', ns, ps, h1, h2⟩
    have hc : c k ≤ 1000 := by have := hi.cle hk; omega
    cases tw with
    | true => exact comes_twice h hk z h0 hA (hi.short hk) hm hc
    | false => exact comes_once h hk z h0 hA (hi.short hk) hm hc
/-- A line at any time: N payloads have been put at most. -/
structure LnS (w0 : World) (T : Nat → Prop) (W : World) (x : Nat) (V : LV) (e : Nat → En) (U : Nat → List (List UInt8)) (n c : Nat → Nat) (N : Nat) : Prop where
  b : LnB w0 T W x V e U n c
  i : LnI e U n c
  u : ∀ k, k < 2 → (U k).length ≤ 363
  N : n 0 + n 1 ≤ N
theorem LnS.nk (h : LnS w0 T W x V e U n c N) {k : Nat} (hk : k < 2) : n k ≤ N := by
  have := h.N
  match k, hk with
  | 0, _ => show n 0 ≤ N; omega
  | 1, _ => show n 1 ≤ N; omega
theorem sendU_363 {u l : List (List UInt8)} (hu : u.length ≤ 363) (hl : l.length ≤ 64) : (sendU u l).length ≤ 363 := by
  unfold sendU
  split
  · rw [List.length_append]; omega
  · exact hu
theorem u_two {U : Nat → List (List UInt8)} {k : Nat} (hk : k < 2) {a b : List (List UInt8)} (ha : a.length ≤ 363) (hb : b.length ≤ 363) : ∀ j, j < 2 → (upd (upd U k a) (1 - k) b j).length ≤ 363 :=
  both hk (by rw [upd_ne (ne_k2 hk), upd_same]; exact ha) (by rw [upd_same]; exact hb)
theorem u_one {U : Nat → List (List UInt8)} (h : ∀ j, j < 2 → (U j).length ≤ 363) {k : Nat} {a : List (List UInt8)} (ha : a.length ≤ 363) : ∀ j, j < 2 → (upd U k a j).length ≤ 363 := fun j hj => by
  by_cases e : j = k
  · rw [e, upd_same]; exact ha
  · rw [upd_ne e]; exact h j hj
theorem n_one {n : Nat → Nat} {N k : Nat} (h : n 0 + n 1 ≤ N) (hk : k < 2) : upd n k (n k + 1) 0 + upd n k (n k + 1) 1 ≤ N + 1 := by
  match k, hk with
  | 0, _ => show n 0 + 1 + n 1 ≤ N + 1; omega
  | 1, _ => show n 0 + (n 1 + 1) ≤ N + 1; omega
/-- What comes leaves a line at rest. -/
theorem LnS.come {N : Nat} {r : Ending} {k : Nat} {tw : Bool} (h : LnS w0 T W x V e U n c N) (hk : k < 2) (hc : ComE w0 T x V e U n c k tw r W') : r = .returned (.tuple #[]) ∧ ∃ T' V' e' U' c', LnS w0 T' W' x V' e' U' n c' N ∧ ∀ j, T j → T' j := by
  obtain ⟨hr, ⟨h0, hl⟩ | ⟨i, s, f', ns, ps, T', V', hs, ht, hl, -, hT⟩⟩ := hc
  · exact ⟨hr, T, V, e, U, c, ⟨hl, h.i, h.u, h.N⟩, fun _ h => h⟩
  · refine ⟨hr, T', V', _, _, _, ⟨hl, ?_, ?_, h.N⟩, hT⟩
    · obtain ⟨f2, ns2, ps2, e2, -, hln⟩ := h.i.come hk (List.mem_of_getElem? hs)
      rw [ht] at e2
      cases e2
      exact hln _ (fun q hq => by
        split at hq
        · exact hq
        · exact erase_sub hq)
    · have hps : ps.length ≤ 1 := by
        obtain ⟨y, hy, _⟩ := (h.i.at_k hk).2.und s (List.mem_of_getElem? hs)
        obtain ⟨f2, ns2, ps2, e2, -, -, -, r4, -⟩ := take_rep (h.i.at_k hk).2 (List.mem_of_getElem? hs) hy
        rw [ht] at e2
        cases e2
        rcases r4 with rfl | rfl <;> simp
      refine u_two hk ?_ (sendU_363 (h.u _ (by omega)) (by omega))
      split
      · exact h.u k hk
      · have := h.u k hk
        rw [List.length_eraseIdx]
        split <;> omega
end
end Go.Proofs.Ytifmpcldiimdbaa
