/- LinkAnew: an end that begins anew is told to the other one, which drops what waited for the elder one; all that is put behind that comes, once, in order; what comes late of the elder one is nothing; for all three numbers. -/
import Derived.Test.YtifmpcldiimdbaaXEBits
namespace Go.Proofs.Ytifmpcldiimdbaa
open Go.RowKit

theorem tick_take {f : En} {k n j : Nat} (hq : f.q = qs k 0 n) (hj : j < n) (h64 : j < 64) : (tickE f).take (j + 1) = (tickE f).take j ++ [carB f (f.fs + j) (pk k j)] := by
  have h := tick_get (e := f) (k := k) (a := 0) (b := n) (j := j) hq (by omega) h64
  rw [Nat.zero_add] at h
  rw [List.take_add_one, h]
  rfl
/-- The first meeting: all packets of a tick are answered, and nothing comes. -/
theorem carry_meet {ep k n : Nat} {t t' : En} (hn : 1 ≤ n ∧ n ≤ 64) {an : Bool}
    (h1 : ∀ j, j < n → takeE t (carB ⟨ep, 0, 1, 1, qs k 0 n⟩ (1 + j) (pk k j)) = (t', [], [telB t'], an)) (h2 : ∀ j, j < n → takeE t' (carB ⟨ep, 0, 1, 1, qs k 0 n⟩ (1 + j) (pk k j)) = (t', [], [telB t'], false))
    (hok : t'.ok) (ht : t'.ot = ep) (hw : t'.wt = 1) : carC ⟨ep, 0, 1, 1, qs k 0 n⟩ t = (⟨ep, t'.ep, 1, 1, qs k 0 n⟩, t', [], an) := by
  have hb1 : (takeE ⟨ep, 0, 1, 1, qs k 0 n⟩ (telB t')).1 = ⟨ep, t'.ep, 1, 1, qs k 0 n⟩ := by
    rw [tell_first (e := ⟨ep, 0, 1, 1, qs k 0 n⟩) hok (by omega) rfl ht, hw, dropE_none (by simp)]
  have hb2 : (takeE ⟨ep, t'.ep, 1, 1, qs k 0 n⟩ (telB t')).1 = ⟨ep, t'.ep, 1, 1, qs k 0 n⟩ := by
    rw [tell_here (e := ⟨ep, t'.ep, 1, 1, qs k 0 n⟩) hok (by omega) rfl ht, hw, dropE_none (by simp)]
  have key : ∀ j, j ≤ n → 1 ≤ j → carS ⟨ep, 0, 1, 1, qs k 0 n⟩ t ((tickE ⟨ep, 0, 1, 1, qs k 0 n⟩).take j) = (⟨ep, t'.ep, 1, 1, qs k 0 n⟩, t', [], an) := by
    intro j
    induction j with
    | zero => intro _ h; omega
    | succ j ih =>
      intro hj _
      rw [tick_take (k := k) (n := n) rfl (by omega) (by omega), carS_snoc]
      by_cases h0 : j = 0
      · subst h0
        simp only [List.take_zero, carS, List.foldl_nil, stepR, h1 0 (by omega), backs, List.foldl_cons, hb1, List.append_nil, Bool.false_or]
      · rw [ih (by omega) (by omega)]
        simp only [stepR, h2 j (by omega), backs, List.foldl_cons, List.foldl_nil, hb2, List.append_nil, Bool.or_false]
  have hl : (tickE ⟨ep, 0, 1, 1, qs k 0 n⟩).length = n := by rw [tickE_len, qs_len]; omega
  have h := key n (Nat.le_refl _) hn.1
  rw [List.take_of_length_le (by omega)] at h
  exact h
/-- Ends that know each other: all comes. -/
theorem carry_here {ef et k n fs : Nat} {t : List (List UInt8)} (he : 1 ≤ ef ∧ ef ≤ 1000) (het : 1 ≤ et ∧ et ≤ 1000) (hk : 1 ≤ k ∧ k ≤ 255) (hn : n ≤ 64) (hfs : 1 ≤ fs ∧ fs ≤ 1000)
    (ht : t.length ≤ 4096) (hts : ∀ p ∈ t, p.length ≤ 32768) : carC ⟨ef, et, 1, 1, qs k 0 n⟩ ⟨et, ef, fs, 1, t⟩ = (⟨ef, et, 1 + n, 1, []⟩, ⟨et, ef, fs, 1 + n, t⟩, (List.range n).map (nk k), false) := by
  have hok : ∀ v, 1 ≤ v ∧ v ≤ 1000 → (En.mk et ef fs v t).ok := fun v hv => ⟨het.1, by simp only; omega, by simp only; omega, hfs.1, by simp only; omega, hv.1, by simp only; omega, ht, hts⟩
  have key : ∀ j, j ≤ n → carS ⟨ef, et, 1, 1, qs k 0 n⟩ ⟨et, ef, fs, 1, t⟩ ((tickE ⟨ef, et, 1, 1, qs k 0 n⟩).take j) = (⟨ef, et, 1 + j, 1, qs k j n⟩, ⟨et, ef, fs, 1 + j, t⟩, (List.range j).map (nk k), false) := by
    intro j
    induction j with
    | zero => intro _; simp [carS]
    | succ j ih =>
      intro hj
      rw [tick_take (k := k) (n := n) rfl (by omega) (by omega), carS_snoc, ih (by omega)]
      have h1 : takeE ⟨et, ef, fs, 1 + j, t⟩ (carB ⟨ef, et, 1, 1, qs k 0 n⟩ (1 + j) (pk k j)) = (⟨et, ef, fs, 1 + j + 1, t⟩, [nk k j], [telB ⟨et, ef, fs, 1 + j + 1, t⟩], false) := by
        rw [pk, take_here (e := ⟨et, ef, fs, 1 + j, t⟩) (end_ok (by omega) (by omega) (by omega) (by omega) hk (by omega) (by omega)) (by simp) (by omega) (nk_fits hk (by omega)) rfl rfl, dropE_none (by simp only; omega), took_next rfl (by simp)]
      have h2 : (takeE ⟨ef, et, 1 + j, 1, qs k j n⟩ (telB ⟨et, ef, fs, 1 + j + 1, t⟩)).1 = ⟨ef, et, 1 + j + 1, 1, qs k (j + 1) n⟩ := by
        rw [tell_here (e := ⟨ef, et, 1 + j, 1, qs k j n⟩) (hok _ (by omega)) (by simp only; omega) rfl rfl]
        exact drop_qs (g := 1) (by omega)
      simp only [stepR, h1, backs, List.foldl_cons, List.foldl_nil, h2, Bool.or_false, List.range_succ, List.map_append, List.map_cons, List.map_nil]
      rfl
  have hl : (tickE ⟨ef, et, 1, 1, qs k 0 n⟩).length = n := by rw [tickE_len, qs_len]; omega
  have h := key n (Nat.le_refl _)
  rw [List.take_of_length_le (by omega), qs_nil] at h
  exact h
theorem carry_none {f t : En} (h : f.q = []) : carC f t = (f, t, [], false) := by
  have : tickE f = [] := by rw [tickE, h]; rfl
  rw [carC, this]
  rfl
/-! The ends of the statement. -/
def bE (i : Nat) : En := ⟨3, 0, 1, 1, qs 5 0 i⟩
def aE (i : Nat) : En := ⟨1, 0, 1, 1, qs 6 0 i⟩
def cE (i : Nat) : En := ⟨4, 0, 1, 1, qs 7 0 i⟩
theorem put_small {ep k i : Nat} (hk : 1 ≤ k ∧ k ≤ 255) (hi : i < 16) : (putE ⟨ep, 0, 1, 1, qs k 0 i⟩ (nk k i)).1 = ⟨ep, 0, 1, 1, qs k 0 (i + 1)⟩ ∧ (putE ⟨ep, 0, 1, 1, qs k 0 i⟩ (nk k i)).2.2 = 0 := by
  have hf : fitsN (nk k i) := nk_fits hk (by omega)
  rw [putE, if_neg (fun h => h hf)]
  simp only [qs_len]
  rw [if_neg (by omega), if_neg (by omega), pushE]
  exact ⟨by simp only [En.mk.injEq, true_and]; rw [qs_snoc (by omega)]; rfl, rfl⟩
theorem anw1 {n : Nat} (hn : 1 ≤ n ∧ n ≤ 16) : carC (bE n) (aE n) = (⟨3, 1, 1, 1, qs 5 0 n⟩, ⟨1, 3, 1, 1, qs 6 0 n⟩, [], false) := by
  have hfo : (En.mk 3 0 1 1 (qs 5 0 n)).ok := end_ok (by omega) (by omega) (by omega) (by omega) (by omega) (by omega) (by omega)
  exact carry_meet (t' := ⟨1, 3, 1, 1, qs 6 0 n⟩) (by omega)
    (fun j hj => take_first (e := aE n) hfo (by simp) (by omega) (nk_fits (by omega) (by omega)) rfl (by simp [aE]))
    (fun j hj => take_stale (e := ⟨1, 3, 1, 1, qs 6 0 n⟩) hfo (by simp) (by omega) (nk_fits (by omega) (by omega)) rfl (by simp))
    (end_ok (by omega) (by omega) (by omega) (by omega) (by omega) (by omega) (by omega)) rfl rfl
theorem anw2 {n : Nat} (hn : 1 ≤ n ∧ n ≤ 16) : carC ⟨3, 1, 1, 1, qs 5 0 n⟩ ⟨1, 3, 1, 1, qs 6 0 n⟩ = (⟨3, 1, 1 + n, 1, []⟩, ⟨1, 3, 1, 1 + n, qs 6 0 n⟩, (List.range n).map (nk 5), false) :=
  carry_here (by omega) (by omega) (by omega) (by omega) (by omega) (by rw [qs_len]; omega) (qs_short (by omega) (by omega))
def cR (m : Nat) : Nat → En
  | 0 => ⟨4, 0, 1, 1, qs 7 0 m⟩
  | 1 => ⟨4, 1, 1, 1, qs 7 0 m⟩
  | _ => ⟨4, 1, 1 + m, 1, []⟩
def aR (n m : Nat) : Nat → En
  | 0 => ⟨1, 3, 1, 1 + n, qs 6 0 n⟩
  | 1 => ⟨1, 4, 1, 1, []⟩
  | _ => ⟨1, 4, 1, 1 + m, []⟩
def lR (m : Nat) : Nat → List NoteD
  | 1 => (List.range m).map (nk 7)
  | _ => []
def tR : Nat → Bool
  | 0 => true
  | _ => false
theorem anw3 {n m : Nat} (hm : 1 ≤ m ∧ m ≤ 16) (r : Nat) : carC (cR m r) (aR n m r) = (cR m (r + 1), aR n m (r + 1), lR m r, tR r) := by
  have hfo : (En.mk 4 0 1 1 (qs 7 0 m)).ok := end_ok (by omega) (by omega) (by omega) (by omega) (by omega) (by omega) (by omega)
  have hne : (En.mk 1 4 1 1 []).ok := by
    have h : (En.mk 1 4 1 1 (qs 7 0 0)).ok := end_ok (by omega) (by omega) (by omega) (by omega) (by omega) (by omega) (by omega)
    rw [qs_nil] at h
    exact h
  match r with
  | 0 =>
    exact carry_meet (t' := ⟨1, 4, 1, 1, []⟩) (an := true) (by omega)
      (fun j hj => by
        rw [pk, takeE_car hfo (by simp) (by omega) (nk_fits (by omega) (by omega)), if_neg (by simp [aR])]
        have h1 : seeE (aR n m 0) 4 = (⟨1, 4, 1, 1, []⟩, true) := by simp [seeE, aR, meetE]
        simp only
        rw [h1, metE_not (by simp)])
      (fun j hj => take_stale (e := ⟨1, 4, 1, 1, []⟩) hfo (by simp) (by omega) (nk_fits (by omega) (by omega)) rfl (by simp))
      hne rfl rfl
  | 1 => exact carry_here (t := []) (by omega) (by omega) (by omega) (by omega) (by omega) (by simp) (by simp)
  | r + 2 => exact carry_none rfl
theorem anw4 {n m j : Nat} (hn : 1 ≤ n ∧ n ≤ 16) (hj : j < n) (r : Nat) : takeE (aR n m (r + 1)) (carB ⟨3, 1, 1, 1, qs 5 0 n⟩ (1 + j) (pk 5 j)) = (aR n m (r + 1), [], [], false) := by
  have hfo : (En.mk 3 1 1 1 (qs 5 0 n)).ok := end_ok (by omega) (by omega) (by omega) (by omega) (by omega) (by omega) (by omega)
  rw [pk, takeE_car hfo (by simp) (by omega) (nk_fits (by omega) (by omega))]
  match r with
  | 0 => rw [if_pos (by simp [aR])]
  | r + 1 => rw [if_pos (by simp [aR])]
end Go.Proofs.Ytifmpcldiimdbaa
