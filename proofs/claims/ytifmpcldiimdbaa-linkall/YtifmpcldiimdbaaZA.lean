/- Parts of the proofs of stage 15. -/
import Derived.Lib.BitFns
import Derived.Test.YtifmpcldiimdbaaRows
import Derived.Test.YtifmpcldiimdbaaShelf
import Derived.WalkKit
import Derived.WalkSpells
import Derived.WalkLawsBesides
import Derived.Laws.BitsAllLaws
import Derived.OpenShut
namespace Go.Proofs.Ytifmpcldiimdbaa
/-- The digits of n to base 256, the lowest first (at most f of them). -/
def lowD : Nat → Nat → List UInt8
  | 0, _ => []
  | f + 1, n => if n = 0 then [] else UInt8.ofNat (n % 256) :: lowD f (n / 256)

/-- A number's bytes. -/
def numB (n : Nat) : List UInt8 := UInt8.ofNat (lowD 8 n).length :: (lowD 8 n).reverse

/-- What bytes mean, the highest first. -/
def beVal (l : List UInt8) : Nat := l.foldl (fun a b => a * 256 + b.toNat) 0

theorem lowD_zero (f : Nat) : lowD f 0 = [] := by cases f <;> simp [lowD]
theorem lowD_pos (f n : Nat) (h : 0 < n) : lowD (f + 1) n = UInt8.ofNat (n % 256) :: lowD f (n / 256) := by
  simp [lowD, Nat.pos_iff_ne_zero.1 h]
theorem lowD_le (f : Nat) : ∀ n, (lowD f n).length ≤ f := by
  induction f with
  | zero => intro n; simp [lowD]
  | succ f ih => intro n; unfold lowD; split <;> simp; exact ih _

theorem lowD_more (f : Nat) : ∀ n, n < 256 ^ f → lowD (f + 1) n = lowD f n := by
  induction f with
  | zero => intro n h; simp at h; subst h; simp [lowD]
  | succ f ih =>
    intro n h
    by_cases h0 : n = 0
    · subst h0; simp [lowD]
    · rw [lowD_pos (f + 1) n (by omega), lowD_pos f n (by omega), ih (n / 256) (by rw [Nat.div_lt_iff_lt_mul (by omega)]; rw [Nat.pow_succ] at h; exact h)]

theorem lowD_get (f : Nat) : ∀ n j, n < 256 ^ f → (lowD f n)[j]?.getD 0 = UInt8.ofNat (n / 256 ^ j % 256) := by
  induction f with
  | zero => intro n j h; simp at h; subst h; simp [lowD]
  | succ f ih =>
    intro n j h
    by_cases h0 : n = 0
    · subst h0; simp [lowD]
    · rw [lowD_pos _ _ (by omega)]
      cases j with
      | zero => simp
      | succ j =>
        simp only [List.getElem?_cons_succ]
        rw [ih _ _ (by rw [Nat.div_lt_iff_lt_mul (by omega)]; rw [Nat.pow_succ] at h; exact h)]
        rw [Nat.div_div_eq_div_mul, Nat.pow_succ, Nat.mul_comm]

/-- The digits are as many as eights of bits are begun. -/
theorem lowD_length_iff (f : Nat) : ∀ n j, n < 256 ^ f → (j < (lowD f n).length ↔ 256 ^ j ≤ n) := by
  induction f with
  | zero => intro n j h; simp at h; subst h; simp [lowD]
  | succ f ih =>
    intro n j h
    by_cases h0 : n = 0
    · subst h0; simp [lowD]
    · rw [lowD_pos _ _ (by omega)]
      cases j with
      | zero => simp; omega
      | succ j =>
        simp only [List.length_cons, Nat.add_lt_add_iff_right]
        rw [ih _ _ (by rw [Nat.div_lt_iff_lt_mul (by omega)]; rw [Nat.pow_succ] at h; exact h)]
        rw [Nat.le_div_iff_mul_le (by omega), Nat.pow_succ]

theorem bitLenAux_iff (f : Nat) : ∀ x j, x < 2 ^ f → (j < Lib.bitLenAux f x ↔ 2 ^ j ≤ x) := by
  induction f with
  | zero => intro x j h; simp at h; subst h; simp [Lib.bitLenAux]
  | succ f ih =>
    intro x j h
    unfold Lib.bitLenAux
    by_cases h0 : x = 0
    · subst h0; simp
    · simp only [h0, if_false]
      cases j with
      | zero => simp; omega
      | succ j =>
        rw [show (j + 1 < 1 + Lib.bitLenAux f (x / 2)) ↔ j < Lib.bitLenAux f (x / 2) by omega]
        rw [ih _ _ (by rw [Nat.div_lt_iff_lt_mul (by omega)]; rw [Nat.pow_succ] at h; exact h)]
        rw [Nat.le_div_iff_mul_le (by omega), Nat.pow_succ]

theorem bitLen_iff (x j : Nat) (h : x < 2 ^ 64) : j < Lib.bitLen x ↔ 2 ^ j ≤ x := bitLenAux_iff 64 x j h

/-- How many bytes a number has behind its first. -/
theorem size_eq (n : Nat) (h : n < 2 ^ 63) : (Lib.bitLen n + 7) / 8 = (lowD 8 n).length := by
  have hn : n < 256 ^ 8 := Nat.lt_of_lt_of_le h (by decide)
  have key : ∀ j, j < (Lib.bitLen n + 7) / 8 ↔ j < (lowD 8 n).length := by
    intro j
    rw [lowD_length_iff 8 n j hn, show (256 ^ j) = 2 ^ (8 * j) by rw [Nat.pow_mul]]
    rw [← bitLen_iff n (8 * j) (Nat.lt_of_lt_of_le h (by decide))]
    omega
  have a := key ((lowD 8 n).length)
  have b := key ((Lib.bitLen n + 7) / 8)
  omega
/-- What numBytes' row holds behind i rounds. -/
def rowN (m sz i : Nat) : List UInt8 := UInt8.ofNat sz :: (List.replicate (sz - i) 0 ++ ((lowD 8 m).take i).reverse)

theorem rowN_start (m sz : Nat) : (List.replicate (1 + sz) (0 : UInt8)).set 0 (UInt8.ofNat sz) = rowN m sz 0 := by
  rw [Nat.add_comm 1 sz, List.replicate_succ]; simp [rowN]

theorem rowN_end (m : Nat) : rowN m (lowD 8 m).length (lowD 8 m).length = numB m := by
  simp [rowN, numB]

theorem rowN_length (m sz i : Nat) (h : sz = (lowD 8 m).length) (hi : i ≤ sz) : (rowN m sz i).length = 1 + sz := by
  simp [rowN]; omega

theorem rowN_step (m sz i : Nat) (h : sz = (lowD 8 m).length) (hi : i < sz) (hm : m < 256 ^ 8) :
    (rowN m sz i).set (sz - i) (UInt8.ofNat (m / 256 ^ i % 256)) = rowN m sz (i + 1) := by
  have hg := lowD_get 8 m i hm
  rw [List.getElem?_eq_getElem (by omega)] at hg
  simp only [Option.getD_some] at hg
  unfold rowN
  rw [show sz - i = (sz - (i + 1)) + 1 by omega, List.set_cons_succ, List.replicate_succ', List.append_assoc, List.set_append_right _ _ (by simp)]
  rw [List.length_replicate, Nat.sub_self, List.singleton_append, List.set_cons_zero]
  rw [List.take_succ_eq_append_getElem (by omega), List.reverse_append, hg]
  simp
theorem low_step (m c : Nat) (acc : List UInt8) (hl : acc.length < 8) (h0 : 0 < c) (hc : c < 256 ^ (8 - acc.length)) (heq : acc ++ lowD (8 - acc.length) c = lowD 8 m) :
    c / 256 < 256 ^ (8 - (acc ++ [UInt8.ofNat (c % 256)]).length) ∧ (acc ++ [UInt8.ofNat (c % 256)]) ++ lowD (8 - (acc ++ [UInt8.ofNat (c % 256)]).length) (c / 256) = lowD 8 m := by
  have e : 8 - acc.length = (8 - (acc ++ [UInt8.ofNat (c % 256)]).length) + 1 := by simp; omega
  rw [e] at hc heq
  refine ⟨by rw [Nat.div_lt_iff_lt_mul (by omega)]; rw [Nat.pow_succ] at hc; exact hc, ?_⟩
  rw [lowD_pos _ _ h0] at heq
  rw [List.append_assoc]; exact heq

theorem ofNat_mod (c : Nat) : ((UInt8.ofNat (c % 256)).toNat : Int) = (c : Int) % 256 := by
  rw [UInt8.toNat_ofNat']; omega
theorem down_step (m k : Nat) (x : UInt8) (hx : (lowD 8 m)[k]? = some x) (h : UInt8) :
    h :: ((lowD 8 m).drop (k + 1)).reverse ++ [x] = h :: ((lowD 8 m).drop k).reverse := by
  obtain ⟨hk, e⟩ := List.getElem?_eq_some_iff.1 hx
  rw [List.drop_eq_getElem_cons hk, e]; simp

theorem numB_nil (m : Nat) (h : lowD 8 m = []) : numB m = [0] := by simp [numB, h]
theorem numB_length (m : Nat) : (numB m).length = 1 + (lowD 8 m).length := by simp [numB]; omega
theorem numB_le (m : Nat) : (numB m).length ≤ 9 := by have := lowD_le 8 m; rw [numB_length]; omega
theorem beVal_snoc (l : List UInt8) (x : UInt8) : beVal (l ++ [x]) = beVal l * 256 + x.toNat := by simp [beVal]
theorem beVal_cons_aux (l : List UInt8) : ∀ a, l.foldl (fun a b => a * 256 + b.toNat) a = a * 256 ^ l.length + beVal l := by
  induction l with
  | nil => intro a; simp [beVal]
  | cons x l ih =>
    intro a
    simp only [List.foldl_cons, beVal, List.length_cons]
    rw [ih, ih (0 * 256 + x.toNat), Nat.pow_succ, Nat.add_mul]
    simp only [Nat.zero_mul, Nat.zero_add]
    rw [Nat.mul_assoc, Nat.mul_comm 256, Nat.add_assoc]
theorem beVal_cons (x : UInt8) (l : List UInt8) : beVal (x :: l) = x.toNat * 256 ^ l.length + beVal l := by
  have := beVal_cons_aux l x.toNat
  simpa [beVal] using this
theorem beVal_lt (l : List UInt8) : beVal l < 256 ^ l.length := by
  induction l with
  | nil => simp [beVal]
  | cons x l ih =>
    rw [beVal_cons, List.length_cons, Nat.pow_succ]
    have h1 : x.toNat ≤ 255 := by have := x.toNat_lt; omega
    have h2 := Nat.mul_le_mul_right (256 ^ l.length) h1
    omega
theorem pow8_le {k : Nat} (h : k ≤ 7) : 256 ^ k ≤ 72057594037927936 := by
  have : 256 ^ k ≤ 256 ^ 7 := Nat.pow_le_pow_right (by omega) h
  omega
theorem take_snoc (s : ByteArray) (k : Nat) (h : k < s.size) : s.data.toList.take (k + 1) = s.data.toList.take k ++ [s[k]] := by
  rw [List.take_succ_eq_append_getElem (by simpa using h)]; rfl
/-- The number that bytes begin with, how many bytes it has, and why there is none (ErrNum 10, ErrCut 11). -/
def numP (l : List UInt8) : Nat × Nat × Nat :=
  match l with
  | [] => (0, 0, 11)
  | c :: r =>
    if 8 < c.toNat then (0, 0, 10)
    else if r.length < c.toNat then (0, 0, 11)
    else if (0 < c.toNat ∧ r.head? = some 0) ∨ 9223372036854775807 < beVal (r.take c.toNat) then (0, 0, 10)
    else (beVal (r.take c.toNat), 1 + c.toNat, 0)

theorem numP_gt (c : UInt8) (r : List UInt8) (h : 8 < c.toNat) : numP (c :: r) = (0, 0, 10) := by simp [numP, h]
theorem numP_cut (c : UInt8) (r : List UInt8) (h : ¬ 8 < c.toNat) (h2 : r.length < c.toNat) : numP (c :: r) = (0, 0, 11) := by simp [numP, h, h2]
theorem numP_zero (c : UInt8) (r : List UInt8) (h : ¬ 8 < c.toNat) (h2 : ¬ r.length < c.toNat) (h3 : 0 < c.toNat) (h4 : r.head? = some 0) : numP (c :: r) = (0, 0, 10) := by
  simp only [numP, h, h2, if_false]; rw [if_pos (Or.inl ⟨h3, h4⟩)]
theorem numP_big (c : UInt8) (r : List UInt8) (h : ¬ 8 < c.toNat) (h2 : ¬ r.length < c.toNat) (h4 : 9223372036854775807 < beVal (r.take c.toNat)) : numP (c :: r) = (0, 0, 10) := by
  simp only [numP, h, h2, if_false]; rw [if_pos (Or.inr h4)]
theorem numP_ok (c : UInt8) (r : List UInt8) (h : ¬ 8 < c.toNat) (h2 : ¬ r.length < c.toNat) (h3 : ¬ (0 < c.toNat ∧ r.head? = some 0)) (h4 : ¬ 9223372036854775807 < beVal (r.take c.toNat)) :
    numP (c :: r) = (beVal (r.take c.toNat), 1 + c.toNat, 0) := by
  simp only [numP, h, h2, if_false]; rw [if_neg (fun g => g.elim h3 h4)]
end Go.Proofs.Ytifmpcldiimdbaa

namespace Go.Proofs.Ytifmpcldiimdbaa
open Go.RowKit
theorem info5 : (Try.prog.info? 5).map (fun i => (i.zero, i.size, i.bytes)) = some (some (.int .u8 0), 1, 1) := by kernel_rfl

/-- A row of bytes as cells. -/
def u8s (l : List UInt8) : List Value := l.map fun b => .int .u8 (b.toNat : Int)

theorem start_row (m bl : Nat) (hb : bl ≤ 64) {w1 : World} {B : Nat}
    (hown : w1.ownsRow B 5 1 (.slice (some ⟨B, 0, none⟩) (1 + (bl + 7) / 8) (1 + (bl + 7) / 8)) (1 + (bl + 7) / 8) (madeCells #[Value.int IntKind.u8 0] (1 + (bl + 7) / 8)).toList) :
    (w1.setCell ⟨B, 0, none⟩ (.int .u8 (((bl : Int) + 7) / 8))).ownsRow B 5 1 (.slice (some ⟨B, 0, none⟩) (1 + (bl + 7) / 8) (1 + (bl + 7) / 8)) (1 + (bl + 7) / 8) (u8s (rowN m ((bl + 7) / 8) 0)) := by
  have h := (hown.stored 0 (.int .u8 (((bl : Int) + 7) / 8))).1
  rw [toList_madeCells_one] at h
  rw [← rowN_start]
  have e : (List.replicate (1 + (bl + 7) / 8) (Value.int IntKind.u8 0)).set 0 (.int .u8 (((bl : Int) + 7) / 8)) = u8s ((List.replicate (1 + (bl + 7) / 8) (0 : UInt8)).set 0 (UInt8.ofNat ((bl + 7) / 8))) := by
    rw [u8s, List.map_set, List.map_replicate]
    have e2 : ((UInt8.ofNat ((bl + 7) / 8)).toNat : Int) = ((bl : Int) + 7) / 8 := by
      rw [UInt8.toNat_ofNat']; omega
    rw [e2]; rfl
  rw [← e]; exact h

theorem step_row (m sz k : Nat) (h : sz = (lowD 8 m).length) (hk : k < sz) (hm : m < 2 ^ 63) {w1 : World} {B : Nat}
    (hown : w1.ownsRow B 5 1 (.slice (some ⟨B, 0, none⟩) (1 + sz) (1 + sz)) (1 + sz) (u8s (rowN m sz k))) :
    (w1.setCell ⟨B, sz - k, none⟩ (.int .u8 ((m : Int) / 2 ^ (8 * k) % 256))).ownsRow B 5 1 (.slice (some ⟨B, 0, none⟩) (1 + sz) (1 + sz)) (1 + sz) (u8s (rowN m sz (k + 1))) := by
  have g := (hown.stored (sz - k) (.int .u8 ((m : Int) / 2 ^ (8 * k) % 256))).1
  rw [← rowN_step m sz k h hk (Nat.lt_of_lt_of_le hm (by decide))]
  have e2 : ((UInt8.ofNat (m / 256 ^ k % 256)).toNat : Int) = (m : Int) / 2 ^ (8 * k) % 256 := by
    rw [UInt8.toNat_ofNat', show (256 ^ k) = 2 ^ (8 * k) by rw [Nat.pow_mul]]
    have : m / 2 ^ (8 * k) % 256 % 2 ^ 8 = m / 2 ^ (8 * k) % 256 := by omega
    rw [this]; simp
  rw [u8s, List.map_set, e2]
  exact g

theorem end_row (m sz : Nat) (h : sz = (lowD 8 m).length) {w1 : World} {B : Nat}
    (hown : w1.ownsRow B 5 1 (.slice (some ⟨B, 0, none⟩) (1 + sz) (1 + sz)) (1 + sz) (u8s (rowN m sz sz))) :
    (convert 104 9 (.slice (some ⟨B, 0, none⟩) (1 + sz) (1 + sz))).run Try.prog w1 = .ok (.string ⟨(numB m).toArray⟩) w1 := by
  subst h
  rw [rowN_end] at hown
  have hl : (numB m).length = 1 + (lowD 8 m).length := by simp [numB]; omega
  have g := run_convert_bytes_back (P := Try.prog) w1 104 9 5 ⟨B, 0, none⟩ (1 + (lowD 8 m).length) (numB m) Try.underlying104 Try.underlying5 Try.underlying9 (fun j hj => by
    have := hown.cellAt j (by omega)
    rw [show (⟨B, 0, none⟩ : Addr).add j = ⟨B, j, none⟩ from by cases j <;> simp [Addr.add], this, u8s, List.getElem?_map, List.getElem?_eq_getElem hj]; rfl)
  rw [hl] at g
  exact g

set_option maxHeartbeats 400000 in
set_option maxRecDepth 100000 in
theorem numBytes_any (m : Nat) (w : World) (hm : m < 2 ^ 63) :
    Calls Try.prog 77 #[.int .i64 (m : Int)] w fun e w' => e = .returned (.string ⟨(numB m).toArray⟩) ∧ Below w.heap.size w w' := by
  have hm' : (m : Int) ≤ 9223372036854775807 := by omega
  obtain ⟨i0, hi, hz0, hz1, hz2⟩ := info_parts info5
  have hse := size_eq m hm
  have hle := lowD_le 8 m
  go_enter Try.func77, Try.ntmps77
  go_wp2_with fail
  refine (Try.bits_Len _ _ (by omega) (by omega)).mono ?_
  rintro e w' ⟨rfl, rfl⟩
  rw [Int.toNat_natCast]
  generalize hbl : Lib.bitLen m = bl at *
  have hbl' : bl ≤ 64 := by omega
  have HE : Hid ((bl + 7) / 8 = (lowD 8 m).length) := hse
  have HB : Hid (Lib.bitLen m = bl) := hbl
  clear hse hbl
  go_wp2_with (at_make; refine wpList_make_full _ rfl _ _ 104 rfl w'.heap.size 5 i0 (.int .u8 0) 1 Try.underlying104 hi hz0 hz1 _ _ _ _ (1 + (bl + 7) / 8) rfl rfl (by omega) (by omega) (by rw [hz2]; omega) (by unfold maxLen; omega) (Nat.le_refl _) ?_)
  intro w1 hown hgrow
  have hf0 := hown.frozenAt 0
  have hc0 : w1.cell? ⟨w'.heap.size, 0, none⟩ = some (.int .u8 0) := by
    rw [hown.cellAt 0 (by omega), toList_madeCells_one]
    rw [List.getElem?_replicate, if_pos (by omega)]
  have hst := start_row m bl (by omega) hown
  have hbw : Below w'.heap.size w' (w1.setCell ⟨w'.heap.size, 0, none⟩ (.int .u8 (((bl : Int) + 7) / 8))) :=
    ((Below.refl _ _).grown hgrow (Nat.le_refl _) (by simp)).setCell (Nat.le_refl _) _
  have HS : Hid ((w1.setCell ⟨w'.heap.size, 0, none⟩ (.int .u8 (((bl : Int) + 7) / 8))).ownsRow w'.heap.size 5 1 (.slice (some ⟨w'.heap.size, 0, none⟩) (1 + (bl + 7) / 8) (1 + (bl + 7) / 8)) (1 + (bl + 7) / 8) (u8s (rowN m ((bl + 7) / 8) 0))) := hst
  clear hst hown hgrow
  go_wp2_with fail
  go_loopw [19] (fun i wr => ∃ k : Nat, k ≤ (bl + 7) / 8 ∧ i = .int .i64 k ∧ wr.ownsRow w'.heap.size 5 1 (.slice (some ⟨w'.heap.size, 0, none⟩) (1 + (bl + 7) / 8) (1 + (bl + 7) / 8)) (1 + (bl + 7) / 8) (u8s (rowN m ((bl + 7) / 8) k)) ∧ Below w'.heap.size w' wr) (fun i _ => (bl + 7) / 8 - (intOf i).toNat)
  case atStart => exact ⟨0, Nat.zero_le _, rfl, HS.out, hbw⟩
  case round =>
    obtain ⟨k, hk, rfl, hown, hb⟩ := hrel
    clear hc0 hf0
    have hf := hown.frozenAt ((bl + 7) / 8 - k)
    have hcx : ∃ v, wr.cell? ⟨w'.heap.size, (bl + 7) / 8 - k, none⟩ = some v := by
      rw [hown.cellAt _ (by omega)]
      exact ⟨_, List.getElem?_eq_getElem (by simp [u8s]; rw [rowN_length _ _ _ HE.out hk]; omega)⟩
    obtain ⟨v, hc⟩ := hcx
    by_cases hlt : k < (bl + 7) / 8
    · have R := step_row m ((bl + 7) / 8) k HE.out hlt hm hown
      have hb2 := hb.setCell (p := ⟨w'.heap.size, (bl + 7) / 8 - k, none⟩) (Nat.le_refl _) (.int .u8 ((m : Int) / 2 ^ (8 * k) % 256))
      have HR := R
      clear hown R
      go_wp2
      go_roundw
      case rel => exact ⟨k + 1, by omega, by go_num, HR, hb2⟩
      case measure => simp [intOf]; omega
    · have hke : k = (bl + 7) / 8 := by omega
      have hcv := end_row m ((bl + 7) / 8) HE.out (hke ▸ hown)
      clear hown hc hf
      go_wp2
      go_ret
      exact ⟨rfl, hb⟩
end Go.Proofs.Ytifmpcldiimdbaa

namespace Go.Proofs.Ytifmpcldiimdbaa
open Go.RowKit

theorem u8s_snoc (l : List UInt8) (x : UInt8) : u8s (l ++ [x]) = u8s l ++ [.int .u8 (x.toNat : Int)] := by simp [u8s]
theorem Hid.mk {p : Prop} (h : p) : Hid p := h

/-- 'string(b)' of bytes that the call owns. -/
theorem conv_own {w1 : World} {B n : Nat} {v : Value} {l : List UInt8} (hown : w1.ownsRow B 5 1 v n (u8s l)) (h : l ≠ []) :
    (convert 104 9 v).run Try.prog w1 = .ok (.string ⟨l.toArray⟩) w1 := by
  rcases hown.2 with ⟨_, hx⟩ | ⟨g, cap, cur, rfl, _⟩
  · have := hown.1; rw [hx] at this; simp [u8s] at this; exact absurd this h
  · have hl : l.length = n := by have := hown.1; simpa [u8s] using this
    subst hl
    exact run_convert_bytes_back (P := Try.prog) w1 104 9 5 ⟨g, 0, none⟩ cap l Try.underlying104 Try.underlying5 Try.underlying9 (fun j hj => by
      have := hown.cellAt j (by omega)
      rw [show (⟨g, 0, none⟩ : Addr).add j = ⟨g, j, none⟩ from by cases j <;> simp [Addr.add], this, u8s, List.getElem?_map, List.getElem?_eq_getElem hj]; rfl)

set_option maxRecDepth 100000 in
set_option maxHeartbeats 400000 in
theorem putNum_neg (n : Int) (w : World) (h : n < 0) :
    Calls Try.prog 62 #[.int .i64 n] w fun e w' => e = .returned (.tuple #[.string ⟨#[]⟩, .int .i64 1]) ∧ w' = w := by
  go_enter Try.func62, Try.ntmps62
  go_wp2
  go_ret2
  exact ⟨rfl, rfl⟩

set_option maxRecDepth 100000 in
set_option maxHeartbeats 400000 in
theorem putNum_pos (m : Nat) (w : World) (hm : m < 2 ^ 63) :
    Calls Try.prog 62 #[.int .i64 (m : Int)] w fun e w' => e = .returned (.tuple #[.string ⟨(numB m).toArray⟩, .int .i64 0]) ∧ Below w.heap.size w w' := by
  go_enter Try.func62, Try.ntmps62
  go_wp2_with fail
  refine (numBytes_any _ _ hm).mono ?_
  rintro e w' ⟨rfl, hb⟩
  go_wp2
  go_ret2
  exact ⟨rfl, hb⟩

set_option maxRecDepth 100000 in
set_option maxHeartbeats 400000 in
theorem rPutNum_neg (n : Int) (w : World) (h : n < 0) :
    Calls Try.prog 70 #[.int .i64 n] w fun e w' => e = .returned (.tuple #[.string ⟨#[]⟩, .int .i64 1]) ∧ w' = w := by
  go_enter Try.func70, Try.ntmps70
  go_wp2
  go_ret2
  exact ⟨rfl, rfl⟩

set_option maxRecDepth 100000 in
set_option maxHeartbeats 400000 in
theorem rPutNum_pos (m : Nat) (w : World) (hm : m < 2 ^ 63) :
    Calls Try.prog 70 #[.int .i64 (m : Int)] w fun e w' => e = .returned (.tuple #[.string ⟨(numB m).toArray⟩, .int .i64 0]) ∧ Below w.heap.size w w' := by
  have hm' : (m : Int) ≤ 9223372036854775807 := by omega
  obtain ⟨i0, hi, hz0, hz1, hz2⟩ := info_parts info5
  go_enter Try.func70, Try.ntmps70
  go_wp2_with fail
  go_loopw [0, 4] (fun n v wr => ∃ (c : Nat) (acc : List UInt8), n = .int .i64 c ∧ c ≤ m ∧ acc.length ≤ 8 ∧ c < 256 ^ (8 - acc.length) ∧ acc ++ lowD (8 - acc.length) c = lowD 8 m ∧ wr.ownsRow w.heap.size 5 1 v acc.length (u8s acc) ∧ Below w.heap.size w wr) (fun n _ _ => (intOf n).toNat)
  case atStart => exact ⟨m, [], rfl, Nat.le_refl _, by simp, Nat.lt_of_lt_of_le hm (by decide), by simp, World.ownsRow_nil _ _ _ _, Below.refl _ _⟩
  case round =>
    obtain ⟨c, acc, rfl, hcm, hl8, hc, heq, hown, hb⟩ := hrel
    have hsz := hb.size
    have HEQ : Hid (acc ++ lowD (8 - acc.length) c = lowD 8 m) := heq
    clear heq
    by_cases h0 : 0 < c
    · have hl : acc.length < 8 := by
        rcases Nat.lt_or_ge acc.length 8 with h | h
        · exact h
        · rw [show 8 - acc.length = 0 by omega] at hc; omega
      have HC : Hid (c < 256 ^ (8 - acc.length)) := hc
      clear hc
      go_wp2_with (at_builtin; refine wpList_append_own _ rfl _ _ 104 rfl w.heap.size 5 i0 (.int .u8 0) 1 1 Try.underlying104 hi hz0 hz1 hz2 rfl (by decide) _ _ _ rfl (hown.alloc _) ⟨wr.heap.size, 0, none⟩ 1 1 [.int .u8 ((c : Int) % 256)] rfl rfl (cell_one_new _ _ _) ?c2 ?c3 ?c4 ?c5 ?_)
      case c2 => intro u hu; simp at hu; subst hu; rfl
      case c3 => unfold maxLen; omega
      case c4 => omega
      case c5 => simp; omega
      intro v' w1 hown' hgrow _
      have hb1 : Below w.heap.size w w1 := (hb.alloc hsz _).grown hgrow (by simp; omega) (fun k hk => (hown.lt k hk).1)
      obtain ⟨g1, g2⟩ := low_step m c acc hl h0 HC.out HEQ.out
      have ho2 : w1.ownsRow w.heap.size 5 1 v' (acc ++ [UInt8.ofNat (c % 256)]).length (u8s (acc ++ [UInt8.ofNat (c % 256)])) := by
        rw [u8s_snoc, ofNat_mod, List.length_append]; exact hown'
      have G1 := Hid.mk g1
      have G2 := Hid.mk g2
      clear hown' hgrow hown g1 g2 hb hsz
      go_wp2
      go_roundw
      case rel => exact ⟨c / 256, _, by go_num, by omega, by simp; omega, G1.out, G2.out, ho2, hb1⟩
      case measure => simp [intOf]; omega
    · have hc0 : c = 0 := by omega
      subst hc0
      have hacc : acc = lowD 8 m := by have := HEQ.out; rwa [lowD_zero, List.append_nil] at this
      subst hacc
      clear HEQ hc
      rcases hown.2 with ⟨rfl, hnil⟩ | ⟨g, cap, cur, rfl, hg1, hg2, hg3, hg4, hg5, hg6⟩
      · have hd : lowD 8 m = [] := List.length_eq_zero_iff.1 hnil
        have HD := Hid.mk hd
        clear hd hown
        go_wp2_with (at_builtin; refine wpList_append_own _ rfl _ _ 104 rfl wr.heap.size 5 i0 (.int .u8 0) 1 1 Try.underlying104 hi hz0 hz1 hz2 rfl (by decide) _ _ _ rfl (World.ownsRow_nil _ _ _ _) ⟨wr.heap.size, 0, none⟩ 1 1 [.int .u8 0] rfl rfl (cell_one_new _ _ _) ?n2 ?n3 ?n4 ?n5 ?_)
        case n2 => intro u hu; simp at hu; subst hu; rfl
        case n3 => unfold maxLen; omega
        case n4 => omega
        case n5 => simp
        intro v' w1 hown' hgrow _
        have hb1 : Below w.heap.size w w1 := (hb.alloc hsz _).grown hgrow (by simp; omega) (fun k hk => by simp [Value.ownBlock] at hk)
        have hcv := conv_own (l := [0]) hown' (by simp)
        have hfin : numB m = [0] := numB_nil m HD.out
        have HF := Hid.mk hfin
        clear hown' hgrow hfin
        go_wp2_with fail
        refine wp_loop_rounds 1 ?_
        rw [rounds_succ]
        go_wp2
        go_ret2
        exact ⟨by rw [HF.out]; rfl, hb1⟩
      · obtain ⟨W, hW⟩ : ∃ W, W = wr := ⟨_, rfl⟩
        subst hW
        have hgl : g < W.heap.size := (hown.lt g rfl).2
        have hcel : ∀ wq, Below W.heap.size W wq → ∀ k x, (lowD 8 m)[k]? = some x → wq.cell? ⟨g, k, none⟩ = some (.int .u8 (x.toNat : Int)) := by
          intro wq h k x hx
          rw [h.cell (p := ⟨g, k, none⟩) hgl, hown.cellAt k (by have := (List.getElem?_eq_some_iff.1 hx).1; omega), u8s, List.getElem?_map, hx]; rfl
        have HC := Hid.mk hcel
        clear hcel
        generalize hL : (lowD 8 m).length = L at *
        have HL := Hid.mk hL
        clear hL
        go_wp2_with (at_builtin; refine wpList_append_own _ rfl _ _ 104 rfl W.heap.size 5 i0 (.int .u8 0) 1 1 Try.underlying104 hi hz0 hz1 hz2 rfl (by decide) _ _ _ rfl (World.ownsRow_nil _ _ _ _) ⟨W.heap.size, 0, none⟩ 1 1 [.int .u8 (L : Int)] rfl rfl (cell_one_new _ _ _) ?m2 ?m3 ?m4 ?m5 ?_)
        case m2 => intro u hu; simp at hu; subst hu; rfl
        case m3 => unfold maxLen; omega
        case m4 => omega
        case m5 => simp
        intro v' w1 hown' hgrow _
        have hb1 : Below W.heap.size W w1 := ((Below.refl _ _).alloc (Nat.le_refl _) _).grown hgrow (by simp) (fun k hk => by simp [Value.ownBlock] at hk)
        have ho1 : w1.ownsRow W.heap.size 5 1 v' (1 + (L - L)) (u8s (UInt8.ofNat L :: ((lowD 8 m).drop L).reverse)) := by
          rw [Nat.sub_self, List.drop_of_length_le (by rw [HL.out]; exact Nat.le_refl _)]
          have e : ((UInt8.ofNat L).toNat : Int) = L := by rw [UInt8.toNat_ofNat']; omega
          simp only [u8s, List.reverse_nil, List.map_cons, List.map_nil, e]
          exact hown'
        clear hown' hgrow
        go_wp2_with fail
        go_loopw [5, 6] (fun v i wq => ∃ k : Nat, k ≤ L ∧ i = .int .i64 ((k : Int) - 1) ∧ wq.ownsRow W.heap.size 5 1 v (1 + (L - k)) (u8s (UInt8.ofNat L :: ((lowD 8 m).drop k).reverse)) ∧ Below W.heap.size W wq) (fun _ i _ => (intOf i + 1).toNat)
        case atStart => exact ⟨L, Nat.le_refl _, by go_num, ho1, hb1⟩
        case round =>
          obtain ⟨k, hk, rfl, ho, hbq⟩ := hrel
          have hsq := hbq.size
          cases k with
          | zero =>
            have hcv := conv_own ho (by simp)
            have hfin : UInt8.ofNat L :: ((lowD 8 m).drop 0).reverse = numB m := by rw [← HL.out]; rfl
            rw [hfin] at hcv
            have hbe : Below w.heap.size w wr := hb.trans (hbq.mono hsz)
            clear hfin ho
            go_wp2
            go_ret2
            exact ⟨rfl, hbe⟩
          | succ k =>
            have hk1 : k < L := by omega
            obtain ⟨x, hx⟩ : ∃ x, (lowD 8 m)[k]? = some x := ⟨_, List.getElem?_eq_getElem (by rw [HL.out]; omega)⟩
            have hcx := HC.out wr hbq k x hx
            have HX := Hid.mk hx
            clear hx hk1
            go_wp2_with (at_builtin; refine wpList_append_own _ rfl _ _ 104 rfl W.heap.size 5 i0 (.int .u8 0) 1 1 Try.underlying104 hi hz0 hz1 hz2 rfl (by decide) _ _ _ rfl (ho.alloc _) ⟨wr.heap.size, 0, none⟩ 1 1 [.int .u8 (x.toNat : Int)] rfl rfl (cell_one_new _ _ _) ?q2 ?q3 ?q4 ?q5 ?_)
            case q2 => intro u hu; simp at hu; subst hu; rfl
            case q3 => unfold maxLen; omega
            case q4 => omega
            case q5 => simp; omega
            intro v2 w2 hown2 hgrow2 _
            have hb2 : Below W.heap.size W w2 := (hbq.alloc hsq _).grown hgrow2 (by simp; omega) (fun k hk => (ho.lt k hk).1)
            have ho2 : w2.ownsRow W.heap.size 5 1 v2 (1 + (L - k)) (u8s (UInt8.ofNat L :: ((lowD 8 m).drop k).reverse)) := by
              rw [← down_step m k x HX.out, u8s_snoc, show 1 + (L - k) = 1 + (L - (k + 1)) + 1 by omega]
              exact hown2
            clear hown2 hgrow2 ho hbq hsq
            go_wp2
            go_roundw
            case rel => exact ⟨k, by omega, by go_num, ho2, hb2⟩
            case measure => simp [intOf]
end Go.Proofs.Ytifmpcldiimdbaa

namespace Go.Proofs.Ytifmpcldiimdbaa
open Go.RowKit

theorem or_byte (v : Nat) (b : UInt8) (hv : v < 72057594037927936) : bits BinOp.or IntKind.u64 ((v : Int) * 256) (IntKind.u64.wrap (b.toNat : Int)) = ((v * 256 + b.toNat : Nat) : Int) := by
  have hb : b.toNat < 256 := b.toNat_lt
  rw [IntKind.wrap_u64, show (b.toNat : Int) % 18446744073709551616 = ((b.toNat : Nat) : Int) by omega, show (v : Int) * 256 = ((v * 256 : Nat) : Int) by simp]
  rw [u64_or_nat _ _ (by omega) (by omega)]
  have := Nat.two_pow_add_eq_or_of_lt (i := 8) (b := b.toNat) (by omega) v
  rw [Nat.mul_comm v 256]
  rw [show (2 : Nat) ^ 8 = 256 from rfl] at this
  rw [this]

set_option maxRecDepth 100000 in
set_option maxHeartbeats 400000 in
theorem highestFirst_any (s : ByteArray) (w : World) (hs : s.size ≤ 8) :
    Calls Try.prog 97 #[.string s] w fun e w' => e = .returned (.int .u64 (beVal s.data.toList)) ∧ w' = w := by
  go_enter Try.func97, Try.ntmps97
  go_wp2
  go_loop [3, 7] (fun v i => ∃ k : Nat, k ≤ s.size ∧ i = .int .i64 k ∧ v = .int .u64 (beVal (s.data.toList.take k))) (fun _ i => s.size - (intOf i).toNat)
  case atStart => exact ⟨0, Nat.zero_le _, rfl, rfl⟩
  case round =>
    obtain ⟨k, hk, rfl, rfl⟩ := hrel
    have hv := beVal_lt (s.data.toList.take k)
    rw [List.length_take, Nat.min_eq_left (by simpa using hk)] at hv
    by_cases hlt : k < s.size
    · have h7 := pow8_le (show k ≤ 7 by omega)
      have hs1 : beVal (s.data.toList.take (k + 1)) = beVal (s.data.toList.take k) * 256 + s[k].toNat := by rw [take_snoc s k hlt, beVal_snoc]
      have HS := Hid.mk hs1
      generalize hvv : beVal (s.data.toList.take k) = v at *
      have hv2 : v < 72057594037927936 := by omega
      clear hs1 hvv hv h7
      go_wp2
      go_round
      case rel => exact ⟨k + 1, by omega, by go_num, by rw [HS.out, or_byte v s[k] hv2]⟩
      case measure => simp [intOf]; omega
    · have hfin : s.data.toList.take k = s.data.toList := List.take_of_length_le (by simp; omega)
      rw [hfin]
      clear hfin hv
      go_wp2
      go_ret
      exact ⟨rfl, rfl⟩
/-- What Num answers, as a value. -/
def numV (l : List UInt8) : Value := .tuple #[.int .i64 ((numP l).1 : Int), .int .i64 ((numP l).2.1 : Int), .int .i64 ((numP l).2.2 : Int)]

/-- Bytes that begin with c: their first byte, how many they are. -/
theorem cons_facts {s : ByteArray} {c : UInt8} {r : List UInt8} (hL : s.data.toList = c :: r) :
    s.size = r.length + 1 ∧ s.toList.isEmpty = false ∧ ∀ h : 0 < s.size, s[0]'h = c := by
  refine ⟨by rw [← s.size_data, ← Array.length_toList, hL]; rfl, by rw [ByteArray.toList_eq, hL]; rfl, fun h => ?_⟩
  show s.data[0]'h = c
  rw [← Array.getElem_toList]
  simp [hL]

theorem cons_facts2 {s : ByteArray} {c x : UInt8} {r : List UInt8} (hL : s.data.toList = c :: x :: r) : ∀ h : 1 < s.size, s[1]'h = x := by
  intro h
  show s.data[1]'h = x
  rw [← Array.getElem_toList]
  simp [hL]

theorem extract_one {s : ByteArray} {c : UInt8} {r : List UInt8} (hL : s.data.toList = c :: r) (k : Nat) : (s.extract 1 (1 + k)).data.toList = r.take k := by
  rw [Lib.extract_data, hL]; simp

set_option maxRecDepth 100000 in
set_option maxHeartbeats 400000 in
theorem num_any (s : ByteArray) (w : World) (hs : s.size ≤ maxLen) :
    Calls Try.prog 90 #[.string s] w fun e w' => e = .returned (numV s.data.toList) ∧ w' = w := by
  unfold maxLen at hs
  cases hL : s.data.toList with
  | nil =>
    have h0 : s.toList.isEmpty = true := by rw [ByteArray.toList_eq, hL]; rfl
    clear hL
    go_enter Try.func90, Try.ntmps90
    go_wp2
    go_ret3
    exact ⟨rfl, rfl⟩
  | cons c r =>
    obtain ⟨hsz, hne, h0⟩ := cons_facts hL
    have hp : 0 < s.size := by omega
    have hc0 := h0 hp
    have hsI : (s.size : Int) = r.length + 1 := by omega
    have HL := Hid.mk hL
    have HZ := Hid.mk hsI
    have hlt := c.toNat_lt
    clear hL h0 hsI
    have HZ' := Hid.mk hsz
    by_cases hA : 8 < c.toNat
    · have hV := Hid.mk (numP_gt c r hA)
      have hA' : (8 : Int) < c.toNat := by omega
      go_enter Try.func90, Try.ntmps90
      go_wp2
      go_ret3
      exact ⟨by rw [numV, hV.out]; rfl, rfl⟩
    · by_cases hB : r.length < c.toNat
      · have hV := Hid.mk (numP_cut c r hA hB)
        go_enter Try.func90, Try.ntmps90
        go_wp2
        go_ret3
        exact ⟨by rw [numV, hV.out]; rfl, rfl⟩
      · by_cases hC : c.toNat = 0
        · have hb0 : beVal (r.take c.toNat) = 0 := by rw [hC]; rfl
          have hV := Hid.mk (numP_ok c r hA hB (by omega) (by omega))
          have HC := Hid.mk hC
          have hB0 := Hid.mk hb0
          have hC' : (c.toNat : Int) ≤ 0 := by omega
          have hC2 : ((c.toNat : Int) == 0) = true := by simp [hC]
          clear hC hb0
          go_enter Try.func90, Try.ntmps90
          go_wp2_with fail
          refine (highestFirst_any _ _ (by simp [ByteArray.size_extract]; omega)).mono ?_
          rintro e w' ⟨rfl, rfl⟩
          rw [extract_one HL.out, hB0.out]
          go_wp2
          go_ret3
          exact ⟨by rw [numV, hV.out, hB0.out, HC.out]; rfl, rfl⟩
        · have hpos : 0 < c.toNat := by omega
          match r, HL, HZ, HZ', hsz, hB with
          | [], _, _, _, _, hB => simp at hB; omega
          | x :: r', HL, HZ, HZ', hsz, hB =>
            have hp1 : 1 < s.size := by rw [hsz]; simp
            have hx := cons_facts2 HL.out hp1
            by_cases hD : x = 0
            · subst hD
              have hV := Hid.mk (numP_zero c (0 :: r') hA hB hpos rfl)
              go_enter Try.func90, Try.ntmps90
              go_wp2_with fail
              refine (highestFirst_any _ _ (by simp [ByteArray.size_extract]; omega)).mono ?_
              rintro e w' ⟨rfl, rfl⟩
              rw [extract_one HL.out]
              go_wp2
              go_ret3
              exact ⟨by rw [numV, hV.out]; rfl, rfl⟩
            · have hxn : ((x.toNat : Int) == 0) = false := by
                rw [beq_eq_false_iff_ne]; intro h; apply hD; apply UInt8.toNat_inj.1; simpa using h
              by_cases hE : 9223372036854775807 < beVal ((x :: r').take c.toNat)
              · have hV := Hid.mk (numP_big c (x :: r') hA hB hE)
                go_enter Try.func90, Try.ntmps90
                go_wp2_with fail
                refine (highestFirst_any _ _ (by simp [ByteArray.size_extract]; omega)).mono ?_
                rintro e w' ⟨rfl, rfl⟩
                rw [extract_one HL.out]
                generalize hv : beVal ((x :: r').take c.toNat) = v at *
                clear hv
                go_wp2
                go_ret3
                exact ⟨by rw [numV, hV.out]; rfl, rfl⟩
              · have hV := Hid.mk (numP_ok c (x :: r') hA hB (by simp [hD]) hE)
                go_enter Try.func90, Try.ntmps90
                go_wp2_with fail
                refine (highestFirst_any _ _ (by simp [ByteArray.size_extract]; omega)).mono ?_
                rintro e w' ⟨rfl, rfl⟩
                rw [extract_one HL.out]
                generalize hv : beVal ((x :: r').take c.toNat) = v at *
                clear hv
                go_wp2
                go_ret3
                exact ⟨by rw [numV, hV.out]; rfl, rfl⟩
end Go.Proofs.Ytifmpcldiimdbaa

namespace Go.Proofs.Ytifmpcldiimdbaa

theorem beVal_append (a b : List UInt8) : beVal (a ++ b) = beVal a * 256 ^ b.length + beVal b := by
  unfold beVal
  rw [List.foldl_append, beVal_cons_aux]; rfl

theorem beVal_take_le (l : List UInt8) {j k : Nat} (h : j ≤ k) : beVal (l.take j) ≤ beVal (l.take k) := by
  have e : l.take k = l.take j ++ (l.take k).drop j := by
    rw [show l.take j = (l.take k).take j by rw [List.take_take, Nat.min_eq_left h], List.take_append_drop]
  rw [e, beVal_append]
  have : 0 < 256 ^ ((l.take k).drop j).length := Nat.pow_pos (by omega)
  have := Nat.le_mul_of_pos_right (beVal (l.take j)) this
  omega

theorem big_iff (x : UInt8) (r : List UInt8) (k : Nat) (hk : 0 < k) (h8 : k ≤ 8) (hl : k ≤ (x :: r).length) :
    9223372036854775807 < beVal ((x :: r).take k) ↔ k = 8 ∧ 127 < x.toNat := by
  obtain ⟨j, rfl⟩ : ∃ j, k = j + 1 := ⟨k - 1, by omega⟩
  rw [List.take_succ_cons, beVal_cons]
  have hlen : (r.take j).length = j := by rw [List.length_take]; simp at hl; omega
  have hb := beVal_lt (r.take j)
  rw [hlen] at hb ⊢
  have hx := x.toNat_lt
  generalize beVal (r.take j) = v at *
  by_cases h7 : j = 7
  · subst h7
    rw [show (256 : Nat) ^ 7 = 72057594037927936 from rfl] at *
    omega
  · have hp : 256 ^ j ≤ 256 ^ 6 := Nat.pow_le_pow_right (by omega) (by omega)
    rw [show (256 : Nat) ^ 6 = 281474976710656 from rfl] at hp
    have hm : x.toNat * 256 ^ j ≤ 255 * 281474976710656 := Nat.mul_le_mul (by omega) hp
    constructor
    · intro h; omega
    · intro h; omega

theorem beVal_low (f : Nat) : ∀ n, n < 256 ^ f → beVal (lowD f n).reverse = n := by
  induction f with
  | zero => intro n h; simp at h; subst h; rfl
  | succ f ih =>
    intro n h
    by_cases h0 : n = 0
    · subst h0; simp [lowD, beVal]
    · rw [lowD_pos _ _ (by omega), List.reverse_cons, beVal_snoc, ih _ (by rw [Nat.div_lt_iff_lt_mul (by omega)]; rw [Nat.pow_succ] at h; exact h), UInt8.toNat_ofNat']
      omega

theorem low_top (f : Nat) : ∀ n, n < 256 ^ f → (lowD f n).getLast? ≠ some 0 := by
  induction f with
  | zero => intro n h; simp [lowD]
  | succ f ih =>
    intro n h
    by_cases h0 : n = 0
    · subst h0; simp [lowD]
    · rw [lowD_pos _ _ (by omega)]
      have hd : n / 256 < 256 ^ f := by rw [Nat.div_lt_iff_lt_mul (by omega)]; rw [Nat.pow_succ] at h; exact h
      have := ih _ hd
      by_cases hq : n / 256 = 0
      · rw [hq, lowD_zero]
        simp only [List.getLast?_singleton, ne_eq, Option.some.injEq]
        intro e
        have e2 := congrArg UInt8.toNat e
        rw [UInt8.toNat_ofNat'] at e2
        have : (0 : UInt8).toNat = 0 := rfl
        omega
      · cases f with
        | zero => simp at hd; omega
        | succ f =>
          rw [lowD_pos _ _ (by omega)] at this ⊢
          rw [List.getLast?_cons_cons]; exact this

theorem numP_numB (n : Nat) (h : n < 2 ^ 63) (t : List UInt8) : numP (numB n ++ t) = (n, (numB n).length, 0) := by
  have hn : n < 256 ^ 8 := Nat.lt_of_lt_of_le h (by decide)
  have hl := lowD_le 8 n
  have hc : (UInt8.ofNat (lowD 8 n).length).toNat = (lowD 8 n).length := by rw [UInt8.toNat_ofNat']; omega
  have hb := beVal_low 8 n hn
  have ht := low_top 8 n hn
  have htk : ((lowD 8 n).reverse ++ t).take (UInt8.ofNat (lowD 8 n).length).toNat = (lowD 8 n).reverse := by
    rw [hc]; exact List.take_left' (by simp)
  have e : numB n ++ t = UInt8.ofNat (lowD 8 n).length :: ((lowD 8 n).reverse ++ t) := rfl
  rw [e, numP_ok]
  · rw [htk, hb, hc, numB_length]
  · omega
  · rw [hc]; simp
  · rw [hc]
    rintro ⟨h0, h1⟩
    apply ht
    rw [List.getLast?_eq_head?_reverse]
    rw [List.head?_append] at h1
    cases hrev : (lowD 8 n).reverse with
    | nil => simp at hrev; rw [hrev] at h0; simp at h0
    | cons y ys => rw [hrev] at h1; simpa using h1
  · rw [htk, hb]; omega

theorem numB_inj {n m : Nat} (hn : n < 2 ^ 63) (hm : m < 2 ^ 63) (h : numB n = numB m) : n = m := by
  have a := numP_numB n hn []
  have b := numP_numB m hm []
  rw [h, b] at a
  exact (congrArg Prod.fst a).symm
end Go.Proofs.Ytifmpcldiimdbaa

namespace Go.Proofs.Ytifmpcldiimdbaa
open Go.RowKit

theorem byte_of {s : ByteArray} {c : UInt8} {r : List UInt8} (hL : s.data.toList = c :: r) (j : Nat) (hj : j < r.length) : ∀ h : j + 1 < s.size, s[j + 1]'h = r[j] := by
  intro h
  show s.data[j + 1]'h = r[j]
  rw [← Array.getElem_toList]
  simp [hL]

set_option maxRecDepth 100000 in
set_option maxHeartbeats 400000 in
theorem rNum_any (s : ByteArray) (w : World) (hs : s.size ≤ maxLen) :
    Calls Try.prog 84 #[.string s] w fun e w' => e = .returned (numV s.data.toList) ∧ w' = w := by
  unfold maxLen at hs
  cases hL : s.data.toList with
  | nil =>
    have h0 : s.size = 0 := by rw [← s.size_data, ← Array.length_toList, hL]; rfl
    clear hL
    go_enter Try.func84, Try.ntmps84
    go_wp2
    go_ret3
    exact ⟨rfl, rfl⟩
  | cons c r =>
    obtain ⟨hsz, hne, h0⟩ := cons_facts hL
    have hp : 0 < s.size := by omega
    have hc0 := h0 hp
    have HL := Hid.mk hL
    have hlt := c.toNat_lt
    clear hL h0 hne
    have HZ' := Hid.mk hsz
    have hn0 : ((r.length : Int) + 1 == 0) = false := by rw [beq_eq_false_iff_ne]; omega
    by_cases hA : 8 < c.toNat
    · have hV := Hid.mk (numP_gt c r hA)
      go_enter Try.func84, Try.ntmps84
      go_wp2
      go_ret3
      exact ⟨by rw [numV, hV.out]; rfl, rfl⟩
    · by_cases hB : r.length < c.toNat
      · have hV := Hid.mk (numP_cut c r hA hB)
        go_enter Try.func84, Try.ntmps84
        go_wp2
        go_ret3
        exact ⟨by rw [numV, hV.out]; rfl, rfl⟩
      · by_cases hC : c.toNat = 0
        · have hb0 : beVal (r.take c.toNat) = 0 := by rw [hC]; rfl
          have hV := Hid.mk (numP_ok c r hA hB (by omega) (by omega))
          have HC := Hid.mk hC
          have hB0 := Hid.mk hb0
          have hC' : (c.toNat : Int) ≤ 0 := by omega
          have hC2 : ((c.toNat : Int) == 8) = false := by rw [beq_eq_false_iff_ne]; omega
          have hC3 : (c.toNat : Int) < 1 := by omega
          clear hC hb0
          go_enter Try.func84, Try.ntmps84
          go_wp2
          refine wp_loop_rounds 1 ?_
          rw [rounds_succ]
          go_wp2
          go_ret3
          exact ⟨by rw [numV, hV.out, hB0.out, HC.out]; simp, rfl⟩
        · have hpos : 0 < c.toNat := by omega
          match r, HL, HZ', hsz, hB, hn0 with
          | [], _, _, _, hB, _ => simp at hB; omega
          | x :: r', HL, HZ', hsz, hB, hn0 =>
            have hp1 : 1 < s.size := by rw [hsz]; simp
            have hx := cons_facts2 HL.out hp1
            by_cases hD : x = 0
            · subst hD
              have hV := Hid.mk (numP_zero c (0 :: r') hA hB hpos rfl)
              go_enter Try.func84, Try.ntmps84
              go_wp2
              go_ret3
              exact ⟨by rw [numV, hV.out]; rfl, rfl⟩
            · have hxn : ((x.toNat : Int) == 0) = false := by
                rw [beq_eq_false_iff_ne]; intro h; apply hD; apply UInt8.toNat_inj.1; simpa using h
              have hiff := big_iff x r' c.toNat hpos (by omega) (by omega)
              by_cases hE : c.toNat = 8 ∧ 127 < x.toNat
              · have hV := Hid.mk (numP_big c (x :: r') hA hB (hiff.2 hE))
                obtain ⟨hE1, hE2⟩ := hE
                have hE3 : ((c.toNat : Int) == 8) = true := by rw [hE1]; rfl
                clear hiff hE1
                go_enter Try.func84, Try.ntmps84
                go_wp2
                go_ret3
                exact ⟨by rw [numV, hV.out]; rfl, rfl⟩
              · have hV := Hid.mk (numP_ok c (x :: r') hA hB (by simp [hD]) (fun h => hE (hiff.1 h)))
                have hlim : beVal ((x :: r').take c.toNat) ≤ 9223372036854775807 := by
                  have := mt hiff.1 hE; omega
                have HLim := Hid.mk hlim
                clear hiff hlim
                by_cases hE1 : c.toNat = 8
                · have hE3 : ((c.toNat : Int) == 8) = true := by rw [hE1]; rfl
                  have hE4 : x.toNat ≤ 127 := by omega
                  have HE1 := Hid.mk hE1
                  clear hE1 hE
                  go_enter Try.func84, Try.ntmps84
                  go_wp2
                  go_loop [6, 7] (fun n i => ∃ j : Nat, j ≤ c.toNat ∧ i = .int .i64 ((j + 1 : Nat) : Int) ∧ n = .int .i64 (beVal ((x :: r').take j))) (fun _ i => c.toNat + 1 - (intOf i).toNat)
                  case atStart => exact ⟨0, Nat.zero_le _, rfl, rfl⟩
                  case round =>
                    obtain ⟨j, hj, rfl, rfl⟩ := hrel
                    by_cases hjc : j < c.toNat
                    · have hjr : j < (x :: r').length := by omega
                      have hsj : j + 1 < s.size := by omega
                      have hby := byte_of HL.out j hjr hsj
                      have hst : beVal ((x :: r').take (j + 1)) = beVal ((x :: r').take j) * 256 + ((x :: r')[j]).toNat := by
                        rw [List.take_succ_eq_append_getElem hjr, beVal_snoc]
                      have hle : beVal ((x :: r').take (j + 1)) ≤ 9223372036854775807 := Nat.le_trans (beVal_take_le _ (by omega)) HLim.out
                      rw [hst] at hle
                      have HST := Hid.mk hst
                      have hbl : ((x :: r')[j]).toNat < 256 := ((x :: r')[j]).toNat_lt
                      generalize hg : (x :: r')[j] = y at *
                      generalize hv : beVal ((x :: r').take j) = v at *
                      clear hst hg hv hE4 hxn hx
                      go_wp2
                      go_round
                      case rel => exact ⟨j + 1, by omega, by go_num, by rw [HST.out]; go_num⟩
                      case measure => simp [intOf]; omega
                    · have hje : j = c.toNat := by omega
                      subst hje
                      clear hE4 hxn hx
                      go_wp2
                      go_ret3
                      exact ⟨by rw [numV, hV.out]; simp; omega, rfl⟩
                · have hE3 : ((c.toNat : Int) == 8) = false := by rw [beq_eq_false_iff_ne]; omega
                  have hE4 : True := trivial
                  clear hE1 hE
                  go_enter Try.func84, Try.ntmps84
                  go_wp2
                  go_loop [6, 7] (fun n i => ∃ j : Nat, j ≤ c.toNat ∧ i = .int .i64 ((j + 1 : Nat) : Int) ∧ n = .int .i64 (beVal ((x :: r').take j))) (fun _ i => c.toNat + 1 - (intOf i).toNat)
                  case atStart => exact ⟨0, Nat.zero_le _, rfl, rfl⟩
                  case round =>
                    obtain ⟨j, hj, rfl, rfl⟩ := hrel
                    by_cases hjc : j < c.toNat
                    · have hjr : j < (x :: r').length := by omega
                      have hsj : j + 1 < s.size := by omega
                      have hby := byte_of HL.out j hjr hsj
                      have hst : beVal ((x :: r').take (j + 1)) = beVal ((x :: r').take j) * 256 + ((x :: r')[j]).toNat := by
                        rw [List.take_succ_eq_append_getElem hjr, beVal_snoc]
                      have hle : beVal ((x :: r').take (j + 1)) ≤ 9223372036854775807 := Nat.le_trans (beVal_take_le _ (by omega)) HLim.out
                      rw [hst] at hle
                      have HST := Hid.mk hst
                      have hbl : ((x :: r')[j]).toNat < 256 := ((x :: r')[j]).toNat_lt
                      generalize hg : (x :: r')[j] = y at *
                      generalize hv : beVal ((x :: r').take j) = v at *
                      clear hst hg hv hE4 hxn hx
                      go_wp2
                      go_round
                      case rel => exact ⟨j + 1, by omega, by go_num, by rw [HST.out]; go_num⟩
                      case measure => simp [intOf]; omega
                    · have hje : j = c.toNat := by omega
                      subst hje
                      clear hE4 hxn hx
                      go_wp2
                      go_ret3
                      exact ⟨by rw [numV, hV.out]; simp; omega, rfl⟩
end Go.Proofs.Ytifmpcldiimdbaa

namespace Go.Proofs.Ytifmpcldiimdbaa
open Go.RowKit

theorem numB_300 : numB 300 = [2, 1, 44] := by decide
theorem numP_300 : numP [2, 1, 44, 120] = (300, 3, 0) := by decide
theorem putNum_300 (w : World) : Calls Try.prog 62 #[.int .i64 300] w fun e w' => e = .returned (.tuple #[.string ⟨#[2, 1, 44]⟩, .int .i64 0]) ∧ Below w.heap.size w w' := by
  have h := putNum_pos 300 w (by decide)
  rw [numB_300] at h
  exact h
theorem num_300 (w : World) : Calls Try.prog 90 #[.string ⟨#[2, 1, 44, 120]⟩] w fun e w' => e = .returned (.tuple #[.int .i64 300, .int .i64 3, .int .i64 0]) ∧ w' = w := by
  have h := num_any ⟨#[2, 1, 44, 120]⟩ w (by decide)
  rw [numV, show (ByteArray.mk #[2, 1, 44, 120]).data.toList = [2, 1, 44, 120] from rfl, numP_300] at h
  exact h


theorem i64_bounds {a : Int} (h : (Lit.int .i64 a).wf = true) : -9223372036854775808 ≤ a ∧ a ≤ 9223372036854775807 := by
  have := bounds_i64 h
  omega



theorem numV_back (m : Nat) (hm : m < 2 ^ 63) (t : List UInt8) : numV (numB m ++ t) = .tuple #[.int .i64 (m : Int), .int .i64 ((numB m).length : Int), .int .i64 0] := by
  rw [numV, numP_numB m hm]; rfl

theorem size_list (l : List UInt8) : (⟨l.toArray⟩ : ByteArray).size = l.length := by rw [← ByteArray.size_data]; simp
theorem append_data (a b : ByteArray) : (a ++ b).data.toList = a.data.toList ++ b.data.toList := by simp
theorem data_list (l : List UInt8) : (⟨l.toArray⟩ : ByteArray).data.toList = l := rfl

end Go.Proofs.Ytifmpcldiimdbaa

namespace Go.Proofs.Ytifmpcldiimdbaa

/-- The text that bytes begin with, how many bytes it has in all, and why there is none (ErrGreat 12). -/
def strP (l : List UInt8) : List UInt8 × Nat × Nat :=
  if (numP l).2.2 ≠ 0 then ([], 0, (numP l).2.2)
  else if 65536 < (numP l).1 then ([], 0, 12)
  else if l.length < (numP l).2.1 + (numP l).1 then ([], 0, 11)
  else ((l.drop (numP l).2.1).take (numP l).1, (numP l).2.1 + (numP l).1, 0)

/-- A text's bytes. -/
def strB (l : List UInt8) : List UInt8 := numB l.length ++ l

theorem numP_used (l : List UInt8) : (numP l).2.1 ≤ l.length ∧ (numP l).2.1 ≤ 9 ∧ (numP l).1 ≤ 9223372036854775807 ∧ (numP l).2.2 ≤ 12 := by
  unfold numP
  split
  · simp
  · split
    · simp
    · split
      · simp
      · split
        · simp
        · simp; omega

theorem strP_err (l : List UInt8) (h : (numP l).2.2 ≠ 0) : strP l = ([], 0, (numP l).2.2) := by rw [strP, if_pos h]
theorem strP_great (l : List UInt8) (h : (numP l).2.2 = 0) (h2 : 65536 < (numP l).1) : strP l = ([], 0, 12) := by
  rw [strP, if_neg (by omega), if_pos h2]
theorem strP_cut (l : List UInt8) (h : (numP l).2.2 = 0) (h2 : ¬ 65536 < (numP l).1) (h3 : l.length < (numP l).2.1 + (numP l).1) : strP l = ([], 0, 11) := by
  rw [strP, if_neg (by omega), if_neg h2, if_pos h3]
theorem strP_ok (l : List UInt8) (h : (numP l).2.2 = 0) (h2 : ¬ 65536 < (numP l).1) (h3 : ¬ l.length < (numP l).2.1 + (numP l).1) :
    strP l = ((l.drop (numP l).2.1).take (numP l).1, (numP l).2.1 + (numP l).1, 0) := by
  rw [strP, if_neg (by omega), if_neg h2, if_neg h3]

theorem strP_strB (t : List UInt8) (h : t.length ≤ 65536) (r : List UInt8) : strP (strB t ++ r) = (t, (strB t).length, 0) := by
  have e := numP_numB t.length (by omega) (t ++ r)
  rw [← List.append_assoc] at e
  have e2 : strB t ++ r = numB t.length ++ t ++ r := rfl
  rw [e2, strP_ok _ (by rw [e]) (by rw [e]; omega) (by rw [e]; simp), e]
  simp [strB]

theorem strP_used (l : List UInt8) : (strP l).2.1 ≤ l.length ∧ (strP l).2.2 ≤ 12 := by
  have := numP_used l
  unfold strP
  split
  · simp; omega
  · split
    · simp
    · split
      · simp
      · simp; omega

/-- Texts read one by one: n more, from place k on, those of acc ahead. -/
def listLoop : Nat → List UInt8 → Nat → List (List UInt8) → List (List UInt8) × Nat × Nat
  | 0, _, k, acc => (acc, k, 0)
  | n + 1, l, k, acc =>
    if (strP (l.drop k)).2.2 ≠ 0 then ([], 0, (strP (l.drop k)).2.2)
    else listLoop n l (k + (strP (l.drop k)).2.1) (acc ++ [(strP (l.drop k)).1])

/-- The list that bytes begin with, how many bytes it has in all, and why there is none. -/
def listP (l : List UInt8) : List (List UInt8) × Nat × Nat :=
  if (numP l).2.2 ≠ 0 then ([], 0, (numP l).2.2)
  else if 4096 < (numP l).1 then ([], 0, 12)
  else listLoop (numP l).1 l (numP l).2.1 []

theorem loop_err {n k e k' : Nat} {l : List UInt8} {t : List UInt8} {acc : List (List UInt8)} (h : strP (l.drop k) = (t, k', e)) (he : e ≠ 0) : listLoop (n + 1) l k acc = ([], 0, e) := by
  rw [listLoop, h, if_pos he]
theorem loop_ok {n k k' : Nat} {l : List UInt8} {t : List UInt8} {acc : List (List UInt8)} (h : strP (l.drop k) = (t, k', 0)) : listLoop (n + 1) l k acc = listLoop n l (k + k') (acc ++ [t]) := by
  rw [listLoop, h, if_neg (by simp)]

/-- The bytes of some texts, one behind the other. -/
def textsB (ls : List (List UInt8)) : List UInt8 := (ls.map strB).flatten
theorem textsB_snoc (ls : List (List UInt8)) (t : List UInt8) : textsB (ls ++ [t]) = textsB ls ++ strB t := by simp [textsB]
theorem textsB_cons (t : List UInt8) (ls : List (List UInt8)) : textsB (t :: ls) = strB t ++ textsB ls := by simp [textsB]
theorem strB_le (t : List UInt8) (h : t.length ≤ 65536) : (strB t).length ≤ 65545 := by
  have := numB_le t.length; simp [strB]; omega
theorem textsB_le (ls : List (List UInt8)) (h : ∀ t ∈ ls, t.length ≤ 65536) : (textsB ls).length ≤ 65545 * ls.length := by
  induction ls with
  | nil => simp [textsB]
  | cons t ls ih =>
    have a := strB_le t (h t (by simp))
    have b := ih (fun u hu => h u (by simp [hu]))
    rw [textsB_cons, List.length_append, List.length_cons]; omega

/-- A list's bytes, and why there are none. -/
def putListP (ls : List (List UInt8)) : List UInt8 × Nat :=
  if 4096 < ls.length ∨ ∃ t ∈ ls, 65536 < t.length then ([], 12) else (numB ls.length ++ textsB ls, 0)
theorem putListP_many (ls : List (List UInt8)) (h : 4096 < ls.length) : putListP ls = ([], 12) := by rw [putListP, if_pos (.inl h)]
theorem putListP_long (ls : List (List UInt8)) (t : List UInt8) (ht : t ∈ ls) (h : 65536 < t.length) : putListP ls = ([], 12) := by rw [putListP, if_pos (.inr ⟨t, ht, h⟩)]
theorem putListP_ok (ls : List (List UInt8)) (h : ls.length ≤ 4096) (h2 : ∀ t ∈ ls, t.length ≤ 65536) : putListP ls = (numB ls.length ++ textsB ls, 0) := by
  rw [putListP, if_neg]
  rintro (h3 | ⟨t, ht, h3⟩)
  · omega
  · have := h2 t ht; omega

theorem listLoop_back (ls : List (List UInt8)) (h : ∀ t ∈ ls, t.length ≤ 65536) : ∀ (pre tail : List UInt8) (acc : List (List UInt8)),
    listLoop ls.length (pre ++ textsB ls ++ tail) pre.length acc = (acc ++ ls, pre.length + (textsB ls).length, 0) := by
  induction ls with
  | nil => intro pre tail acc; simp [listLoop, textsB]
  | cons t ls ih =>
    intro pre tail acc
    have hd : (pre ++ textsB (t :: ls) ++ tail).drop pre.length = strB t ++ (textsB ls ++ tail) := by
      rw [List.append_assoc, List.drop_left, textsB_cons, List.append_assoc]
    have hs : strP ((pre ++ textsB (t :: ls) ++ tail).drop pre.length) = (t, (strB t).length, 0) := by
      rw [hd]; exact strP_strB t (h t (by simp)) _
    rw [List.length_cons, loop_ok hs]
    have e : pre ++ textsB (t :: ls) ++ tail = (pre ++ strB t) ++ textsB ls ++ tail := by rw [textsB_cons]; simp
    have := ih (fun u hu => h u (by simp [hu])) (pre ++ strB t) tail (acc ++ [t])
    rw [List.length_append] at this
    rw [e, this, textsB_cons]
    simp [Nat.add_assoc]

theorem listP_back (ls : List (List UInt8)) (hl : ls.length ≤ 4096) (h : ∀ t ∈ ls, t.length ≤ 65536) (tail : List UInt8) :
    listP (numB ls.length ++ textsB ls ++ tail) = (ls, (numB ls.length ++ textsB ls).length, 0) := by
  have e := numP_numB ls.length (by omega) (textsB ls ++ tail)
  rw [← List.append_assoc] at e
  unfold listP
  rw [e]
  simp only [ne_eq, not_true, if_false]
  rw [if_neg (by omega), listLoop_back ls h]
  simp

/-- How many bytes some texts have. -/
def sumL (ls : List (List UInt8)) : Nat := (ls.map List.length).sum
theorem sumL_snoc (ls : List (List UInt8)) (t : List UInt8) : sumL (ls ++ [t]) = sumL ls + t.length := by simp [sumL]
end Go.Proofs.Ytifmpcldiimdbaa

namespace Go.Proofs.Ytifmpcldiimdbaa
open Go.RowKit

set_option maxRecDepth 100000 in
set_option maxHeartbeats 400000 in
theorem clone_any (s : ByteArray) (w : World) (hs : s.size ≤ 140737488355328) :
    Calls Try.prog 99 #[.string s] w fun e w' => e = .returned (.string s) ∧ Below w.heap.size w w' := by
  go_enter Try.func99, Try.ntmps99
  go_wp2_with fail
  refine (Try.stringslite_Clone _ _ (by omega)).mono ?_
  rintro e w1 ⟨rfl, hb⟩
  go_wp2
  go_ret
  exact ⟨rfl, hb⟩

/-- What Str answers, as a value. -/
def strV (l : List UInt8) : Value := .tuple #[.string ⟨(strP l).1.toArray⟩, .int .i64 ((strP l).2.1 : Int), .int .i64 ((strP l).2.2 : Int)]
theorem strV_of {l t : List UInt8} {k e : Nat} (h : strP l = (t, k, e)) : strV l = .tuple #[.string ⟨t.toArray⟩, .int .i64 (k : Int), .int .i64 (e : Int)] := by rw [strV, h]
theorem numV_of {l : List UInt8} {n k e : Nat} (h : numP l = (n, k, e)) : numV l = .tuple #[.int .i64 (n : Int), .int .i64 (k : Int), .int .i64 (e : Int)] := by rw [numV, h]

theorem bytes_ext {a b : ByteArray} (h : a.data.toList = b.data.toList) : a = b := by
  cases a; cases b; simp at h; simp [h]

theorem extract_list (s : ByteArray) (k n : Nat) : s.extract k (k + n) = ⟨((s.data.toList.drop k).take n).toArray⟩ := by
  apply bytes_ext
  rw [Lib.extract_data]; simp

theorem size_data_list (s : ByteArray) : s.data.toList.length = s.size := by rw [Array.length_toList]; rfl

set_option maxRecDepth 100000 in
set_option maxHeartbeats 400000 in
theorem str_any (s : ByteArray) (w : World) (hs : s.size ≤ 140737488355328) :
    Calls Try.prog 98 #[.string s] w fun e w' => e = .returned (strV s.data.toList) ∧ Below w.heap.size w w' := by
  have hsm : s.size ≤ maxLen := by unfold maxLen; omega
  obtain ⟨n, k, er, hP⟩ : ∃ n k er, numP s.data.toList = (n, k, er) := ⟨_, _, _, rfl⟩
  obtain ⟨u1, u2, u3, u4⟩ := numP_used s.data.toList
  have hl := size_data_list s
  have c1 := strP_err s.data.toList
  have c2 := strP_great s.data.toList
  have c3 := strP_cut s.data.toList
  have c4 := strP_ok s.data.toList
  rw [hP] at u1 u2 u3 u4 c1 c2 c3 c4
  simp only at u1 u2 u3 u4 c1 c2 c3 c4
  rw [hl] at u1 c3 c4
  have HN := Hid.mk (numV_of hP)
  clear hP hl
  by_cases h1 : er = 0
  · subst h1
    by_cases h2 : 65536 < n
    · have hV := Hid.mk (strV_of (c2 rfl h2))
      clear c1 c2 c3 c4
      go_enter Try.func98, Try.ntmps98
      go_wp2_with fail
      refine (num_any _ _ hsm).mono ?_
      rintro e w1 ⟨rfl, rfl⟩
      rw [HN.out]
      go_wp2
      go_ret3
      exact ⟨by rw [hV.out]; rfl, Below.refl _ _⟩
    · by_cases h3 : s.size < k + n
      · have hV := Hid.mk (strV_of (c3 rfl h2 h3))
        clear c1 c2 c3 c4
        go_enter Try.func98, Try.ntmps98
        go_wp2_with fail
        refine (num_any _ _ hsm).mono ?_
        rintro e w1 ⟨rfl, rfl⟩
        rw [HN.out]
        go_wp2
        go_ret3
        exact ⟨by rw [hV.out]; rfl, Below.refl _ _⟩
      · have hV := Hid.mk (strV_of (c4 rfl h2 h3))
        clear c1 c2 c3 c4
        go_enter Try.func98, Try.ntmps98
        go_wp2_with fail
        refine (num_any _ _ hsm).mono ?_
        rintro e w1 ⟨rfl, rfl⟩
        rw [HN.out]
        go_wp2_with fail
        refine (clone_any _ _ (by rw [ByteArray.size_extract]; omega)).mono ?_
        rintro e w2 ⟨rfl, hb⟩
        rw [extract_list]
        go_wp2
        go_ret3
        exact ⟨by rw [hV.out]; rfl, hb⟩
  · have hV := Hid.mk (strV_of (c1 h1))
    have h1' : ((er : Int) != 0) = true := by rw [bne_iff_ne]; omega
    clear c1 c2 c3 c4
    go_enter Try.func98, Try.ntmps98
    go_wp2_with fail
    refine (num_any _ _ hsm).mono ?_
    rintro e w1 ⟨rfl, rfl⟩
    rw [HN.out]
    go_wp2
    go_ret3
    exact ⟨by rw [hV.out]; rfl, Below.refl _ _⟩

set_option maxRecDepth 100000 in
set_option maxHeartbeats 400000 in
theorem rStr_any (s : ByteArray) (w : World) (hs : s.size ≤ 140737488355328) :
    Calls Try.prog 94 #[.string s] w fun e w' => e = .returned (strV s.data.toList) ∧ w' = w := by
  have hsm : s.size ≤ maxLen := by unfold maxLen; omega
  obtain ⟨n, k, er, hP⟩ : ∃ n k er, numP s.data.toList = (n, k, er) := ⟨_, _, _, rfl⟩
  obtain ⟨u1, u2, u3, u4⟩ := numP_used s.data.toList
  have hl := size_data_list s
  have c1 := strP_err s.data.toList
  have c2 := strP_great s.data.toList
  have c3 := strP_cut s.data.toList
  have c4 := strP_ok s.data.toList
  rw [hP] at u1 u2 u3 u4 c1 c2 c3 c4
  simp only at u1 u2 u3 u4 c1 c2 c3 c4
  rw [hl] at u1 c3 c4
  have HN := Hid.mk (numV_of hP)
  clear hP hl
  by_cases h1 : er = 0
  · subst h1
    by_cases h2 : 65536 < n
    · have hV := Hid.mk (strV_of (c2 rfl h2))
      clear c1 c2 c3 c4
      go_enter Try.func94, Try.ntmps94
      go_wp2_with fail
      refine (rNum_any _ _ hsm).mono ?_
      rintro e w1 ⟨rfl, rfl⟩
      rw [HN.out]
      go_wp2
      go_ret3
      exact ⟨by rw [hV.out]; rfl, rfl⟩
    · by_cases h3 : s.size < k + n
      · have hV := Hid.mk (strV_of (c3 rfl h2 h3))
        clear c1 c2 c3 c4
        go_enter Try.func94, Try.ntmps94
        go_wp2_with fail
        refine (rNum_any _ _ hsm).mono ?_
        rintro e w1 ⟨rfl, rfl⟩
        rw [HN.out]
        go_wp2
        go_ret3
        exact ⟨by rw [hV.out]; rfl, rfl⟩
      · have hV := Hid.mk (strV_of (c4 rfl h2 h3))
        have hex := Hid.mk (extract_list s k n)
        clear c1 c2 c3 c4
        go_enter Try.func94, Try.ntmps94
        go_wp2_with fail
        refine (rNum_any _ _ hsm).mono ?_
        rintro e w1 ⟨rfl, rfl⟩
        rw [HN.out]
        go_wp2
        go_ret3
        exact ⟨by rw [hV.out, ← hex.out]; rfl, rfl⟩
  · have hV := Hid.mk (strV_of (c1 h1))
    have h1' : ((er : Int) != 0) = true := by rw [bne_iff_ne]; omega
    clear c1 c2 c3 c4
    go_enter Try.func94, Try.ntmps94
    go_wp2_with fail
    refine (rNum_any _ _ hsm).mono ?_
    rintro e w1 ⟨rfl, rfl⟩
    rw [HN.out]
    go_wp2
    go_ret3
    exact ⟨by rw [hV.out]; rfl, rfl⟩

/-- What PutStr answers, as a value. -/
def putStrV (l : List UInt8) : Value := if 65536 < l.length then .tuple #[.string ⟨#[]⟩, .int .i64 12] else .tuple #[.string ⟨(strB l).toArray⟩, .int .i64 0]

theorem append_list (a : List UInt8) (s : ByteArray) : (⟨a.toArray⟩ : ByteArray) ++ s = ⟨(a ++ s.data.toList).toArray⟩ := by
  apply bytes_ext; rw [append_data]

set_option maxRecDepth 100000 in
set_option maxHeartbeats 400000 in
theorem putStr_any (s : ByteArray) (w : World) (hs : s.size ≤ 140737488355328) :
    Calls Try.prog 78 #[.string s] w fun e w' => e = .returned (putStrV s.data.toList) ∧ Below w.heap.size w w' := by
  have hl := size_data_list s
  by_cases h : 65536 < s.size
  · have hV : putStrV s.data.toList = .tuple #[.string ⟨#[]⟩, .int .i64 12] := by rw [putStrV, if_pos (by omega)]
    have HV := Hid.mk hV
    clear hV hl
    go_enter Try.func78, Try.ntmps78
    go_wp2
    go_ret2
    exact ⟨by rw [HV.out]; rfl, Below.refl _ _⟩
  · have hV : putStrV s.data.toList = .tuple #[.string (⟨(numB s.size).toArray⟩ ++ s), .int .i64 0] := by
      rw [putStrV, if_neg (by omega), append_list, strB, hl]
    have HV := Hid.mk hV
    have h9 := numB_le s.size
    have hz := size_list (numB s.size)
    clear hV hl
    go_enter Try.func78, Try.ntmps78
    go_wp2_with fail
    refine (numBytes_any _ _ (by omega)).mono ?_
    rintro e w1 ⟨rfl, hb⟩
    go_wp2
    go_ret2
    exact ⟨by rw [HV.out]; rfl, hb⟩

set_option maxRecDepth 100000 in
set_option maxHeartbeats 400000 in
theorem rPutStr_any (s : ByteArray) (w : World) (hs : s.size ≤ 140737488355328) :
    Calls Try.prog 81 #[.string s] w fun e w' => e = .returned (putStrV s.data.toList) ∧ Below w.heap.size w w' := by
  have hl := size_data_list s
  by_cases h : 65536 < s.size
  · have hV : putStrV s.data.toList = .tuple #[.string ⟨#[]⟩, .int .i64 12] := by rw [putStrV, if_pos (by omega)]
    have HV := Hid.mk hV
    clear hV hl
    go_enter Try.func81, Try.ntmps81
    go_wp2
    go_ret2
    exact ⟨by rw [HV.out]; rfl, Below.refl _ _⟩
  · have hV : putStrV s.data.toList = .tuple #[.string (⟨(numB s.size).toArray⟩ ++ s), .int .i64 0] := by
      rw [putStrV, if_neg (by omega), append_list, strB, hl]
    have HV := Hid.mk hV
    have h9 := numB_le s.size
    have hz := size_list (numB s.size)
    clear hV hl
    go_enter Try.func81, Try.ntmps81
    go_wp2_with fail
    refine (rPutNum_pos _ _ (by omega)).mono ?_
    rintro e w1 ⟨rfl, hb⟩
    go_wp2
    go_ret2
    exact ⟨by rw [HV.out]; rfl, hb⟩
end Go.Proofs.Ytifmpcldiimdbaa

namespace Go.Proofs.Ytifmpcldiimdbaa
open Go.RowKit

theorem putStrV_hi : putStrV [104, 105] = .tuple #[.string ⟨#[1, 2, 104, 105]⟩, .int .i64 0] := by
  rw [putStrV, if_neg (by decide), show strB [104, 105] = [1, 2, 104, 105] from by decide]
theorem strP_hi : strP [1, 2, 104, 105, 33] = ([104, 105], 4, 0) := by decide
theorem putStr_hi (w : World) : Calls Try.prog 78 #[.string ⟨#[104, 105]⟩] w fun e w' => e = .returned (.tuple #[.string ⟨#[1, 2, 104, 105]⟩, .int .i64 0]) ∧ Below w.heap.size w w' := by
  have h := putStr_any ⟨#[104, 105]⟩ w (by decide)
  rw [show (ByteArray.mk #[104, 105]).data.toList = [104, 105] from rfl, putStrV_hi] at h
  exact h
theorem str_hi (w : World) : Calls Try.prog 98 #[.string ⟨#[1, 2, 104, 105, 33]⟩] w fun e w' => e = .returned (.tuple #[.string ⟨#[104, 105]⟩, .int .i64 4, .int .i64 0]) ∧ Below w.heap.size w w' := by
  have h := str_any ⟨#[1, 2, 104, 105, 33]⟩ w (by decide)
  rw [show (ByteArray.mk #[1, 2, 104, 105, 33]).data.toList = [1, 2, 104, 105, 33] from rfl, strV_of strP_hi] at h
  exact h


theorem putStrV_form (l : List UInt8) : ∃ (t : ByteArray) (e : Int), putStrV l = .tuple #[.string t, .int .i64 e] := by
  unfold putStrV; split
  · exact ⟨_, _, rfl⟩
  · exact ⟨_, _, rfl⟩

end Go.Proofs.Ytifmpcldiimdbaa
