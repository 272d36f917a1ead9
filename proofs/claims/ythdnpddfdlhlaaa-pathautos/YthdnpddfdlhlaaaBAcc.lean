/- wordSet, followSets, behindAll, Accepts of the program. -/
import Derived.Test.YthdnpddfdlhlaaaBNext
import Derived.Test.YthdnpddfdlhlaaaAAcc
namespace Go.Proofs.Ythdnpddfdlhlaaa
open Go.RowKit

/-- The set of the first places that have a word. -/
def wsetN (ws : List Wd) (s : Wd) : Nat → Nat
  | 0 => 0
  | k + 1 => if ws[k]? = some s then wsetN ws s k ||| 2 ^ k else wsetN ws s k
theorem wset_bit (ws : List Wd) (s : Wd) (j : Nat) : ∀ k, (wsetN ws s k).testBit j = true ↔ j < k ∧ ws[j]? = some s
  | 0 => by simp [wsetN]
  | k + 1 => by
    rw [wsetN]
    split
    · rename_i h
      rw [Nat.testBit_or, Bool.or_eq_true, wset_bit ws s j k, Nat.testBit_two_pow, decide_eq_true_eq]
      constructor
      · rintro (⟨h1, h2⟩ | rfl)
        · exact ⟨by omega, h2⟩
        · exact ⟨by omega, h⟩
      · rintro ⟨h1, h2⟩
        by_cases e : k = j
        · exact .inr e
        · exact .inl ⟨by omega, h2⟩
    · rename_i h
      rw [wset_bit ws s j k]
      constructor
      · rintro ⟨h1, h2⟩
        exact ⟨by omega, h2⟩
      · rintro ⟨h1, h2⟩
        have : j ≠ k := fun e => h (by rw [← e]; exact h2)
        exact ⟨by omega, h2⟩
theorem wset_lt (ws : List Wd) (s : Wd) : ∀ k, k ≤ 24 → wsetN ws s k < 16777216
  | 0, _ => by simp [wsetN]
  | k + 1, h => by
    rw [wsetN]
    have := wset_lt ws s k (by omega)
    split
    · exact or_lt24 this (pow_lt24 (by omega))
    · exact this

set_option maxRecDepth 100000 in
set_option maxHeartbeats 1000000 in
theorem wordSet_any {S : Nat → Prop} {w : World} {m : Mu} (h : UOk S w m) (h24 : m.ws.length ≤ 24) (s : List UInt8) :
    Calls Try.prog 41 #[encU m, .string ⟨s.toArray⟩] w fun e w' => e = .returned (.int .u32 (wsetN m.ws s m.ws.length : Int)) ∧ Below w.heap.size w w' := by
  obtain ⟨wa, wc, fa, fc, la, lc, oa, oc, e1, e2, e3, e4⟩ := h.slices
  obtain ⟨wv, ws, fv, fs, lv, ls, ov, os, em⟩ := m
  dsimp only at e1 e2 e3 e4 h24 ⊢
  subst e1 e2 e3 e4
  have HW := Hid.mk h.ws
  dsimp only at HW
  clear h
  obtain ⟨ans, hans⟩ : ∃ a, a = wsetN ws s ws.length := ⟨_, rfl⟩
  rw [← hans]
  obtain ⟨n, hn⟩ : ∃ n, n = ws.length := ⟨_, rfl⟩
  rw [← hn] at HW h24 hans ⊢
  have HN := Hid.mk hn
  have HA := Hid.mk hans
  obtain ⟨o, ho⟩ : ∃ o, o = Obj.cells #[.slice wa n wc, .slice fa fs.length fc, .slice la ls.length lc, .slice oa os.length oc, .bool em] 31 := ⟨_, rfl⟩
  have HOB := Hid.mk ho
  have HB0 : Hid (Below (w.alloc o).heap.size (w.alloc o) (w.alloc (.cells #[.slice wa n wc, .slice fa fs.length fc, .slice la ls.length lc, .slice oa os.length oc, .bool em] 31))) := Hid.mk (by rw [HOB.out]; exact Below.refl _ _)
  clear hn hans ho
  go_enter Try.func41, Try.ntmps41
  go_wp2_with fail
  go_loopw [5, 11] (fun t c wr => ∃ i x : Nat, i ≤ n ∧ c = .int .i64 i ∧ t = .int .u32 (x : Int) ∧ wsetN ws s i = x ∧ Below (w.alloc o).heap.size (w.alloc o) wr) (fun _ c _ => n - (intOf c).toNat)
  case atStart => exact ⟨0, 0, Nat.zero_le _, rfl, rfl, rfl, HB0.out⟩
  case round =>
    obtain ⟨i, x, hi, rfl, rfl, hx, hbq⟩ := hrel
    have hxl : x < 16777216 := by rw [← hx]; exact wset_lt ws s i (by omega)
    have HX := Hid.mk hx
    have HBQ := Hid.mk hbq
    clear hx hbq
    by_cases hlt : i < n
    · have hltI : (i : Int) < (n : Int) := by omega
      obtain ⟨u, hu⟩ : ∃ u, ws[i]? = some u := ⟨_, List.getElem?_eq_getElem (by rw [← HN.out]; exact hlt)⟩
      obtain ⟨g, off, rfl, _, _, hcell⟩ := (HW.out.below (below_boxQ HBQ.out)).get hu
      have q0 := getTx hcell
      rw [Nat.mul_one] at q0
      have HU := Hid.mk hu
      clear hu hcell
      by_cases e : u = s
      · subst e
        have hi24 : i < 24 := by omega
        have C := Hid.mk (fun wr => only_any i wr hi24)
        have hpow := pow_lt24 hi24
        have HS : Hid (wsetN ws u (i + 1) = x ||| 2 ^ i) := Hid.mk (by rw [wsetN, if_pos HU.out, HX.out])
        obtain ⟨q, hqe⟩ : ∃ q, q = 2 ^ i := ⟨_, rfl⟩
        rw [← hqe] at C HS hpow
        have hb : bits .or .u32 (x : Int) (q : Int) = ((x ||| q : Nat) : Int) := u32_or_nat x q (by omega) (by omega)
        clear hqe hi24
        go_wp2_with fail
        refine (C.out _).mono ?_
        rintro e w1 ⟨rfl, rfl⟩
        go_wp2
        go_roundw
        case rel => exact ⟨i + 1, x ||| q, by omega, by go_num, rfl, HS.out, HBQ.out⟩
        case measure => simp [intOf]; omega
      · have e1 : (u == s) = false := by simpa using e
        have HS : Hid (wsetN ws s (i + 1) = x) := Hid.mk (by rw [wsetN, if_neg (by rw [HU.out]; intro h; exact e (Option.some.inj h)), HX.out])
        go_wp2
        go_roundw
        case rel => exact ⟨i + 1, x, by omega, by go_num, rfl, HS.out, HBQ.out⟩
        case measure => simp [intOf]; omega
    · have hltI : ¬ (i : Int) < (n : Int) := by omega
      have hin : i = n := by omega
      have HF : Hid (ans = x) := Hid.mk (by rw [HA.out, ← HX.out, hin])
      clear hin
      go_wp2
      go_ret
      exact ⟨by rw [HF.out]; rfl, below_boxQ HBQ.out⟩

/-- 24 sets in memory, one behind the other. -/
def FolAt (w : World) (b o : Nat) (F : Nat → Nat) : Prop := ∀ j, j < 24 → w.cell? ⟨b, o + j, none⟩ = some (.int .u32 (F j : Int)) ∧ w.frozen? ⟨b, o + j, none⟩ = false
/-- All that may come behind one of some places, of the first so many. -/
def behN (F : Nat → Nat) (s : Nat) : Nat → Nat
  | 0 => 0
  | k + 1 => if s.testBit k = true then behN F s k ||| F k else behN F s k
theorem beh_bit (F : Nat → Nat) (s j : Nat) : ∀ k, (behN F s k).testBit j = true ↔ ∃ i, i < k ∧ s.testBit i = true ∧ (F i).testBit j = true
  | 0 => by simp [behN]
  | k + 1 => by
    rw [behN]
    split
    · rename_i h
      rw [Nat.testBit_or, Bool.or_eq_true, beh_bit F s j k]
      constructor
      · rintro (⟨i, h1, h2⟩ | h1)
        · exact ⟨i, by omega, h2⟩
        · exact ⟨k, by omega, h, h1⟩
      · rintro ⟨i, h1, h2, h3⟩
        by_cases e : i = k
        · subst e; exact .inr h3
        · exact .inl ⟨i, by omega, h2, h3⟩
    · rename_i h
      rw [beh_bit F s j k]
      constructor
      · rintro ⟨i, h1, h2⟩
        exact ⟨i, by omega, h2⟩
      · rintro ⟨i, h1, h2, h3⟩
        have : i ≠ k := fun e => h (by rw [← e]; exact h2)
        exact ⟨i, by omega, h2, h3⟩
theorem beh_lt {F : Nat → Nat} (hF : ∀ i, i < 24 → F i < 16777216) (s : Nat) : ∀ k, k ≤ 24 → behN F s k < 16777216
  | 0, _ => by simp [behN]
  | k + 1, h => by
    rw [behN]
    have := beh_lt hF s k (by omega)
    split
    · exact or_lt24 this (hF k (by omega))
    · exact this

set_option maxRecDepth 100000 in
set_option maxHeartbeats 1000000 in
theorem behindAll_any {w : World} {b o : Nat} {F : Nat → Nat} (h : FolAt w b o F) (hF : ∀ i, i < 24 → F i < 16777216) (s : Nat) (hs : s < 16777216) :
    Calls Try.prog 42 #[.pointer (some ⟨b, o, none⟩), .int .u32 (s : Int)] w fun e w' => e = .returned (.int .u32 (behN F s 24 : Int)) ∧ ∃ k, w' = w.drewN k := by
  have H := Hid.mk h
  have HF := Hid.mk hF
  clear h hF
  go_enter Try.func42, Try.ntmps42
  go_wp2_with fail
  go_loopw [5, 9] (fun t c wr => ∃ i x : Nat, i ≤ 24 ∧ c = .int .i64 i ∧ t = .int .u32 (x : Int) ∧ behN F s i = x ∧ ∃ k, wr = w.drewN k) (fun _ c _ => 24 - (intOf c).toNat)
  case atStart => exact ⟨0, 0, Nat.zero_le _, rfl, rfl, rfl, 0, rfl⟩
  case round =>
    obtain ⟨i, x, hi, rfl, rfl, hx, kq, hkq⟩ := hrel
    have hxl : x < 16777216 := by rw [← hx]; exact beh_lt HF.out s i (by omega)
    have HX := Hid.mk hx
    have HKQ := Hid.mk hkq
    have HFA : Hid (FolAt wr b o F) := Hid.mk (by rw [hkq]; exact H.out)
    clear hx hkq
    by_cases hlt : i < 24
    · have hltI : (i : Int) < 24 := by omega
      have q0 := (HFA.out i hlt).1
      have hfl := HF.out i hlt
      have C := Hid.mk (fun wr => has_any s i wr hs hlt)
      obtain ⟨f, hf⟩ : ∃ f, f = F i := ⟨_, rfl⟩
      rw [← hf] at q0 hfl
      have HFI := Hid.mk hf
      clear hf
      cases hbit : s.testBit i with
      | true =>
        rw [hbit] at C
        have hb : bits .or .u32 (x : Int) (f : Int) = ((x ||| f : Nat) : Int) := u32_or_nat x f (by omega) (by omega)
        have HS : Hid (behN F s (i + 1) = x ||| f) := Hid.mk (by rw [behN, if_pos hbit, HX.out, HFI.out])
        clear hbit
        go_wp2_with fail
        go_region
        go_wp2_with fail
        refine (C.out _).mono ?_
        rintro e w1 ⟨rfl, rfl⟩
        go_wp2
        go_roundw
        case rel => exact ⟨i + 1, x ||| f, by omega, by go_num, rfl, HS.out, kq + 1, by rw [HKQ.out]; rfl⟩
        case measure => simp [intOf]; omega
      | false =>
        rw [hbit] at C
        have HS : Hid (behN F s (i + 1) = x) := Hid.mk (by rw [behN, if_neg (by rw [hbit]; decide), HX.out])
        clear hbit
        go_wp2_with fail
        go_region
        go_wp2_with fail
        refine (C.out _).mono ?_
        rintro e w1 ⟨rfl, rfl⟩
        go_wp2
        go_roundw
        case rel => exact ⟨i + 1, x, by omega, by go_num, rfl, HS.out, kq + 1, by rw [HKQ.out]; rfl⟩
        case measure => simp [intOf]; omega
    · have hltI : ¬ (i : Int) < 24 := by omega
      have hin : i = 24 := by omega
      have HF2 : Hid (behN F s 24 = x) := Hid.mk (by rw [← HX.out, hin])
      clear hin
      go_wp2
      go_ret
      exact ⟨by rw [HF2.out]; rfl, kq, HKQ.out⟩
end Go.Proofs.Ythdnpddfdlhlaaa
