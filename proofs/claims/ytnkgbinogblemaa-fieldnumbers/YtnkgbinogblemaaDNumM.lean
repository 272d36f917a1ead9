/- What was sent with a number: a row of texts beside the field; numbers that are put into a text. -/
import Derived.Test.YtnkgbinogblemaaDBits
import Derived.Deep.OwnRows
import Derived.Laws.BitsAllLaws
namespace Go.Proofs.Ytnkgbinogblemaa
open Go.RowKit

theorem made_list (z : Value) (n : Nat) : madeCells #[z] n = (List.replicate n z).toArray := by
  apply Array.ext_getElem?
  intro j
  by_cases hj : j < n
  · simp [madeCells, hj, Nat.mod_one]
  · rw [Array.getElem?_eq_none (by simp [madeCells]; omega), Array.getElem?_eq_none (by simp; omega)]
/-- The texts that were sent, by their numbers. -/
def Wh (w : World) (c : Nat) (l : List Pk) : Prop := ∃ cur : Array Value, w.heap[c]? = some (.cells cur 9 (0, 0)) ∧ cur.size = 201 ∧ (∀ j, j < 201 → ∃ s : ByteArray, cur[j]? = some (.string s)) ∧ ∀ p ∈ l, cur[p.id]? = some (.string ⟨p.bs.toArray⟩)
theorem Wh.keep {w w' : World} {c : Nat} {l : List Pk} (h : Wh w c l) (hk : w'.heap[c]? = w.heap[c]?) : Wh w' c l := by
  obtain ⟨cur, h1, h2⟩ := h
  exact ⟨cur, hk.trans h1, h2⟩
theorem Wh.lt {w : World} {c : Nat} {l : List Pk} (h : Wh w c l) : c < w.heap.size := by
  obtain ⟨cur, h1, _⟩ := h
  exact lt_of_block h1
theorem Wh.below {w w' : World} {c : Nat} {l : List Pk} (h : Wh w c l) (hb : Below w.heap.size w w') : Wh w' c l := h.keep (hb.block c h.lt)
theorem Wh.fr {S : Nat → Prop} {w w' : World} {c : Nat} {l : List Pk} (h : Wh w c l) (hb : Fr S w w') (hS : S c) : Wh w' c l := h.keep (hb.block c hS)
theorem Wh.sub {w : World} {c : Nat} {l l' : List Pk} (h : Wh w c l) (hl : ∀ p ∈ l', p ∈ l) : Wh w c l' := by
  obtain ⟨cur, h1, h2, h3, h4⟩ := h
  exact ⟨cur, h1, h2, h3, fun p hp => h4 p (hl p hp)⟩
theorem Wh.get {w : World} {c : Nat} {l : List Pk} (h : Wh w c l) {p : Pk} (hp : p ∈ l) : w.cell? ⟨c, p.id, none⟩ = some (.string ⟨p.bs.toArray⟩) := by
  obtain ⟨cur, h1, h2, h3, h4⟩ := h
  simp only [World.cell?, h1]
  exact h4 p hp
theorem Wh.slot {w : World} {c : Nat} {l : List Pk} (h : Wh w c l) {j : Nat} (hj : j < 201) : (∃ s : ByteArray, w.cell? ⟨c, j, none⟩ = some (.string s)) ∧ w.frozen? ⟨c, j, none⟩ = false := by
  obtain ⟨cur, h1, h2, h3, h4⟩ := h
  obtain ⟨s, hs⟩ := h3 j hj
  exact ⟨⟨s, by simp only [World.cell?, h1]; exact hs⟩, by simp [World.frozen?, h1]⟩
theorem Wh.put {w : World} {c : Nat} {l : List Pk} (h : Wh w c l) {p : Pk} (hp : p.id < 201) (hl : ∀ q ∈ l, q.id ≠ p.id) : Wh (w.setCell ⟨c, p.id, none⟩ (.string ⟨p.bs.toArray⟩)) c (l ++ [p]) := by
  obtain ⟨cur, h1, h2, h3, h4⟩ := h
  refine ⟨cur.setIfInBounds p.id (.string ⟨p.bs.toArray⟩), by simp [World.setCell, Array.getElem?_modify, h1], by simpa using h2, fun j hj => ?_, fun q hq => ?_⟩
  · rw [Array.getElem?_setIfInBounds]
    by_cases e : p.id = j
    · rw [if_pos e, if_pos (by omega)]; exact ⟨_, rfl⟩
    · rw [if_neg e]; exact h3 j hj
  · rw [Array.getElem?_setIfInBounds]
    rcases List.mem_append.1 hq with hq | hq
    · rw [if_neg (fun e => hl q hq e.symm)]; exact h4 q hq
    · obtain rfl := List.mem_singleton.1 hq
      rw [if_pos rfl, if_pos (by omega)]
theorem wh_made (w : World) : Wh (w.alloc (.cells (List.replicate 201 (.string ByteArray.empty)).toArray 9)) w.heap.size [] := by
  obtain ⟨n, hn⟩ : ∃ n, n = 201 := ⟨_, rfl⟩
  rw [← hn]
  refine ⟨_, box_at w _, by rw [List.size_toArray, List.length_replicate, hn], fun j hj => ⟨ByteArray.empty, ?_⟩, fun p hp => by simp at hp⟩
  have hj2 : j < n := by omega
  simp [hj2]
theorem infoS : (Try.prog.info? 9).map (fun i => (i.zero, i.size, i.bytes)) = some (some (.string ByteArray.empty), 1, 16) := by kernel_rfl
theorem make_texts (u : World) : (Instr.makeSlice 55 (.int .i64 201) (.int .i64 201)).run Try.prog u = .ok (.slice (some ⟨u.heap.size, 0, none⟩) 201 201) (u.alloc (.cells (List.replicate 201 (.string ByteArray.empty)).toArray 9)) := by
  rw [← made_list]
  exact run_make_row' 55 9 (.string ByteArray.empty) 16 Try.underlying55 infoS rfl .i64 .i64 201 (by decide) (by decide) u
/-- Two bytes as a text. -/
theorem conv_two (w : World) (z1 z2 : Int) (k1 k2 : Nat) (h1 : z1 = (k1 : Int)) (h2 : z2 = (k2 : Int)) (l1 : k1 < 256) (l2 : k2 < 256) : (convert 57 9 (.slice (some ⟨w.heap.size, 0, none⟩) 2 2)).run Try.prog (w.alloc (.cells #[.int .u8 z1, .int .u8 z2] 5)) = .ok (.string ⟨[UInt8.ofNat k1, UInt8.ofNat k2].toArray⟩) (w.alloc (.cells #[.int .u8 z1, .int .u8 z2] 5)) :=
  run_convert_bytes_back (P := Try.prog) _ 57 9 5 ⟨w.heap.size, 0, none⟩ 2 [UInt8.ofNat k1, UInt8.ofNat k2] Try.underlying57 Try.underlying5 Try.underlying9 (fun j hj => by
    have h0 := heap_alloc_new w (.cells #[.int .u8 z1, .int .u8 z2] 5)
    have e1 : ((UInt8.ofNat k1).toNat : Int) = z1 := by rw [UInt8.toNat_ofNat', h1]; omega
    have e2 : ((UInt8.ofNat k2).toNat : Int) = z2 := by rw [UInt8.toNat_ofNat', h2]; omega
    have hj0 : j = 0 ∨ j = 1 := by simp at hj; omega
    rcases hj0 with rfl | rfl
    · simp only [List.getElem_cons_zero, e1]
      rw [addr_add]
      simp only [World.cell?, h0]
      rfl
    · simp only [List.getElem_cons_succ, List.getElem_cons_zero, e2]
      rw [addr_add]
      simp only [World.cell?, h0]
      rfl)
theorem wrap_u8 (n : Int) : IntKind.u8.wrap n = n % 256 := by simp [IntKind.wrap, IntKind.bits, IntKind.signed]
theorem mask15 (x : Nat) : bits .and .i64 (x : Int) 15 = ((x % 16 : Nat) : Int) := by
  have h := i64_maskH (x : Int) 4 15 16 (by decide) (by decide) (by decide)
  omega
theorem mask3d (x : Nat) (d : Int) : ∃ q : Int, bits .and .i64 ((x : Int) / d) 3 = q ∧ 0 ≤ q ∧ q < 4 := by
  have h := i64_maskH ((x : Int) / d) 2 3 4 (by decide) (by decide) (by decide)
  exact ⟨_, h, by omega, by omega⟩
theorem wh_field {S : Nat → Prop} {w : World} {b c : Nat} {f : Fd} {j : Nat} {v : Value} (h : FB S w b f) (hc : S c) : FB S (w.setCell ⟨c, j, none⟩ v) b f :=
  h.keep (fun k o hk ho => (Below.heap_setCell w ⟨c, j, none⟩ v k (fun e => hk (by rw [show k = c from e]; exact hc))).trans ho)
theorem set_belowW {B : Nat} {a w : World} {c j : Nat} {v : Value} (h : Below B a w) (hc : B ≤ c) : Below B a (w.setCell ⟨c, j, none⟩ v) := h.setCell (p := ⟨c, j, none⟩) hc v
end Go.Proofs.Ytnkgbinogblemaa
