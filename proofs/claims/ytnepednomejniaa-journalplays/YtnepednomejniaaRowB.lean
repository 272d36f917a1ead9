/- A row of bytes that a call has made out of a text, and what 'append(row, text...)' makes of it. -/
import Derived.Test.YtnepednomejniaaPutList
import Derived.Deep.AppendSrc
import Derived.Lib.ConvBytes
import Derived.Laws.IdiomCopy
namespace Go.Proofs.Ytnepednomejniaa
open Go.RowKit

/-- The slice v holds the bytes l, in a block from B on; what lies behind them, up to the capacity, may be written. -/
def RowB (w : World) (B : Nat) (v : Value) (l : List UInt8) : Prop :=
  ∃ g cap, v = .slice (some ⟨g, 0, none⟩) l.length cap ∧ B ≤ g ∧ g < w.heap.size ∧ l.length ≤ cap ∧
    (∀ j x, l[j]? = some x → w.cell? ⟨g, j, none⟩ = some (.int .u8 (x.toNat : Int))) ∧
    (∀ j, l.length ≤ j → j < cap → (w.cell? ⟨g, j, none⟩).isSome = true ∧ w.frozen? ⟨g, j, none⟩ = false)

theorem RowB.below {w w' : World} {B : Nat} {v : Value} {l : List UInt8} (h : RowB w B v l) (hb : Below w.heap.size w w') : RowB w' B v l := by
  obtain ⟨g, cap, hv, hB, hlt, hc, h1, h2⟩ := h
  refine ⟨g, cap, hv, hB, Nat.lt_of_lt_of_le hlt hb.size, hc, fun j x hx => (hb.cell (p := ⟨g, j, none⟩) hlt).trans (h1 j x hx), fun j hj hj2 => ?_⟩
  rw [hb.cell (p := ⟨g, j, none⟩) hlt, hb.frozen (p := ⟨g, j, none⟩) hlt]
  exact h2 j hj hj2

theorem RowB.conv {w : World} {B : Nat} {v : Value} {l : List UInt8} (h : RowB w B v l) :
    (convert 53 9 v).run Try.prog w = .ok (.string ⟨l.toArray⟩) w := by
  obtain ⟨g, cap, rfl, _, _, _, h1, _⟩ := h
  exact run_convert_bytes_back (P := Try.prog) w 53 9 5 ⟨g, 0, none⟩ cap l Try.underlying53 Try.underlying5 Try.underlying9 (fun j hj => by
    rw [show (⟨g, 0, none⟩ : Addr).add j = ⟨g, j, none⟩ from by cases j <;> simp [Addr.add]]
    exact h1 j _ (List.getElem?_eq_getElem hj))

theorem below_setCells {B b : Nat} (hb : B ≤ b) : ∀ (vs : List Value) (o : Nat) (a w : World), Below B a w → Below B a (w.setCells b o vs)
  | [], _, _, _, h => h
  | v :: r, o, a, w, h => below_setCells hb r (o + 1) a (w.setCell ⟨b, o, none⟩ v) (h.setCell (p := ⟨b, o, none⟩) hb v)

theorem size_setCells (b : Nat) : ∀ (vs : List Value) (o : Nat) (w : World), (w.setCells b o vs).heap.size = w.heap.size
  | [], _, _ => rfl
  | v :: r, o, w => by
    rw [World.setCells, size_setCells b r (o + 1)]; simp

/-- The row of '[]byte(s)'. -/
theorem rowB_made (w : World) (s : ByteArray) : RowB (Lib.bytesWorld w 5 s) w.heap.size (.slice (some ⟨w.heap.size, 0, none⟩) s.size (grownCap w s.size 0 5)) s.data.toList := by
  have hl := size_data_list s
  refine ⟨w.heap.size, grownCap w s.size 0 5, by rw [hl], Nat.le_refl _, by rw [Lib.bytesWorld_size]; omega, by rw [hl]; exact grownCap_ge w s.size 0 5, ?_, ?_⟩
  · intro j x hx
    have hj : j < s.size := by have := (List.getElem?_eq_some_iff.1 hx).1; omega
    rw [Lib.bytesWorld_cell w 5 s j hj, List.getD, hx]; rfl
  · intro j hj hj2
    have hge := grownCap_ge w s.size 0 5
    have hcs : (Lib.bytesCells w 5 s).size = grownCap w s.size 0 5 := by
      simp [Lib.bytesCells]; omega
    have hn := Lib.bytesWorld_at_new w 5 s
    constructor
    · simp only [World.cell?, hn]
      rw [Array.getElem?_eq_getElem (by omega)]; rfl
    · simp only [World.frozen?, hn, Bool.and_eq_false_iff, decide_eq_false_iff_not]
      left; omega

theorem below_made (w : World) (s : ByteArray) : Below w.heap.size w (Lib.bytesWorld w 5 s) :=
  ⟨rfl, rfl, rfl, by rw [Lib.bytesWorld_size]; omega, fun k hk => Lib.bytesWorld_at_old w 5 s k hk⟩

/-- 'append(row, text...)'. -/
theorem run_append_rowB {w : World} {B : Nat} {v : Value} {l : List UInt8} (h : RowB w B v l) (s : ByteArray) (hlim : l.length + s.size ≤ 140737488355328) (hB : B ≤ w.heap.size) :
    ∃ v' w', (Builtin.append_ #[53, 9] 53 #[v, .string s]).run Try.prog w = .ok v' w' ∧ RowB w' B v' (l ++ s.data.toList) ∧ Below B w w' := by
  obtain ⟨i0, hi, hz0, hz1, hz2⟩ := info_parts info5
  obtain ⟨g, cap, rfl, hBg, hlt, hc, h1, h2⟩ := h
  have hl := size_data_list s
  have hsrc : Src Try.prog i0.size 9 (.string s) s.size (byteCells s) w := by rw [hz1]; exact Src.ofString w Try.underlying9 s
  have hbl := byteCells_length s
  have hget : ∀ (j : Nat) (x : UInt8), s.data.toList[j]? = some x → (byteCells s)[j]? = some (Value.int .u8 (x.toNat : Int)) := fun j x hx => by rw [byteCells, List.getElem?_map, hx]; rfl
  by_cases hroom : l.length + s.size ≤ cap
  · have hr := run_append_room_src (P := Try.prog) w 53 9 53 5 i0 Try.underlying53 hi g 0 l.length cap (.string s) s.size (byteCells s) hsrc hroom
      (fun j hj => by rw [hz1, Nat.mul_one, Nat.zero_add]; exact (h2 (l.length + j) (by omega) (by omega)).1)
      (fun j hj => by rw [hz1, Nat.mul_one, Nat.zero_add]; exact (h2 (l.length + j) (by omega) (by omega)).2)
    rw [hz1, Nat.mul_one, Nat.zero_add] at hr
    have hsome : ∀ j, j < (byteCells s).length → (w.cell? ⟨g, l.length + j, none⟩).isSome = true := fun j hj => (h2 (l.length + j) (by omega) (by omega)).1
    refine ⟨_, _, hr, ⟨g, cap, by rw [List.length_append, hl], hBg, by rw [size_setCells]; exact hlt, by rw [List.length_append, hl]; exact hroom, ?_, ?_⟩, below_setCells hBg _ _ _ _ (Below.refl _ _)⟩
    · intro j x hx
      by_cases hj : j < l.length
      · rw [List.getElem?_append_left hj] at hx
        rw [World.cell?_setCells_out g _ _ _ _ (fun _ _ => .inl hj)]
        exact h1 j x hx
      · rw [List.getElem?_append_right (by omega)] at hx
        have hj2 : j - l.length < (byteCells s).length := by have := (List.getElem?_eq_some_iff.1 hx).1; omega
        have := World.cell?_setCells_in g (byteCells s) l.length w hsome (j - l.length) hj2
        rw [show l.length + (j - l.length) = j by omega] at this
        rw [this, ← List.getElem?_eq_getElem hj2]
        exact hget _ _ hx
    · intro j hj hj2
      rw [List.length_append, hl] at hj
      rw [World.cell?_setCells_out g _ _ _ _ (fun _ _ => .inr (by rw [hbl]; exact hj)), World.frozen?_setCells]
      exact h2 j (by omega) hj2
  · have hold : (Builtin.firstCells i0.size l.length (.slice (some ⟨g, 0, none⟩) l.length cap)).run Try.prog w.drew = .ok (u8s l).toArray w.drew := by
      rw [hz1]
      refine run_firstCells_some w.drew 1 l.length ⟨g, 0, none⟩ l.length cap (u8s l) (by simp [u8s]) (fun j u hu => ?_)
      rw [u8s, List.getElem?_map] at hu
      obtain ⟨x, hx, rfl⟩ := Option.map_eq_some_iff.1 hu
      rw [show (⟨g, 0, none⟩ : Addr).add j = ⟨g, j, none⟩ from by cases j <;> simp [Addr.add]]
      exact h1 j x hx
    have hr := run_append_grow_src (P := Try.prog) w 53 9 53 5 i0 (.int .u8 0) Try.underlying53 hi hz0 (some ⟨g, 0, none⟩) l.length cap (u8s l) hold (.string s) s.size (byteCells s) hsrc (by omega) (by omega)
      (by rw [hz2]; exact growslice_fits (by omega) (by omega))
    have hge := grownCap_ge w (l.length + s.size) cap 5
    have hnew := heap_alloc_new w.drew (.cells ((u8s l ++ byteCells s).toArray ++ Builtin.zeroCells (Value.int IntKind.u8 0).cells (grownCap w (l.length + s.size) cap 5 - (l.length + s.size))) 5)
    have hsz : ((u8s l ++ byteCells s).toArray ++ Builtin.zeroCells (Value.int IntKind.u8 0).cells (grownCap w (l.length + s.size) cap 5 - (l.length + s.size))).size = grownCap w (l.length + s.size) cap 5 := by
      have hz1 : (Value.int IntKind.u8 0).cells.size = 1 := rfl
      simp only [Array.size_append, List.size_toArray, List.length_append, size_zeroCells, hz1, hbl]
      simp [u8s]; omega
    refine ⟨_, _, hr, ⟨w.heap.size, grownCap w (l.length + s.size) cap 5, by rw [List.length_append, hl], hB, by simp, by rw [List.length_append, hl]; exact hge, ?_, ?_⟩, ((Below.refl _ _).drew).alloc hB _⟩
    · intro j x hx
      simp only [World.cell?]
      rw [show w.heap.size = w.drew.heap.size from rfl, hnew]
      have hj : j < l.length + s.size := by have := (List.getElem?_eq_some_iff.1 hx).1; rw [List.length_append, hl] at this; exact this
      have e : (u8s l ++ byteCells s)[j]? = some (.int .u8 (x.toNat : Int)) := by
        by_cases hj1 : j < l.length
        · rw [List.getElem?_append_left hj1] at hx
          rw [List.getElem?_append_left (by simpa [u8s] using hj1), u8s, List.getElem?_map, hx]; rfl
        · rw [List.getElem?_append_right (by omega)] at hx
          rw [List.getElem?_append_right (by simp [u8s]; omega)]
          have := hget _ _ hx
          simpa [u8s] using this
      simp only
      rw [Array.getElem?_append_left (by simp [u8s, hbl]; omega), List.getElem?_toArray]
      exact e
    · intro j _ hj2
      constructor
      · simp only [World.cell?]
        rw [show w.heap.size = w.drew.heap.size from rfl, hnew]
        simp only
        rw [Array.getElem?_eq_getElem (by rw [hsz]; exact hj2)]; rfl
      · simp only [World.frozen?]
        rw [show w.heap.size = w.drew.heap.size from rfl, hnew]
        simp

/-- The operation, for a walk. -/
theorem wpList_append_rowB {w : World} {ops : Array Oper} {rest : List Oper} {o : Oper} {a : Act} {Q : Exit → Act → World → Prop} (hgd : o.guard = none) (sl x : Operand)
    (ho : o.op = .call { callee := .builtin .append, args := #[sl, x], argTypes := #[53, 9] }) (hty : o.type = 53)
    (B : Nat) (v : Value) (l : List UInt8) (hs : a.eval sl = v) (hrow : RowB w B v l) (s : ByteArray) (hx : a.eval x = .string s) (hlim : l.length + s.size ≤ 140737488355328) (hB : B ≤ w.heap.size)
    (h : ∀ v' w', RowB w' B v' (l ++ s.data.toList) → Below B w w' → wpList Try.prog ops Q rest (a.put o.dst v') w') : wpList Try.prog ops Q (o :: rest) a w := by
  refine wpList_plain hgd fun K hK => ?_
  obtain ⟨v', w', hr, h2, h3⟩ := run_append_rowB hrow s hlim hB
  unfold Oper.wp execOp
  simp only [ho, hty, resolve, invoke, builtin, Sem.run_bind, Sem.run_pure, Result.andThen_ok, List.map_toArray, List.map_cons, List.map_nil, hs, hx, hr]
  exact hK _ _ (h v' w' h2 h3)
end Go.Proofs.Ytnepednomejniaa
