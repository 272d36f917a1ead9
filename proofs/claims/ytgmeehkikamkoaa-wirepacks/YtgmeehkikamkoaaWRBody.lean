/- A note's body, as the document's own definition writes it. -/
import Derived.Test.YtgmeehkikamkoaaWRShape
namespace Go.Proofs.Ytgmeehkikamkoaa
open Go.RowKit

/-- A row of bytes that may still be nil. -/
def RowB0 (w : World) (B : Nat) (v : Value) (l : List UInt8) : Prop := (v = .slice none 0 0 ∧ l = []) ∨ RowB w B v l
theorem RowB0.below {w w' : World} {B : Nat} {v : Value} {l : List UInt8} (h : RowB0 w B v l) (hb : Below w.heap.size w w') : RowB0 w' B v l := by
  rcases h with h | h
  · exact .inl h
  · exact .inr (h.below hb)

theorem run_append_nilB {w : World} {B : Nat} (s : ByteArray) (h0 : 0 < s.size) (hlim : s.size ≤ 140737488355328) (hB : B ≤ w.heap.size) :
    ∃ v' w', (Builtin.append_ #[43, 9] 43 #[.slice none 0 0, .string s]).run Try.prog w = .ok v' w' ∧ RowB w' B v' s.data.toList ∧ Below B w w' := by
  obtain ⟨i0, hi, hz0, hz1, hz2⟩ := info_parts info5
  have hl := size_data_list s
  have hsrc : Src Try.prog i0.size 9 (.string s) s.size (byteCells s) w := by rw [hz1]; exact Src.ofString w Try.underlying9 s
  have hbl := byteCells_length s
  have hget : ∀ (j : Nat) (x : UInt8), s.data.toList[j]? = some x → (byteCells s)[j]? = some (Value.int .u8 (x.toNat : Int)) := fun j x hx => by rw [byteCells, List.getElem?_map, hx]; rfl
  have hr := run_append_grow_src (P := Try.prog) w 43 9 43 5 i0 (.int .u8 0) Try.underlying43 hi hz0 none 0 0 [] (run_firstCells_none w.drew i0.size 0 0 0) (.string s) s.size (byteCells s) hsrc (by omega) (by omega)
      (by rw [hz2]; exact growslice_fits (by omega) (by omega))
  rw [Nat.zero_add, List.nil_append] at hr
  have hge := grownCap_ge w s.size 0 5
  have hnew := heap_alloc_new w.drew (.cells ((byteCells s).toArray ++ Builtin.zeroCells (Value.int IntKind.u8 0).cells (grownCap w s.size 0 5 - s.size)) 5)
  have hsz : ((byteCells s).toArray ++ Builtin.zeroCells (Value.int IntKind.u8 0).cells (grownCap w s.size 0 5 - s.size)).size = grownCap w s.size 0 5 := by
    have hz1 : (Value.int IntKind.u8 0).cells.size = 1 := rfl
    simp only [Array.size_append, List.size_toArray, size_zeroCells, hz1, hbl]
    omega
  refine ⟨_, _, hr, ⟨w.heap.size, grownCap w s.size 0 5, by rw [hl], hB, by simp, by rw [hl]; exact hge, ?_, ?_⟩, ((Below.refl _ _).drew).alloc hB _⟩
  · intro j x hx
    simp only [World.cell?]
    rw [show w.heap.size = w.drew.heap.size from rfl, hnew]
    have hj : j < s.size := by have := (List.getElem?_eq_some_iff.1 hx).1; rw [hl] at this; exact this
    simp only
    rw [Array.getElem?_append_left (by simp [hbl]; omega), List.getElem?_toArray]
    exact hget _ _ hx
  · intro j _ hj2
    constructor
    · simp only [World.cell?]
      rw [show w.heap.size = w.drew.heap.size from rfl, hnew]
      simp only
      rw [Array.getElem?_eq_getElem (by rw [hsz]; exact hj2)]; rfl
    · simp only [World.frozen?]
      rw [show w.heap.size = w.drew.heap.size from rfl, hnew]
      simp

/-- 'append(row, text...)', the row nil or not, the text not empty. -/
theorem wpList_append_rowB0 {w : World} {ops : Array Oper} {rest : List Oper} {o : Oper} {a : Act} {Q : Exit → Act → World → Prop} (hgd : o.guard = none) (sl x : Operand)
    (ho : o.op = .call { callee := .builtin .append, args := #[sl, x], argTypes := #[43, 9] }) (hty : o.type = 43)
    (B : Nat) (v : Value) (l : List UInt8) (hs : a.eval sl = v) (hrow : RowB0 w B v l) (s : ByteArray) (hx : a.eval x = .string s) (h0 : 0 < s.size) (hlim : l.length + s.size ≤ 140737488355328) (hB : B ≤ w.heap.size)
    (h : ∀ v' w', RowB w' B v' (l ++ s.data.toList) → Below B w w' → wpList Try.prog ops Q rest (a.put o.dst v') w') : wpList Try.prog ops Q (o :: rest) a w := by
  rcases hrow with ⟨rfl, rfl⟩ | hrow
  · refine wpList_plain hgd fun K hK => ?_
    obtain ⟨v', w', hr, h2, h3⟩ := run_append_nilB (w := w) (B := B) s h0 (by simpa using hlim) hB
    unfold Oper.wp execOp
    simp only [ho, hty, resolve, invoke, builtin, Sem.run_bind, Sem.run_pure, Result.andThen_ok, List.map_toArray, List.map_cons, List.map_nil, hs, hx, hr]
    exact hK _ _ (h v' w' (by simpa using h2) h3)
  · exact wpList_append_rowB hgd sl x ho hty B v l hs hrow s hx hlim hB h

set_option maxHeartbeats 400000 in
theorem rSize_any (v : Value) (ls : List (List UInt8)) (w : World) (hv : StrsAt w v ls) (hs : shortL ls) (hl : ls.length ≤ 4096) :
    Calls Try.prog 45 #[v] w fun e w' => e = .returned (.int .i64 (sumL ls)) ∧ w' = w := by
  obtain ⟨hlen, ao, cap, rfl, hc⟩ := hv
  have HC := Hid.mk hc
  have HS := Hid.mk hs
  clear hc hs
  go_enter Try.func45, Try.ntmps45
  go_wp2
  go_loop [3, 4] (fun k c => ∃ i : Nat, i ≤ ls.length ∧ c = .int .i64 i ∧ k = .int .i64 (sumL (ls.take i))) (fun _ c => ls.length - (intOf c).toNat)
  case atStart => exact ⟨0, Nat.zero_le _, rfl, by simp [sumL]⟩
  case round =>
    obtain ⟨i, hi, rfl, rfl⟩ := hrel
    by_cases hlt : i < ls.length
    · obtain ⟨t, ht⟩ : ∃ t, ls[i]? = some t := ⟨_, List.getElem?_eq_getElem hlt⟩
      rcases HC.out with hnil | ⟨b, o, rfl, hl, hc⟩
      · rw [hnil] at ht; simp at ht
      · have hcx := hc i t ht
        have hst := Hid.mk (sum_step ht)
        have htl := HS.out t (List.mem_of_getElem? ht)
        have hltI : (i : Int) < (ls.length : Int) := by omega
        have hts := size_list t
        have hsl := sumL_le (ls := ls.take i) (fun u hu => HS.out u (List.mem_of_mem_take hu))
        rw [List.length_take, Nat.min_eq_left hi] at hsl
        clear hc ht
        obtain ⟨S, hS⟩ : ∃ S, S = sumL (ls.take i) := ⟨_, rfl⟩
        rw [← hS] at hsl ⊢
        have HSS := Hid.mk hS
        clear hS
        go_wp2
        go_round
        case rel => exact ⟨i + 1, by omega, by go_num, by rw [hst.out, ← HSS.out]; go_num⟩
        case measure => simp [intOf]; omega
    · rw [List.take_of_length_le (by omega)]
      go_wp2
      go_ret
      exact ⟨rfl, rfl⟩
end Go.Proofs.Ytgmeehkikamkoaa
