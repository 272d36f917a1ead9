/- slices.Backward at the turns of a store: a range over a function. -/
import Derived.Test.YtiabnjjdeikefaaSSorted
import Derived.RangeFuncNested
import Derived.RangeFuncBound
import Derived.RangeFuncCalls
import Derived.RangeFuncLeaves
import Derived.RangeFuncWrites
import Derived.Shelf.Abstract
import Derived.Shelf.RegionOpen
import Derived.WalkKit
import Derived.OwnWalkIn
import Derived.TacticsInMore
import Derived.LoopNIn
import Derived.LoopIn
import Derived.Maps.OwnIn
namespace Go.Proofs.Ytiabnjjdeikefaa
open Go.RowKit Go.Shelf
attribute [local go_sem] Oper.semAt_some

/-- A turn at its place; its fact is of words. -/
abbrev PT := { q : Nat × (Nat × Tri) // isTW q.2.2 = true }
abbrev aggU (p : Nat × Tri) : Value := .agg #[.int .i64 (p.1 : Int), strV p.2.1, strV p.2.2.1, strV p.2.2.2]
abbrev encsU (q : PT) : Array Value := #[.int .i64 (q.1.1 : Int), aggU q.1.2]
/-- The j-th from behind. -/
def fromEnd (ts : List (Nat × Tri)) (hw : ∀ p ∈ ts, isTW p.2 = true) (j : Nat) : PT :=
  if h : ts.length - 1 - j < ts.length then ⟨(ts.length - 1 - j, ts[ts.length - 1 - j]), hw _ (List.getElem_mem h)⟩ else ⟨(0, (0, ([97], [97], [97]))), by decide⟩
def uptoE (ts : List (Nat × Tri)) (hw : ∀ p ∈ ts, isTW p.2 = true) (k : Nat) : List PT := (List.range k).map (fromEnd ts hw)
theorem uptoE_succ (ts : List (Nat × Tri)) (hw : ∀ p ∈ ts, isTW p.2 = true) (k : Nat) : uptoE ts hw (k + 1) = uptoE ts hw k ++ [fromEnd ts hw k] := by simp [uptoE, List.range_succ]
theorem uptoE_len (ts : List (Nat × Tri)) (hw : ∀ p ∈ ts, isTW p.2 = true) (k : Nat) : (uptoE ts hw k).length = k := by simp [uptoE]
theorem fromEnd_at (ts : List (Nat × Tri)) (hw : ∀ p ∈ ts, isTW p.2 = true) {j i : Nat} {p : Nat × Tri} (hi : i + j + 1 = ts.length) (hp : ts[i]? = some p) : (fromEnd ts hw j).1 = (i, p) := by
  have e : ts.length - 1 - j = i := by omega
  have hlt : i < ts.length := by omega
  unfold fromEnd
  rw [dif_pos (by omega)]
  simp only [e]
  rw [List.getElem?_eq_getElem hlt] at hp
  rw [Option.some.inj hp]

set_option maxRecDepth 100000 in
set_option maxHeartbeats 4000000 in
/-- The closure, for every loop body that keeps the blocks of S. -/
theorem back1_in (F : Fence) (n : Nat) (h7 : F.fn 57) (hro : F.round = none) (hn : 1 ≤ n) (l Bs : Nat) (S : Nat → Prop) (hBsS : S Bs) (sv : Value) (ts : List (Nat × Tri)) (hw : ∀ p ∈ ts, isTW p.2 = true) (hlen : ts.length ≤ 1000000000) (J Jx : List PT → World → Prop)
    (hY : ∀ pre x W, J pre W → pre.length < ts.length → YieldAt F (n - 1) Try.prog l (encsU x) W fun e W' =>
      (e = .returned (.bool true) ∧ J (pre ++ [x]) W' ∧ Fr S W W') ∨ (e = .returned (.bool false) ∧ Jx (pre ++ [x]) W'))
    (W : World) (hBs : W.cell? ⟨Bs, 0, none⟩ = some sv) (hc : SlS csU 4 S W sv ts) (h0 : J [] W) :
    CallsIn F n Try.prog 57 #[.func (.yield l) #[] #[], .pointer (some ⟨Bs, 0, none⟩)] W fun e W' => (∃ v, e = .returned v) ∧
      ((∃ ys, ys = uptoE ts hw ts.length ∧ J ys W') ∨ (∃ pre, (∃ k, k ≤ ts.length ∧ pre = uptoE ts hw k) ∧ Jx pre W')) := by
  obtain ⟨ao, cap, rfl⟩ := hc.slice
  obtain ⟨N, hN⟩ : ∃ N, N = ts.length := ⟨_, rfl⟩
  have HC := Hid.mk hc
  have HY := Hid.mk hY
  have HBS := Hid.mk hBs
  have HN := Hid.mk hN
  rw [← hN] at hBs hlen HBS
  clear hc hY hN
  refine callsIn_of_wp Try.func57 rfl h7 ?_ hro
  simp only [Try.ntmps57, List.size_toArray, List.length_cons, List.length_nil, Nat.reduceAdd, Nat.reduceSub, Array.replicate_succ, Array.replicate_zero, List.push_toArray, List.append_toArray, List.nil_append, List.cons_append]
  gi_wp2
  gi_loopw [3] (fun v wr => ∃ (k : Nat) (z : Int), k ≤ N ∧ v = .int .i64 z ∧ z = (N : Int) - 1 - (k : Int) ∧ J (uptoE ts hw k) wr ∧ Fr S W wr) (fun v _ => (intOf v + 1).toNat)
  case atStart => exact ⟨0, _, Nat.zero_le _, rfl, by omega, h0, Fr.refl _ _⟩
  case round =>
    obtain ⟨k, z, hk, rfl, hz, hJs, hF⟩ := hrel
    have HJ := Hid.mk hJs
    have HFR := Hid.mk hF
    clear hJs hF
    by_cases hlt : k < N
    · obtain ⟨i, hi⟩ : ∃ i : Nat, z = (i : Int) := ⟨z.toNat, by omega⟩
      subst hi
      have hik : i + k + 1 = N := by omega
      obtain ⟨p, hp⟩ : ∃ p, ts[i]? = some p := ⟨_, List.getElem?_eq_getElem (by have := HN.out; omega)⟩
      obtain ⟨g, off, rfl, hSg, hgl, hcell⟩ := (HC.out.fr HFR.out).get hp
      obtain ⟨q0, q1, q2, q3⟩ := getU hcell
      have hcs : wr.cell? ⟨Bs, 0, none⟩ = some (.slice (some ⟨g, off, none⟩) N cap) := by
        have hk := HFR.out.block Bs hBsS
        have hb := HBS.out
        simpa only [World.cell?, hk] using hb
      obtain ⟨fn, tmps, assign, body, hy, hR⟩ := HY.out _ (fromEnd ts hw k) wr HJ.out (by rw [uptoE_len, ← HN.out]; exact hlt)
      have hfe := fromEnd_at ts hw (j := k) (i := i) (by rw [← HN.out]; omega) hp
      simp only [encsU, hfe] at hy
      have HS := Hid.mk (uptoE_succ ts hw k)
      rw [← HS.out] at hR
      have hiN : (i : Int) < (N : Int) := by omega
      clear hfe hp hz
      gi_wp2
      refine hR.mono ?_
      rintro e W3 (⟨rfl, hJ3, hk3⟩ | ⟨rfl, hJx3⟩)
      · gi_wp2
        go_roundw
        case rel => exact ⟨k + 1, (i : Int) - 1, by omega, by go_num, by omega, hJ3, HFR.out.trans hk3⟩
        case measure => simp [intOf]
      · gi_wp2
        refine bodyPost_ret (results_none rfl _ _ _) rfl ?_
        exact ⟨⟨_, rfl⟩, .inr ⟨_, ⟨k + 1, by rw [← HN.out]; omega, rfl⟩, hJx3⟩⟩
    · have hkN : k = N := by omega
      have hz1 : z < 0 := by omega
      have HKN : Hid (k = ts.length) := Hid.mk (by rw [hkN]; exact HN.out)
      clear hz hkN
      gi_wp2
      go_end0
      exact ⟨⟨_, rfl⟩, .inl ⟨_, by rw [HKN.out], HJ.out⟩⟩

set_option maxRecDepth 100000 in
set_option maxHeartbeats 1000000 in
theorem backward_any (a : Option Addr) (len cap : Nat) (w : World) :
    Calls Try.prog 46 #[.slice a len cap] w fun e w' => e = .returned (.func (.func 57) #[] #[.pointer (some ⟨w.heap.size, 0, none⟩)]) ∧ w' = w.alloc (.cells #[.slice a len cap] 60) := by
  go_enter Try.func46, Try.ntmps46
  go_wp2
  go_ret
  exact ⟨rfl, rfl⟩
theorem back_stops (F : Fence) (n : Nat) (h7 : F.fn 57) (hro : F.round = none) (hn : 1 ≤ n) (Bs : Nat) (S : Nat → Prop) (hBsS : S Bs) (sv : Value) (ts : List (Nat × Tri)) (hw : ∀ p ∈ ts, isTW p.2 = true) (hlen : ts.length ≤ 1000000000)
    (w : World) (hBl : Bs < w.heap.size) (hBs : w.cell? ⟨Bs, 0, none⟩ = some sv) (hc : SlS csU 4 S w sv ts) :
    SeqStopsK F n Try.prog 57 #[.pointer (some ⟨Bs, 0, none⟩)] encsU (Fr S) (fun ys => ys = uptoE ts hw ts.length) (fun pre => ∃ k, k ≤ ts.length ∧ pre = uptoE ts hw k) ts.length w :=
  fun l J Jx W hW _ _ hY h0 => back1_in F n h7 hro hn l Bs S hBsS sv ts hw hlen J Jx hY W ((hW.cell (p := ⟨Bs, 0, none⟩) hBl).trans hBs) (hc.below hW) h0
end Go.Proofs.Ytiabnjjdeikefaa
