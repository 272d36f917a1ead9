import Derived.Test.YtojjepkmnifngaaCTwice
import Derived.Deep.WholeRow
import Derived.Laws.ResultCell
namespace Go.Proofs.Ytojjepkmnifngaa
open Go.RowKit

/-- The array's cells when the bytes below i are done. -/
def tabC (i : Nat) : Array Value := ((List.range 256).map fun j => Value.int .u32 ((if j < i then tabN j else 0 : Nat) : Int)).toArray
theorem tabC_size (i : Nat) : (tabC i).size = 256 := by simp [tabC]
theorem tabC_at (i j : Nat) (h : j < 256) : (tabC i)[j]? = some (.int .u32 ((if j < i then tabN j else 0 : Nat) : Int)) := by
  simp [tabC, h]
theorem tabC_zero : tabC 0 = Array.replicate 256 (.int .u32 0) := by
  apply Array.ext_getElem?
  intro j
  by_cases h : j < 256
  · rw [tabC_at 0 j h]; simp [h]
  · rw [Array.getElem?_eq_none (by rw [tabC_size]; omega), Array.getElem?_eq_none (by simp; omega)]
theorem tabC_set (i : Nat) (h : i < 256) : (tabC i).setIfInBounds i (.int .u32 (tabN i : Nat)) = tabC (i + 1) := by
  apply Array.ext_getElem?
  intro j
  by_cases hj : j < 256
  · rw [tabC_at (i + 1) j hj, Array.getElem?_setIfInBounds]
    by_cases he : i = j
    · subst he; rw [if_pos rfl, if_pos (by rw [tabC_size]; exact h), if_pos (by omega)]
    · rw [if_neg he, tabC_at i j hj]
      by_cases h1 : j < i
      · rw [if_pos h1, if_pos (by omega)]
      · rw [if_neg h1, if_neg (by omega)]
  · rw [Array.getElem?_eq_none (by simp [tabC_size]; omega), Array.getElem?_eq_none (by rw [tabC_size]; omega)]
theorem tabC_one (i : Nat) : (tabC i).all (·.oneCell') = true := by
  rw [Array.all_eq_true]
  intro j hj
  have := tabC_at i j (by rw [tabC_size] at hj; exact hj)
  rw [Array.getElem?_eq_getElem hj] at this
  rw [Option.some.inj this]; rfl
/-- What stands at half the place. -/
theorem tabC_half (i : Nat) (h : i < 256) : (tabC i)[i / 2]? = some (.int .u32 ((tabN (i / 2) : Nat) : Int)) := by
  rw [tabC_at i (i / 2) (by omega)]
  by_cases h1 : i / 2 < i
  · rw [if_pos h1]
  · have : i = 0 := by omega
    subst this
    rw [if_neg h1]; simp [tabN_zero]

/-- A whole array out of the block g, as a walk meets it. -/
theorem wpList_load_row {P : Program} {ops : Array Oper} {rest : List Oper} {op : Oper} {a : Act} {w : World} {Q : Exit → Act → World → Prop} (hgd : op.guard = none) (ty : TypeId) (x : Operand) (ho : op.op = .load ty x)
    (g : Nat) (hx : a.eval x = .pointer (some ⟨g, 0, none⟩)) (cs : Array Value) (t : TypeId) (fr : Nat × Nat) (hg : w.heap[g]? = some (.cells cs t fr)) (n : Nat) (e : TypeId)
    (hu : P.underlying ty = some (.array n e)) (hi : (P.info? ty).map (·.size) = some cs.size)
    (h : wpList P ops Q rest (a.put op.dst (.agg cs)) w) : wpList P ops Q (op :: rest) a w := by
  refine wpList_plain hgd fun K hK => ?_
  unfold Oper.wp execOp
  simp only [ho, hx, Instr.loadAt, Instr.sureAddr, Sem.run_bind, Sem.run_pure, Result.andThen_ok, run_loadVar_row w g t ty cs fr _ hg hu rfl hi]
  exact hK _ _ h

/-- A whole array into the block g, as a walk meets it. -/
theorem wpList_store_row {P : Program} {ops : Array Oper} {rest : List Oper} {op : Oper} {a : Act} {w w' : World} {Q : Exit → Act → World → Prop} (hgd : op.guard = none) (ty : TypeId) (x y : Operand) (ho : op.op = .store ty x y)
    (g : Nat) (cells : Array Value) (hx : a.eval x = .pointer (some ⟨g, 0, none⟩)) (hy : a.eval y = .agg cells) (t : TypeId) (old : Array Value) (hg : w.heap[g]? = some (.cells old t (0, 0)))
    (hi : (P.info? ty).map (·.size) = some cells.size) (hs : old.size = cells.size) (h1 : cells.all (·.oneCell') = true) (hw : w.setRow g cells = w')
    (h : wpList P ops Q rest (a.put op.dst undef) w') : wpList P ops Q (op :: rest) a w := by
  refine wpList_plain hgd fun K hK => ?_
  unfold Oper.wp execOp
  simp only [ho, hx, hy, Instr.storeAt, Instr.sureAddr, Sem.run_bind, Sem.run_pure, Result.andThen_ok, run_storeVar_row w g t ty old cells hg hi hs h1, hw]
  exact hK _ _ h

theorem setRow_alloc_under (w : World) (c c' : Array Value) (t : TypeId) (o : Obj) : ((w.alloc (.cells c t)).alloc o).setRow w.heap.size c' = (w.alloc (.cells c' t)).alloc o := by
  simp only [World.setRow, World.alloc]
  congr 1
  apply Array.ext_getElem?
  intro i
  rw [Array.getElem?_modify]
  by_cases h : w.heap.size = i
  · subst h
    simp [Array.getElem?_push]
  · have h' : ¬ i = w.heap.size := fun e => h e.symm
    simp [h, h', Array.getElem?_push]

theorem heap_alloc_under (w : World) (o o' : Obj) : ((w.alloc o).alloc o').heap[w.heap.size]? = some o := by
  show ((w.heap.push o).push o')[w.heap.size]? = some o
  simp [Array.getElem?_push]

theorem infoArr : (Try.prog.info? 58).map (fun i => (i.zero, i.size)) = some (some (.agg (Array.replicate 256 (.int .u32 0))), 256) := by kernel_rfl

set_option maxHeartbeats 4000000 in
set_option maxRecDepth 100000 in
theorem shiftedOut_any (w : World) :
    Calls Try.prog 33 #[] w fun e w' => e = .returned (.agg (tabC 256)) ∧ w' = (w.alloc (.cells (tabC 256) 58)).alloc (.cells (tabC 256) 58) := by
  obtain ⟨hv, hsz⟩ := zero_of_info infoArr
  rw [← tabC_zero] at hv
  go_enter Try.func33, Try.ntmps33
  go_wp2_with fail
  go_loopw [3] (fun s3 wx => ∃ i : Nat, i ≤ 256 ∧ s3 = .int .i64 i ∧ wx = (w.alloc (.cells (tabC 0) 58)).alloc (.cells (tabC i) 58)) (fun s3 _ => 256 - (intOf s3).toNat)
  case atStart => exact ⟨0, by omega, rfl, rfl⟩
  case round =>
    obtain ⟨i, hi, rfl, rfl⟩ := hrel
    by_cases hlt : i < 256
    · have hc : ((w.alloc (.cells (tabC 0) 58)).alloc (.cells (tabC i) 58)).cell? ⟨w.heap.size + 1, i / 2, none⟩ = some (.int .u32 ((tabN (i / 2) : Nat) : Int)) := by
        rw [World.cell?_alloc_at _ _ _ _ (by simp), tabC_half i hlt]
      have hci : (tabC i)[i]? = some (.int .u32 0) := by rw [tabC_at i i hlt, if_neg (by omega)]; rfl
      have hst := tabN_step i hlt
      have hset := tabC_set i hlt
      have HT : Hid ((tabC i).setIfInBounds i (.int .u32 (tabN i : Nat)) = tabC (i + 1)) := hset
      clear hset
      have htl : tw (tabN (i / 2)) < 4294967296 := tw_lt _
      obtain ⟨x, hx⟩ : ∃ x, x = tw (tabN (i / 2)) := ⟨_, rfl⟩
      rw [← hx] at hst htl
      go_wp2_with fail
      refine (twice_any _ _ (tabN_lt _)).mono ?_
      rintro e w' ⟨rfl, rfl⟩
      rw [← hx]
      clear hc hx
      by_cases hp : i % 2 = 1
      · have hpi : (i : Int) % 2 = 1 := by omega
        have hss : ((tabC i).setIfInBounds i (.int .u32 (x : Nat)))[i]? = some (.int .u32 (x : Nat)) := by
          rw [Array.getElem?_setIfInBounds, if_pos rfl, if_pos (by rw [tabC_size]; exact hlt)]
        rw [if_pos hp] at hst
        have hb : bits .xor .u32 (x : Int) 79764919 = ((tabN i : Nat) : Int) := by
          have := u32_xor_nat x 79764919 htl (by omega)
          rw [← hst] at this
          exact this
        have HS := chid hst
        clear hst hp
        go_wp2
        go_roundw
        case rel => exact ⟨i + 1, by omega, by go_num, by rw [← HT.out]⟩
        case measure => simp [intOf]; omega
      · have hpi : (i : Int) % 2 = 0 := by omega
        rw [if_neg hp, Nat.xor_zero] at hst
        have HS := chid hst
        clear hst hp
        go_wp2
        go_roundw
        case rel => exact ⟨i + 1, by omega, by go_num, by rw [← HT.out, HS.out]⟩
        case measure => simp [intOf]; omega
    · obtain rfl : i = 256 := by omega
      have hT := tabC_size 256
      have hsz' : (Try.prog.info? 58).map (·.size) = some (tabC 256).size := by rw [hT]; exact hsz
      have h1 := tabC_one 256
      have H1 : Hid ((tabC 256).all (·.oneCell') = true) := h1
      have HZ : Hid ((Try.prog.info? 58).map (·.size) = some (tabC 256).size) := hsz'
      clear hT hsz' h1 hv hsz
      have hgT : ((w.alloc (.cells (tabC 0) 58)).alloc (.cells (tabC 256) 58)).heap[w.heap.size + 1]? = some (.cells (tabC 256) 58) := by
        have := heap_alloc_last (w.alloc (.cells (tabC 0) 58)) (.cells (tabC 256) 58)
        rw [← this]; simp
      have HG := chid hgT
      have HU := chid (heap_alloc_under w (.cells (tabC 0) 58) (.cells (tabC 256) 58))
      have HE := chid (show (tabC 0).size = (tabC 256).size by rw [tabC_size, tabC_size])
      have HR := chid (setRow_alloc_under w (tabC 0) (tabC 256) 58 (.cells (tabC 256) 58))
      clear hgT
      go_wp2_with (first
        | refine wpList_load_row rfl 58 _ rfl (w.heap.size + 1) rfl (tabC 256) 58 (0, 0) HG.out 256 57 Try.underlying58 HZ.out ?_
        | refine wpList_store_row rfl 58 _ _ rfl w.heap.size (tabC 256) rfl rfl 58 (tabC 0) HU.out HZ.out HE.out H1.out HR.out ?_)
      have hld : (loadVar 58 ⟨w.heap.size, 0, none⟩).run Try.prog ((w.alloc (.cells (tabC 256) 58)).alloc (.cells (tabC 256) 58)) = .ok (.agg (tabC 256)) ((w.alloc (.cells (tabC 256) 58)).alloc (.cells (tabC 256) 58)) :=
        run_loadVar_row _ _ 58 _ (tabC 256) (0, 0) _ (heap_alloc_under _ _ _) Try.underlying58 rfl HZ.out
      refine bodyPost_ret (v := .agg (tabC 256)) ?_ rfl ⟨rfl, rfl⟩
      simp [results, Try.results33, Act.put, asAddr, hld]
end Go.Proofs.Ytojjepkmnifngaa
