/- A map of functions; newMaker of the program. -/
import Derived.Test.YthdnpddfdlhlaaaBFol
import Derived.MapKept
namespace Go.Proofs.Ythdnpddfdlhlaaa
open Go.RowKit

theorem run_insert_new {P : Program} {w : World} {ty kt et : TypeId} {es : Array MapEntry} {c : Nat} {k : Int} {v : Value} (hu : P.underlying ty = some (.map kt et)) (hk : P.underlying kt = some (.int .i64)) (hnew : Instr.findNow (.int .i64) (.int .i64 k) es.toList 0 = some none) :
    (Instr.mapUpdate ty (.map (some w.heap.size)) (.int .i64 k) v).run P (w.alloc (.map es c)) = .ok () (w.alloc (.map (es.push ⟨.int .i64 k, v, c⟩) (c + 1))) := by
  have hg : (w.alloc (.map es c)).heap[w.heap.size]? = some (.map es c) := heap_alloc_new w _
  unfold Instr.mapUpdate
  simp only [Sem.run_bind, run_underlying hu, Result.andThen, MapKept.run_getObj_map hg, MapKept.run_checkKey (P := P) (k := .int .i64 k) hk (by trivial), MapKept.run_findKey hk hnew, MapKept.run_setObj_map _ hg]
  congr 1
  show ({ w with heap := (w.heap.push (.map es c)).setIfInBounds w.heap.size (.map (es.push ⟨.int .i64 k, v, c⟩) (c + 1)) } : World) = { w with heap := w.heap.push (.map (es.push ⟨.int .i64 k, v, c⟩) (c + 1)) }
  congr 1
  apply Array.ext_getElem?
  intro i
  rw [Array.getElem?_setIfInBounds, Array.getElem?_push, Array.getElem?_push]
  by_cases e : w.heap.size = i
  · subst e; simp
  · have e2 : ¬ i = w.heap.size := fun h => e h.symm
    simp [e2, e]
theorem wpList_insert_new {P : Program} {ops : Array Oper} {rest : List Oper} {op : Oper} {a : Act} {w : World} {Q : Exit → Act → World → Prop} (hgd : op.guard = none) (ty : TypeId) (m x y : Operand) (ho : op.op = .insert ty m x y)
    (g : Nat) (hm : a.eval m = .map (some g)) (hgw : g = w.heap.size) (k : Int) (hx : a.eval x = .int .i64 k) (v : Value) (hy : a.eval y = v) (es : Array MapEntry) (c : Nat) {kt et : TypeId} (hu : P.underlying ty = some (.map kt et)) (hk : P.underlying kt = some (.int .i64)) (hnew : Instr.findNow (.int .i64) (.int .i64 k) es.toList 0 = some none)
    (h : wpList P ops Q rest (a.put op.dst undef) (w.alloc (.map (es.push ⟨.int .i64 k, v, c⟩) (c + 1)))) : wpList P ops Q (op :: rest) a (w.alloc (.map es c)) := by
  subst hgw
  refine wpList_plain hgd fun K hK => ?_
  unfold Oper.wp execOp
  simp only [ho, hm, hx, hy, Sem.run_bind, Sem.run_pure, Result.andThen_ok, run_insert_new hu hk hnew]
  exact hK _ _ h
theorem run_lookup_at {P : Program} {w : World} {ty kt et : TypeId} {g : Nat} {es : Array MapEntry} {c j : Nat} {k : Int} {v : Value} (hu : P.underlying ty = some (.map kt et)) (hk : P.underlying kt = some (.int .i64)) (hg : w.heap[g]? = some (.map es c)) (hf : Instr.findNow (.int .i64) (.int .i64 k) es.toList 0 = some (some (j, v))) :
    (Instr.lookup ty (.map (some g)) (.int .i64 k) false).run P w = .ok v w := by
  unfold Instr.lookup
  simp [Sem.run_bind, run_underlying hu, Result.andThen, MapKept.run_getObj_map hg, MapKept.run_checkKey (P := P) (k := .int .i64 k) hk (by trivial), MapKept.run_findKey hk hf]

/-- What each kind adds, in the map. -/
def entK (k : Int) (f : FuncId) (mb c : Nat) : MapEntry := ⟨.int .i64 k, .func (.func f) #[.pointer (some ⟨mb, 0, none⟩)] #[], c⟩
def kindsE (mb : Nat) : Array MapEntry := #[entK 1 51 mb 0, entK 2 52 mb 1, entK 3 53 mb 2, entK 4 54 mb 3, entK 5 55 mb 4, entK 6 56 mb 5]
def fnK (k : Int) : FuncId := if k = 1 then 51 else if k = 2 then 52 else if k = 3 then 53 else if k = 4 then 54 else if k = 5 then 55 else 56
theorem kinds_find (mb : Nat) {k : Int} (h1 : 1 ≤ k) (h6 : k ≤ 6) : ∃ j, Instr.findNow (.int .i64) (.int .i64 k) (kindsE mb).toList 0 = some (some (j, .func (.func (fnK k)) #[.pointer (some ⟨mb, 0, none⟩)] #[])) := by
  have : k = 1 ∨ k = 2 ∨ k = 3 ∨ k = 4 ∨ k = 5 ∨ k = 6 := by omega
  rcases this with rfl | rfl | rfl | rfl | rfl | rfl
  · exact ⟨0, rfl⟩
  · exact ⟨1, rfl⟩
  · exact ⟨2, rfl⟩
  · exact ⟨3, rfl⟩
  · exact ⟨4, rfl⟩
  · exact ⟨5, rfl⟩
theorem underKinds : Try.prog.underlying 86 = some (.map 3 64) := Try.underlying86

theorem infoMaker : (Try.prog.info? 88).map (fun i => (i.zero, i.size)) = some (some (.agg (#[.slice none 0 0] ++ Array.replicate 24 (.int .u32 0) ++ #[.map none])), 26) := by kernel_rfl

set_option maxHeartbeats 2000000 in
set_option maxRecDepth 100000 in
theorem newMaker_any (w : World) :
    Calls Try.prog 30 #[] w fun e w' => e = .returned (.pointer (some ⟨w.heap.size, 0, none⟩)) ∧ w'.heap[w.heap.size]? = some (.cells (#[.slice none 0 0] ++ Array.replicate 24 (.int .u32 0) ++ #[.map (some (w.heap.size + 1))]) 88 (0, 0)) ∧ w'.heap[w.heap.size + 1]? = some (.map (kindsE w.heap.size) 6) ∧ Below w.heap.size w w' := by
  obtain ⟨hv, hsz⟩ := zero_of_info infoMaker
  have hmk : ∀ w, (Instr.makeMap 86 none).run Try.prog w = .ok (.map (some w.heap.size)) (w.alloc (.map #[] 0)) := fun w => rfl
  obtain ⟨z, hz⟩ : ∃ z : Array Value, z = #[.slice none 0 0] ++ Array.replicate 24 (.int .u32 0) ++ #[.map none] := ⟨_, rfl⟩
  rw [← hz] at hv
  have hz25 : z[25]? = some (.map none) := by rw [hz]; rfl
  have hzs : z.size = 26 := by rw [hz]; rfl
  have HZ : Hid (#[.slice none 0 0] ++ Array.replicate 24 (.int .u32 0) ++ #[.map (some (w.heap.size + 1))] = z.setIfInBounds 25 (.map (some (w.heap.size + 1)))) := Hid.mk (by rw [hz]; rfl)
  rw [HZ.out]
  clear HZ hz
  go_enter Try.func30, Try.ntmps30
  go_wp2_with (first | (refine wpList_insert_new rfl _ _ _ _ rfl _ rfl (by simp) _ rfl _ rfl _ _ underKinds Try.underlying3 (by rfl) ?_) | fail)
  go_ret
  refine ⟨rfl, ?_, ?_, ?_⟩
  · rw [heap_alloc_old _ _ (by simp), heap_alloc_new]
  · have := heap_alloc_new (w.alloc (.cells (z.setIfInBounds 25 (.map (some (w.heap.size + 1)))) 88)) (.map (kindsE w.heap.size) 6)
    simpa [kindsE, entK] using this
  · exact ((Below.refl _ _).alloc (Nat.le_refl _) _).alloc (by simp) _
end Go.Proofs.Ythdnpddfdlhlaaa
