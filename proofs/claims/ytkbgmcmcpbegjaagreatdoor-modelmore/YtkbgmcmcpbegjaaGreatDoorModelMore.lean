/- ModelMore: for every input the call returns true and leaves its arguments as they were; the table of math/bits as the program lays it. -/
import Derived.Test.YtkbgmcmcpbegjaaGreatDoorRows
import Derived.Test.YtkbgmcmcpbegjaaGreatDoorNMore
import Derived.Test.YtkbgmcmcpbegjaaGreatDoorMG40
import Derived.Test.YtkbgmcmcpbegjaaGreatDoorMG38
import Derived.Test.YtkbgmcmcpbegjaaGreatDoorMG39
import Derived.Test.YtkbgmcmcpbegjaaGreatDoorMG45
import Derived.Test.YtkbgmcmcpbegjaaGreatDoorTie
import Derived.Test.YtkbgmcmcpbegjaaGreatDoorCards
import Derived.Lay
import Derived.SevenTiedAt
import Derived.MakeChecks
import Derived.Stop.Joined
import Derived.WalkKit
import Derived.ProofKit
import Derived.OpenShut
import Derived.ShutString
import Derived.SizedLaws
namespace Go.Proofs.YtkbgmcmcpbegjaaGreatDoor
open Go.ChangeShapes Go.WideShapes Go.ChangeAt Go.RowKit
open Go.ChangeMaps (open_string shut_string)

namespace ModelMoreTop
theorem own : ownKnob Tryz.prog.godebug = none := by kernel_rfl
theorem laidOut : laidOutB Tryz.prog = true := by kernel_rfl
set_option maxRecDepth 100000 in
theorem lifted (os : Os) (started : os.Started) (H : Type) (enc : TypeId × Value → H) :
    ReturnsInHanded {} Tryz.checked os 6 .any (fun w args => (Rows.modelMoreSpec.pre enc Tryz.prog Tryz.f6 Rows.modelMoreRow.domain false w args ∧ laidMetH Tryz.prog Rows.modelMoreRow.laid w) ∧ sizedMet enc Tryz.prog Tryz.f6 (OpenSpec.ofChange Rows.modelMoreSpec) false w args)
      (Rows.modelMoreSpec.post enc Tryz.prog Tryz.f6 false true false false) := by
  refine returnsInHanded_of_change_and (C := Tryz.checked) (X := fun w _ => laidMetH Tryz.prog Rows.modelMoreRow.laid w) (fun _ _ _ hh h => h.of_heap hh) own started (by kernel_rfl) Tryz.func6
    (ChangeSpec.witness_shaped (enc := enc) (C := Tryz.checked) (os := os) (X := fun w _ => laidMetH Tryz.prog Rows.modelMoreRow.laid w) false (World.laidAll Tryz.prog os Rows.modelMoreRow.laid) #[.slice none 0 0, .agg #[.string ByteArray.empty, .string ByteArray.empty, .string ByteArray.empty], .agg #[.slice none 0 0, .slice none 0 0]] 8 (World.laidAll_os _ _ _)
      (World.shaped_of_ZipB (by kernel_rfl) (by kernel_rfl)) (by kernel_rfl) (by kernel_rfl) (by kernel_rfl)
      (by rw [MakeChecks.laidMetH_plain _ _ _ (by kernel_rfl)]; exact laidMet_laidAll _ (by kernel_rfl) (by kernel_rfl))) ?_
  intro W base args ds gs before hval0 hW _ hsz0 hL _
  have hsz : (DataW.weightsEach Tryz.prog (Tryz.f6.params.toList ++ Rows.modelMoreSpec.plain.varTypes Tryz.prog) (ds ++ gs)).all (· ≤ reachBytes) = true := hsz0
  clear hsz0
  have hval : ∀ (j : Nat) t v, Tryz.f6.params[j]? = some t → args[j]? = some v → Value.okWide Tryz.prog W .any base t v := hval0
  have hW' := hW
  obtain ⟨p, q, hA0, hV, rfl, hfz, hnd⟩ := hW
  have hA : DataW.TrodAll enc Tryz.prog W 0 (fun _ => true) true Tryz.f6.params.toList args.toList ds p := hA0
  rw [Tryz.params6] at hA hval hsz
  obtain ⟨v0, vs0, d0, ds0, p0, q0, hargs, rfl, rfl, h0, r0⟩ := trodAll_cons hA
  obtain ⟨v1, vs1, d1, ds1, p1, q1, rfl, rfl, rfl, h1, r1⟩ := trodAll_cons r0
  obtain ⟨v2, vs2, d2, ds2, p2, q2, rfl, rfl, rfl, h2, r2⟩ := trodAll_cons r1
  obtain ⟨rfl, rfl, rfl⟩ := trodAll_nil r2
  obtain rfl : args = #[v0, v1, v2] := by cases args; simp_all
  obtain ⟨rfl, rfl⟩ := trodVars_none hV
  obtain ⟨a0, len0, cap0, rfl⟩ := okWide_slice Tryz.underlying22 (hval 0 22 v0 rfl rfl)
  have k0 := h0
  have lt0 : ∀ x ∈ p0, x.block < W.heap.size := by obtain ⟨m, hm⟩ := k0; exact DataW.trod_lt m _ _ _ hm
  obtain ⟨z0, w0, s0⟩ : ∃ L : List Fa, FasS (fun _ => True) W (.slice a0 len0 cap0) L ∧ FinW (.slice a0 len0 cap0) L := by
    obtain ⟨fuel, hf⟩ := h0
    have hf' : DataW.trod enc Tryz.prog W 0 (fun _ => true) true fuel 22 [.slice a0 len0 cap0] = some (d0, p0) := by simpa [Value.cells] using hf
    have hq : ∀ m ∈ d0.weights Tryz.prog 22, m ≤ reachBytes := fun m hm => by
      have := List.all_eq_true.1 hsz m (DataW.weights_mem_each (j := 0) (t := 22) rfl rfl m hm)
      simpa using this
    obtain ⟨L, g1, g2, g3, g4⟩ := open_facts hf' hq
    exact ⟨L, g1, finW_of hf' hq g1 ⟨by unfold maxLen at g3; omega, g2, g4⟩⟩
  obtain ⟨cs1, rfl, _⟩ := okWide_struct Tryz.underlying48 (hval 1 48 v1 rfl rfl)
  have k1 := h1
  have lt1 : ∀ x ∈ p1, x.block < W.heap.size := by obtain ⟨m, hm⟩ := k1; exact DataW.trod_lt m _ _ _ hm
  obtain ⟨z1, hcs1, w1⟩ : ∃ t : Fa, cs1 = (csF t).toArray ∧ t.1.length ≤ 140737488351232 ∧ t.2.1.length ≤ 140737488351232 ∧ t.2.2.length ≤ 140737488351232 := by
    obtain ⟨fuel, hf⟩ := h1
    obtain ⟨t, e, g⟩ := open_fact hf (fun m hm => by
      have := List.all_eq_true.1 hsz m (DataW.weights_mem_each (j := 1) (t := 48) rfl rfl m hm)
      simpa using this)
    exact ⟨t, by simp only [Value.cells] at e; exact Array.ext' e, g⟩
  subst hcs1
  obtain ⟨cs2, rfl, _⟩ := okWide_struct Tryz.underlying38 (hval 2 38 v2 rfl rfl)
  have k2 := h2
  have lt2 : ∀ x ∈ p2, x.block < W.heap.size := by obtain ⟨m, hm⟩ := k2; exact DataW.trod_lt m _ _ _ hm
  obtain ⟨z2, hcs2, w2, s2⟩ : ∃ q : Qm, cs2 = #[q.vv, q.av] ∧ QOk (fun _ => True) W q ∧ CapS q.av q.atoms.length ∧ q.atoms.length ≤ 1500000000000 := by
    obtain ⟨fuel, hf⟩ := h2
    obtain ⟨q, e, g⟩ := open_query hf (fun m hm => by
      have := List.all_eq_true.1 hsz m (DataW.weights_mem_each (j := 2) (t := 38) rfl rfl m hm)
      simpa using this)
    exact ⟨q, by simp only [Value.cells] at e; exact Array.ext' e, g⟩
  subst hcs2
  clear hA0 hval0
  refine (modelMore_walk (.slice a0 len0 cap0) z0 z1 z2 W w0 s0 w1 w2 s2 (tabG_of_laid hL)).mono fun e W' ⟨he, bel⟩ => ?_
  subst he
  exact ⟨_, rfl, _, _, _, [], _, [], hW', trodAll_mk1 (shut_bool Tryz.underlying4 _), (trodAll_cons_mk (Below.trod laidOut (by kernel_rfl) (of_decide_eq_true (by kernel_rfl)) k0 bel lt0) (trodAll_cons_mk (Below.trod laidOut (by kernel_rfl) (of_decide_eq_true (by kernel_rfl)) k1 bel lt1) (trodAll_cons_mk (Below.trod laidOut (by kernel_rfl) (of_decide_eq_true (by kernel_rfl)) k2 bel lt2) trodAll_mk0))), rfl, bel.frame _, fun h => by cases h⟩

theorem over : Rows.modelMoreRow.holds Tryz.pinned (OpenSpec.ofChange Rows.modelMoreSpec) :=
  OpenClaim.holds_of_wide 6 Tryz.f6 rfl rfl rfl rfl rfl rfl rfl ⟨rfl, rfl, rfl, rfl, rfl⟩ rfl rfl rfl rfl rfl (by kernel_rfl) Tryz.func6 (by kernel_rfl)
    (of_decide_eq_true (by kernel_rfl)) (by unfold Func.isWrapper; first | (rw [if_pos (by decide +kernel)]; kernel_rfl) | (rw [if_neg (by decide +kernel)]; exact ⟨rfl, rfl⟩))
    (fun os started H enc _ => lifted os started H enc)
end ModelMoreTop

theorem modelMore_holds : Rows.ModelMoreCardSaid :=
  Claim7.holds_tied_plain_at .later [] [.data] true (true, "0dfdb4add8861ea2eb43a2bb08e577296c9dd2cbda60b64289dda3e2955d2cf7") false ModelMoreTop.over (fun _ h => by cases h) (by kernel_rfl) (fun _ h => by cases h) modelMore_row_tie rfl ⟨rfl, rfl⟩ (by kernel_rfl) rfl
    (fun f fn hf hfn => by
      obtain rfl : f = 6 := Option.some.inj ((show Tryz.prog.funcNamed "sinew/sinewlaw11.ModelMore" = some 6 by kernel_rfl).symm.trans hf) |>.symm
      obtain rfl : fn = Tryz.f6 := (Option.some.inj (Tryz.func6.symm.trans hfn)).symm
      exact ⟨by kernel_rfl, fun j t ht => by
        have hm : t ∈ Tryz.f6.params.toList := by simpa using Array.mem_of_getElem? ht
        have hall : (Tryz.f6.params.toList.all fun u => !Tryz.prog.wantsStandIn u) = true := by kernel_rfl
        exact (show Tryz.prog.wantsStandIn t = false by simpa using List.all_eq_true.1 hall t hm)⟩)
    (by kernel_rfl)
end Go.Proofs.YtkbgmcmcpbegjaaGreatDoor
