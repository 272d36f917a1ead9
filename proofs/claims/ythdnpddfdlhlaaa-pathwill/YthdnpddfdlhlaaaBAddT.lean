/- add of the program: any path. -/
import Derived.Test.YthdnpddfdlhlaaaBAddS
namespace Go.Proofs.Ythdnpddfdlhlaaa
open Go.RowKit

set_option maxHeartbeats 2000000 in
set_option maxRecDepth 100000 in
theorem add_of1 {t : Vt} (hK : t.kind = 1) (hM : AddF 51 t) : AddF 31 t := by
  intro S w mb kb ws ps F wv hS hm hf hv hl
  obtain ⟨ao, cap, hvv⟩ := hv.parts.1.slice
  have hkl := hv.parts.2.2.1
  obtain ⟨j, hfind⟩ := kinds_find mb (k := 1) (by omega) (by omega)
  have hfn : fnK 1 = 51 := by rfl
  rw [hfn] at hfind
  obtain ⟨X, hX⟩ : ∃ X, X = prtOf t.pt := ⟨_, rfl⟩
  have hM2 : AddG 51 t X (leaves t.pt) := by rw [hX]; exact hM
  obtain ⟨W1, hW1⟩ : ∃ W, W = (w.alloc (.cells #[.int .i64 t.kind, .string ⟨t.word.toArray⟩, t.val] 24)).alloc (.cells #[.int .u32 0, .int .u32 0, .bool false] 63) := ⟨_, rfl⟩
  have hbW : Below w.heap.size w W1 := by rw [hW1]; exact ((Below.refl _ _).alloc (Nat.le_refl _) _).alloc (by simp) _
  have hsz : W1.heap.size = w.heap.size + 2 := by rw [hW1]; simp
  have hcb : W1.heap[w.heap.size + 1]? = some (.cells #[.int .u32 0, .int .u32 0, .bool false] 63 (0, 0)) := by rw [hW1]; exact (by simpa using heap_alloc_new (w.alloc (.cells #[.int .i64 t.kind, .string ⟨t.word.toArray⟩, t.val] 24)) _)
  have hLowP : Low (Plus S w.heap.size (w.heap.size + 2)) W1 := by have := hS.plus hbW.size; rw [hsz] at this; exact this
  have hm1 := (hm.plus hS hbW (w.heap.size + 2))
  have hFrW : Fr S w W1 := fr_below hS hbW
  have C := Hid.mk (hM2 (Plus S w.heap.size (w.heap.size + 2)) W1.drew mb kb ws ps F wv hLowP hm1.drew hf (VOk.keep (S := S) (w := W1) (w' := W1.drew) (Nat.le_refl _) (fun b hb _ => ⟨Or.inl hb, rfl⟩) t (hv.below hbW)) hl)
  have hlk : (Instr.lookup 86 (.map (some kb)) (.int .i64 1) false).run Try.prog W1.drew = .ok (.func (.func 51) #[.pointer (some ⟨mb, 0, none⟩)] #[]) W1.drew := run_lookup_at underKinds Try.underlying3 hm1.drew.map hfind
  have q25 := hm1.c25
  have HSK := Hid.mk hm.sk
  have HW1 := Hid.mk hW1
  have HFW := Hid.mk hFrW
  have HCB := Hid.mk hcb
  have HSZ := Hid.mk hsz
  have HLOW := Hid.mk hS
  rw [← hX]
  obtain ⟨k, wd, v, kids⟩ := t
  dsimp only at hvv hkl HW1 hK
  subst hvv hK
  obtain ⟨b0, b1, b2⟩ : W1.cell? ⟨w.heap.size, 0, none⟩ = some (.int .i64 1) ∧ W1.cell? ⟨w.heap.size, 1, none⟩ = some (.string ⟨wd.toArray⟩) ∧ W1.cell? ⟨w.heap.size, 2, none⟩ = some (.slice ao kids.length cap) := by rw [HW1.out]; simp
  obtain ⟨⟨r0, r1, r2⟩, ⟨p0, p1, p2⟩⟩ := three_cells HCB.out
  clear hv hm hf hl hM hM2 hbW hsz hcb hLowP hFrW hW1 hX hS hm1 hfind hfn
  show Calls Try.prog _ #[_, .agg #[.int .i64 1, .string ⟨wd.toArray⟩, .slice ao kids.length cap]] w _
  go_enter Try.func31, Try.ntmps31
  go_wp2_with fail
  rw [← HW1.out]
  go_region_law (go_simp; refine C.out.mono ?_; rintro e w1 ⟨f, l, F2, wv2, rfl, hb1, hb2, hm2, hf2, hfr2⟩; have e1 := (hfr2.block (w.heap.size + 1) (.inr ⟨by omega, by omega⟩)).trans HCB.out; obtain ⟨⟨v0, v1, v2⟩, ⟨u0, u1, u2⟩⟩ := three_cells e1)
  all_goals (
    obtain ⟨hmF, hfF⟩ := add_end2 (b := w.heap.size + 1) (c0 := .int .u32 (f : Int)) (c1 := .int .u32 (l : Int)) (c2 := .bool X.empty) HLOW.out HFW.out ((Fr.refl _ W1).drew.trans hfr2) hm2 HSK.out (by omega) (by omega)
    have hE : AddE S w mb kb ws ps X (.returned (ptV f l X.empty)) (set3P w1 (w.heap.size + 1) (.int .u32 (f : Int)) (.int .u32 (l : Int)) (.bool X.empty)) := ⟨f, l, F2, wv2, rfl, hb1, hb2, hmF, hf2, hfF⟩
    obtain ⟨⟨z0, z1, z2⟩, _⟩ := three_cells (set3P_at (c0 := .int .u32 (f : Int)) (c1 := .int .u32 (l : Int)) (c2 := .bool X.empty) e1)
    have HE := Hid.mk hE
    have Z0 := Hid.mk z0
    have Z1 := Hid.mk z1
    have Z2 := Hid.mk z2
    clear hE z0 z1 z2 hmF hfF hb1 hb2 hm2 hf2 hfr2 e1
    unfold set3P at HE Z0 Z1 Z2
    go_wp2
    refine bodyPost_ret (v := ptV f l X.empty) ?_ rfl HE.out
    simp [results, Try.results31, go_sem, Z0.out, Z1.out, Z2.out])

set_option maxHeartbeats 2000000 in
set_option maxRecDepth 100000 in
theorem add_of2 {t : Vt} (hK : t.kind = 2) (hM : AddF 52 t) : AddF 31 t := by
  intro S w mb kb ws ps F wv hS hm hf hv hl
  obtain ⟨ao, cap, hvv⟩ := hv.parts.1.slice
  have hkl := hv.parts.2.2.1
  obtain ⟨j, hfind⟩ := kinds_find mb (k := 2) (by omega) (by omega)
  have hfn : fnK 2 = 52 := by rfl
  rw [hfn] at hfind
  obtain ⟨X, hX⟩ : ∃ X, X = prtOf t.pt := ⟨_, rfl⟩
  have hM2 : AddG 52 t X (leaves t.pt) := by rw [hX]; exact hM
  obtain ⟨W1, hW1⟩ : ∃ W, W = (w.alloc (.cells #[.int .i64 t.kind, .string ⟨t.word.toArray⟩, t.val] 24)).alloc (.cells #[.int .u32 0, .int .u32 0, .bool false] 63) := ⟨_, rfl⟩
  have hbW : Below w.heap.size w W1 := by rw [hW1]; exact ((Below.refl _ _).alloc (Nat.le_refl _) _).alloc (by simp) _
  have hsz : W1.heap.size = w.heap.size + 2 := by rw [hW1]; simp
  have hcb : W1.heap[w.heap.size + 1]? = some (.cells #[.int .u32 0, .int .u32 0, .bool false] 63 (0, 0)) := by rw [hW1]; exact (by simpa using heap_alloc_new (w.alloc (.cells #[.int .i64 t.kind, .string ⟨t.word.toArray⟩, t.val] 24)) _)
  have hLowP : Low (Plus S w.heap.size (w.heap.size + 2)) W1 := by have := hS.plus hbW.size; rw [hsz] at this; exact this
  have hm1 := (hm.plus hS hbW (w.heap.size + 2))
  have hFrW : Fr S w W1 := fr_below hS hbW
  have C := Hid.mk (hM2 (Plus S w.heap.size (w.heap.size + 2)) W1.drew mb kb ws ps F wv hLowP hm1.drew hf (VOk.keep (S := S) (w := W1) (w' := W1.drew) (Nat.le_refl _) (fun b hb _ => ⟨Or.inl hb, rfl⟩) t (hv.below hbW)) hl)
  have hlk : (Instr.lookup 86 (.map (some kb)) (.int .i64 2) false).run Try.prog W1.drew = .ok (.func (.func 52) #[.pointer (some ⟨mb, 0, none⟩)] #[]) W1.drew := run_lookup_at underKinds Try.underlying3 hm1.drew.map hfind
  have q25 := hm1.c25
  have HSK := Hid.mk hm.sk
  have HW1 := Hid.mk hW1
  have HFW := Hid.mk hFrW
  have HCB := Hid.mk hcb
  have HSZ := Hid.mk hsz
  have HLOW := Hid.mk hS
  rw [← hX]
  obtain ⟨k, wd, v, kids⟩ := t
  dsimp only at hvv hkl HW1 hK
  subst hvv hK
  obtain ⟨b0, b1, b2⟩ : W1.cell? ⟨w.heap.size, 0, none⟩ = some (.int .i64 2) ∧ W1.cell? ⟨w.heap.size, 1, none⟩ = some (.string ⟨wd.toArray⟩) ∧ W1.cell? ⟨w.heap.size, 2, none⟩ = some (.slice ao kids.length cap) := by rw [HW1.out]; simp
  obtain ⟨⟨r0, r1, r2⟩, ⟨p0, p1, p2⟩⟩ := three_cells HCB.out
  clear hv hm hf hl hM hM2 hbW hsz hcb hLowP hFrW hW1 hX hS hm1 hfind hfn
  show Calls Try.prog _ #[_, .agg #[.int .i64 2, .string ⟨wd.toArray⟩, .slice ao kids.length cap]] w _
  go_enter Try.func31, Try.ntmps31
  go_wp2_with fail
  rw [← HW1.out]
  go_region_law (go_simp; refine C.out.mono ?_; rintro e w1 ⟨f, l, F2, wv2, rfl, hb1, hb2, hm2, hf2, hfr2⟩; have e1 := (hfr2.block (w.heap.size + 1) (.inr ⟨by omega, by omega⟩)).trans HCB.out; obtain ⟨⟨v0, v1, v2⟩, ⟨u0, u1, u2⟩⟩ := three_cells e1)
  all_goals (
    obtain ⟨hmF, hfF⟩ := add_end2 (b := w.heap.size + 1) (c0 := .int .u32 (f : Int)) (c1 := .int .u32 (l : Int)) (c2 := .bool X.empty) HLOW.out HFW.out ((Fr.refl _ W1).drew.trans hfr2) hm2 HSK.out (by omega) (by omega)
    have hE : AddE S w mb kb ws ps X (.returned (ptV f l X.empty)) (set3P w1 (w.heap.size + 1) (.int .u32 (f : Int)) (.int .u32 (l : Int)) (.bool X.empty)) := ⟨f, l, F2, wv2, rfl, hb1, hb2, hmF, hf2, hfF⟩
    obtain ⟨⟨z0, z1, z2⟩, _⟩ := three_cells (set3P_at (c0 := .int .u32 (f : Int)) (c1 := .int .u32 (l : Int)) (c2 := .bool X.empty) e1)
    have HE := Hid.mk hE
    have Z0 := Hid.mk z0
    have Z1 := Hid.mk z1
    have Z2 := Hid.mk z2
    clear hE z0 z1 z2 hmF hfF hb1 hb2 hm2 hf2 hfr2 e1
    unfold set3P at HE Z0 Z1 Z2
    go_wp2
    refine bodyPost_ret (v := ptV f l X.empty) ?_ rfl HE.out
    simp [results, Try.results31, go_sem, Z0.out, Z1.out, Z2.out])

set_option maxHeartbeats 2000000 in
set_option maxRecDepth 100000 in
theorem add_of3 {t : Vt} (hK : t.kind = 3) (hM : AddF 53 t) : AddF 31 t := by
  intro S w mb kb ws ps F wv hS hm hf hv hl
  obtain ⟨ao, cap, hvv⟩ := hv.parts.1.slice
  have hkl := hv.parts.2.2.1
  obtain ⟨j, hfind⟩ := kinds_find mb (k := 3) (by omega) (by omega)
  have hfn : fnK 3 = 53 := by rfl
  rw [hfn] at hfind
  obtain ⟨X, hX⟩ : ∃ X, X = prtOf t.pt := ⟨_, rfl⟩
  have hM2 : AddG 53 t X (leaves t.pt) := by rw [hX]; exact hM
  obtain ⟨W1, hW1⟩ : ∃ W, W = (w.alloc (.cells #[.int .i64 t.kind, .string ⟨t.word.toArray⟩, t.val] 24)).alloc (.cells #[.int .u32 0, .int .u32 0, .bool false] 63) := ⟨_, rfl⟩
  have hbW : Below w.heap.size w W1 := by rw [hW1]; exact ((Below.refl _ _).alloc (Nat.le_refl _) _).alloc (by simp) _
  have hsz : W1.heap.size = w.heap.size + 2 := by rw [hW1]; simp
  have hcb : W1.heap[w.heap.size + 1]? = some (.cells #[.int .u32 0, .int .u32 0, .bool false] 63 (0, 0)) := by rw [hW1]; exact (by simpa using heap_alloc_new (w.alloc (.cells #[.int .i64 t.kind, .string ⟨t.word.toArray⟩, t.val] 24)) _)
  have hLowP : Low (Plus S w.heap.size (w.heap.size + 2)) W1 := by have := hS.plus hbW.size; rw [hsz] at this; exact this
  have hm1 := (hm.plus hS hbW (w.heap.size + 2))
  have hFrW : Fr S w W1 := fr_below hS hbW
  have C := Hid.mk (hM2 (Plus S w.heap.size (w.heap.size + 2)) W1.drew mb kb ws ps F wv hLowP hm1.drew hf (VOk.keep (S := S) (w := W1) (w' := W1.drew) (Nat.le_refl _) (fun b hb _ => ⟨Or.inl hb, rfl⟩) t (hv.below hbW)) hl)
  have hlk : (Instr.lookup 86 (.map (some kb)) (.int .i64 3) false).run Try.prog W1.drew = .ok (.func (.func 53) #[.pointer (some ⟨mb, 0, none⟩)] #[]) W1.drew := run_lookup_at underKinds Try.underlying3 hm1.drew.map hfind
  have q25 := hm1.c25
  have HSK := Hid.mk hm.sk
  have HW1 := Hid.mk hW1
  have HFW := Hid.mk hFrW
  have HCB := Hid.mk hcb
  have HSZ := Hid.mk hsz
  have HLOW := Hid.mk hS
  rw [← hX]
  obtain ⟨k, wd, v, kids⟩ := t
  dsimp only at hvv hkl HW1 hK
  subst hvv hK
  obtain ⟨b0, b1, b2⟩ : W1.cell? ⟨w.heap.size, 0, none⟩ = some (.int .i64 3) ∧ W1.cell? ⟨w.heap.size, 1, none⟩ = some (.string ⟨wd.toArray⟩) ∧ W1.cell? ⟨w.heap.size, 2, none⟩ = some (.slice ao kids.length cap) := by rw [HW1.out]; simp
  obtain ⟨⟨r0, r1, r2⟩, ⟨p0, p1, p2⟩⟩ := three_cells HCB.out
  clear hv hm hf hl hM hM2 hbW hsz hcb hLowP hFrW hW1 hX hS hm1 hfind hfn
  show Calls Try.prog _ #[_, .agg #[.int .i64 3, .string ⟨wd.toArray⟩, .slice ao kids.length cap]] w _
  go_enter Try.func31, Try.ntmps31
  go_wp2_with fail
  rw [← HW1.out]
  go_region_law (go_simp; refine C.out.mono ?_; rintro e w1 ⟨f, l, F2, wv2, rfl, hb1, hb2, hm2, hf2, hfr2⟩; have e1 := (hfr2.block (w.heap.size + 1) (.inr ⟨by omega, by omega⟩)).trans HCB.out; obtain ⟨⟨v0, v1, v2⟩, ⟨u0, u1, u2⟩⟩ := three_cells e1)
  all_goals (
    obtain ⟨hmF, hfF⟩ := add_end2 (b := w.heap.size + 1) (c0 := .int .u32 (f : Int)) (c1 := .int .u32 (l : Int)) (c2 := .bool X.empty) HLOW.out HFW.out ((Fr.refl _ W1).drew.trans hfr2) hm2 HSK.out (by omega) (by omega)
    have hE : AddE S w mb kb ws ps X (.returned (ptV f l X.empty)) (set3P w1 (w.heap.size + 1) (.int .u32 (f : Int)) (.int .u32 (l : Int)) (.bool X.empty)) := ⟨f, l, F2, wv2, rfl, hb1, hb2, hmF, hf2, hfF⟩
    obtain ⟨⟨z0, z1, z2⟩, _⟩ := three_cells (set3P_at (c0 := .int .u32 (f : Int)) (c1 := .int .u32 (l : Int)) (c2 := .bool X.empty) e1)
    have HE := Hid.mk hE
    have Z0 := Hid.mk z0
    have Z1 := Hid.mk z1
    have Z2 := Hid.mk z2
    clear hE z0 z1 z2 hmF hfF hb1 hb2 hm2 hf2 hfr2 e1
    unfold set3P at HE Z0 Z1 Z2
    go_wp2
    refine bodyPost_ret (v := ptV f l X.empty) ?_ rfl HE.out
    simp [results, Try.results31, go_sem, Z0.out, Z1.out, Z2.out])

set_option maxHeartbeats 2000000 in
set_option maxRecDepth 100000 in
theorem add_of4 {t : Vt} (hK : t.kind = 4) (hM : AddF 54 t) : AddF 31 t := by
  intro S w mb kb ws ps F wv hS hm hf hv hl
  obtain ⟨ao, cap, hvv⟩ := hv.parts.1.slice
  have hkl := hv.parts.2.2.1
  obtain ⟨j, hfind⟩ := kinds_find mb (k := 4) (by omega) (by omega)
  have hfn : fnK 4 = 54 := by rfl
  rw [hfn] at hfind
  obtain ⟨X, hX⟩ : ∃ X, X = prtOf t.pt := ⟨_, rfl⟩
  have hM2 : AddG 54 t X (leaves t.pt) := by rw [hX]; exact hM
  obtain ⟨W1, hW1⟩ : ∃ W, W = (w.alloc (.cells #[.int .i64 t.kind, .string ⟨t.word.toArray⟩, t.val] 24)).alloc (.cells #[.int .u32 0, .int .u32 0, .bool false] 63) := ⟨_, rfl⟩
  have hbW : Below w.heap.size w W1 := by rw [hW1]; exact ((Below.refl _ _).alloc (Nat.le_refl _) _).alloc (by simp) _
  have hsz : W1.heap.size = w.heap.size + 2 := by rw [hW1]; simp
  have hcb : W1.heap[w.heap.size + 1]? = some (.cells #[.int .u32 0, .int .u32 0, .bool false] 63 (0, 0)) := by rw [hW1]; exact (by simpa using heap_alloc_new (w.alloc (.cells #[.int .i64 t.kind, .string ⟨t.word.toArray⟩, t.val] 24)) _)
  have hLowP : Low (Plus S w.heap.size (w.heap.size + 2)) W1 := by have := hS.plus hbW.size; rw [hsz] at this; exact this
  have hm1 := (hm.plus hS hbW (w.heap.size + 2))
  have hFrW : Fr S w W1 := fr_below hS hbW
  have C := Hid.mk (hM2 (Plus S w.heap.size (w.heap.size + 2)) W1.drew mb kb ws ps F wv hLowP hm1.drew hf (VOk.keep (S := S) (w := W1) (w' := W1.drew) (Nat.le_refl _) (fun b hb _ => ⟨Or.inl hb, rfl⟩) t (hv.below hbW)) hl)
  have hlk : (Instr.lookup 86 (.map (some kb)) (.int .i64 4) false).run Try.prog W1.drew = .ok (.func (.func 54) #[.pointer (some ⟨mb, 0, none⟩)] #[]) W1.drew := run_lookup_at underKinds Try.underlying3 hm1.drew.map hfind
  have q25 := hm1.c25
  have HSK := Hid.mk hm.sk
  have HW1 := Hid.mk hW1
  have HFW := Hid.mk hFrW
  have HCB := Hid.mk hcb
  have HSZ := Hid.mk hsz
  have HLOW := Hid.mk hS
  rw [← hX]
  obtain ⟨k, wd, v, kids⟩ := t
  dsimp only at hvv hkl HW1 hK
  subst hvv hK
  obtain ⟨b0, b1, b2⟩ : W1.cell? ⟨w.heap.size, 0, none⟩ = some (.int .i64 4) ∧ W1.cell? ⟨w.heap.size, 1, none⟩ = some (.string ⟨wd.toArray⟩) ∧ W1.cell? ⟨w.heap.size, 2, none⟩ = some (.slice ao kids.length cap) := by rw [HW1.out]; simp
  obtain ⟨⟨r0, r1, r2⟩, ⟨p0, p1, p2⟩⟩ := three_cells HCB.out
  clear hv hm hf hl hM hM2 hbW hsz hcb hLowP hFrW hW1 hX hS hm1 hfind hfn
  show Calls Try.prog _ #[_, .agg #[.int .i64 4, .string ⟨wd.toArray⟩, .slice ao kids.length cap]] w _
  go_enter Try.func31, Try.ntmps31
  go_wp2_with fail
  rw [← HW1.out]
  go_region_law (go_simp; refine C.out.mono ?_; rintro e w1 ⟨f, l, F2, wv2, rfl, hb1, hb2, hm2, hf2, hfr2⟩; have e1 := (hfr2.block (w.heap.size + 1) (.inr ⟨by omega, by omega⟩)).trans HCB.out; obtain ⟨⟨v0, v1, v2⟩, ⟨u0, u1, u2⟩⟩ := three_cells e1)
  all_goals (
    obtain ⟨hmF, hfF⟩ := add_end2 (b := w.heap.size + 1) (c0 := .int .u32 (f : Int)) (c1 := .int .u32 (l : Int)) (c2 := .bool X.empty) HLOW.out HFW.out ((Fr.refl _ W1).drew.trans hfr2) hm2 HSK.out (by omega) (by omega)
    have hE : AddE S w mb kb ws ps X (.returned (ptV f l X.empty)) (set3P w1 (w.heap.size + 1) (.int .u32 (f : Int)) (.int .u32 (l : Int)) (.bool X.empty)) := ⟨f, l, F2, wv2, rfl, hb1, hb2, hmF, hf2, hfF⟩
    obtain ⟨⟨z0, z1, z2⟩, _⟩ := three_cells (set3P_at (c0 := .int .u32 (f : Int)) (c1 := .int .u32 (l : Int)) (c2 := .bool X.empty) e1)
    have HE := Hid.mk hE
    have Z0 := Hid.mk z0
    have Z1 := Hid.mk z1
    have Z2 := Hid.mk z2
    clear hE z0 z1 z2 hmF hfF hb1 hb2 hm2 hf2 hfr2 e1
    unfold set3P at HE Z0 Z1 Z2
    go_wp2
    refine bodyPost_ret (v := ptV f l X.empty) ?_ rfl HE.out
    simp [results, Try.results31, go_sem, Z0.out, Z1.out, Z2.out])

set_option maxHeartbeats 2000000 in
set_option maxRecDepth 100000 in
theorem add_of5 {t : Vt} (hK : t.kind = 5) (hM : AddF 55 t) : AddF 31 t := by
  intro S w mb kb ws ps F wv hS hm hf hv hl
  obtain ⟨ao, cap, hvv⟩ := hv.parts.1.slice
  have hkl := hv.parts.2.2.1
  obtain ⟨j, hfind⟩ := kinds_find mb (k := 5) (by omega) (by omega)
  have hfn : fnK 5 = 55 := by rfl
  rw [hfn] at hfind
  obtain ⟨X, hX⟩ : ∃ X, X = prtOf t.pt := ⟨_, rfl⟩
  have hM2 : AddG 55 t X (leaves t.pt) := by rw [hX]; exact hM
  obtain ⟨W1, hW1⟩ : ∃ W, W = (w.alloc (.cells #[.int .i64 t.kind, .string ⟨t.word.toArray⟩, t.val] 24)).alloc (.cells #[.int .u32 0, .int .u32 0, .bool false] 63) := ⟨_, rfl⟩
  have hbW : Below w.heap.size w W1 := by rw [hW1]; exact ((Below.refl _ _).alloc (Nat.le_refl _) _).alloc (by simp) _
  have hsz : W1.heap.size = w.heap.size + 2 := by rw [hW1]; simp
  have hcb : W1.heap[w.heap.size + 1]? = some (.cells #[.int .u32 0, .int .u32 0, .bool false] 63 (0, 0)) := by rw [hW1]; exact (by simpa using heap_alloc_new (w.alloc (.cells #[.int .i64 t.kind, .string ⟨t.word.toArray⟩, t.val] 24)) _)
  have hLowP : Low (Plus S w.heap.size (w.heap.size + 2)) W1 := by have := hS.plus hbW.size; rw [hsz] at this; exact this
  have hm1 := (hm.plus hS hbW (w.heap.size + 2))
  have hFrW : Fr S w W1 := fr_below hS hbW
  have C := Hid.mk (hM2 (Plus S w.heap.size (w.heap.size + 2)) W1.drew mb kb ws ps F wv hLowP hm1.drew hf (VOk.keep (S := S) (w := W1) (w' := W1.drew) (Nat.le_refl _) (fun b hb _ => ⟨Or.inl hb, rfl⟩) t (hv.below hbW)) hl)
  have hlk : (Instr.lookup 86 (.map (some kb)) (.int .i64 5) false).run Try.prog W1.drew = .ok (.func (.func 55) #[.pointer (some ⟨mb, 0, none⟩)] #[]) W1.drew := run_lookup_at underKinds Try.underlying3 hm1.drew.map hfind
  have q25 := hm1.c25
  have HSK := Hid.mk hm.sk
  have HW1 := Hid.mk hW1
  have HFW := Hid.mk hFrW
  have HCB := Hid.mk hcb
  have HSZ := Hid.mk hsz
  have HLOW := Hid.mk hS
  rw [← hX]
  obtain ⟨k, wd, v, kids⟩ := t
  dsimp only at hvv hkl HW1 hK
  subst hvv hK
  obtain ⟨b0, b1, b2⟩ : W1.cell? ⟨w.heap.size, 0, none⟩ = some (.int .i64 5) ∧ W1.cell? ⟨w.heap.size, 1, none⟩ = some (.string ⟨wd.toArray⟩) ∧ W1.cell? ⟨w.heap.size, 2, none⟩ = some (.slice ao kids.length cap) := by rw [HW1.out]; simp
  obtain ⟨⟨r0, r1, r2⟩, ⟨p0, p1, p2⟩⟩ := three_cells HCB.out
  clear hv hm hf hl hM hM2 hbW hsz hcb hLowP hFrW hW1 hX hS hm1 hfind hfn
  show Calls Try.prog _ #[_, .agg #[.int .i64 5, .string ⟨wd.toArray⟩, .slice ao kids.length cap]] w _
  go_enter Try.func31, Try.ntmps31
  go_wp2_with fail
  rw [← HW1.out]
  go_region_law (go_simp; refine C.out.mono ?_; rintro e w1 ⟨f, l, F2, wv2, rfl, hb1, hb2, hm2, hf2, hfr2⟩; have e1 := (hfr2.block (w.heap.size + 1) (.inr ⟨by omega, by omega⟩)).trans HCB.out; obtain ⟨⟨v0, v1, v2⟩, ⟨u0, u1, u2⟩⟩ := three_cells e1)
  all_goals (
    obtain ⟨hmF, hfF⟩ := add_end2 (b := w.heap.size + 1) (c0 := .int .u32 (f : Int)) (c1 := .int .u32 (l : Int)) (c2 := .bool X.empty) HLOW.out HFW.out ((Fr.refl _ W1).drew.trans hfr2) hm2 HSK.out (by omega) (by omega)
    have hE : AddE S w mb kb ws ps X (.returned (ptV f l X.empty)) (set3P w1 (w.heap.size + 1) (.int .u32 (f : Int)) (.int .u32 (l : Int)) (.bool X.empty)) := ⟨f, l, F2, wv2, rfl, hb1, hb2, hmF, hf2, hfF⟩
    obtain ⟨⟨z0, z1, z2⟩, _⟩ := three_cells (set3P_at (c0 := .int .u32 (f : Int)) (c1 := .int .u32 (l : Int)) (c2 := .bool X.empty) e1)
    have HE := Hid.mk hE
    have Z0 := Hid.mk z0
    have Z1 := Hid.mk z1
    have Z2 := Hid.mk z2
    clear hE z0 z1 z2 hmF hfF hb1 hb2 hm2 hf2 hfr2 e1
    unfold set3P at HE Z0 Z1 Z2
    go_wp2
    refine bodyPost_ret (v := ptV f l X.empty) ?_ rfl HE.out
    simp [results, Try.results31, go_sem, Z0.out, Z1.out, Z2.out])

set_option maxHeartbeats 2000000 in
set_option maxRecDepth 100000 in
theorem add_of6 {t : Vt} (hK : t.kind = 6) (hM : AddF 56 t) : AddF 31 t := by
  intro S w mb kb ws ps F wv hS hm hf hv hl
  obtain ⟨ao, cap, hvv⟩ := hv.parts.1.slice
  have hkl := hv.parts.2.2.1
  obtain ⟨j, hfind⟩ := kinds_find mb (k := 6) (by omega) (by omega)
  have hfn : fnK 6 = 56 := by rfl
  rw [hfn] at hfind
  obtain ⟨X, hX⟩ : ∃ X, X = prtOf t.pt := ⟨_, rfl⟩
  have hM2 : AddG 56 t X (leaves t.pt) := by rw [hX]; exact hM
  obtain ⟨W1, hW1⟩ : ∃ W, W = (w.alloc (.cells #[.int .i64 t.kind, .string ⟨t.word.toArray⟩, t.val] 24)).alloc (.cells #[.int .u32 0, .int .u32 0, .bool false] 63) := ⟨_, rfl⟩
  have hbW : Below w.heap.size w W1 := by rw [hW1]; exact ((Below.refl _ _).alloc (Nat.le_refl _) _).alloc (by simp) _
  have hsz : W1.heap.size = w.heap.size + 2 := by rw [hW1]; simp
  have hcb : W1.heap[w.heap.size + 1]? = some (.cells #[.int .u32 0, .int .u32 0, .bool false] 63 (0, 0)) := by rw [hW1]; exact (by simpa using heap_alloc_new (w.alloc (.cells #[.int .i64 t.kind, .string ⟨t.word.toArray⟩, t.val] 24)) _)
  have hLowP : Low (Plus S w.heap.size (w.heap.size + 2)) W1 := by have := hS.plus hbW.size; rw [hsz] at this; exact this
  have hm1 := (hm.plus hS hbW (w.heap.size + 2))
  have hFrW : Fr S w W1 := fr_below hS hbW
  have C := Hid.mk (hM2 (Plus S w.heap.size (w.heap.size + 2)) W1.drew mb kb ws ps F wv hLowP hm1.drew hf (VOk.keep (S := S) (w := W1) (w' := W1.drew) (Nat.le_refl _) (fun b hb _ => ⟨Or.inl hb, rfl⟩) t (hv.below hbW)) hl)
  have hlk : (Instr.lookup 86 (.map (some kb)) (.int .i64 6) false).run Try.prog W1.drew = .ok (.func (.func 56) #[.pointer (some ⟨mb, 0, none⟩)] #[]) W1.drew := run_lookup_at underKinds Try.underlying3 hm1.drew.map hfind
  have q25 := hm1.c25
  have HSK := Hid.mk hm.sk
  have HW1 := Hid.mk hW1
  have HFW := Hid.mk hFrW
  have HCB := Hid.mk hcb
  have HSZ := Hid.mk hsz
  have HLOW := Hid.mk hS
  rw [← hX]
  obtain ⟨k, wd, v, kids⟩ := t
  dsimp only at hvv hkl HW1 hK
  subst hvv hK
  obtain ⟨b0, b1, b2⟩ : W1.cell? ⟨w.heap.size, 0, none⟩ = some (.int .i64 6) ∧ W1.cell? ⟨w.heap.size, 1, none⟩ = some (.string ⟨wd.toArray⟩) ∧ W1.cell? ⟨w.heap.size, 2, none⟩ = some (.slice ao kids.length cap) := by rw [HW1.out]; simp
  obtain ⟨⟨r0, r1, r2⟩, ⟨p0, p1, p2⟩⟩ := three_cells HCB.out
  clear hv hm hf hl hM hM2 hbW hsz hcb hLowP hFrW hW1 hX hS hm1 hfind hfn
  show Calls Try.prog _ #[_, .agg #[.int .i64 6, .string ⟨wd.toArray⟩, .slice ao kids.length cap]] w _
  go_enter Try.func31, Try.ntmps31
  go_wp2_with fail
  rw [← HW1.out]
  go_region_law (go_simp; refine C.out.mono ?_; rintro e w1 ⟨f, l, F2, wv2, rfl, hb1, hb2, hm2, hf2, hfr2⟩; have e1 := (hfr2.block (w.heap.size + 1) (.inr ⟨by omega, by omega⟩)).trans HCB.out; obtain ⟨⟨v0, v1, v2⟩, ⟨u0, u1, u2⟩⟩ := three_cells e1)
  all_goals (
    obtain ⟨hmF, hfF⟩ := add_end2 (b := w.heap.size + 1) (c0 := .int .u32 (f : Int)) (c1 := .int .u32 (l : Int)) (c2 := .bool X.empty) HLOW.out HFW.out ((Fr.refl _ W1).drew.trans hfr2) hm2 HSK.out (by omega) (by omega)
    have hE : AddE S w mb kb ws ps X (.returned (ptV f l X.empty)) (set3P w1 (w.heap.size + 1) (.int .u32 (f : Int)) (.int .u32 (l : Int)) (.bool X.empty)) := ⟨f, l, F2, wv2, rfl, hb1, hb2, hmF, hf2, hfF⟩
    obtain ⟨⟨z0, z1, z2⟩, _⟩ := three_cells (set3P_at (c0 := .int .u32 (f : Int)) (c1 := .int .u32 (l : Int)) (c2 := .bool X.empty) e1)
    have HE := Hid.mk hE
    have Z0 := Hid.mk z0
    have Z1 := Hid.mk z1
    have Z2 := Hid.mk z2
    clear hE z0 z1 z2 hmF hfF hb1 hb2 hm2 hf2 hfr2 e1
    unfold set3P at HE Z0 Z1 Z2
    go_wp2
    refine bodyPost_ret (v := ptV f l X.empty) ?_ rfl HE.out
    simp [results, Try.results31, go_sem, Z0.out, Z1.out, Z2.out])

end Go.Proofs.Ythdnpddfdlhlaaa
