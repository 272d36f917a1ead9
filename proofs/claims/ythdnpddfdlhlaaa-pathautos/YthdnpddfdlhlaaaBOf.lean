/- Of of the program: the automaton of any path. -/
import Derived.Test.YthdnpddfdlhlaaaBAddI
import Derived.Test.YthdnpddfdlhlaaaBAuto
import Derived.Test.YthdnpddfdlhlaaaBPath
namespace Go.Proofs.Ythdnpddfdlhlaaa
open Go.RowKit

def au0 : Au := ⟨[], [], [], [], false⟩
/-- What Of answers. -/
def ofA (t : Pt) : Au := if mayP t = true then autoOf t else au0
theorem UOk.sub {S T : Nat → Prop} {w : World} {m : Mu} (h : UOk S w m) (hs : ∀ b, S b → T b) : UOk T w m := h.keep (Nat.le_refl _) (fun b hb _ => ⟨hs b hb, rfl⟩)
theorem uok_nil (S : Nat → Prop) (w : World) : UOk S w ⟨.slice none 0 0, [], .slice none 0 0, [], .slice none 0 0, [], .slice none 0 0, [], false⟩ :=
  ⟨SlS.nil _ _, by simp, by simp, SlS.nil _ _, by simp, SlS.nil _ _, by simp, SlS.nil _ _, by simp, by simp⟩
theorem mk_new {w : World} {mb : Nat} (h0 : w.heap[mb]? = some (.cells (#[.slice none 0 0] ++ Array.replicate 24 (.int .u32 0) ++ #[.map (some (mb + 1))]) 88 (0, 0))) (h1 : w.heap[mb + 1]? = some (.map (kindsE mb) 6)) : MkAt (fun k => k < w.heap.size ∧ k ≠ mb) w mb (mb + 1) [] (fun _ => 0) (.slice none 0 0) := by
  refine ⟨fun h => h.2 rfl, ⟨lt_of_block h1, by omega⟩, lt_of_block h0, h1, ?_, ?_, ?_, fun j hj => ?_, World.ownsRow_nil _ _ _ _, by simp [Value.ownBlock]⟩
  · simp [World.cell?, h0]
  · simp [World.frozen?, h0]
  · simp only [World.cell?, h0]
    rfl
  · refine ⟨?_, by simp [World.frozen?, h0]⟩
    simp only [World.cell?, h0]
    show (#[Value.slice none 0 0] ++ Array.replicate 24 (.int .u32 0) ++ #[.map (some (mb + 1))])[1 + j]? = some (.int .u32 ((0 : Nat) : Int))
    rw [Array.getElem?_append_left (by simp; omega), Array.getElem?_append_right (by simp)]
    simp [hj]

set_option maxHeartbeats 4000000 in
set_option maxRecDepth 100000 in
theorem of_any {S : Nat → Prop} {w : World} {t : Vt} (h : VOk S w t) :
    Calls Try.prog 11 #[encN t] w fun e w' => ∃ m : Mu, e = .returned (.tuple #[encU m, .int .i64 (if mayP t.pt = true then 0 else 1)]) ∧ UOk (fun g => w.heap.size ≤ g) w' m ∧ m.au = ofA t.pt ∧ Below w.heap.size w w' := by
  obtain ⟨ao, cap, hv⟩ := h.parts.1.slice
  have hkl := h.parts.2.2.1
  obtain ⟨P, hP⟩ : ∃ P, P = t.pt := ⟨_, rfl⟩
  rw [← hP]
  obtain ⟨b, hb⟩ : ∃ b, b = mayP P := ⟨_, rfl⟩
  have CM : Hid (∀ u, Below w.heap.size w u → Calls Try.prog 29 #[encN t] u fun e w' => e = .returned (.bool b) ∧ Below u.heap.size u w') := Hid.mk (fun u hu => by rw [hb, hP]; exact pathMay_any (h.below hu))
  have HV := Hid.mk h
  have HP := Hid.mk hP
  have HB := Hid.mk hb
  obtain ⟨k, wd, v, l⟩ := t
  dsimp only at hv hkl
  subst hv
  obtain ⟨n, hn⟩ : ∃ n, n = l.length := ⟨_, rfl⟩
  have HN := Hid.mk hn
  rw [← hn] at CM HV hkl ⊢
  obtain ⟨ec, hec⟩ : ∃ e : Int, e = if mayP P = true then 0 else 1 := ⟨_, rfl⟩
  rw [← hec]
  rw [← hb] at hec
  clear h hP hb hn
  show Calls Try.prog _ #[.agg #[.int .i64 k, .string ⟨wd.toArray⟩, .slice ao n cap]] w _
  obtain ⟨W1, hW1⟩ : ∃ W, W = (w.alloc (.cells #[.int .i64 k, .string ⟨wd.toArray⟩, .slice ao n cap] 24)).alloc (.cells #[.slice none 0 0, .slice none 0 0, .slice none 0 0, .slice none 0 0, .bool false] 31) := ⟨_, rfl⟩
  have hbW : Below w.heap.size w W1 := by rw [hW1]; exact ((Below.refl _ _).alloc (Nat.le_refl _) _).alloc (by simp) _
  have hcp : W1.heap[w.heap.size]? = some (.cells #[.int .i64 k, .string ⟨wd.toArray⟩, .slice ao n cap] 24 (0, 0)) := by rw [hW1, heap_alloc_old _ _ (by simp), heap_alloc_new]
  have hcb : W1.heap[w.heap.size + 1]? = some (.cells #[.slice none 0 0, .slice none 0 0, .slice none 0 0, .slice none 0 0, .bool false] 31 (0, 0)) := by rw [hW1]; exact (by simpa using heap_alloc_new (w.alloc (.cells #[.int .i64 k, .string ⟨wd.toArray⟩, .slice ao n cap] 24)) _)
  have HW1 := Hid.mk hW1
  have HBW := Hid.mk hbW
  have HCP := Hid.mk hcp
  have HCB := Hid.mk hcb
  clear hW1 hbW hcp hcb
  cases b with
  | false =>
    have HEC : Hid (ec = 1) := Hid.mk (by rw [hec]; rfl)
    clear hec
    go_enter Try.func11, Try.ntmps11
    go_wp2_with fail
    rw [← HW1.out]
    refine (CM.out _ HBW.out).mono ?_
    rintro e w1 ⟨rfl, hb1⟩
    have e1 := (hb1.block (w.heap.size + 1) (lt_of_block HCB.out)).trans HCB.out
    obtain ⟨⟨r0, r1, r2, r3, r4⟩, ⟨x0, x1, x2, x3, x4⟩⟩ := five_cells e1
    obtain ⟨⟨z0, z1, z2, z3, z4⟩, _⟩ := five_cells (set5P_at (c0 := .slice none 0 0) (c1 := .slice none 0 0) (c2 := .slice none 0 0) (c3 := .slice none 0 0) (c4 := .bool false) e1)
    have HE : Hid (∃ m : Mu, Ending.returned (.tuple #[.agg #[.slice none 0 0, .slice none 0 0, .slice none 0 0, .slice none 0 0, .bool false], .int .i64 1]) = .returned (.tuple #[encU m, .int .i64 ec]) ∧ UOk (fun g => w.heap.size ≤ g) (set5P w1 (w.heap.size + 1) (.slice none 0 0) (.slice none 0 0) (.slice none 0 0) (.slice none 0 0) (.bool false)) m ∧ m.au = ofA P ∧ Below w.heap.size w (set5P w1 (w.heap.size + 1) (.slice none 0 0) (.slice none 0 0) (.slice none 0 0) (.slice none 0 0) (.bool false))) := Hid.mk (by
      refine ⟨⟨.slice none 0 0, [], .slice none 0 0, [], .slice none 0 0, [], .slice none 0 0, [], false⟩, by rw [HEC.out], uok_nil _ _, ?_, Below.set5P (HBW.out.trans (hb1.mono HBW.out.size)) (by omega) _ _ _ _ _⟩
      rw [ofA, ← HB.out]
      rfl)
    have Z0 := Hid.mk z0
    have Z1 := Hid.mk z1
    have Z2 := Hid.mk z2
    have Z3 := Hid.mk z3
    have Z4 := Hid.mk z4
    clear z0 z1 z2 z3 z4 e1 hb1
    unfold set5P at HE Z0 Z1 Z2 Z3 Z4
    go_wp2
    refine bodyPost_ret (v := .tuple #[.agg #[.slice none 0 0, .slice none 0 0, .slice none 0 0, .slice none 0 0, .bool false], .int .i64 1]) ?_ rfl HE.out
    simp [results, Try.results11, go_sem, Z0.out, Z1.out, Z2.out, Z3.out, Z4.out]
  | true =>
    have HEC : Hid (ec = 0) := Hid.mk (by rw [hec]; rfl)
    clear hec
    have HSH : Hid (shapedP 12 P = true ∧ leaves P ≤ 24) := Hid.mk (by
      have := HB.out.symm
      simp only [mayP, Bool.and_eq_true, decide_eq_true_eq] at this
      exact this)
    have HPV : Hid (Vt.pt ⟨k, wd, .slice ao n cap, l⟩ = P) := Hid.mk (by rw [HP.out, ← HN.out])
    go_enter Try.func11, Try.ntmps11
    go_wp2_with fail
    rw [← HW1.out]
    refine (CM.out _ HBW.out).mono ?_
    rintro e w1 ⟨rfl, hb1⟩
    have HB1 := Hid.mk (HBW.out.trans (hb1.mono HBW.out.size))
    have HC1 := Hid.mk ((hb1.block (w.heap.size + 1) (lt_of_block HCB.out)).trans HCB.out)
    have HP1 := Hid.mk ((hb1.block w.heap.size (lt_of_block HCP.out)).trans HCP.out)
    clear hb1
    go_wp2_with fail
    refine (newMaker_any w1).mono ?_
    rintro e w2 ⟨rfl, hmk, hmp, hb2⟩
    have hB2 := HB1.out.trans (hb2.mono HB1.out.size)
    have hlt1 := lt_of_block HC1.out
    have HC2 := Hid.mk ((hb2.block (w.heap.size + 1) hlt1).trans HC1.out)
    have hP2 := (hb2.block w.heap.size (lt_of_block HP1.out)).trans HP1.out
    obtain ⟨⟨b0, b1, b2⟩, _⟩ := three_cells hP2
    have hM2 := mk_new hmk hmp
    have hS2 : Low (fun k => k < w2.heap.size ∧ k ≠ w1.heap.size) w2 := fun k hk => hk.1
    have hV2 : VOk (fun k => k < w2.heap.size ∧ k ≠ w1.heap.size) w2 ⟨k, wd, .slice ao n cap, l⟩ := VOk.keep hB2.size (fun b _ hlb => ⟨⟨Nat.lt_of_lt_of_le hlb hB2.size, by have := HB1.out.size; omega⟩, hB2.block b hlb⟩) _ HV.out
    have CA := Hid.mk (add_any ⟨k, wd, .slice ao n cap, l⟩ 12 (by rw [HPV.out]; exact HSH.out.1) _ w2 w1.heap.size (w1.heap.size + 1) [] [] (fun _ => 0) (.slice none 0 0) hS2 hM2 (fun i hi => ⟨by show (0 : Nat) < 16777216; omega, fun j => by simp⟩) hV2 (by rw [HPV.out]; simpa using HSH.out.2))
    rw [HPV.out] at CA
    have HB2 := Hid.mk hB2
    have HS2 := Hid.mk hS2
    have hmb : w1.heap.size < w2.heap.size := lt_of_block hmk
    have hlt2 := lt_of_block HC2.out
    clear hmk hmp hb2 hB2 hP2 hM2 hS2 hV2
    go_wp2_with fail
    refine CA.out.mono ?_
    rintro e w3 ⟨f, lx, F3, wv3, rfl, hbf, hbl, hm3, hf3, hfr3⟩
    have hC3 := (hfr3.block (w.heap.size + 1) ⟨hlt2, by omega⟩).trans HC2.out
    have hB3 : Below w.heap.size w w3 := ⟨hfr3.os.trans HB2.out.os, hfr3.tape.trans HB2.out.tape, hfr3.output.trans HB2.out.output, Nat.le_trans HB2.out.size hfr3.size, fun b hlb => (hfr3.block b ⟨Nat.lt_of_lt_of_le hlb HB2.out.size, by have := HB1.out.size; omega⟩).trans (HB2.out.block b hlb)⟩
    obtain ⟨o4, ho4⟩ : ∃ o, o = Obj.cells #[.int .u32 (f : Int), .int .u32 (lx : Int), .bool (prtOf P).empty] 63 := ⟨_, rfl⟩
    have hS3 : Low (fun k => k < w2.heap.size ∧ k ≠ w1.heap.size) w3 := HS2.out.fr hfr3
    have hS4 : Low (fun k => k < w2.heap.size ∧ k ≠ w1.heap.size) (w3.alloc o4) := fun k hk => by have := hS3 k hk; simp; omega
    have hm4 := hm3.below hS3 ((Below.refl _ _).alloc (Nat.le_refl _) o4)
    have hfits := (prtOf_reads P).1
    have hwords := prt_words P
    rw [List.nil_append] at hm4 hf3
    have hlen : (prtOf P).words.length ≤ 24 := by rw [hwords.2]; exact HSH.out.2
    have CU := Hid.mk (auto_any (em := (prtOf P).empty) hS4 hm4 hf3 hbf hbl hlen (fun i hi => by
      obtain ⟨y, hy, e⟩ := mem_up.1 hi
      have := hfits.first y hy
      simp at e
      omega) (fun i hi => by
      obtain ⟨y, hy, e⟩ := mem_up.1 hi
      have := hfits.last y hy
      simp at e
      omega) (fun p hp => by
      obtain ⟨p1, p2⟩ := p
      obtain ⟨a, b, hab, e1, e2⟩ := mem_upP.1 hp
      have := (hfits.pairs a b hab).2
      simp at e2
      simp only
      omega) (fun s hs => by
      have h1 := hwords.1 12 HSH.out.1
      have := isW_len (List.all_eq_true.1 h1 s hs)
      omega) w1.heap.size (fun g hg => by
      have h1 := (hm4.rno g hg).1
      rcases Nat.lt_or_ge g w1.heap.size with h2 | h2
      · exact absurd ⟨by omega, by omega⟩ h1
      · exact h2) (by have := hfr3.size; simp; omega))
    have HAU : Hid ((⟨(prtOf P).words, rise (prtOf P).words.length (up ([] : List Wd).length (prtOf P).first), rise (prtOf P).words.length (up ([] : List Wd).length (prtOf P).last), (List.range (prtOf P).words.length).map (fun k => rise (prtOf P).words.length (folN (upP ([] : List Wd).length (prtOf P).pairs) k)), (prtOf P).empty⟩ : Au) = autoOf P) := Hid.mk (by
      have h1 : ∀ l, up ([] : List Wd).length l = l := fun l => by simp [up]
      have h2 : ∀ l, upP ([] : List Wd).length l = l := fun l => by simp [upP]
      simp only [h1, h2]
      rfl)
    obtain ⟨em, hem⟩ : ∃ b, b = (prtOf P).empty := ⟨_, rfl⟩
    have HO4 := Hid.mk ho4
    have HC3 := Hid.mk hC3
    have HB3 := Hid.mk hB3
    rw [HAU.out] at CU
    rw [← hem] at CU HO4 ⊢
    rw [HO4.out] at CU
    clear hem hfits hwords hlen hm4 hS4 hS3 ho4 hC3 hB3 hm3 hf3 hfr3 hbf hbl b0 b1 b2
    go_wp2_with fail
    refine CU.out.mono ?_
    rintro e w5 ⟨m, rfl, hu5, ha5, hb5⟩
    have hlt3 := lt_of_block HC3.out
    have hC5 := (hb5.block (w.heap.size + 1) (by simp; omega)).trans ((heap_alloc_old _ _ hlt3).trans HC3.out)
    have hB5 : Below w.heap.size w w5 := (HB3.out.alloc HB3.out.size _).trans (hb5.mono (by have := HB3.out.size; simp; omega))
    obtain ⟨wa, wc, fa, fc, la, lc, oa, oc, e1, e2, e3, e4⟩ := hu5.slices
    obtain ⟨mv, mws, mfv, mfs, mlv, mls, mov, mos, mem⟩ := m
    dsimp only at e1 e2 e3 e4
    subst e1 e2 e3 e4
    obtain ⟨⟨r0, r1, r2, r3, r4⟩, ⟨x0, x1, x2, x3, x4⟩⟩ := five_cells hC5
    obtain ⟨⟨z0, z1, z2, z3, z4⟩, _⟩ := five_cells (set5P_at (c0 := .slice wa mws.length wc) (c1 := .slice fa mfs.length fc) (c2 := .slice la mls.length lc) (c3 := .slice oa mos.length oc) (c4 := .bool mem) hC5)
    have HE : Hid (∃ m : Mu, Ending.returned (.tuple #[.agg #[.slice wa mws.length wc, .slice fa mfs.length fc, .slice la mls.length lc, .slice oa mos.length oc, .bool mem], .int .i64 0]) = .returned (.tuple #[encU m, .int .i64 ec]) ∧ UOk (fun g => w.heap.size ≤ g) (set5P w5 (w.heap.size + 1) (.slice wa mws.length wc) (.slice fa mfs.length fc) (.slice la mls.length lc) (.slice oa mos.length oc) (.bool mem)) m ∧ m.au = ofA P ∧ Below w.heap.size w (set5P w5 (w.heap.size + 1) (.slice wa mws.length wc) (.slice fa mfs.length fc) (.slice la mls.length lc) (.slice oa mos.length oc) (.bool mem))) := Hid.mk (by
      refine ⟨_, by rw [HEC.out], hu5.keep (by rw [set5P_size]; exact Nat.le_refl _) (fun b hb _ => ⟨by have := HB1.out.size; omega, set5P_other (by omega) _ _ _ _ _⟩), ?_, Below.set5P hB5 (by omega) _ _ _ _ _⟩
      rw [ha5, ofA, ← HB.out]
      rfl)
    have Z0 := Hid.mk z0
    have Z1 := Hid.mk z1
    have Z2 := Hid.mk z2
    have Z3 := Hid.mk z3
    have Z4 := Hid.mk z4
    clear z0 z1 z2 z3 z4 hC5 hB5 hb5 hu5 ha5
    unfold set5P at HE Z0 Z1 Z2 Z3 Z4
    go_wp2
    refine bodyPost_ret (v := .tuple #[.agg #[.slice wa mws.length wc, .slice fa mfs.length fc, .slice la mls.length lc, .slice oa mos.length oc, .bool mem], .int .i64 0]) ?_ rfl HE.out
    simp [results, Try.results11, go_sem, Z0.out, Z1.out, Z2.out, Z3.out, Z4.out]
end Go.Proofs.Ythdnpddfdlhlaaa
