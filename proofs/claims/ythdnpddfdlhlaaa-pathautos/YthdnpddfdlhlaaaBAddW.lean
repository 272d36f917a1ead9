/- addWord of the program. -/
import Derived.Test.YthdnpddfdlhlaaaBAdd
namespace Go.Proofs.Ythdnpddfdlhlaaa
open Go.RowKit

theorem infoStr : (Try.prog.info? 9).map (fun i => (i.zero, i.size, i.bytes)) = some (some (.string ⟨#[]⟩), 1, 16) := by kernel_rfl
theorem MkAt.grow {S : Nat → Prop} {w w9 w8 : World} {mb kb : Nat} {ws : List Wd} {F : Nat → Nat} {wv wv9 : Value} {u : Wd} (h : MkAt S w mb kb ws F wv) (hS : Low S w) (hg : w.grownBy w9 wv.ownBlock) (hown : w9.ownsRow 0 9 1 wv9 (ws ++ [u]).length ((ws ++ [u]).flatMap csT)) (hat : ∀ g, wv9.ownBlock = some g → wv.ownBlock = some g ∨ w.heap.size ≤ g) (h8 : w8 = w9.setCell ⟨mb, 0, none⟩ wv9) : MkAt S w8 mb kb (ws ++ [u]) F wv9 ∧ Fr S w w8 := by
  subst h8
  have hmb : w9.heap[mb]? = w.heap[mb]? := hg.block mb h.lt (fun e => (h.rno mb e.symm).2 rfl)
  have hkb : w9.heap[kb]? = w.heap[kb]? := hg.block kb (hS _ h.sk) (fun e => (h.rno kb e.symm).1 h.sk)
  have hkm : kb ≠ mb := fun e => h.no (by rw [← e]; exact h.sk)
  have hr9 : ∀ g, wv9.ownBlock = some g → ¬ S g ∧ g ≠ mb := fun g hg9 => by
    rcases hat g hg9 with h1 | h1
    · exact h.rno g h1
    · exact ⟨fun e => by have := hS _ e; omega, by have := h.lt; omega⟩
  have c09 : w9.cell? ⟨mb, 0, none⟩ = some wv := by have := h.c0; simpa only [World.cell?, hmb] using this
  refine ⟨⟨h.no, h.sk, ?_, ?_, ?_, ?_, ?_, ?_, ?_, hr9⟩, ?_⟩
  · have := h.lt; have := hg.size; simp; omega
  · rw [Below.heap_setCell _ _ _ _ (by exact hkm), hkb]; exact h.map
  · exact World.cell?_setCell_same _ _ _ c09
  · rw [World.frozen?_setCell]; have := h.f0; simpa only [World.frozen?, hmb] using this
  · rw [World.cell?_setCell_other _ _ _ _ (fun e => by injection e with e1 e2; cases e2)]
    have := h.c25; simpa only [World.cell?, hmb] using this
  · intro j hj
    rw [World.cell?_setCell_other _ _ _ _ (fun e => by injection e with e1 e2; omega), World.frozen?_setCell]
    exact (h.fol.keep hmb) j hj
  · exact owns_key hown (fun g o hg9 ho => (Below.heap_setCell _ _ _ _ (by exact (hr9 g hg9).2)).trans ho)
  · have hfr : Fr S w w9 := (Fr.refl S w).grown hS hg (fun g e => (h.rno g e).1)
    exact hfr.setCell h.no _

theorem grown_at {w3 w9 : World} {o : Obj} {row : Option Nat} {mb : Nat} (hg : (w3.alloc o).grownBy w9 row) (hlt : mb < w3.heap.size) (hne : row ≠ some mb) : w9.heap[mb]? = w3.heap[mb]? := by
  rw [hg.block mb (by simp; omega) (fun e => hne e.symm), heap_alloc_old _ _ hlt]
theorem cell_of {w w' : World} {b i : Nat} {v : Value} (h : w'.heap[b]? = w.heap[b]?) (hc : w.cell? ⟨b, i, none⟩ = some v) : w'.cell? ⟨b, i, none⟩ = some v := by simpa only [World.cell?, h] using hc
theorem froz_of {w w' : World} {b i : Nat} (h : w'.heap[b]? = w.heap[b]?) (hc : w.frozen? ⟨b, i, none⟩ = false) : w'.frozen? ⟨b, i, none⟩ = false := by simpa only [World.frozen?, h] using hc

set_option maxHeartbeats 2000000 in
set_option maxRecDepth 100000 in
theorem addWord_any {k : Int} {wd : Wd} {v : Value} (hk : k = 1) (hw16 : wd.length ≤ 1000) : AddF 51 ⟨k, wd, v, []⟩ := by
  intro S w mb kb ws ps F wv hS hm hf hv hl
  obtain ⟨i0, hi0, hz0, hz1, hz2⟩ := info_parts infoStr
  obtain ⟨ao, cap, hvv⟩ := hv.parts.1.slice
  have hwl := hv.parts.2.1
  dsimp only at hvv hwl
  subst hvv
  rw [Vt.pt_mk, List.map_nil, leaves_mk, if_pos hk] at hl
  rw [Vt.pt_mk, List.map_nil, prtOf_mk, kindC, if_pos hk]
  obtain ⟨X, hX⟩ : ∃ X : Prt, X = ⟨[wd], [0], [0], [], false⟩ := ⟨_, rfl⟩
  rw [← hX]
  simp only [List.length_nil] at hv ⊢
  obtain ⟨wa, wc, hwv⟩ := own_slice hm.row
  subst hwv
  obtain ⟨n, hn⟩ : ∃ n, n = ws.length := ⟨_, rfl⟩
  obtain ⟨W1, hW1⟩ : ∃ W, W = (w.alloc (.cells #[.int .i64 k, .string ⟨wd.toArray⟩, .slice ao 0 cap] 24)).alloc (.cells #[.int .u32 0, .int .u32 0, .bool false] 63) := ⟨_, rfl⟩
  have hbW : Below w.heap.size w W1 := by rw [hW1]; exact ((Below.refl _ _).alloc (Nat.le_refl _) _).alloc (by simp) _
  have hsz : W1.heap.size = w.heap.size + 2 := by rw [hW1]; simp
  have hcb : W1.heap[w.heap.size + 1]? = some (.cells #[.int .u32 0, .int .u32 0, .bool false] 63 (0, 0)) := by rw [hW1]; exact (by simpa using heap_alloc_new (w.alloc (.cells #[.int .i64 k, .string ⟨wd.toArray⟩, .slice ao 0 cap] 24)) _)
  have hLowP : Low (Plus S w.heap.size (w.heap.size + 2)) W1 := by have := hS.plus hbW.size; rw [hsz] at this; exact this
  have hm1 := hm.plus hS hbW (w.heap.size + 2)
  have hFrW : Fr S w W1 := fr_below hS hbW
  have hkS : S kb := hm.sk
  have hn24 : n < 24 := by omega
  have CO := Hid.mk (fun u => only_any n u hn24)
  have hlt := hm.lt
  have q0 := hm1.c0
  have q1 := hm1.f0
  have q0w := hm.c0
  rw [← hn] at q0 q0w
  obtain ⟨q, hq⟩ : ∃ q, q = 2 ^ n := ⟨_, rfl⟩
  rw [← hq] at CO
  have HQ : Hid (BitsOf q [n]) := Hid.mk (by rw [hq]; exact BitsOf.one hn24)
  have HROW := Hid.mk hm1.row
  have HNE : Hid (∀ u, (Value.slice wa u wc).ownBlock ≠ some mb) := Hid.mk (fun u e => (hm1.rno mb (by cases wa <;> exact e)).2 rfl)
  have HM1 := Hid.mk hm1
  have CC := Hid.mk (clone_any ⟨wd.toArray⟩ W1.drew (by have : (ByteArray.mk wd.toArray).size = wd.length := (by simp [ByteArray.size]); omega))
  have HW1 := Hid.mk hW1
  have HFW := Hid.mk hFrW
  have HCB := Hid.mk hcb
  have HSZ := Hid.mk hsz
  have HLOW := Hid.mk hS
  have HLOWP := Hid.mk hLowP
  have HSK := Hid.mk hkS
  have HN := Hid.mk hn
  have HX := Hid.mk hX
  have HF := Hid.mk hf
  have hszm : mb < W1.heap.size := hm1.lt
  obtain ⟨b0, b1, b2⟩ : W1.cell? ⟨w.heap.size, 0, none⟩ = some (.int .i64 k) ∧ W1.cell? ⟨w.heap.size, 1, none⟩ = some (.string ⟨wd.toArray⟩) ∧ W1.cell? ⟨w.heap.size, 2, none⟩ = some (.slice ao 0 cap) := by rw [hW1]; simp
  have HBX := Hid.mk (And.intro b0 (And.intro b1 b2))
  rw [← hn] at HROW
  clear hv hm hf hl hbW hsz hcb hLowP hFrW hkS hW1 hX hS hm1 hq hn hk b0 b1 b2
  show Calls Try.prog _ #[_, .agg #[.int .i64 k, .string ⟨wd.toArray⟩, .slice ao 0 cap]] w _
  go_enter Try.func51, Try.ntmps51
  go_wp2_with fail
  rw [← HW1.out]
  refine (CO.out _).mono ?_
  rintro e w2 ⟨rfl, hw2⟩
  subst hw2
  clear q0w
  obtain ⟨b0, b1, b2⟩ := HBX.out
  have hszw : w.heap.size < w2.heap.size := by have := HSZ.out; omega
  go_wp2_with fail
  go_region_law (first
    | (go_simp; refine CC.out.mono ?_; rintro e w3 ⟨rfl, hb3⟩; have q03 := (hb3.cell (p := ⟨mb, 0, none⟩) hszm).trans q0; have q13 := (hb3.frozen (p := ⟨mb, 0, none⟩) hszm).trans q1; have hm3l : mb < w3.heap.size := Nat.lt_of_lt_of_le hszm hb3.size)
    | (refine step_append_lies _ (by rfl) _ _ _ (by rfl) 0 9 i0 _ 1 16 Try.underlying27 hi0 hz0 hz1 hz2 rfl (by decide) (.slice wa n wc) _ _ (by rfl) ((owns_below HROW.out.drew hb3).alloc _) ⟨w3.heap.size, 0, none⟩ 1 1 (csT wd) (by rfl) (by rfl) (World.news_of_block (cs := #[.string ⟨wd.toArray⟩]) (t := 9) (fr := (0, 0)) (heap_alloc_new w3 _)) (by simp [Value.oneCell']) (by decide) (by unfold maxLen; omega) (by omega) (by omega) (w3.heap.size + 1) (by simp) ?_; intro gg cap2 w9 hown9 hgrow9 hat9 hlt9; have hh9 := grown_at hgrow9 (Nat.lt_of_lt_of_le hszm hb3.size) (HNE.out _); have q09 := cell_of hh9 q03; have q19 := froz_of hh9 q13))
  all_goals (
    have hLD : Low (Plus S w.heap.size (w.heap.size + 2)) w2.drew := HLOWP.out
    have hmA := (HM1.out.drew.below hLD hb3).below (hLD.below hb3) ((Below.refl w3.heap.size w3).alloc (Nat.le_refl _) (.cells #[.string ⟨wd.toArray⟩] 9))
    have hLA : Low (Plus S w.heap.size (w.heap.size + 2)) (w3.alloc (.cells #[.string ⟨wd.toArray⟩] 9)) := fun k hk => by have := HLOWP.out k hk; have h2 : w2.heap.size ≤ w3.heap.size := hb3.size; simp; omega
    obtain ⟨hm8, hf8⟩ := MkAt.grow (u := wd) (wv9 := .slice (some ⟨gg, 0, none⟩) (n + 1) cap2) hmA hLA (by rw [← HN.out]; exact hgrow9) (by
      rw [List.length_append, ← HN.out, List.flatMap_append]
      simpa using hown9) (fun g hg => by
      have hgg : gg = g := by simpa [Value.ownBlock] using hg
      subst hgg
      rcases hat9 with h1 | h1
      · left; rw [← HN.out]; exact h1
      · right; simp; omega) rfl
    have hfA : Fr (Plus S w.heap.size (w.heap.size + 2)) w2 (w3.alloc (.cells #[.string ⟨wd.toArray⟩] 9)) := ((Fr.refl _ w2).drew.next HLOWP.out hb3).alloc HLOWP.out _
    have hfr8 := hfA.trans hf8
    have e8 := (hfr8.block (w.heap.size + 1) (.inr ⟨by omega, by omega⟩)).trans HCB.out
    obtain ⟨⟨r0, r1, r2⟩, ⟨f0, f1, f2⟩⟩ := three_cells e8
    obtain ⟨hmF, hfF⟩ := add_end2 (b := w.heap.size + 1) (c0 := .int .u32 (q : Int)) (c1 := .int .u32 (q : Int)) (c2 := .bool false) HLOW.out HFW.out hfr8 hm8 HSK.out (by omega) (by omega)
    have hE : AddE S w mb kb ws ps X (.returned (ptV q q false)) (set3P (w9.setCell ⟨mb, 0, none⟩ (.slice (some ⟨gg, 0, none⟩) (n + 1) cap2)) (w.heap.size + 1) (.int .u32 (q : Int)) (.int .u32 (q : Int)) (.bool false)) := by
      rw [HX.out]
      exact ⟨q, q, F, _, rfl, HQ.out.congr (fun k => by rw [HN.out]; simp [up]), HQ.out.congr (fun k => by rw [HN.out]; simp [up]), hmF, HF.out.congr (fun p => by simp [upP]), hfF⟩
    obtain ⟨⟨z0, z1, z2⟩, _⟩ := three_cells (set3P_at (c0 := .int .u32 (q : Int)) (c1 := .int .u32 (q : Int)) (c2 := .bool false) e8)
    have HE := Hid.mk hE
    have Z0 := Hid.mk z0
    have Z1 := Hid.mk z1
    have Z2 := Hid.mk z2
    clear hE z0 z1 z2 hmF hfF hm8 hf8 hfr8 hfA hLA hmA hLD e8 hown9 hgrow9 hat9 hlt9 hh9 q09 q19 q03 q13
    unfold set3P at HE Z0 Z1 Z2
    obtain ⟨w8, hw8⟩ : ∃ W, W = w9.setCell ⟨mb, 0, none⟩ (.slice (some ⟨gg, 0, none⟩) (n + 1) cap2) := ⟨_, rfl⟩
    rw [← hw8] at HE Z0 Z1 Z2 r0 r1 r2 f0 f1 f2 ⊢
    clear hw8
    go_wp2
    refine bodyPost_ret (v := ptV q q false) ?_ rfl HE.out
    simp [results, Try.results51, go_sem, Z0.out, Z1.out, Z2.out])
end Go.Proofs.Ythdnpddfdlhlaaa
