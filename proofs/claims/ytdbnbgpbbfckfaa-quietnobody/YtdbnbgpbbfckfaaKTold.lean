/- A telling comes. -/
import Derived.Test.YtdbnbgpbbfckfaaKMove
namespace Go.Proofs.Ytdbnbgpbbfckfaa
open Go.RowKit

theorem i64_maskH (n : Int) (k : Nat) (m M : Int) (hk : k ≤ 62) (hm : (BitVec.ofInt 64 m).toNat = 2 ^ k - 1) (hM : M = ((2 ^ k : Nat) : Int)) : bits .and .i64 n m = n % M := by
  have key : (BitVec.ofInt 64 n &&& BitVec.ofInt 64 m).toNat = (n % ((2 ^ 64 : Nat) : Int)).toNat % 2 ^ k := by
    rw [BitVec.toNat_and, BitVec.toNat_ofInt, hm, Nat.and_two_pow_sub_one_eq_mod]
  show IntKind.i64.wrap ((BitVec.ofInt 64 n &&& BitVec.ofInt 64 m).toNat : Nat) = n % M
  have hd : (2 ^ 64 : Nat) = 2 ^ k * 2 ^ (64 - k) := by rw [← Nat.pow_add]; congr 1; omega
  have e : ((n % ((2 ^ 64 : Nat) : Int)).toNat % 2 ^ k : Nat) = (n % ((2 ^ k : Nat) : Int)).toNat := by
    apply Int.ofNat.inj
    show (((n % ((2 ^ 64 : Nat) : Int)).toNat % 2 ^ k : Nat) : Int) = ((n % ((2 ^ k : Nat) : Int)).toNat : Int)
    rw [Int.natCast_emod, Int.toNat_of_nonneg (Int.emod_nonneg _ (by omega)), Int.toNat_of_nonneg (Int.emod_nonneg _ (by have := Nat.two_pow_pos k; omega))]
    exact Int.emod_emod_of_dvd _ (Int.natCast_dvd_natCast.2 ⟨2 ^ (64 - k), hd⟩)
  have hlt : (2 ^ k : Nat) ≤ 2 ^ 62 := Nat.pow_le_pow_right (by omega) hk
  have hp := Nat.two_pow_pos k
  have h1 : 0 ≤ n % ((2 ^ k : Nat) : Int) := Int.emod_nonneg _ (by omega)
  have h2 : n % ((2 ^ k : Nat) : Int) < ((2 ^ k : Nat) : Int) := Int.emod_lt_of_pos _ (by omega)
  rw [key, e, IntKind.wrap_i64, hM]
  omega
/-- Which one of so many. -/
theorem pick_any (z : Int) (n : Nat) (hn : 0 < n) : ∃ j : Nat, (bits .and .i64 z 65535).tmod (n : Int) = (j : Int) ∧ j < n ∧ 0 ≤ bits .and .i64 z 65535 ∧ bits .and .i64 z 65535 ≤ 65535 := by
  have h := i64_maskH z 16 65535 65536 (by decide) (by decide) (by decide)
  have h1 : 0 ≤ z % 65536 := Int.emod_nonneg _ (by decide)
  have h2 : z % 65536 < 65536 := Int.emod_lt_of_pos _ (by decide)
  rw [h]
  refine ⟨((z % 65536) % (n : Int)).toNat, ?_, ?_, h1, by omega⟩
  · rw [Int.tmod_eq_emod_of_nonneg h1, Int.toNat_of_nonneg (Int.emod_nonneg _ (by omega))]
  · have := Int.emod_lt_of_pos (z % 65536) (show (0 : Int) < (n : Int) by omega)
    have := Int.emod_nonneg (z % 65536) (show (n : Int) ≠ 0 by omega)
    omega
theorem elemZ : Try.prog.elem 22 = 3 := by kernel_rfl
theorem sizeZ (w : World) : (Go.sizeOf 3).run Try.prog w = .ok 1 w := by kernel_rfl
theorem elemU : Try.prog.elem 26 = 50 := by kernel_rfl
theorem sizeU (w : World) : (Go.sizeOf 50).run Try.prog w = .ok 2 w := by kernel_rfl
theorem one_nat (L : List Nat) : ∀ u ∈ L.map natV, u.oneCell' = true := by
  intro u hu
  obtain ⟨x, _, rfl⟩ := List.mem_map.1 hu
  rfl
theorem one_csU (L : List (Nat × Nat)) : ∀ u ∈ L.flatMap csU, u.oneCell' = true := by
  intro u hu
  obtain ⟨x, _, h⟩ := List.mem_flatMap.1 hu
  simp only [List.mem_cons, List.not_mem_nil, or_false] at h
  rcases h with rfl | rfl <;> rfl
/-- What a telling's coming comes to. -/
def ToldP (s s' : Wd) : Prop := (s.tells = [] ∧ s' = s) ∨ ∃ j t, s.tells[j]? = some t ∧ s' = s.told j t
def TEnd (B : Nat) (w : World) (wb : Nat) (s : Wd) (e : Ending) (w' : World) : Prop := e = .returned (.tuple #[]) ∧ Below B w w' ∧ ∃ s', ToldP s s' ∧ WOk B w' wb s'
set_option maxRecDepth 100000 in
set_option maxHeartbeats 4000000 in
theorem wtold_any {B : Nat} {w : World} {wb : Nat} {s : Wd} (hW : WOk B w wb s) (hl : Lim s) (hl2 : ∀ j t, s.tells[j]? = some t → t < s.k ∧ 0 < (s.nd t).owes ∧ Lim (s.told1 j t)) (z : Int) :
    Calls Try.prog 10 #[.pointer (some ⟨wb, 0, none⟩), .int .i64 z] w (TEnd B w wb s) := by
  obtain ⟨i0, hi0, hz0, hz1, hz2⟩ := info_parts infoZ2
  obtain ⟨vn, vu, vt, vw, bs, h⟩ := hW
  obtain ⟨gn, cn, gw, cw, rfl, rfl, hrn, hrw⟩ := h.reads hl.k1
  obtain ⟨ta, tc, rfl⟩ := own_slice h.ot
  have H := Hid.mk h
  have hk6 := hl.k6
  have hte := hl.te
  obtain ⟨g0, g1, g2, g3, f1, f2⟩ := h.cells
  obtain ⟨n, hn⟩ : ∃ n, n = s.tells.length := ⟨_, rfl⟩
  rw [← hn] at g2 H hte
  have HN := Hid.mk hn
  by_cases hn0 : n = 0
  · have HE : Hid (s.tells = []) := Hid.mk (List.length_eq_zero_iff.1 (by omega))
    rw [hn0] at g2
    clear h hrn hrw hn hl
    go_enter Try.func10, Try.ntmps10
    go_wp2
    refine bodyPost_ret (results_none rfl _ _ _) rfl ?_
    exact ⟨rfl, Below.refl _ _, _, .inl ⟨HE.out, rfl⟩, H.out.ok⟩
  · have hnI : ¬ (n : Int) = 0 := by omega
    have hnB : ((n : Int) == 0) = false := beq_eq_false_iff_ne.2 hnI
    obtain ⟨j, hj, hjn, hm0, hm1⟩ := pick_any z n (by omega)
    obtain ⟨t, ht⟩ : ∃ t, s.tells[j]? = some t := ⟨_, List.getElem?_eq_getElem (by omega)⟩
    obtain ⟨tk, to1, tl⟩ := hl2 j t ht
    have hot := H.out.ot
    rw [← HN.out] at hot
    obtain ⟨ga, rfl⟩ : ∃ g, ta = some ⟨g, 0, none⟩ := by
      rcases hot.2 with ⟨e, h0⟩ | ⟨g, c, cur, e, _⟩
      · omega
      · injection e with e1; exact ⟨g, e1⟩
    have c1 : w.cell? ⟨ga, j, none⟩ = some (.int .i64 (t : Int)) := by
      rw [hot.cellAt j (by omega), List.getElem?_map, ht]; rfl
    obtain ⟨⟨aa, cc, hcut1, hCa⟩, _⟩ := row_cut elemZ Try.underlying22 sizeZ hot (k := j) (by omega)
    obtain ⟨_, ⟨ab, cd, hcut2, hCb⟩⟩ := row_cut elemZ Try.underlying22 sizeZ hot (k := j + 1) (by omega)
    rw [show ((j + 1 : Nat) : Int) = (j : Int) + 1 from rfl] at hcut2
    have HCA := Hid.mk hCa
    have HCB := Hid.mk hCb
    have hNN := hrn t tk
    obtain ⟨k, hk⟩ : ∃ k, k = s.k := ⟨_, rfl⟩
    rw [← hk] at g0 g3 H hk6 tk
    have HK := Hid.mk hk
    have htI : (t : Int) < (k : Int) := by omega
    obtain ⟨d, hd⟩ : ∃ d, d = n - (j + 1) := ⟨_, rfl⟩
    rw [← hd] at hcut2 HCB
    have HD := Hid.mk hd
    have hjI : (j : Int) < (n : Int) := by omega
    have hjI2 : (j : Int) + 1 ≤ (n : Int) := by omega
    have HT := Hid.mk ht
    have hdn : j + d ≤ 1000000 := by omega
    obtain ⟨mk, hmk⟩ : ∃ mk, mk = bits .and .i64 z 65535 := ⟨_, rfl⟩
    have how := hl.ow t (by rw [← hk]; exact tk)
    clear h hrn hrw hn hl hot hCa hCb hk hd ht
    go_enter Try.func10, Try.ntmps10
    go_wp2_with (at_builtin; refine wpList_append_many rfl _ _ rfl Try.underlying22 hi0 hz0 hz1 hz2 rfl (by decide) (by rfl) (World.ownsRow_nil _ w.heap.size _ _) aa ((s.tells.map natV).take (j * 1)) j cc (by rfl) HCA.out.len HCA.out.none_ HCA.out.reads (fun u hu => one_nat _ u (List.mem_of_mem_take hu)) ?c1 ?c2 (Nat.le_refl _) ?_)
    case c1 => unfold maxLen; omega
    case c2 => omega
    intro v3 w3 hown3 hgrow3
    have HB3 : Hid (Below w.heap.size w w3) := Hid.mk (Below.grown (Below.refl _ _) hgrow3 (Nat.le_refl _) (fun k hk => by cases hk))
    obtain ⟨a3, c3, rfl⟩ := own_slice hown3
    have HO3 := Hid.mk hown3
    have HC3 := Hid.mk (HCB.out.below HB3.out)
    have H3 := Hid.mk (H.out.below HB3.out)
    obtain ⟨p0, p1, p2, p3, q1, q2⟩ := H3.out.cells
    clear hown3 hgrow3 g0 g1 g2 g3 f1 f2
    go_wp2_with (at_builtin; refine wpList_append_many rfl _ _ rfl Try.underlying22 hi0 hz0 hz1 hz2 rfl (by decide) (by rfl) HO3.out ab ((s.tells.map natV).drop ((j + 1) * 1)) d cd (by rfl) HC3.out.len HC3.out.none_ HC3.out.reads (fun u hu => one_nat _ u (List.mem_of_mem_drop hu)) ?d1 ?d2 HB3.out.size ?_)
    case d1 => unfold maxLen; omega
    case d2 => omega
    intro v4 w4 hown4 hgrow4
    have HB4 : Hid (Below w.heap.size w w4) := Hid.mk (HB3.out.grown hgrow4 HB3.out.size (fun k hk => (HO3.out.lt k hk).1))
    obtain ⟨a4, c4, rfl⟩ := own_slice hown4
    obtain ⟨W4, hW4⟩ : ∃ W, W = w4.setCell ⟨wb, 2, none⟩ (.slice a4 (j + d) c4) := ⟨_, rfl⟩
    have H4 : Hid (WAt B W4 wb (.slice (some ⟨gn, 0, none⟩) k cn) vu (.slice a4 (j + d) c4) (.slice (some ⟨gw, 0, none⟩) k cw) bs { s with tells := rm s.tells j } ∧ Below B w W4) := Hid.mk (by
      have ho : w4.ownsRow w.heap.size 3 1 (.slice a4 (j + d) c4) (rm s.tells j).length ((rm s.tells j).map natV) := by
        have hlen : (rm s.tells j).length = j + d := by rw [rm, List.length_append, List.length_take, List.length_drop, ← HN.out, ← HD.out, Nat.min_eq_left (by omega)]
        rw [hlen, rm, List.map_append, List.map_take, List.map_drop]
        simpa using hown4
      have := H.out.tells_ (Grew.anew HB4.out ho) (ownsRow_base ho H.out.size)
      rw [hW4]
      exact this)
    have H4b := Hid.mk (H.out.below HB4.out)
    obtain ⟨r0, r1, r2, r3, t1, t2⟩ := H4b.out.cells
    obtain ⟨u0, u1, u2, u3, _, _⟩ := H4.out.1.cells
    obtain ⟨y, hy⟩ : ∃ y, (s.nd t).owes = y + 1 := ⟨(s.nd t).owes - 1, by omega⟩
    have CS := Hid.mk (told_any (H4.out.1.nd t (by rw [← HK.out]; exact tk)).1 hy (by omega))
    have n2 := H4.out.1.nodeAt (i := t) (by show t < s.k; rw [← HK.out]; exact tk)
    rw [hW4] at CS n2 u0
    clear hown4 hgrow4 p0 p1 p2 p3 q1 q2 hNN
    go_wp2_with fail
    refine CS.out.mono ?_
    rintro e w5 ⟨rfl, hn5, ho5⟩
    have H5 : Hid (WOk B w5 wb (s.told1 j t) ∧ Below B w w5) := Hid.mk (by
      rw [← hW4] at ho5
      have a1 := H4.out.1.node (by show t < s.k; rw [← HK.out]; exact tk) hn5 ho5
      have e : s.told1 j t = { s with tells := rm s.tells j, nd := upd s.nd t ⟨y, (s.nd t).works, (s.nd t).par⟩ } := by
        unfold Wd.told1; rw [hy]; rfl
      rw [e]
      exact ⟨a1.ok, H4.out.2.trans (ho5.below (H4.out.1.nd t (by show t < s.k; rw [← HK.out]; exact tk)).2)⟩)
    have CR := Hid.mk (rests_any H5.out.1 tl (i := t) (by show t < s.k; rw [← HK.out]; exact tk))
    clear hn5 ho5 hW4 r0 r1 r2 r3 t1 t2 u0 u1 u2 u3 n2
    go_wp2_with fail
    refine CR.out.mono ?_
    rintro e w6 ⟨rfl, h6, b6⟩
    have HFIN : Hid (TEnd B w wb s (.returned (.tuple #[])) w6) := Hid.mk ⟨rfl, H5.out.2.trans b6, _, .inr ⟨j, t, HT.out, rfl⟩, h6⟩
    clear h6 b6
    go_wp2
    go_end0
    exact HFIN.out
end Go.Proofs.Ytdbnbgpbbfckfaa
