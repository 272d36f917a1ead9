/- Parts of the proofs of stage 15. -/
import Derived.Test.YtifmpcldiimdbaaZE
import Derived.Lib.SmallJoins
import Derived.Deep.Slices
import Derived.SizedLaws
namespace Go.Proofs.Ytifmpcldiimdbaa
open Go.RowKit

theorem sameAt_any (va vb : Value) (xs ys : List (List UInt8)) (w : World) (ha : StrsAt w va xs) (hb : StrsAt w vb ys) :
    Calls Try.prog 15 #[va, vb] w fun e w' => e = .returned (.bool (decide (xs = ys))) ∧ Below w.heap.size w w' := same_any va vb xs ys w ha hb

set_option maxRecDepth 100000 in
set_option maxHeartbeats 1000000 in
theorem sameRows_any (va vb : Value) (xs ys : List (List (List UInt8))) (w : World) (ha : RowsAt w va xs) (hb : RowsAt w vb ys) :
    Calls Try.prog 56 #[va, vb] w fun e w' => e = .returned (.bool (decide (xs = ys))) ∧ Below w.heap.size w w' := by
  obtain ⟨la, aa, ca, vsa, rfl, hla, ha, hsa⟩ := ha.parts
  obtain ⟨lb, ab, cb, vsb, rfl, hlb, hb, hsb⟩ := hb.parts
  by_cases hl : xs.length = ys.length
  · have HA := Hid.mk ha
    have HB := Hid.mk hb
    have HL := Hid.mk hl
    have HLA := Hid.mk hla
    have HLB := Hid.mk hlb
    have HSA := Hid.mk hsa
    have HSB := Hid.mk hsb
    rw [← hl]
    clear ha hb hl hla hlb hsa hsb
    go_enter Try.func56, Try.ntmps56
    go_wp2
    go_loopw [5] (fun c wr => ∃ i : Nat, i ≤ xs.length ∧ c = .int .i64 i ∧ xs.take i = ys.take i ∧ Below w.heap.size w wr) (fun c _ => xs.length - (intOf c).toNat)
    case atStart => exact ⟨0, Nat.zero_le _, rfl, rfl, Below.refl _ _⟩
    case round =>
      obtain ⟨i, hi, rfl, htk, hbw⟩ := hrel
      have HT := Hid.mk htk
      clear htk
      by_cases hlt : i < xs.length
      · obtain ⟨r1, hx⟩ : ∃ x, xs[i]? = some x := ⟨_, List.getElem?_eq_getElem hlt⟩
        obtain ⟨r2, hy⟩ : ∃ y, ys[i]? = some y := ⟨_, List.getElem?_eq_getElem (by rw [← HL.out]; exact hlt)⟩
        obtain ⟨x, hvx⟩ : ∃ x, vsa[i]? = some x := ⟨_, List.getElem?_eq_getElem (by rw [HLA.out]; exact hlt)⟩
        obtain ⟨y, hvy⟩ : ∃ y, vsb[i]? = some y := ⟨_, List.getElem?_eq_getElem (by rw [HLB.out, ← HL.out]; exact hlt)⟩
        rcases HA.out with hnil | ⟨ba, oa, rfl, ha1, ha2⟩
        · rw [hnil] at hvx; simp at hvx
        · rcases HB.out with hnil | ⟨bb, ob, rfl, hb1, hb2⟩
          · rw [hnil] at hvy; simp at hvy
          · have hcx := (hbw.cell (p := ⟨ba, oa + i, none⟩) ha1).trans (ha2 i x hvx)
            have hcy := (hbw.cell (p := ⟨bb, ob + i, none⟩) hb1).trans (hb2 i y hvy)
            have hla1 : ba < wr.heap.size := Nat.lt_of_lt_of_le ha1 hbw.size
            have hlb1 : bb < wr.heap.size := Nat.lt_of_lt_of_le hb1 hbw.size
            have SX := Hid.mk (((HSA.out i x r1 hvx hx).below hbw).drew)
            have SY := Hid.mk (((HSB.out i y r2 hvy hy).below hbw).drew)
            have HX := Hid.mk hx
            have HY := Hid.mk hy
            have HBW := Hid.mk hbw.drew
            have hltI : (i : Int) < (xs.length : Int) := by omega
            have h0I : (0 : Int) ≤ (i : Int) := by omega
            have C := Hid.mk (same_any x y r1 r2 wr.drew SX.out SY.out)
            clear hx hy hvx hvy ha2 hb2 hbw ha1 hb1
            by_cases hxy : r1 = r2
            · subst hxy
              have hnx : xs.take (i + 1) = ys.take (i + 1) := by
                rw [List.take_add_one, List.take_add_one, HT.out, HX.out, HY.out]
              have HN := Hid.mk hnx
              clear hnx
              rw [decide_eq_true (rfl : r1 = r1)] at C
              go_wp2
              go_region_held (fun w' => w'.cell? ⟨ba, oa + i, none⟩ = some x ∧ w'.cell? ⟨bb, ob + i, none⟩ = some y)
                (first | exact ⟨hcx, hcy⟩ | exact ⟨(hbc.cell (p := ⟨ba, oa + i, none⟩) hla1).trans hcx, (hbc.cell (p := ⟨bb, ob + i, none⟩) hlb1).trans hcy⟩)
                (first | (go_at_call 15; refine C.out.mono ?_; rintro e w1 ⟨rfl, hbc⟩))
              have hbq := HBW.out.trans (hbc.mono HBW.out.size)
              clear hbc
              go_wp2
              go_roundw
              case rel => exact ⟨i + 1, by omega, by go_num, HN.out, hbq⟩
              case measure => simp [intOf]; omega
            · have hne : decide (xs = ys) = false := by
                rw [decide_eq_false_iff_not]; intro h
                have a := HX.out
                rw [h, HY.out] at a
                exact hxy (Option.some.inj a).symm
              have HN := Hid.mk hne
              clear hne
              rw [decide_eq_false hxy] at C
              go_wp2
              go_region_held (fun w' => w'.cell? ⟨ba, oa + i, none⟩ = some x ∧ w'.cell? ⟨bb, ob + i, none⟩ = some y)
                (first | exact ⟨hcx, hcy⟩ | exact ⟨(hbc.cell (p := ⟨ba, oa + i, none⟩) hla1).trans hcx, (hbc.cell (p := ⟨bb, ob + i, none⟩) hlb1).trans hcy⟩)
                (first | (go_at_call 15; refine C.out.mono ?_; rintro e w1 ⟨rfl, hbc⟩))
              have hbq := HBW.out.trans (hbc.mono HBW.out.size)
              clear hbc
              go_wp2
              go_ret
              exact ⟨by rw [HN.out]; rfl, hbq⟩
      · have heq : decide (xs = ys) = true := by
          rw [decide_eq_true_iff]
          have := HT.out
          rw [List.take_of_length_le (by omega), List.take_of_length_le (by rw [← HL.out]; omega)] at this
          exact this
        have HN := Hid.mk heq
        clear heq
        go_wp2
        go_ret
        exact ⟨by rw [HN.out]; rfl, hbw⟩
  · have hne : decide (xs = ys) = false := by
      rw [decide_eq_false_iff_not]; intro h; exact hl (by rw [h])
    have HN := Hid.mk hne
    have hl2 : ((xs.length : Int) != (ys.length : Int)) = true := by rw [bne_iff_ne]; omega
    clear hne
    go_enter Try.func56, Try.ntmps56
    go_wp2
    go_ret
    exact ⟨by rw [HN.out]; rfl, Below.refl _ _⟩
end Go.Proofs.Ytifmpcldiimdbaa

namespace Go.Proofs.Ytifmpcldiimdbaa
open Go.RowKit

theorem two_blocks (w : World) (o0 o1 : Obj) : ((w.alloc o0).alloc o1).heap[w.heap.size]? = some o0 ∧ ((w.alloc o0).alloc o1).heap[w.heap.size + 1]? = some o1 ∧ Below w.heap.size w ((w.alloc o0).alloc o1) := by
  have s1 : (w.alloc o0).heap.size = w.heap.size + 1 := by simp
  have g0 := box_at w o0
  have g1 := box_at (w.alloc o0) o1
  rw [s1] at g1
  exact ⟨(Below.heap_alloc _ o1 _ (lt_of_block g0)).trans g0, g1, ((Below.refl _ _).alloc (Nat.le_refl _) _).alloc (by omega) _⟩

theorem note_ext {a b : NoteD} (h1 : a.kind = b.kind) (h2 : a.nums = b.nums) (h3 : a.texts = b.texts) (h4 : a.rows = b.rows) : a = b := by
  cases a; cases b; simp only at h1 h2 h3 h4; subst h1 h2 h3 h4; rfl

theorem IntsAt.parts {w : World} {v : Value} {ns : List Int} (h : IntsAt w v ns) :
    ns.length ≤ 9223372036854775807 ∧ ∃ ao cap, v = .slice ao ns.length cap ∧ (ns = [] ∨ ∃ b o, ao = some ⟨b, o, none⟩ ∧ b < w.heap.size ∧ ∀ (j : Nat) x, ns[j]? = some x → w.cell? ⟨b, o + j, none⟩ = some (.int .i64 x)) := by
  obtain ⟨h1, ao, cap, rfl, h2⟩ := h
  rw [intCs_len] at h1
  refine ⟨h1, ao, cap, by rw [intCs_len], ?_⟩
  rcases h2 with h2 | ⟨b, o, e1, e2, e3⟩
  · left
    have := intCs_len ns
    rw [h2] at this
    exact List.length_eq_zero_iff.1 this.symm
  · exact .inr ⟨b, o, e1, e2, fun j x hx => e3 j _ (by rw [intCs, List.getElem?_map, hx]; rfl)⟩

set_option maxHeartbeats 2000000 in
set_option maxRecDepth 100000 in
theorem sameN_any (va vb : Value) (x y : NoteD) (w : World) (ha : NoteAt w va x) (hb : NoteAt w vb y) :
    Calls Try.prog 45 #[va, vb] w fun e w' => e = .returned (.bool (decide (x = y))) ∧ Below w.heap.size w w' := by
  obtain ⟨vn, vt, vr, rfl, hn, ht, hr⟩ := ha
  obtain ⟨un, ut, ur, rfl, gn, gt, gr⟩ := hb
  obtain ⟨la, aa, ca, rfl, ha⟩ := hn.parts
  obtain ⟨lb, ab, cb, rfl, hb⟩ := gn.parts
  clear hn gn
  obtain ⟨t0, t1, t2⟩ := two_blocks w (.cells #[.int .i64 x.kind, (.slice aa x.nums.length ca), vt, vr] 36) (.cells #[.int .i64 y.kind, (.slice ab y.nums.length cb), ut, ur] 36)
  obtain ⟨W0, hW0⟩ : ∃ W0, W0 = (w.alloc (.cells #[.int .i64 x.kind, (.slice aa x.nums.length ca), vt, vr] 36)).alloc (.cells #[.int .i64 y.kind, (.slice ab y.nums.length cb), ut, ur] 36) := ⟨_, rfl⟩
  rw [← hW0] at t0 t1 t2
  have T0 := Hid.mk t0
  have T1 := Hid.mk t1
  have T2 := Hid.mk t2
  have HW0 := Hid.mk hW0
  have hz : Hid (W0.heap.size = w.heap.size + 2) := Hid.mk (by rw [hW0]; simp)
  clear t0 t1 t2 hW0
  have CELLS : Hid (∀ wr, Below W0.heap.size W0 wr → (wr.cell? ⟨w.heap.size, 1, none⟩ = some (.slice aa x.nums.length ca) ∧ wr.cell? ⟨w.heap.size, 2, none⟩ = some vt ∧ wr.cell? ⟨w.heap.size, 3, none⟩ = some vr) ∧ (wr.cell? ⟨w.heap.size + 1, 1, none⟩ = some (.slice ab y.nums.length cb) ∧ wr.cell? ⟨w.heap.size + 1, 2, none⟩ = some ut ∧ wr.cell? ⟨w.heap.size + 1, 3, none⟩ = some ur) ∧ Below w.heap.size w wr) := Hid.mk (fun wr h => by
    have e0 := (h.block _ (lt_of_block T0.out)).trans T0.out
    have e1 := (h.block _ (lt_of_block T1.out)).trans T1.out
    exact ⟨(four_cells e0).1.2, (four_cells e1).1.2, T2.out.trans (h.mono (by have := hz.out; omega))⟩)
  by_cases hk : x.kind = y.kind
  · have HKE := Hid.mk hk
    by_cases hl : x.nums.length = y.nums.length
    · have HL := Hid.mk hl
      have HA := Hid.mk ha
      have HB := Hid.mk hb
      have hkI : (x.kind != y.kind) = false := by rw [hk]; simp
      have hl2 : ((x.nums.length : Int) != (y.nums.length : Int)) = false := by rw [hl]; simp
      have hlI : (x.nums.length : Int) = (y.nums.length : Int) := by omega
      have HLI := Hid.mk hlI
      clear ha hb hk hl hlI
      go_enter Try.func45, Try.ntmps45
      go_wp2
      go_loopw [5] (fun c wr => ∃ i : Nat, i ≤ x.nums.length ∧ c = .int .i64 i ∧ x.nums.take i = y.nums.take i ∧ Below W0.heap.size W0 wr) (fun c _ => x.nums.length - (intOf c).toNat)
      case atStart => exact ⟨0, Nat.zero_le _, rfl, rfl, by rw [HW0.out]; exact Below.refl _ _⟩
      case round =>
        obtain ⟨i, hi, rfl, htk, hbw⟩ := hrel
        have HT := Hid.mk htk
        clear htk
        obtain ⟨⟨g1, g2, g3⟩, ⟨k1, k2, k3⟩, hbb⟩ := CELLS.out _ hbw
        by_cases hlt : i < x.nums.length
        · obtain ⟨p, hx⟩ : ∃ p, x.nums[i]? = some p := ⟨_, List.getElem?_eq_getElem hlt⟩
          obtain ⟨q, hy⟩ : ∃ q, y.nums[i]? = some q := ⟨_, List.getElem?_eq_getElem (by rw [← HL.out]; exact hlt)⟩
          rcases HA.out with hnil | ⟨ba, oa, rfl, ha1, ha2⟩
          · rw [hnil] at hx; simp at hx
          · rcases HB.out with hnil | ⟨bb, ob, rfl, hb1, hb2⟩
            · rw [hnil] at hy; simp at hy
            · have hcx := (hbb.cell (p := ⟨ba, oa + i, none⟩) ha1).trans (ha2 i p hx)
              have hcy := (hbb.cell (p := ⟨bb, ob + i, none⟩) hb1).trans (hb2 i q hy)
              have HX := Hid.mk hx
              have HY := Hid.mk hy
              have hltI : (i : Int) < (x.nums.length : Int) := by omega
              have hltJ : (i : Int) < (y.nums.length : Int) := by have := HLI.out; omega
              clear hx hy ha2 hb2 hbb
              by_cases hpq : p = q
              · subst hpq
                have hnx : x.nums.take (i + 1) = y.nums.take (i + 1) := by
                  rw [List.take_add_one, List.take_add_one, HT.out, HX.out, HY.out]
                have HN := Hid.mk hnx
                clear hnx
                go_wp2
                go_quiet (fail)
                have hbq := below_drewN hbw nq
                go_wp2
                go_roundw
                case rel => exact ⟨i + 1, by omega, by go_num, HN.out, hbq⟩
                case measure => simp [intOf]; omega
              · have hpq2 : (p != q) = true := by rw [bne_iff_ne]; exact hpq
                have hne : decide (x = y) = false := by
                  rw [decide_eq_false_iff_not]; intro h
                  have a := HX.out
                  rw [h, HY.out] at a
                  exact hpq (Option.some.inj a).symm
                have HN := Hid.mk hne
                clear hne
                go_wp2
                go_quiet (fail)
                have hbq := below_drewN hbw nq
                go_wp2
                go_ret
                exact ⟨by rw [HN.out]; rfl, (CELLS.out _ hbq).2.2⟩
        · have hnums : x.nums = y.nums := by
            have := HT.out
            rw [List.take_of_length_le (by omega), List.take_of_length_le (by rw [← HL.out]; omega)] at this
            exact this
          have HNU := Hid.mk hnums
          have hT1 := Hid.mk (ht.below hbb)
          have hT2 := Hid.mk (gt.below hbb)
          clear hnums
          obtain ⟨W1, hW1⟩ : ∃ W, W = wr := ⟨_, rfl⟩
          subst hW1
          by_cases htx : x.texts = y.texts
          · have HTX := Hid.mk htx
            have C := Hid.mk (same_any vt ut x.texts y.texts W1 hT1.out hT2.out)
            rw [decide_eq_true htx] at C
            clear htx
            go_wp2_with fail
            refine C.out.mono ?_
            rintro e w2 ⟨rfl, hb2⟩
            have hbw2 := keepB hbw hb2 (Nat.le_refl _)
            clear g1 g2 g3 k1 k2 k3 hb2
            obtain ⟨⟨g1, g2, g3⟩, ⟨k1, k2, k3⟩, hbb2⟩ := CELLS.out _ hbw2
            have hR1 := Hid.mk (hr.below hbb2)
            have hR2 := Hid.mk (gr.below hbb2)
            have C2 := Hid.mk (sameRows_any vr ur x.rows y.rows w2 hR1.out hR2.out)
            have HV : Hid (decide (x.rows = y.rows) = decide (x = y)) := Hid.mk (by
              rw [Bool.eq_iff_iff, decide_eq_true_iff, decide_eq_true_iff]
              exact ⟨fun h => note_ext HKE.out HNU.out HTX.out h, fun h => by rw [h]⟩)
            rw [HV.out] at C2
            obtain ⟨B, hB⟩ : ∃ B, B = decide (x = y) := ⟨_, rfl⟩
            rw [← hB] at C2
            have HB2 := Hid.mk hB
            clear hB HV
            go_wp2_with fail
            refine C2.out.mono ?_
            rintro e w3 ⟨rfl, hb3⟩
            have hbw3 := keepB hbw2 hb3 (Nat.le_refl _)
            clear g1 g2 g3 k1 k2 k3 hb3
            go_wp2
            go_ret
            exact ⟨by rw [← HB2.out]; rfl, (CELLS.out _ hbw3).2.2⟩
          · have hne : decide (x = y) = false := by
              rw [decide_eq_false_iff_not]; intro h; exact htx (by rw [h])
            have HN := Hid.mk hne
            have C := Hid.mk (same_any vt ut x.texts y.texts W1 hT1.out hT2.out)
            rw [decide_eq_false htx] at C
            clear htx hne
            go_wp2_with fail
            refine C.out.mono ?_
            rintro e w2 ⟨rfl, hb2⟩
            have hbw2 := keepB hbw hb2 (Nat.le_refl _)
            clear g1 g2 g3 k1 k2 k3 hb2
            go_wp2
            go_ret
            exact ⟨by rw [HN.out]; rfl, (CELLS.out _ hbw2).2.2⟩
    · have hne : decide (x = y) = false := by
        rw [decide_eq_false_iff_not]; intro h; exact hl (by rw [h])
      have HN := Hid.mk hne
      have hl2 : ((x.nums.length : Int) != (y.nums.length : Int)) = true := by rw [bne_iff_ne]; omega
      have hkI : (x.kind != y.kind) = false := by rw [hk]; simp
      have HE := Hid.mk (CELLS.out _ (Below.refl _ _)).2.2
      rw [HW0.out] at HE
      clear hne hk ha hb hl
      go_enter Try.func45, Try.ntmps45
      go_wp2
      go_ret
      exact ⟨by rw [HN.out]; rfl, HE.out⟩
  · have hne : decide (x = y) = false := by
      rw [decide_eq_false_iff_not]; intro h; exact hk (by rw [h])
    have HN := Hid.mk hne
    have hkI : (x.kind != y.kind) = true := by rw [bne_iff_ne]; exact hk
    have HE := Hid.mk (CELLS.out _ (Below.refl _ _)).2.2
    rw [HW0.out] at HE
    clear hne
    go_enter Try.func45, Try.ntmps45
    go_wp2
    go_ret
    exact ⟨by rw [HN.out]; rfl, HE.out⟩
end Go.Proofs.Ytifmpcldiimdbaa

namespace Go.Proofs.Ytifmpcldiimdbaa
open Go.RowKit

/-- Some truth value. -/
def IsBool (e : Ending) : Prop := ∃ b, e = .returned (.bool b)
theorem isBool (b : Bool) : IsBool (.returned (.bool b)) := ⟨b, rfl⟩


def n1 : NoteD := ⟨1, [], [], []⟩
theorem n1_body : n1.body = [1, 1, 0, 0, 0] := by decide +kernel
theorem n1_may : n1.may := by decide +kernel
theorem n1_at (w : World) : NoteAt w (.agg #[.int .i64 1, .slice none 0 0, .slice none 0 0, .slice none 0 0]) n1 :=
  ⟨_, _, _, rfl, ⟨by simp [n1, intCs], none, 0, rfl, .inl rfl⟩, ⟨by simp [n1], none, 0, rfl, .inl rfl⟩, ⟨[], ⟨by simp, none, 0, rfl, .inl rfl⟩, rfl, by simp⟩⟩

/-- A note that is cut is not read. -/
theorem unpackP_cut (b : List UInt8) (hb : b.length ≤ 1048576) (r : List UInt8) (k : Nat) (hk : k < (sealB b).length) : (unpackP ((sealB b ++ r).take k)).2.2 ≠ 0 := by
  rw [List.take_append_of_le_length (by omega)]
  have hl : ((sealB b).take k).length = k := by rw [List.length_take]; omega
  by_cases h8 : k < 8
  · rw [unpackP_1 (by omega)]; simp
  · have hf : fourN ((sealB b).take k) = b.length := by
      have e : (sealB b).take k = fourB b.length ++ (fourB (sumN b) ++ b).take (k - 4) := by
        rw [sealB, List.take_append, List.take_of_length_le (by rw [fourB_len]; omega), fourB_len]
      rw [e]; exact fourN_fourB _ (by omega) _
    rw [sealB_len] at hk
    rw [unpackP_3 (by omega) (by omega) (by omega)]; simp

theorem packV_may {n : NoteD} (h : n.may) : packV n = .tuple #[.string ⟨(sealB n.body).toArray⟩, .int .i64 0] := if_pos h
theorem packV_not {n : NoteD} (h : ¬ n.may) : packV n = .tuple #[.string ⟨#[]⟩, .int .i64 1] := if_neg h

theorem allP_seal (n : NoteD) (h : n.may) (r : List UInt8) : allP (sealB n.body ++ r) = (n :: (allP r).1, (sealB n.body).length + (allP r).2) := by
  have := allP_ok (unpackP_seal n h r)
  rwa [List.drop_left' rfl] at this

theorem awake_all : allP (sealB n1.body ++ (sealB n1.body ++ (sealB n1.body).take 9)) = ([n1, n1], 26) := by
  have e : (sealB n1.body).length = 13 := by rw [sealB_len, n1_body]; rfl
  have hc := allP_end (unpackP_cut n1.body (by rw [n1_body]; decide) [] 9 (by rw [e]; decide))
  rw [List.append_nil] at hc
  rw [allP_seal n1 n1_may, allP_seal n1 n1_may, hc, e]
  rfl

end Go.Proofs.Ytifmpcldiimdbaa

namespace Go.Proofs.Ytifmpcldiimdbaa
open Go.RowKit

/-- A slice of notes in memory, read-only. -/
def NotesAt (w : World) (v : Value) (ns : List NoteD) : Prop :=
  ns.length ≤ 9223372036854775807 ∧ ∃ ao cap, v = .slice ao ns.length cap ∧ (ns = [] ∨ ∃ b o, ao = some ⟨b, o, none⟩ ∧ b < w.heap.size ∧ ∀ (j : Nat) n, ns[j]? = some n → ∃ c1 c2 c3,
    w.cell? ⟨b, o + j * 4, none⟩ = some (.int .i64 n.kind) ∧ w.cell? ⟨b, o + j * 4 + 1, none⟩ = some c1 ∧ w.cell? ⟨b, o + j * 4 + 2, none⟩ = some c2 ∧ w.cell? ⟨b, o + j * 4 + 3, none⟩ = some c3 ∧ NoteAt w (.agg #[.int .i64 n.kind, c1, c2, c3]) n)
theorem NotesAt.below {w w' : World} {v : Value} {ns : List NoteD} (h : NotesAt w v ns) (hb : Below w.heap.size w w') : NotesAt w' v ns := by
  obtain ⟨h1, ao, cap, h2, h3⟩ := h
  refine ⟨h1, ao, cap, h2, ?_⟩
  rcases h3 with h3 | ⟨b, o, ha, hl, hc⟩
  · exact .inl h3
  · refine .inr ⟨b, o, ha, Nat.lt_of_lt_of_le hl hb.size, fun j n hj => ?_⟩
    obtain ⟨c1, c2, c3, a0, a1, a2, a3, a4⟩ := hc j n hj
    have key : ∀ i u, w.cell? ⟨b, i, none⟩ = some u → w'.cell? ⟨b, i, none⟩ = some u := fun i u h => (hb.cell (p := ⟨b, i, none⟩) hl).trans h
    exact ⟨c1, c2, c3, key _ _ a0, key _ _ a1, key _ _ a2, key _ _ a3, a4.below hb⟩
theorem cellAt_wide {w : World} {B g cap n i : Nat} {ao : Option Addr} {e : TypeId} {size : Nat} {xs : List Value} {x : Value} (h : w.ownsRow B e size (.slice ao n cap) n xs) (ha : ao = some ⟨g, 0, none⟩) (hx : xs[i]? = some x) : w.cell? ⟨g, i, none⟩ = some x := by
  subst ha
  have hi := (List.getElem?_eq_some_iff.1 hx).1
  rcases h.2 with ⟨h0, _⟩ | ⟨g', cap', cur, e1, e2, e3, e4, e5, e6, e7⟩
  · simp at h0
  · simp only [Value.slice.injEq, Option.some.injEq, Addr.mk.injEq, and_true] at e1
    obtain ⟨rfl, _, rfl⟩ := e1
    rw [← e7, List.getElem?_take] at hx
    split at hx
    · simp only [World.cell?, e3]
      simpa using hx
    · simp at hx
theorem NotesOwn.at_ {w : World} {B : Nat} {v : Value} {ns : List NoteD} (h : NotesOwn w B v ns) (hl : ns.length ≤ 9223372036854775807) : NotesAt w v ns := by
  obtain ⟨cs, h1, h2⟩ := h
  have h10 := h1
  rcases h1.2 with ⟨rfl, h0⟩ | ⟨g, cap, cur, rfl, e2, e3, e4⟩
  · exact ⟨hl, none, 0, by rw [h0], .inl (List.length_eq_zero_iff.1 h0)⟩
  · refine ⟨hl, _, cap, rfl, .inr ⟨g, 0, rfl, lt_of_block e3, fun j n hj => ?_⟩⟩
    obtain ⟨c1, c2, c3, a0, a1, a2, a3, a4⟩ := h2 j n hj
    simp only [Nat.zero_add]
    exact ⟨c1, c2, c3, cellAt_wide h10 rfl a0, cellAt_wide h10 rfl a1, cellAt_wide h10 rfl a2, cellAt_wide h10 rfl a3, a4.at_⟩

/-- The bytes of notes, one behind the other. -/
def seals (ns : List NoteD) : List UInt8 := (ns.map fun n => sealB n.body).flatten
theorem seals_snoc (ns : List NoteD) (n : NoteD) : seals (ns ++ [n]) = seals ns ++ sealB n.body := by simp [seals]
theorem seals_cons (n : NoteD) (ns : List NoteD) : seals (n :: ns) = sealB n.body ++ seals ns := by simp [seals]

theorem may_sane {n : NoteD} (h : n.may) : n.sane := by
  obtain ⟨_, ⟨h1, h2, _, _⟩, _⟩ := h
  exact ⟨by omega, fun r hr => by have := len_le_cntR hr; omega⟩

theorem allF_sound : ∀ (f : Nat) (l : List UInt8), (∀ n ∈ (allF f l).1, n.may) ∧ l.take (allF f l).2 = seals (allF f l).1 ∧ (allF f l).2 ≤ l.length ∧ (allF f l).1.length * 8 ≤ (allF f l).2
  | 0, l => by simp [allF, seals]
  | f + 1, l => by
    unfold allF
    split
    · rename_i h0
      obtain ⟨n, k, e, hn⟩ : ∃ n k e, unpackP l = (n, k, e) := ⟨_, _, _, rfl⟩
      rw [hn] at h0 ⊢
      simp only at h0 ⊢
      subst h0
      obtain ⟨g1, g2, g3⟩ := unpackP_ok hn
      obtain ⟨u1, u2⟩ := unpackP_used (l := l) (by rw [hn])
      rw [hn] at u1 u2
      simp only at u1 u2
      obtain ⟨i1, i2, i3, i4⟩ := allF_sound f (l.drop k)
      generalize allF f (l.drop k) = q at *
      refine ⟨?_, ?_, ?_, ?_⟩
      · intro m hm
        rcases List.mem_cons.1 hm with rfl | hm
        · exact g1
        · exact i1 m hm
      · rw [seals_cons, ← i2]
        conv => lhs; rw [g2]
        rw [List.take_append, g3, List.take_of_length_le (by omega), Nat.add_sub_cancel_left]
      · rw [List.length_drop] at i3; omega
      · rw [List.length_cons]; omega
    · simp [seals]
theorem allP_sound (l : List UInt8) : (∀ n ∈ (allP l).1, n.may) ∧ l.take (allP l).2 = seals (allP l).1 ∧ (allP l).2 ≤ l.length ∧ (allP l).1.length * 8 ≤ (allP l).2 := allF_sound _ l

theorem seals_append (a b : List NoteD) : seals (a ++ b) = seals a ++ seals b := by simp [seals]
theorem seals_le (ns : List NoteD) (i : Nat) : (seals (ns.take i)).length ≤ (seals ns).length := by
  have e : seals ns = seals (ns.take i) ++ seals (ns.drop i) := by rw [← seals_append, List.take_append_drop]
  rw [e, List.length_append]; omega

end Go.Proofs.Ytifmpcldiimdbaa

namespace Go.Proofs.Ytifmpcldiimdbaa
open Go.RowKit Go.Joins

theorem reach_le : reachBytes ≤ 140737488355328 := by decide

set_option maxRecDepth 100000 in
/-- A slice of texts, and that it is not too long. -/
theorem open_strs2 {H : Type} {enc : TypeId × Value → H} {W : World} {fuel : Nat} {v : Value} {x : DataW H × List MemPlace}
    (hf : DataW.trod enc Try.prog W 0 (fun _ => true) true fuel 27 [v] = some x) (hw : ∀ m ∈ x.1.weights Try.prog 27, m ≤ reachBytes) : ∃ ls, StrsAt W v ls ∧ ls.length ≤ 4611686018427387904 := by
  have hf0 := hf
  rcases Go.ChangeShapes.open_strings Try.underlying27 Try.underlying9 (by kernel_rfl) hf with ⟨hcs, _⟩ | ⟨ad, len', cap', ss, hcs, _, hl, hm, hz, hx, hcell, _⟩
  · simp only [List.cons.injEq, and_true] at hcs
    subst hcs
    exact ⟨[], ⟨by simp, none, 0, rfl, .inl rfl⟩, by simp⟩
  · simp only [List.cons.injEq, and_true] at hcs
    subst hcs
    obtain ⟨ls, h1⟩ := open_strs hf0 rfl
    refine ⟨ls, h1, ?_⟩
    obtain ⟨_, ao, cap, e1, _⟩ := h1
    simp only [Value.slice.injEq] at e1
    obtain ⟨_, rfl, _⟩ := e1
    rw [hx] at hw
    have hb : Try.prog.bytesOf 9 = 16 := by kernel_rfl
    have := hw (((Go.ChangeShapes.strs (H := H) (ss.take ls.length)).length + (Go.ChangeShapes.strs (H := H) (ss.drop ls.length)).length) * 16) (by simp [DataW.weights, Try.underlying27, hb])
    have hr := reach_le
    simp only [if_true] at hz
    simp only [Go.ChangeShapes.strs, List.length_map, List.length_take, List.length_drop] at this
    omega

theorem weights_mem_all {H : Type} {P : Program} {e : TypeId} : ∀ {l : List (DataW H)} {d : DataW H}, d ∈ l → ∀ n ∈ d.weights P e, n ∈ DataW.weightsAll P e l
  | [], _, h, _, _ => by simp at h
  | x :: l, d, h, n, hn => by
    rw [DataW.weightsAll, List.mem_append]
    rcases List.mem_cons.1 h with rfl | h
    · exact .inl hn
    · exact .inr (weights_mem_all h n hn)

set_option maxRecDepth 100000 in
theorem open_rows2 {H : Type} {enc : TypeId × Value → H} {W : World} {fuel : Nat} {v : Value} {x : DataW H × List MemPlace}
    (hf : DataW.trod enc Try.prog W 0 (fun _ => true) true fuel 34 [v] = some x) (hw : ∀ m ∈ x.1.weights Try.prog 34, m ≤ reachBytes) :
    ∃ rs, RowsAt W v rs ∧ ∀ r ∈ rs, r.length ≤ 4611686018427387904 := by
  rcases Go.Deep.open_slice1 Try.underlying34 (by kernel_rfl) hf with ⟨hcs, _⟩ | ⟨a, len, cap, m, n, V, D, Pl, hcs, _, hl, hm, hmm, hx, hcell⟩
  · simp only [List.cons.injEq, and_true] at hcs
    subst hcs
    exact ⟨[], ⟨[], ⟨by simp, none, 0, rfl, .inl rfl⟩, rfl, by simp⟩, by simp⟩
  · simp only [List.cons.injEq, and_true] at hcs
    subst hcs
    simp only [if_true] at hmm
    have key : ∀ i, i < len → ∃ ls, StrsAt W (V i) ls ∧ ls.length ≤ 4611686018427387904 := by
      intro i hi
      refine open_strs2 (hcell i (by omega)).2 (fun q hq => hw q ?_)
      rw [hx]
      simp only [DataW.weights, Try.underlying34]
      exact List.mem_cons_of_mem _ (List.mem_append_left _ (weights_mem_all (List.mem_map.2 ⟨i, List.mem_range.2 hi, rfl⟩) q hq))
    obtain ⟨F, hF⟩ : ∃ F : Nat → List (List UInt8), ∀ i, i < len → StrsAt W (V i) (F i) ∧ (F i).length ≤ 4611686018427387904 :=
      ⟨fun i => if h : i < len then Classical.choose (key i h) else [], fun i hi => by simp only [hi, dif_pos]; exact Classical.choose_spec (key i hi)⟩
    have hvl : ((List.range len).map V).length = len := by simp
    refine ⟨(List.range len).map F, ⟨(List.range len).map V, ⟨by rw [hvl]; unfold maxLen at hm; omega, some a, cap, by rw [hvl], ?_⟩, by simp, ?_⟩, ?_⟩
    · by_cases h0 : len = 0
      · left; rw [h0]; rfl
      · right
        obtain ⟨b, off, spot⟩ := a
        have hspot : spot = none := by simpa [Addr.add] using World.cell?_spot (hcell 0 (by omega)).1
        subst hspot
        refine ⟨b, off, rfl, World.block_lt_of_cell? W _ (hcell 0 (by omega)).1, fun j u hj => ?_⟩
        have hj1 : j < len := by have := (List.getElem?_eq_some_iff.1 hj).1; rwa [hvl] at this
        rw [List.getElem?_map, List.getElem?_range hj1] at hj
        simp only [Option.map_some, Option.some.injEq] at hj
        rw [← Go.WideShapes.add_plain, (hcell j (by omega)).1, hj]
    · intro j u r hu hr
      have hj1 : j < len := by have := (List.getElem?_eq_some_iff.1 hu).1; rwa [hvl] at this
      rw [List.getElem?_map, List.getElem?_range hj1] at hu hr
      simp only [Option.map_some, Option.some.injEq] at hu hr
      subst hu hr
      exact (hF j hj1).1
    · intro r hr
      obtain ⟨i, hi, rfl⟩ := List.mem_map.1 hr
      exact (hF i (List.mem_range.1 hi)).2

set_option maxRecDepth 100000 in
theorem open_nums2 {H : Type} {enc : TypeId × Value → H} {W : World} {fuel : Nat} {v : Value} {x : DataW H × List MemPlace}
    (hf : DataW.trod enc Try.prog W 0 (fun _ => true) true fuel 33 [v] = some x) : ∃ ns, IntsAt W v ns := by
  rcases Go.ChangeShapes.open_ints Try.underlying33 Try.underlying3 (by kernel_rfl) hf with ⟨hcs, _⟩ | ⟨a, len, cap, zs, hcs, _, hl, hm, hz, _, hcell, _⟩
  · simp only [List.cons.injEq, and_true] at hcs
    subst hcs
    exact ⟨[], by simp [intCs], none, 0, rfl, .inl rfl⟩
  · simp only [List.cons.injEq, and_true] at hcs
    subst hcs
    simp only [if_true] at hz
    have hl2 : (intCs (zs.take len)).length = len := by rw [intCs_len, List.length_take]; omega
    refine ⟨zs.take len, by rw [hl2]; unfold maxLen at hm; omega, some a, cap, by rw [hl2], ?_⟩
    by_cases h0 : len = 0
    · left; rw [h0]; rfl
    · right
      obtain ⟨b, off, spot⟩ := a
      have hspot : spot = none := by simpa [Addr.add] using World.cell?_spot (hcell 0 (by omega))
      subst hspot
      refine ⟨b, off, rfl, World.block_lt_of_cell? W _ (hcell 0 (by omega)), fun j t hj => ?_⟩
      have hj1 : j < len := by have := (List.getElem?_eq_some_iff.1 hj).1; rw [hl2] at this; exact this
      rw [intCs, List.getElem?_map, List.getElem?_take_of_lt hj1, List.getElem?_eq_getElem (by omega)] at hj
      simp only [Option.map_some, Option.some.injEq] at hj
      rw [← Go.WideShapes.add_plain, hcell j (by omega), List.getD, List.getElem?_eq_getElem (by omega), ← hj]; rfl

set_option maxRecDepth 100000 in
/-- A note's four cells. -/
theorem open_note {H : Type} {enc : TypeId × Value → H} {W : World} {fuel : Nat} {cs : List Value} {x : DataW H × List MemPlace}
    (hf : DataW.trod enc Try.prog W 0 (fun _ => true) true fuel 36 cs = some x) (hw : ∀ m ∈ x.1.weights Try.prog 36, m ≤ reachBytes) :
    ∃ nd c1 c2 c3, cs = [.int .i64 nd.kind, c1, c2, c3] ∧ NoteAt W (.agg #[.int .i64 nd.kind, c1, c2, c3]) nd ∧ nd.sane := by
  obtain ⟨y0, y1, y2, y3, n, hx, hlen, h0, h1, h2, h3⟩ := trod_struct4 Try.underlying36 hf
  have e4 : Try.prog.cellsOf 36 = 4 := by kernel_rfl
  have e0 : Try.prog.cellsOf 3 = 1 := by kernel_rfl
  have e1 : Try.prog.cellsOf 33 = 1 := by kernel_rfl
  have e2 : Try.prog.cellsOf 27 = 1 := by kernel_rfl
  have e3 : Try.prog.cellsOf 34 = 1 := by kernel_rfl
  rw [e4] at hlen
  obtain ⟨c0, c1, c2, c3, rfl⟩ : ∃ c0 c1 c2 c3, cs = [c0, c1, c2, c3] := by
    match cs, hlen with
    | [c0, c1, c2, c3], _ => exact ⟨c0, c1, c2, c3, rfl⟩
  simp only [e0, e1, e2, e3, List.drop_zero, List.drop_succ_cons, List.take_succ_cons, List.take_zero] at h0 h1 h2 h3
  rw [hx] at hw
  simp only [DataW.weights, Try.underlying36, List.map_cons, List.map_nil, DataW.weightsEach, List.append_nil] at hw
  obtain ⟨k, hk, _, _⟩ := DataW.trod_int Try.underlying3 h0
  simp only [List.cons.injEq, and_true] at hk
  subst hk
  obtain ⟨ns, hns⟩ := open_nums2 h1
  obtain ⟨ts, hts, htl⟩ := open_strs2 h2 (fun m hm => hw m (by simp [hm]))
  obtain ⟨rs, hrs, hrl⟩ := open_rows2 h3 (fun m hm => hw m (by simp [hm]))
  exact ⟨⟨k, ns, ts, rs⟩, c1, c2, c3, rfl, ⟨c1, c2, c3, rfl, hns, hts, hrs⟩, htl, hrl⟩

end Go.Proofs.Ytifmpcldiimdbaa
