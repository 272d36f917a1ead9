/- There are so many facts, and no more. -/
import Derived.Test.YtiabnjjdeikefaaSFullM
namespace Go.Proofs.Ytiabnjjdeikefaa
open Go.RowKit

theorem Live.grown {w0 w u : World} {S : Nat → Prop} {b : Nat} {All : List (List Tri)} {row : Option Nat} (h : Live w0 w S b All) (hg : w.grownBy u row) (hr : ∀ g, row = some g → S g ∧ w0.heap.size ≤ g) : Live w0 u (Plus S w.heap.size u.heap.size) b All := by
  refine ⟨h.low.plus hg.size, fun k hk => .inl (h.sub k hk), ?_, h.bel.grown hg h.bel.size (fun k e => (hr k e).2)⟩
  refine (h.q.more (T := Plus S w.heap.size u.heap.size) (fun k hk => by
    rcases hk with hk | hk
    · exact .inl hk
    · exact .inr hk.1)).keepOut (fun k o hk ho => (hg.block k (lt_of_block ho) (fun e => hk (.inl (hr k e.symm).1))).trans ho)
/-- Changes that a statement lays one behind the other, beside a store. -/
structure ChR (w0 w : World) (S : Nat → Prop) (v : Value) (bt : List Chg) : Prop where
  row : w.ownsRow w0.heap.size 54 4 v bt.length (bt.flatMap cs4)
  inS : ∀ g, v.ownBlock = some g → S g
theorem ChR.nil (w0 w : World) (S : Nat → Prop) : ChR w0 w S (.slice none 0 0) [] := ⟨⟨rfl, .inl ⟨rfl, rfl⟩⟩, by intro g hg; simp [Value.ownBlock] at hg⟩
theorem ChR.plus {w0 w w' : World} {S : Nat → Prop} {v : Value} {bt : List Chg} (h : ChR w0 w S v bt) (hb : Below w.heap.size w w') : ChR w0 w' (Plus S w.heap.size w'.heap.size) v bt := ⟨owns_below h.row hb, fun g hg => .inl (h.inS g hg)⟩
theorem ChR.push {w0 w u : World} {S : Nat → Prop} {v : Value} {bt : List Chg} {c : Chg} {g cap : Nat} (h : ChR w0 w S v bt)
    (hown : u.ownsRow w0.heap.size 54 4 (.slice (some ⟨g, 0, none⟩) (bt.length + 1) cap) (bt.length + 1) (bt.flatMap cs4 ++ cs4 c)) (ha : v.ownBlock = some g ∨ g = w.heap.size + 1) (hl : g < u.heap.size) :
    ChR w0 u (Plus S w.heap.size u.heap.size) (.slice (some ⟨g, 0, none⟩) (bt.length + 1) cap) (bt ++ [c]) := by
  refine ⟨by simpa [List.flatMap_append] using hown, fun g' hg' => ?_⟩
  have e1 : g = g' := by simpa [Value.ownBlock] using hg'
  subst e1
  rcases ha with e2 | e2
  · exact .inl (h.inS g e2)
  · exact .inr ⟨by omega, hl⟩
theorem infoC : (Try.prog.info? 54).map (fun i => (i.zero, i.size, i.bytes)) = some (some (.agg #[.bool false, .string ⟨#[]⟩, .string ⟨#[]⟩, .string ⟨#[]⟩]), 4, 56) := by kernel_rfl
theorem bytes3 (w : World) (a b c : Nat) (ha : a < 256) (hb : b < 256) (hc : c < 256) : (convert 56 9 (.slice (some ⟨w.heap.size, 0, none⟩) 3 3)).run Try.prog (w.alloc (.cells #[.int .u8 (a : Int), .int .u8 (b : Int), .int .u8 (c : Int)] 5)) = .ok (strV [UInt8.ofNat a, UInt8.ofNat b, UInt8.ofNat c]) (w.alloc (.cells #[.int .u8 (a : Int), .int .u8 (b : Int), .int .u8 (c : Int)] 5)) := by
  have h : Bytes (w.alloc (.cells #[.int .u8 (a : Int), .int .u8 (b : Int), .int .u8 (c : Int)] 5)) w.heap.size [UInt8.ofNat a, UInt8.ofNat b, UInt8.ofNat c] := by
    obtain ⟨⟨c0, c1, c2⟩, ⟨f0, f1, f2⟩⟩ := three_cells (box_at w (.cells #[.int .u8 (a : Int), .int .u8 (b : Int), .int .u8 (c : Int)] 5))
    refine ⟨by simp, fun j x hx => ?_⟩
    match j, hx with
    | 0, hx => simp only [List.getElem?_cons_zero, Option.some.injEq] at hx; subst hx; rw [ofNat_toNat ha]; exact ⟨c0, f0⟩
    | 1, hx => simp only [List.getElem?_cons_succ, List.getElem?_cons_zero, Option.some.injEq] at hx; subst hx; rw [ofNat_toNat hb]; exact ⟨c1, f1⟩
    | 2, hx => simp only [List.getElem?_cons_succ, List.getElem?_cons_zero, Option.some.injEq] at hx; subst hx; rw [ofNat_toNat hc]; exact ⟨c2, f2⟩
    | j + 3, hx => simp at hx
  exact h.conv 3
theorem bytes1 (w : World) (a : Nat) (ha : a < 256) : (convert 56 9 (.slice (some ⟨w.heap.size, 0, none⟩) 1 1)).run Try.prog (w.alloc (.cells #[.int .u8 (a : Int)] 5)) = .ok (strV [UInt8.ofNat a]) (w.alloc (.cells #[.int .u8 (a : Int)] 5)) := by
  have h : Bytes (w.alloc (.cells #[.int .u8 (a : Int)] 5)) w.heap.size [UInt8.ofNat a] := by
    have hb := box_at w (.cells #[.int .u8 (a : Int)] 5)
    refine ⟨by simp, fun j x hx => ?_⟩
    match j, hx with
    | 0, hx => simp only [List.getElem?_cons_zero, Option.some.injEq] at hx; subst hx; rw [ofNat_toNat ha]; exact ⟨cell_new_at w 0 rfl, by simp only [World.frozen?, hb]; rfl⟩
    | j + 1, hx => simp at hx
  exact h.conv 1

set_option maxHeartbeats 16000000 in
set_option maxRecDepth 100000 in
theorem storeFull_walk (more : Int) (gone : Bool) (w : World) (_ : (Lit.int .i64 more).wf = true) :
    Calls Try.prog 7 #[.int .i64 more, .bool gone] w fun e w' => e = .returned (.bool true) ∧ Below w.heap.size w w' := by
  obtain ⟨i0, hi0, hz0, hz1, hz2⟩ := info_parts infoC
  have hand := i64_mask more 2 3 4 (by omega) (by decide) (by decide)
  obtain ⟨k, hk⟩ : ∃ k : Nat, more % 4 = (k : Int) := ⟨(more % 4).toNat, by omega⟩
  have hk3 : k ≤ 3 := by omega
  rw [hk] at hand
  clear hk
  have C0 := Hid.mk (live_new w)
  go_enter Try.func7, Try.ntmps7
  go_wp2_with fail
  refine C0.out.mono ?_
  rintro e w1 ⟨b, rfl, hl1⟩
  have L1 := Hid.mk hl1
  clear hl1 C0
  go_wp2_with fail
  go_loopw [6, 7] (fun s6 s7 wr => ∃ (q : Nat) (S : Nat → Prop) (All : List (List Tri)), q ≤ 64 ∧ s6 = .int .i64 ((64 * q : Nat) : Int) ∧ s7 = .int .i64 ((q : Int) + 1) ∧ Live w wr S b All ∧ Filled All q) (fun _ s7 _ => 66 - (intOf s7).toNat)
  case atStart => exact ⟨0, _, _, by omega, rfl, rfl, L1.out, filled_new⟩
  case round =>
    obtain ⟨q, S2, All, hq, rfl, rfl, hl2, hfil⟩ := hrel
    have L2 := Hid.mk hl2
    have HFil := Hid.mk hfil
    have hAl : All.length ≤ 65 := by have := hfil.len; omega
    have HRi : Hid (Rise (lastT All)) := Hid.mk (by
      obtain ⟨ts, hh⟩ := hl2.hist
      exact hh.rise _ (lastT_mem hh.one))
    clear hl2 hfil
    obtain ⟨B, hB⟩ : ∃ B, B = 64 * q := ⟨_, rfl⟩
    rw [← hB]
    have HB := Hid.mk hB
    have hBl : B ≤ 4096 := by omega
    by_cases hq64 : q < 64
    · have hqI : (q : Int) + 1 ≤ 64 := by omega
      have hBl2 : B + 64 ≤ 4096 := by omega
      obtain ⟨wx, hwx⟩ : ∃ wx, wx = wr := ⟨_, rfl⟩
      subst hwx
      clear hB
      go_wp2_with fail
      go_loopw [6, 8, 9] (fun s6 s8 s9 wr => ∃ (i : Nat) (S : Nat → Prop) (vl : Value), vl = s8 ∧ i ≤ 64 ∧ s6 = .int .i64 ((B + i : Nat) : Int) ∧ s9 = .int .i64 i ∧ Live w wr S b All ∧ ChR w wr S vl (adds (fNs B i))) (fun _ _ s9 _ => 64 - (intOf s9).toNat)
      case atStart => exact ⟨0, _, _, rfl, by omega, rfl, rfl, L2.out, ChR.nil _ _ _⟩
      case round =>
        obtain ⟨i, S3, vl, rfl, hi, rfl, rfl, hl3, hr3⟩ := hrel
        obtain ⟨av, cv, hvl⟩ := own_slice hr3.row
        subst hvl
        have L3 := Hid.mk hl3
        have R3 := Hid.mk hr3
        clear hl3 hr3
        have eLn : (adds (fNs B i)).length = i := by rw [adds_len, len_fNs]
        by_cases hi64 : i < 64
        · have hiI : (i : Int) < 64 := by omega
          obtain ⟨nn, hnn⟩ : ∃ nn, nn = B + i := ⟨_, rfl⟩
          rw [← hnn]
          have hnl : nn < 4096 := by omega
          obtain ⟨r1, hr1⟩ : ∃ r, r = nn % 26 := ⟨_, rfl⟩
          obtain ⟨r2, hr2⟩ : ∃ r, r = nn / 26 % 26 := ⟨_, rfl⟩
          obtain ⟨r3, hr3⟩ : ∃ r, r = nn / 676 := ⟨_, rfl⟩
          obtain ⟨d2, hd2⟩ : ∃ r, r = nn / 26 := ⟨_, rfl⟩
          have b1 : r1 < 26 := by omega
          have b2 : r2 < 26 := by omega
          have b3 : r3 < 7 := by omega
          have t1 : (nn : Int) % 26 = (r1 : Int) := by omega
          have t2 : (nn : Int) / 26 = (d2 : Int) := by omega
          have t3 : (d2 : Int) % 26 = (r2 : Int) := by omega
          have t4 : (nn : Int) / 676 = (r3 : Int) := by omega
          have hconv : (convert 56 9 (.slice (some ⟨wr.heap.size, 0, none⟩) 3 3)).run Try.prog (wr.alloc (.cells #[.int .u8 (97 + (r1 : Int)), .int .u8 (97 + (r2 : Int)), .int .u8 (97 + (r3 : Int))] 5)) = .ok (strV (nmB nn)) (wr.alloc (.cells #[.int .u8 (97 + (r1 : Int)), .int .u8 (97 + (r2 : Int)), .int .u8 (97 + (r3 : Int))] 5)) := by
            have h := bytes3 wr (97 + r1) (97 + r2) (97 + r3) (by omega) (by omega) (by omega)
            push_cast at h
            rw [h, hr1, hr2, hr3]
            rfl
          have HNN := Hid.mk hnn
          have ELN := Hid.mk eLn
          have hwI : (nn : Int) + 1 ≤ 5000 := by omega
          obtain ⟨nl, hnlx⟩ : ∃ nl, nl = (adds (fNs B i)).length := ⟨_, rfl⟩
          rw [← hnlx]
          have hnl2 : nl ≤ 64 := by rw [hnlx, eLn]; omega
          have HNL := Hid.mk hnlx
          obtain ⟨W4, hW4⟩ : ∃ W4, W4 = wr.alloc (.cells #[.int .u8 (97 + (r1 : Int)), .int .u8 (97 + (r2 : Int)), .int .u8 (97 + (r3 : Int))] 5) := ⟨_, rfl⟩
          have hB4 : Below wr.heap.size wr W4 := by rw [hW4]; exact (Below.refl _ _).alloc (Nat.le_refl _) _
          have R4 := Hid.mk (R3.out.plus hB4)
          have L4 := Hid.mk (L3.out.plus hB4)
          have hs4 := L3.out.bel.size
          have HR3 : Hid (wr.ownsRow w.heap.size 54 4 (.slice av nl cv) nl ((adds (fNs B i)).flatMap cs4)) := Hid.mk (by have := R3.out.row; rw [← hnlx] at this; exact this)
          have HW4 := Hid.mk hW4
          obtain ⟨sx, hsx⟩ : ∃ sx, sx = nmB nn := ⟨_, rfl⟩
          rw [← hsx] at hconv
          have HSX := Hid.mk hsx
          clear hnn hr1 hr2 hr3 hd2 eLn hnlx hW4 hB4 hsx
          have hn5 : (wr.alloc (.cells #[.int .u8 (97 + (r1 : Int)), .int .u8 (97 + (r2 : Int)), .int .u8 (97 + (r3 : Int))] 5)).heap.size = wr.heap.size + 1 := by simp
          have HN5 := Hid.mk hn5
          clear hn5
          go_wp2_with (at_builtin; refine wpList_append_lies _ rfl _ _ _ rfl w.heap.size 54 i0 _ 4 56 Try.underlying33 hi0 hz0 hz1 hz2 rfl (by decide) (.slice av nl cv) _ _ (by rfl) ((HR3.out.alloc _).alloc _) ⟨wr.heap.size + 1, 0, none⟩ 1 1 [.bool false, strV sx, strV [112], strV [111]] (by rfl) (by rfl) ?d1 ?d2 (by decide) ?d3 ?d4 ?d5 (wr.heap.size + 2) (by simp) ?_)
          case d1 =>
            have := World.news_of_block (cs := #[.bool false, strV sx, strV [112], strV [111]]) (t := 54) (fr := (0, 0)) (heap_alloc_new (wr.alloc (.cells #[.int .u8 (97 + (r1 : Int)), .int .u8 (97 + (r2 : Int)), .int .u8 (97 + (r3 : Int))] 5)) (.cells #[.bool false, strV sx, strV [112], strV [111]] 54))
            rw [HN5.out] at this
            exact this
          case d2 => simp [Value.oneCell']
          case d3 => unfold maxLen; omega
          case d4 => omega
          case d5 => simp; omega
          intro g5 cap5 w5 hown5 hgrow5 hat5 hlt5
          have HZ4 : Hid (W4.heap.size = wr.heap.size + 1) := Hid.mk (by rw [HW4.out]; exact HN5.out)
          rw [← HW4.out] at hgrow5
          have R5 : Hid (ChR w w5 (Plus (Plus S3 wr.heap.size W4.heap.size) W4.heap.size w5.heap.size) (.slice (some ⟨g5, 0, none⟩) (nl + 1) cap5) (adds (fNs B (i + 1)))) := Hid.mk (by
            rw [adds_snoc, ← HNN.out, HNL.out]
            refine R4.out.push ?_ (by rw [← HNL.out]; exact hat5.imp id (fun h => by rw [h, HZ4.out])) hlt5
            have h2 := hown5
            rw [HNL.out, HSX.out] at h2
            exact h2)
          have L5 := Hid.mk (L4.out.grown ((World.grownBy_alloc W4 (.cells #[.bool false, strV sx, strV [112], strV [111]] 54) _).trans hgrow5) (fun g e => ⟨R4.out.inS g (by rw [← HNL.out]; exact e), (R4.out.row.lt g (by rw [← HNL.out]; exact e)).1⟩))
          have HN6 : Hid ((nn : Int) + 1 = ((B + (i + 1) : Nat) : Int)) := Hid.mk (by rw [HNN.out]; push_cast; omega)
          clear hown5 hgrow5 hat5 hlt5 R4 L4 hs4
          go_wp2
          go_roundw
          case rel => exact ⟨i + 1, _, _, rfl, by omega, by rw [← HN6.out], by go_num, L5.out, R5.out⟩
          case measure => simp [intOf]; omega
        · have hiI : ¬ (i : Int) < 64 := by omega
          have hi2 : i = 64 := by omega
          subst hi2
          obtain ⟨hE, hF2⟩ := HFil.out.next HRi.out hq64
          rw [← HB.out] at hE hF2
          have CA := Hid.mk (L3.out.apply (own_sl cs4_len R3.out.row rfl) (by rw [eLn]; omega) ((q : Int) + 1) (by omega))
          rw [hE] at CA
          obtain ⟨A2, hA2⟩ : ∃ A2, A2 = apA All ((q : Int) + 1) (adds (fNs B 64)) := ⟨_, rfl⟩
          rw [← hA2] at CA hF2
          have HF2 := Hid.mk hF2
          obtain ⟨nl, hnlx⟩ : ∃ nl, nl = (adds (fNs B 64)).length := ⟨_, rfl⟩
          rw [← hnlx] at CA ⊢
          have HN6 : Hid (((B + 64 : Nat) : Int) = ((64 * (q + 1) : Nat) : Int)) := Hid.mk (by rw [HB.out]; push_cast; omega)
          clear hE hF2 hA2 hnlx eLn
          go_wp2_with fail
          refine CA.out.mono ?_
          rintro e w6 ⟨rfl, hl6, _⟩
          have L6 := Hid.mk hl6
          clear hl6 CA
          go_wp2
          go_roundw
          case rel => exact ⟨q + 1, _, _, by omega, by rw [← HN6.out]; push_cast; rfl, by go_num, L6.out, HF2.out⟩
          case measure => simp [intOf]; omega
    · have hqI : ¬ (q : Int) + 1 ≤ 64 := by omega
      have hq2 : q = 64 := by omega
      subst hq2
      have HRs : Hid (∀ F ∈ All, Rise F) := Hid.mk (by
        obtain ⟨ts, hh⟩ := L2.out.hist
        exact hh.rise)
      clear hB HB
      have hs2 := L2.out.bel.size
      cases gone with
      | false =>
        have LS := L2
        have RS : Hid (ChR w wr S2 (.slice none 0 0) (lastB false 0)) := Hid.mk (ChR.nil _ _ _)

        go_wp2_with fail
        go_loopw [10, 12] (fun s10 s12 wr => ∃ (i : Nat) (S : Nat → Prop) (vl : Value), vl = s10 ∧ i ≤ k ∧ s12 = .int .i64 i ∧ Live w wr S b All ∧ ChR w wr S vl (lastB false i)) (fun _ s12 _ => k - (intOf s12).toNat)
        case atStart => exact ⟨0, _, _, rfl, Nat.zero_le _, rfl, LS.out, RS.out⟩
        case round =>
          obtain ⟨i, S6, vl, rfl, hi, rfl, hl6, hr6⟩ := hrel
          obtain ⟨av, cv, hvl⟩ := own_slice hr6.row
          subst hvl
          have L6 := Hid.mk hl6
          have R6 := Hid.mk hr6
          clear hl6 hr6
          have hll : (lastB false i).length ≤ i + 1 := by simp [lastB, adds, nws]
          obtain ⟨nl, hnlx⟩ : ∃ nl, nl = (lastB false i).length := ⟨_, rfl⟩
          rw [← hnlx] at hll ⊢
          have NLX := Hid.mk hnlx
          clear hnlx
          by_cases hik : i < k
          · have hikI : (i : Int) < (k : Int) := by omega
            have hconv : (convert 56 9 (.slice (some ⟨wr.heap.size, 0, none⟩) 1 1)).run Try.prog (wr.alloc (.cells #[.int .u8 (97 + (i : Int))] 5)) = .ok (strV [UInt8.ofNat (97 + i)]) (wr.alloc (.cells #[.int .u8 (97 + (i : Int))] 5)) := by
              have h := bytes1 wr (97 + i) (by omega)
              push_cast at h
              exact h
            obtain ⟨W4, hW4⟩ : ∃ W4, W4 = wr.alloc (.cells #[.int .u8 (97 + (i : Int))] 5) := ⟨_, rfl⟩
            have hB4 : Below wr.heap.size wr W4 := by rw [hW4]; exact (Below.refl _ _).alloc (Nat.le_refl _) _
            have R4 := Hid.mk (R6.out.plus hB4)
            have L4 := Hid.mk (L6.out.plus hB4)
            have hs4 := L6.out.bel.size
            have HR3 : Hid (wr.ownsRow w.heap.size 54 4 (.slice av nl cv) nl ((lastB false i).flatMap cs4)) := Hid.mk (by have := R6.out.row; rw [← NLX.out] at this; exact this)
            have HZ4 : Hid (W4.heap.size = wr.heap.size + 1) := Hid.mk (by rw [hW4]; simp)
            have HW4 := Hid.mk hW4
            obtain ⟨sx, hsx⟩ : ∃ sx, sx = [UInt8.ofNat (97 + i)] := ⟨_, rfl⟩
            rw [← hsx] at hconv
            have HSX := Hid.mk hsx
            clear hW4 hB4 hsx
            go_wp2_with (at_builtin; refine wpList_append_lies _ rfl _ _ _ rfl w.heap.size 54 i0 _ 4 56 Try.underlying33 hi0 hz0 hz1 hz2 rfl (by decide) (.slice av nl cv) _ _ (by rfl) ((HR3.out.alloc _).alloc _) ⟨wr.heap.size + 1, 0, none⟩ 1 1 [.bool false, strV [110, 101, 119], strV [112], strV sx] (by rfl) (by rfl) ?d1 ?d2 (by decide) ?d3 ?d4 ?d5 (wr.heap.size + 2) (by simp) ?_)
            case d1 =>
              have := World.news_of_block (cs := #[.bool false, strV [110, 101, 119], strV [112], strV sx]) (t := 54) (fr := (0, 0)) (heap_alloc_new W4 (.cells #[.bool false, strV [110, 101, 119], strV [112], strV sx] 54))
              rw [HZ4.out] at this
              rw [← HW4.out]
              exact this
            case d2 => simp [Value.oneCell']
            case d3 => unfold maxLen; omega
            case d4 => omega
            case d5 => simp; omega
            intro g5 cap5 w5 hown5 hgrow5 hat5 hlt5
            rw [← HW4.out] at hgrow5
            have R5 : Hid (ChR w w5 (Plus (Plus S6 wr.heap.size W4.heap.size) W4.heap.size w5.heap.size) (.slice (some ⟨g5, 0, none⟩) (nl + 1) cap5) (lastB false (i + 1))) := Hid.mk (by
              rw [lastB_succ, NLX.out]
              refine R4.out.push ?_ (by rw [← NLX.out]; exact hat5.imp id (fun h => by rw [h, HZ4.out])) hlt5
              have h2 := hown5
              rw [NLX.out, HSX.out] at h2
              exact h2)
            have L5 := Hid.mk (L4.out.grown ((World.grownBy_alloc W4 (.cells #[.bool false, strV [110, 101, 119], strV [112], strV sx] 54) _).trans hgrow5) (fun g e => ⟨R4.out.inS g (by rw [← NLX.out]; exact e), (R4.out.row.lt g (by rw [← NLX.out]; exact e)).1⟩))
            clear hown5 hgrow5 hat5 hlt5 R4 L4 hs4
            go_wp2
            go_roundw
            case rel => exact ⟨i + 1, _, _, rfl, by omega, by go_num, L5.out, R5.out⟩
            case measure => simp [intOf]; omega
          · have hikI : ¬ (i : Int) < (k : Int) := by omega
            have hik2 : i = k := by omega
            subst hik2
            rcases (by omega : i = 0 ∨ i = 1 ∨ i = 2 ∨ i = 3) with hkk | hkk | hkk | hkk
            · subst hkk
              have CA := Hid.mk (L6.out.apply (own_sl cs4_len R6.out.row rfl) (by have := NLX.out; omega) 65 (by omega))
              rw [(full_answers HFil.out HRs.out false (k := 0) (by omega)).1, show (if fitsK false 0 = true then 0 else 2) = 0 from rfl, ← NLX.out] at CA
              have HRM := Hid.mk (((full_answers HFil.out HRs.out false (k := 0) (by omega)).2).trans (show (false && decide (0 = 0)) = false from rfl))
              clear R6 L6
              obtain ⟨A2, hA2⟩ : ∃ A2, A2 = apA All 65 (lastB false 0) := ⟨_, rfl⟩
              rw [← hA2] at CA HRM
              clear hA2
              go_wp2_with fail
              refine CA.out.mono ?_
              rintro e w7 ⟨rfl, hl7, _⟩
              obtain ⟨W8, hW8⟩ : ∃ W8, W8 = w7.alloc (.cells #[.bool false, strV [122, 122], strV [112], strV [111]] 54) := ⟨_, rfl⟩
              have hB8 : Below w7.heap.size w7 W8 := by rw [hW8]; exact (Below.refl _ _).alloc (Nat.le_refl _) _
              have hv8 : ChgsS (fun _ => True) W8 (.slice (some ⟨w7.heap.size, 0, none⟩) 1 1) [(false, zzT)] := by
                rw [hW8]; exact sl_new cs4_len w7 [(false, zzT)] 54 1 1 rfl
              have CR := Hid.mk (room_any (hl7.below hB8).q hv8 (by decide))
              rw [HRM.out] at CR
              have L8 := Hid.mk (hl7.below hB8)
              have HW8 := Hid.mk hW8
              clear hl7 hW8 hB8 hv8 CA
              go_wp2_with fail
              rw [← HW8.out]
              refine CR.out.mono ?_
              rintro e w9 ⟨rfl, hb9⟩
              have CX := Hid.mk (L8.out.below hb9).awake
              clear hb9 CR
              go_wp2_with fail
              refine CX.out.mono ?_
              rintro e w10 ⟨rfl, hb10⟩
              go_wp2
              go_ret
              exact ⟨rfl, hb10⟩
            · subst hkk
              have CA := Hid.mk (L6.out.apply (own_sl cs4_len R6.out.row rfl) (by have := NLX.out; omega) 65 (by omega))
              rw [(full_answers HFil.out HRs.out false (k := 1) (by omega)).1, show (if fitsK false 1 = true then 0 else 2) = 2 from rfl, ← NLX.out] at CA
              have HRM := Hid.mk (((full_answers HFil.out HRs.out false (k := 1) (by omega)).2).trans (show (false && decide (1 = 0)) = false from rfl))
              clear R6 L6
              obtain ⟨A2, hA2⟩ : ∃ A2, A2 = apA All 65 (lastB false 1) := ⟨_, rfl⟩
              rw [← hA2] at CA HRM
              clear hA2
              go_wp2_with fail
              refine CA.out.mono ?_
              rintro e w7 ⟨rfl, hl7, _⟩
              obtain ⟨W8, hW8⟩ : ∃ W8, W8 = w7.alloc (.cells #[.bool false, strV [122, 122], strV [112], strV [111]] 54) := ⟨_, rfl⟩
              have hB8 : Below w7.heap.size w7 W8 := by rw [hW8]; exact (Below.refl _ _).alloc (Nat.le_refl _) _
              have hv8 : ChgsS (fun _ => True) W8 (.slice (some ⟨w7.heap.size, 0, none⟩) 1 1) [(false, zzT)] := by
                rw [hW8]; exact sl_new cs4_len w7 [(false, zzT)] 54 1 1 rfl
              have CR := Hid.mk (room_any (hl7.below hB8).q hv8 (by decide))
              rw [HRM.out] at CR
              have L8 := Hid.mk (hl7.below hB8)
              have HW8 := Hid.mk hW8
              clear hl7 hW8 hB8 hv8 CA
              go_wp2_with fail
              rw [← HW8.out]
              refine CR.out.mono ?_
              rintro e w9 ⟨rfl, hb9⟩
              have CX := Hid.mk (L8.out.below hb9).awake
              clear hb9 CR
              go_wp2_with fail
              refine CX.out.mono ?_
              rintro e w10 ⟨rfl, hb10⟩
              go_wp2
              go_ret
              exact ⟨rfl, hb10⟩
            · subst hkk
              have CA := Hid.mk (L6.out.apply (own_sl cs4_len R6.out.row rfl) (by have := NLX.out; omega) 65 (by omega))
              rw [(full_answers HFil.out HRs.out false (k := 2) (by omega)).1, show (if fitsK false 2 = true then 0 else 2) = 2 from rfl, ← NLX.out] at CA
              have HRM := Hid.mk (((full_answers HFil.out HRs.out false (k := 2) (by omega)).2).trans (show (false && decide (2 = 0)) = false from rfl))
              clear R6 L6
              obtain ⟨A2, hA2⟩ : ∃ A2, A2 = apA All 65 (lastB false 2) := ⟨_, rfl⟩
              rw [← hA2] at CA HRM
              clear hA2
              go_wp2_with fail
              refine CA.out.mono ?_
              rintro e w7 ⟨rfl, hl7, _⟩
              obtain ⟨W8, hW8⟩ : ∃ W8, W8 = w7.alloc (.cells #[.bool false, strV [122, 122], strV [112], strV [111]] 54) := ⟨_, rfl⟩
              have hB8 : Below w7.heap.size w7 W8 := by rw [hW8]; exact (Below.refl _ _).alloc (Nat.le_refl _) _
              have hv8 : ChgsS (fun _ => True) W8 (.slice (some ⟨w7.heap.size, 0, none⟩) 1 1) [(false, zzT)] := by
                rw [hW8]; exact sl_new cs4_len w7 [(false, zzT)] 54 1 1 rfl
              have CR := Hid.mk (room_any (hl7.below hB8).q hv8 (by decide))
              rw [HRM.out] at CR
              have L8 := Hid.mk (hl7.below hB8)
              have HW8 := Hid.mk hW8
              clear hl7 hW8 hB8 hv8 CA
              go_wp2_with fail
              rw [← HW8.out]
              refine CR.out.mono ?_
              rintro e w9 ⟨rfl, hb9⟩
              have CX := Hid.mk (L8.out.below hb9).awake
              clear hb9 CR
              go_wp2_with fail
              refine CX.out.mono ?_
              rintro e w10 ⟨rfl, hb10⟩
              go_wp2
              go_ret
              exact ⟨rfl, hb10⟩
            · subst hkk
              have CA := Hid.mk (L6.out.apply (own_sl cs4_len R6.out.row rfl) (by have := NLX.out; omega) 65 (by omega))
              rw [(full_answers HFil.out HRs.out false (k := 3) (by omega)).1, show (if fitsK false 3 = true then 0 else 2) = 2 from rfl, ← NLX.out] at CA
              have HRM := Hid.mk (((full_answers HFil.out HRs.out false (k := 3) (by omega)).2).trans (show (false && decide (3 = 0)) = false from rfl))
              clear R6 L6
              obtain ⟨A2, hA2⟩ : ∃ A2, A2 = apA All 65 (lastB false 3) := ⟨_, rfl⟩
              rw [← hA2] at CA HRM
              clear hA2
              go_wp2_with fail
              refine CA.out.mono ?_
              rintro e w7 ⟨rfl, hl7, _⟩
              obtain ⟨W8, hW8⟩ : ∃ W8, W8 = w7.alloc (.cells #[.bool false, strV [122, 122], strV [112], strV [111]] 54) := ⟨_, rfl⟩
              have hB8 : Below w7.heap.size w7 W8 := by rw [hW8]; exact (Below.refl _ _).alloc (Nat.le_refl _) _
              have hv8 : ChgsS (fun _ => True) W8 (.slice (some ⟨w7.heap.size, 0, none⟩) 1 1) [(false, zzT)] := by
                rw [hW8]; exact sl_new cs4_len w7 [(false, zzT)] 54 1 1 rfl
              have CR := Hid.mk (room_any (hl7.below hB8).q hv8 (by decide))
              rw [HRM.out] at CR
              have L8 := Hid.mk (hl7.below hB8)
              have HW8 := Hid.mk hW8
              clear hl7 hW8 hB8 hv8 CA
              go_wp2_with fail
              rw [← HW8.out]
              refine CR.out.mono ?_
              rintro e w9 ⟨rfl, hb9⟩
              have CX := Hid.mk (L8.out.below hb9).awake
              clear hb9 CR
              go_wp2_with fail
              refine CX.out.mono ?_
              rintro e w10 ⟨rfl, hb10⟩
              go_wp2
              go_ret
              exact ⟨rfl, hb10⟩
      | true =>
        have R0 : Hid (wr.ownsRow w.heap.size 54 4 (.slice none 0 0) 0 []) := Hid.mk ⟨rfl, .inl ⟨rfl, rfl⟩⟩
        go_wp2_with (at_builtin; refine wpList_append_lies _ rfl _ _ _ rfl w.heap.size 54 i0 _ 4 56 Try.underlying33 hi0 hz0 hz1 hz2 rfl (by decide) (.slice none 0 0) _ _ (by rfl) (R0.out.alloc _) ⟨wr.heap.size, 0, none⟩ 1 1 [.bool true, strV [97, 97, 97], strV [112], strV [111]] (by rfl) (by rfl) ?d1 ?d2 (by decide) ?d3 ?d4 ?d5 (wr.heap.size + 1) (by simp) ?_)
        case d2 => simp [Value.oneCell']
        case d3 => unfold maxLen; omega
        case d5 => first | omega | (simp; omega)
        intro g5 cap5 w5 hown5 hgrow5 hat5 hlt5
        have RS : Hid (ChR w w5 (Plus S2 wr.heap.size w5.heap.size) (.slice (some ⟨g5, 0, none⟩) (0 + 1) cap5) (lastB true 0)) := Hid.mk ((ChR.nil w wr S2).push (c := (true, fN 0)) hown5 hat5 hlt5)
        have LS := Hid.mk (L2.out.grown ((World.grownBy_alloc wr (.cells #[.bool true, strV [97, 97, 97], strV [112], strV [111]] 54) _).trans hgrow5) (fun g e => by simp [Value.ownBlock] at e))
        clear hown5 hgrow5 hat5 hlt5 R0 hs2 L2
        go_wp2_with fail
        go_loopw [10, 12] (fun s10 s12 wr => ∃ (i : Nat) (S : Nat → Prop) (vl : Value), vl = s10 ∧ i ≤ k ∧ s12 = .int .i64 i ∧ Live w wr S b All ∧ ChR w wr S vl (lastB true i)) (fun _ s12 _ => k - (intOf s12).toNat)
        case atStart => exact ⟨0, _, _, rfl, Nat.zero_le _, rfl, LS.out, RS.out⟩
        case round =>
          obtain ⟨i, S6, vl, rfl, hi, rfl, hl6, hr6⟩ := hrel
          obtain ⟨av, cv, hvl⟩ := own_slice hr6.row
          subst hvl
          have L6 := Hid.mk hl6
          have R6 := Hid.mk hr6
          clear hl6 hr6
          have hll : (lastB true i).length ≤ i + 1 := by simp [lastB, adds, nws]
          obtain ⟨nl, hnlx⟩ : ∃ nl, nl = (lastB true i).length := ⟨_, rfl⟩
          rw [← hnlx] at hll ⊢
          have NLX := Hid.mk hnlx
          clear hnlx
          by_cases hik : i < k
          · have hikI : (i : Int) < (k : Int) := by omega
            have hconv : (convert 56 9 (.slice (some ⟨wr.heap.size, 0, none⟩) 1 1)).run Try.prog (wr.alloc (.cells #[.int .u8 (97 + (i : Int))] 5)) = .ok (strV [UInt8.ofNat (97 + i)]) (wr.alloc (.cells #[.int .u8 (97 + (i : Int))] 5)) := by
              have h := bytes1 wr (97 + i) (by omega)
              push_cast at h
              exact h
            obtain ⟨W4, hW4⟩ : ∃ W4, W4 = wr.alloc (.cells #[.int .u8 (97 + (i : Int))] 5) := ⟨_, rfl⟩
            have hB4 : Below wr.heap.size wr W4 := by rw [hW4]; exact (Below.refl _ _).alloc (Nat.le_refl _) _
            have R4 := Hid.mk (R6.out.plus hB4)
            have L4 := Hid.mk (L6.out.plus hB4)
            have hs4 := L6.out.bel.size
            have HR3 : Hid (wr.ownsRow w.heap.size 54 4 (.slice av nl cv) nl ((lastB true i).flatMap cs4)) := Hid.mk (by have := R6.out.row; rw [← NLX.out] at this; exact this)
            have HZ4 : Hid (W4.heap.size = wr.heap.size + 1) := Hid.mk (by rw [hW4]; simp)
            have HW4 := Hid.mk hW4
            obtain ⟨sx, hsx⟩ : ∃ sx, sx = [UInt8.ofNat (97 + i)] := ⟨_, rfl⟩
            rw [← hsx] at hconv
            have HSX := Hid.mk hsx
            clear hW4 hB4 hsx
            go_wp2_with (at_builtin; refine wpList_append_lies _ rfl _ _ _ rfl w.heap.size 54 i0 _ 4 56 Try.underlying33 hi0 hz0 hz1 hz2 rfl (by decide) (.slice av nl cv) _ _ (by rfl) ((HR3.out.alloc _).alloc _) ⟨wr.heap.size + 1, 0, none⟩ 1 1 [.bool false, strV [110, 101, 119], strV [112], strV sx] (by rfl) (by rfl) ?e1 ?e2 (by decide) ?e3 ?e4 ?e5 (wr.heap.size + 2) (by simp) ?_)
            case e1 =>
              have := World.news_of_block (cs := #[.bool false, strV [110, 101, 119], strV [112], strV sx]) (t := 54) (fr := (0, 0)) (heap_alloc_new W4 (.cells #[.bool false, strV [110, 101, 119], strV [112], strV sx] 54))
              rw [HZ4.out] at this
              rw [← HW4.out]
              exact this
            case e2 => simp [Value.oneCell']
            case e3 => unfold maxLen; omega
            case e4 => omega
            case e5 => simp; omega
            intro g5 cap5 w5 hown5 hgrow5 hat5 hlt5
            rw [← HW4.out] at hgrow5
            have R5 : Hid (ChR w w5 (Plus (Plus S6 wr.heap.size W4.heap.size) W4.heap.size w5.heap.size) (.slice (some ⟨g5, 0, none⟩) (nl + 1) cap5) (lastB true (i + 1))) := Hid.mk (by
              rw [lastB_succ, NLX.out]
              refine R4.out.push ?_ (by rw [← NLX.out]; exact hat5.imp id (fun h => by rw [h, HZ4.out])) hlt5
              have h2 := hown5
              rw [NLX.out, HSX.out] at h2
              exact h2)
            have L5 := Hid.mk (L4.out.grown ((World.grownBy_alloc W4 (.cells #[.bool false, strV [110, 101, 119], strV [112], strV sx] 54) _).trans hgrow5) (fun g e => ⟨R4.out.inS g (by rw [← NLX.out]; exact e), (R4.out.row.lt g (by rw [← NLX.out]; exact e)).1⟩))
            clear hown5 hgrow5 hat5 hlt5 R4 L4 hs4
            go_wp2
            go_roundw
            case rel => exact ⟨i + 1, _, _, rfl, by omega, by go_num, L5.out, R5.out⟩
            case measure => simp [intOf]; omega
          · have hikI : ¬ (i : Int) < (k : Int) := by omega
            have hik2 : i = k := by omega
            subst hik2
            rcases (by omega : i = 0 ∨ i = 1 ∨ i = 2 ∨ i = 3) with hkk | hkk | hkk | hkk
            · subst hkk
              have CA := Hid.mk (L6.out.apply (own_sl cs4_len R6.out.row rfl) (by have := NLX.out; omega) 65 (by omega))
              rw [(full_answers HFil.out HRs.out true (k := 0) (by omega)).1, show (if fitsK true 0 = true then 0 else 2) = 0 from rfl, ← NLX.out] at CA
              have HRM := Hid.mk (((full_answers HFil.out HRs.out true (k := 0) (by omega)).2).trans (show (true && decide (0 = 0)) = true from rfl))
              clear R6 L6
              obtain ⟨A2, hA2⟩ : ∃ A2, A2 = apA All 65 (lastB true 0) := ⟨_, rfl⟩
              rw [← hA2] at CA HRM
              clear hA2
              go_wp2_with fail
              refine CA.out.mono ?_
              rintro e w7 ⟨rfl, hl7, _⟩
              obtain ⟨W8, hW8⟩ : ∃ W8, W8 = w7.alloc (.cells #[.bool false, strV [122, 122], strV [112], strV [111]] 54) := ⟨_, rfl⟩
              have hB8 : Below w7.heap.size w7 W8 := by rw [hW8]; exact (Below.refl _ _).alloc (Nat.le_refl _) _
              have hv8 : ChgsS (fun _ => True) W8 (.slice (some ⟨w7.heap.size, 0, none⟩) 1 1) [(false, zzT)] := by
                rw [hW8]; exact sl_new cs4_len w7 [(false, zzT)] 54 1 1 rfl
              have CR := Hid.mk (room_any (hl7.below hB8).q hv8 (by decide))
              rw [HRM.out] at CR
              have L8 := Hid.mk (hl7.below hB8)
              have HW8 := Hid.mk hW8
              clear hl7 hW8 hB8 hv8 CA
              go_wp2_with fail
              rw [← HW8.out]
              refine CR.out.mono ?_
              rintro e w9 ⟨rfl, hb9⟩
              have CX := Hid.mk (L8.out.below hb9).awake
              clear hb9 CR
              go_wp2_with fail
              refine CX.out.mono ?_
              rintro e w10 ⟨rfl, hb10⟩
              go_wp2
              go_ret
              exact ⟨rfl, hb10⟩
            · subst hkk
              have CA := Hid.mk (L6.out.apply (own_sl cs4_len R6.out.row rfl) (by have := NLX.out; omega) 65 (by omega))
              rw [(full_answers HFil.out HRs.out true (k := 1) (by omega)).1, show (if fitsK true 1 = true then 0 else 2) = 0 from rfl, ← NLX.out] at CA
              have HRM := Hid.mk (((full_answers HFil.out HRs.out true (k := 1) (by omega)).2).trans (show (true && decide (1 = 0)) = false from rfl))
              clear R6 L6
              obtain ⟨A2, hA2⟩ : ∃ A2, A2 = apA All 65 (lastB true 1) := ⟨_, rfl⟩
              rw [← hA2] at CA HRM
              clear hA2
              go_wp2_with fail
              refine CA.out.mono ?_
              rintro e w7 ⟨rfl, hl7, _⟩
              obtain ⟨W8, hW8⟩ : ∃ W8, W8 = w7.alloc (.cells #[.bool false, strV [122, 122], strV [112], strV [111]] 54) := ⟨_, rfl⟩
              have hB8 : Below w7.heap.size w7 W8 := by rw [hW8]; exact (Below.refl _ _).alloc (Nat.le_refl _) _
              have hv8 : ChgsS (fun _ => True) W8 (.slice (some ⟨w7.heap.size, 0, none⟩) 1 1) [(false, zzT)] := by
                rw [hW8]; exact sl_new cs4_len w7 [(false, zzT)] 54 1 1 rfl
              have CR := Hid.mk (room_any (hl7.below hB8).q hv8 (by decide))
              rw [HRM.out] at CR
              have L8 := Hid.mk (hl7.below hB8)
              have HW8 := Hid.mk hW8
              clear hl7 hW8 hB8 hv8 CA
              go_wp2_with fail
              rw [← HW8.out]
              refine CR.out.mono ?_
              rintro e w9 ⟨rfl, hb9⟩
              have CX := Hid.mk (L8.out.below hb9).awake
              clear hb9 CR
              go_wp2_with fail
              refine CX.out.mono ?_
              rintro e w10 ⟨rfl, hb10⟩
              go_wp2
              go_ret
              exact ⟨rfl, hb10⟩
            · subst hkk
              have CA := Hid.mk (L6.out.apply (own_sl cs4_len R6.out.row rfl) (by have := NLX.out; omega) 65 (by omega))
              rw [(full_answers HFil.out HRs.out true (k := 2) (by omega)).1, show (if fitsK true 2 = true then 0 else 2) = 2 from rfl, ← NLX.out] at CA
              have HRM := Hid.mk (((full_answers HFil.out HRs.out true (k := 2) (by omega)).2).trans (show (true && decide (2 = 0)) = false from rfl))
              clear R6 L6
              obtain ⟨A2, hA2⟩ : ∃ A2, A2 = apA All 65 (lastB true 2) := ⟨_, rfl⟩
              rw [← hA2] at CA HRM
              clear hA2
              go_wp2_with fail
              refine CA.out.mono ?_
              rintro e w7 ⟨rfl, hl7, _⟩
              obtain ⟨W8, hW8⟩ : ∃ W8, W8 = w7.alloc (.cells #[.bool false, strV [122, 122], strV [112], strV [111]] 54) := ⟨_, rfl⟩
              have hB8 : Below w7.heap.size w7 W8 := by rw [hW8]; exact (Below.refl _ _).alloc (Nat.le_refl _) _
              have hv8 : ChgsS (fun _ => True) W8 (.slice (some ⟨w7.heap.size, 0, none⟩) 1 1) [(false, zzT)] := by
                rw [hW8]; exact sl_new cs4_len w7 [(false, zzT)] 54 1 1 rfl
              have CR := Hid.mk (room_any (hl7.below hB8).q hv8 (by decide))
              rw [HRM.out] at CR
              have L8 := Hid.mk (hl7.below hB8)
              have HW8 := Hid.mk hW8
              clear hl7 hW8 hB8 hv8 CA
              go_wp2_with fail
              rw [← HW8.out]
              refine CR.out.mono ?_
              rintro e w9 ⟨rfl, hb9⟩
              have CX := Hid.mk (L8.out.below hb9).awake
              clear hb9 CR
              go_wp2_with fail
              refine CX.out.mono ?_
              rintro e w10 ⟨rfl, hb10⟩
              go_wp2
              go_ret
              exact ⟨rfl, hb10⟩
            · subst hkk
              have CA := Hid.mk (L6.out.apply (own_sl cs4_len R6.out.row rfl) (by have := NLX.out; omega) 65 (by omega))
              rw [(full_answers HFil.out HRs.out true (k := 3) (by omega)).1, show (if fitsK true 3 = true then 0 else 2) = 2 from rfl, ← NLX.out] at CA
              have HRM := Hid.mk (((full_answers HFil.out HRs.out true (k := 3) (by omega)).2).trans (show (true && decide (3 = 0)) = false from rfl))
              clear R6 L6
              obtain ⟨A2, hA2⟩ : ∃ A2, A2 = apA All 65 (lastB true 3) := ⟨_, rfl⟩
              rw [← hA2] at CA HRM
              clear hA2
              go_wp2_with fail
              refine CA.out.mono ?_
              rintro e w7 ⟨rfl, hl7, _⟩
              obtain ⟨W8, hW8⟩ : ∃ W8, W8 = w7.alloc (.cells #[.bool false, strV [122, 122], strV [112], strV [111]] 54) := ⟨_, rfl⟩
              have hB8 : Below w7.heap.size w7 W8 := by rw [hW8]; exact (Below.refl _ _).alloc (Nat.le_refl _) _
              have hv8 : ChgsS (fun _ => True) W8 (.slice (some ⟨w7.heap.size, 0, none⟩) 1 1) [(false, zzT)] := by
                rw [hW8]; exact sl_new cs4_len w7 [(false, zzT)] 54 1 1 rfl
              have CR := Hid.mk (room_any (hl7.below hB8).q hv8 (by decide))
              rw [HRM.out] at CR
              have L8 := Hid.mk (hl7.below hB8)
              have HW8 := Hid.mk hW8
              clear hl7 hW8 hB8 hv8 CA
              go_wp2_with fail
              rw [← HW8.out]
              refine CR.out.mono ?_
              rintro e w9 ⟨rfl, hb9⟩
              have CX := Hid.mk (L8.out.below hb9).awake
              clear hb9 CR
              go_wp2_with fail
              refine CX.out.mono ?_
              rintro e w10 ⟨rfl, hb10⟩
              go_wp2
              go_ret
              exact ⟨rfl, hb10⟩
end Go.Proofs.Ytiabnjjdeikefaa
