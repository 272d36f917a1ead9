import Derived.Test.YtnepednomejniaaNumB
namespace Go.Proofs.Ytnepednomejniaa
open Go.RowKit

theorem u8s_snoc (l : List UInt8) (x : UInt8) : u8s (l ++ [x]) = u8s l ++ [.int .u8 (x.toNat : Int)] := by simp [u8s]
theorem Hid.mk {p : Prop} (h : p) : Hid p := h

/-- 'string(b)' of bytes that the call owns. -/
theorem conv_own {w1 : World} {B n : Nat} {v : Value} {l : List UInt8} (hown : w1.ownsRow B 5 1 v n (u8s l)) (h : l ≠ []) :
    (convert 53 9 v).run Try.prog w1 = .ok (.string ⟨l.toArray⟩) w1 := by
  rcases hown.2 with ⟨_, hx⟩ | ⟨g, cap, cur, rfl, _⟩
  · have := hown.1; rw [hx] at this; simp [u8s] at this; exact absurd this h
  · have hl : l.length = n := by have := hown.1; simpa [u8s] using this
    subst hl
    exact run_convert_bytes_back (P := Try.prog) w1 53 9 5 ⟨g, 0, none⟩ cap l Try.underlying53 Try.underlying5 Try.underlying9 (fun j hj => by
      have := hown.cellAt j (by omega)
      rw [show (⟨g, 0, none⟩ : Addr).add j = ⟨g, j, none⟩ from by cases j <;> simp [Addr.add], this, u8s, List.getElem?_map, List.getElem?_eq_getElem hj]; rfl)

set_option maxRecDepth 100000 in
set_option maxHeartbeats 400000 in
theorem putNum_neg (n : Int) (w : World) (h : n < 0) :
    Calls Try.prog 52 #[.int .i64 n] w fun e w' => e = .returned (.tuple #[.string ⟨#[]⟩, .int .i64 1]) ∧ w' = w := by
  go_enter Try.func52, Try.ntmps52
  go_wp2
  go_ret2
  exact ⟨rfl, rfl⟩

set_option maxRecDepth 100000 in
set_option maxHeartbeats 400000 in
theorem putNum_pos (m : Nat) (w : World) (hm : m < 2 ^ 63) :
    Calls Try.prog 52 #[.int .i64 (m : Int)] w fun e w' => e = .returned (.tuple #[.string ⟨(numB m).toArray⟩, .int .i64 0]) ∧ Below w.heap.size w w' := by
  go_enter Try.func52, Try.ntmps52
  go_wp2_with fail
  refine (numBytes_any _ _ hm).mono ?_
  rintro e w' ⟨rfl, hb⟩
  go_wp2
  go_ret2
  exact ⟨rfl, hb⟩

set_option maxRecDepth 100000 in
set_option maxHeartbeats 400000 in
theorem rPutNum_neg (n : Int) (w : World) (h : n < 0) :
    Calls Try.prog 60 #[.int .i64 n] w fun e w' => e = .returned (.tuple #[.string ⟨#[]⟩, .int .i64 1]) ∧ w' = w := by
  go_enter Try.func60, Try.ntmps60
  go_wp2
  go_ret2
  exact ⟨rfl, rfl⟩

set_option maxRecDepth 100000 in
set_option maxHeartbeats 400000 in
theorem rPutNum_pos (m : Nat) (w : World) (hm : m < 2 ^ 63) :
    Calls Try.prog 60 #[.int .i64 (m : Int)] w fun e w' => e = .returned (.tuple #[.string ⟨(numB m).toArray⟩, .int .i64 0]) ∧ Below w.heap.size w w' := by
  have hm' : (m : Int) ≤ 9223372036854775807 := by omega
  obtain ⟨i0, hi, hz0, hz1, hz2⟩ := info_parts info5
  go_enter Try.func60, Try.ntmps60
  go_wp2_with fail
  go_loopw [0, 4] (fun n v wr => ∃ (c : Nat) (acc : List UInt8), n = .int .i64 c ∧ c ≤ m ∧ acc.length ≤ 8 ∧ c < 256 ^ (8 - acc.length) ∧ acc ++ lowD (8 - acc.length) c = lowD 8 m ∧ wr.ownsRow w.heap.size 5 1 v acc.length (u8s acc) ∧ Below w.heap.size w wr) (fun n _ _ => (intOf n).toNat)
  case atStart => exact ⟨m, [], rfl, Nat.le_refl _, by simp, Nat.lt_of_lt_of_le hm (by decide), by simp, World.ownsRow_nil _ _ _ _, Below.refl _ _⟩
  case round =>
    obtain ⟨c, acc, rfl, hcm, hl8, hc, heq, hown, hb⟩ := hrel
    have hsz := hb.size
    have HEQ : Hid (acc ++ lowD (8 - acc.length) c = lowD 8 m) := heq
    clear heq
    by_cases h0 : 0 < c
    · have hl : acc.length < 8 := by
        rcases Nat.lt_or_ge acc.length 8 with h | h
        · exact h
        · rw [show 8 - acc.length = 0 by omega] at hc; omega
      have HC : Hid (c < 256 ^ (8 - acc.length)) := hc
      clear hc
      go_wp2_with (at_builtin; refine wpList_append_own _ rfl _ _ 53 rfl w.heap.size 5 i0 (.int .u8 0) 1 1 Try.underlying53 hi hz0 hz1 hz2 rfl (by decide) _ _ _ rfl (hown.alloc _) ⟨wr.heap.size, 0, none⟩ 1 1 [.int .u8 ((c : Int) % 256)] rfl rfl (cell_one_new _ _ _) ?c2 ?c3 ?c4 ?c5 ?_)
      case c2 => intro u hu; simp at hu; subst hu; rfl
      case c3 => unfold maxLen; omega
      case c4 => omega
      case c5 => simp; omega
      intro v' w1 hown' hgrow _
      have hb1 : Below w.heap.size w w1 := (hb.alloc hsz _).grown hgrow (by simp; omega) (fun k hk => (hown.lt k hk).1)
      obtain ⟨g1, g2⟩ := low_step m c acc hl h0 HC.out HEQ.out
      have ho2 : w1.ownsRow w.heap.size 5 1 v' (acc ++ [UInt8.ofNat (c % 256)]).length (u8s (acc ++ [UInt8.ofNat (c % 256)])) := by
        rw [u8s_snoc, ofNat_mod, List.length_append]; exact hown'
      have G1 := Hid.mk g1
      have G2 := Hid.mk g2
      clear hown' hgrow hown g1 g2 hb hsz
      go_wp2
      go_roundw
      case rel => exact ⟨c / 256, _, by go_num, by omega, by simp; omega, G1.out, G2.out, ho2, hb1⟩
      case measure => simp [intOf]; omega
    · have hc0 : c = 0 := by omega
      subst hc0
      have hacc : acc = lowD 8 m := by have := HEQ.out; rwa [lowD_zero, List.append_nil] at this
      subst hacc
      clear HEQ hc
      rcases hown.2 with ⟨rfl, hnil⟩ | ⟨g, cap, cur, rfl, hg1, hg2, hg3, hg4, hg5, hg6⟩
      · have hd : lowD 8 m = [] := List.length_eq_zero_iff.1 hnil
        have HD := Hid.mk hd
        clear hd hown
        go_wp2_with (at_builtin; refine wpList_append_own _ rfl _ _ 53 rfl wr.heap.size 5 i0 (.int .u8 0) 1 1 Try.underlying53 hi hz0 hz1 hz2 rfl (by decide) _ _ _ rfl (World.ownsRow_nil _ _ _ _) ⟨wr.heap.size, 0, none⟩ 1 1 [.int .u8 0] rfl rfl (cell_one_new _ _ _) ?n2 ?n3 ?n4 ?n5 ?_)
        case n2 => intro u hu; simp at hu; subst hu; rfl
        case n3 => unfold maxLen; omega
        case n4 => omega
        case n5 => simp
        intro v' w1 hown' hgrow _
        have hb1 : Below w.heap.size w w1 := (hb.alloc hsz _).grown hgrow (by simp; omega) (fun k hk => by simp [Value.ownBlock] at hk)
        have hcv := conv_own (l := [0]) hown' (by simp)
        have hfin : numB m = [0] := numB_nil m HD.out
        have HF := Hid.mk hfin
        clear hown' hgrow hfin
        go_wp2_with fail
        refine wp_loop_rounds 1 ?_
        rw [rounds_succ]
        go_wp2
        go_ret2
        exact ⟨by rw [HF.out]; rfl, hb1⟩
      · obtain ⟨W, hW⟩ : ∃ W, W = wr := ⟨_, rfl⟩
        subst hW
        have hgl : g < W.heap.size := (hown.lt g rfl).2
        have hcel : ∀ wq, Below W.heap.size W wq → ∀ k x, (lowD 8 m)[k]? = some x → wq.cell? ⟨g, k, none⟩ = some (.int .u8 (x.toNat : Int)) := by
          intro wq h k x hx
          rw [h.cell (p := ⟨g, k, none⟩) hgl, hown.cellAt k (by have := (List.getElem?_eq_some_iff.1 hx).1; omega), u8s, List.getElem?_map, hx]; rfl
        have HC := Hid.mk hcel
        clear hcel
        generalize hL : (lowD 8 m).length = L at *
        have HL := Hid.mk hL
        clear hL
        go_wp2_with (at_builtin; refine wpList_append_own _ rfl _ _ 53 rfl W.heap.size 5 i0 (.int .u8 0) 1 1 Try.underlying53 hi hz0 hz1 hz2 rfl (by decide) _ _ _ rfl (World.ownsRow_nil _ _ _ _) ⟨W.heap.size, 0, none⟩ 1 1 [.int .u8 (L : Int)] rfl rfl (cell_one_new _ _ _) ?m2 ?m3 ?m4 ?m5 ?_)
        case m2 => intro u hu; simp at hu; subst hu; rfl
        case m3 => unfold maxLen; omega
        case m4 => omega
        case m5 => simp
        intro v' w1 hown' hgrow _
        have hb1 : Below W.heap.size W w1 := ((Below.refl _ _).alloc (Nat.le_refl _) _).grown hgrow (by simp) (fun k hk => by simp [Value.ownBlock] at hk)
        have ho1 : w1.ownsRow W.heap.size 5 1 v' (1 + (L - L)) (u8s (UInt8.ofNat L :: ((lowD 8 m).drop L).reverse)) := by
          rw [Nat.sub_self, List.drop_of_length_le (by rw [HL.out]; exact Nat.le_refl _)]
          have e : ((UInt8.ofNat L).toNat : Int) = L := by rw [UInt8.toNat_ofNat']; omega
          simp only [u8s, List.reverse_nil, List.map_cons, List.map_nil, e]
          exact hown'
        clear hown' hgrow
        go_wp2_with fail
        go_loopw [5, 6] (fun v i wq => ∃ k : Nat, k ≤ L ∧ i = .int .i64 ((k : Int) - 1) ∧ wq.ownsRow W.heap.size 5 1 v (1 + (L - k)) (u8s (UInt8.ofNat L :: ((lowD 8 m).drop k).reverse)) ∧ Below W.heap.size W wq) (fun _ i _ => (intOf i + 1).toNat)
        case atStart => exact ⟨L, Nat.le_refl _, by go_num, ho1, hb1⟩
        case round =>
          obtain ⟨k, hk, rfl, ho, hbq⟩ := hrel
          have hsq := hbq.size
          cases k with
          | zero =>
            have hcv := conv_own ho (by simp)
            have hfin : UInt8.ofNat L :: ((lowD 8 m).drop 0).reverse = numB m := by rw [← HL.out]; rfl
            rw [hfin] at hcv
            have hbe : Below w.heap.size w wr := hb.trans (hbq.mono hsz)
            clear hfin ho
            go_wp2
            go_ret2
            exact ⟨rfl, hbe⟩
          | succ k =>
            have hk1 : k < L := by omega
            obtain ⟨x, hx⟩ : ∃ x, (lowD 8 m)[k]? = some x := ⟨_, List.getElem?_eq_getElem (by rw [HL.out]; omega)⟩
            have hcx := HC.out wr hbq k x hx
            have HX := Hid.mk hx
            clear hx hk1
            go_wp2_with (at_builtin; refine wpList_append_own _ rfl _ _ 53 rfl W.heap.size 5 i0 (.int .u8 0) 1 1 Try.underlying53 hi hz0 hz1 hz2 rfl (by decide) _ _ _ rfl (ho.alloc _) ⟨wr.heap.size, 0, none⟩ 1 1 [.int .u8 (x.toNat : Int)] rfl rfl (cell_one_new _ _ _) ?q2 ?q3 ?q4 ?q5 ?_)
            case q2 => intro u hu; simp at hu; subst hu; rfl
            case q3 => unfold maxLen; omega
            case q4 => omega
            case q5 => simp; omega
            intro v2 w2 hown2 hgrow2 _
            have hb2 : Below W.heap.size W w2 := (hbq.alloc hsq _).grown hgrow2 (by simp; omega) (fun k hk => (ho.lt k hk).1)
            have ho2 : w2.ownsRow W.heap.size 5 1 v2 (1 + (L - k)) (u8s (UInt8.ofNat L :: ((lowD 8 m).drop k).reverse)) := by
              rw [← down_step m k x HX.out, u8s_snoc, show 1 + (L - k) = 1 + (L - (k + 1)) + 1 by omega]
              exact hown2
            clear hown2 hgrow2 ho hbq hsq
            go_wp2
            go_roundw
            case rel => exact ⟨k, by omega, by go_num, ho2, hb2⟩
            case measure => simp [intOf]
end Go.Proofs.Ytnepednomejniaa
