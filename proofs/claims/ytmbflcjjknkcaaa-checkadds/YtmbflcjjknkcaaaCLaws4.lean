import Derived.Test.YtmbflcjjknkcaaaCLaws3
namespace Go.Proofs.Ytmbflcjjknkcaaa
open Go.RowKit

theorem cinfo8 : (Try.prog.info? 5).map (fun i => (i.zero, i.size, i.bytes)) = some (some (.int .u8 0), 1, 1) := by kernel_rfl

theorem bytes_zero {w1 : World} {base g n : Nat} (hown : w1.ownsRow base 5 1 (.slice (some ⟨g, 0, none⟩) n n) n (madeCells #[Value.int IntKind.u8 0] n).toList) : Bytes w1 g (List.replicate n 0) := by
  have hlt := (hown.lt g rfl).2
  refine ⟨hlt, fun j x hx => ?_⟩
  have hj : j < n := by have := (List.getElem?_eq_some_iff.1 hx).1; simpa using this
  have hx0 : x = 0 := by rw [List.getElem?_replicate, if_pos hj] at hx; exact (Option.some.inj hx).symm
  subst hx0
  refine ⟨?_, hown.frozenAt j⟩
  rw [hown.cellAt j (by omega), toList_madeCells_one, List.getElem?_replicate, if_pos (by omega)]
  rfl

/-- The three texts, one xor the others, when i bytes are done. -/
def fillX (X : List UInt8) (n i : Nat) : List UInt8 := X.take i ++ List.replicate (n - i) 0
theorem fillX_zero (X : List UInt8) (n : Nat) : fillX X n 0 = List.replicate n 0 := by simp [fillX]
theorem fillX_end (X : List UInt8) (n : Nat) (h : X.length = n) : fillX X n n = X := by simp [fillX, List.take_of_length_le (Nat.le_of_eq h)]
theorem fillX_length (X : List UInt8) (n i : Nat) (h : X.length = n) (hi : i ≤ n) : (fillX X n i).length = n := by simp [fillX]; omega
theorem fillX_step (X : List UInt8) (n i : Nat) (h : X.length = n) (hi : i < n) (x : UInt8) (hx : X[i]? = some x) : (fillX X n i).set i x = fillX X n (i + 1) := by
  unfold fillX
  rw [List.set_append, if_neg (by simp; omega), List.take_add_one, hx, List.append_assoc]
  congr 1
  rw [List.length_take, Nat.min_eq_left (by omega), Nat.sub_self, show n - i = (n - (i + 1)) + 1 by omega, List.replicate_succ]
  rfl

theorem xorL_length (a b : List UInt8) (h : a.length = b.length) : (xorL a b).length = a.length := by simp [xorL]; omega
theorem xorL_at (a b : List UInt8) (i : Nat) (x y : UInt8) (hx : a[i]? = some x) (hy : b[i]? = some y) : (xorL a b)[i]? = some (x ^^^ y) := by
  unfold xorL; rw [List.getElem?_zipWith, hx, hy]

theorem cextract_take (s : ByteArray) (k : Nat) : (s.extract 0 k).data.toList = s.data.toList.take k := by
  simp [ByteArray.data_extract]

set_option maxHeartbeats 4000000 in
set_option maxRecDepth 100000 in
theorem checkAdds_walk (s t u : ByteArray) (w : World) (hs : s.size ≤ 140737488351232) (_ : t.size ≤ 140737488351232) (_ : u.size ≤ 140737488351232) :
    Calls Try.prog 5 #[.string s, .string t, .string u] w fun e w' => e = .returned (.bool true) ∧ Below w.heap.size w w' := by
  obtain ⟨i0, hi0, hz0, hz1, hz2⟩ := info_parts cinfo8
  obtain ⟨n1, hm1, ht1, hu1⟩ : ∃ n1 : Nat, (if u.size < t.size then (u.size : Int) else (t.size : Int)) = (n1 : Int) ∧ n1 ≤ t.size ∧ n1 ≤ u.size := by
    by_cases h : u.size < t.size
    · exact ⟨u.size, by rw [if_pos h], by omega, by omega⟩
    · exact ⟨t.size, by rw [if_neg h], by omega, by omega⟩
  obtain ⟨n, hm2, hn1, hs1⟩ : ∃ n : Nat, (if n1 < s.size then (n1 : Int) else (s.size : Int)) = (n : Int) ∧ n ≤ n1 ∧ n ≤ s.size := by
    by_cases h : n1 < s.size
    · exact ⟨n1, by rw [if_pos h], by omega, by omega⟩
    · exact ⟨s.size, by rw [if_neg h], by omega, by omega⟩
  have hnt : n ≤ t.size := by omega
  have hnu : n ≤ u.size := by omega
  by_cases hbig : 8192 < n
  · clear hn1 hs1 hnt hnu ht1 hu1
    go_enter Try.func5, Try.ntmps5
    go_wp2_with fail
    refine (awake_any _).mono ?_
    rintro e w1 ⟨rfl, hb⟩
    go_wp2
    go_ret
    exact ⟨rfl, hb⟩
  · clear hn1 ht1 hu1
    go_enter Try.func5, Try.ntmps5
    go_wp2_with (at_make; refine wpList_make_full _ rfl _ _ 25 rfl w.heap.size 5 i0 (.int .u8 0) 1 Try.underlying25 hi0 hz0 hz1 _ _ _ _ n rfl rfl rfl rfl (by rw [hz2]; omega) (by unfold maxLen; omega) (Nat.le_refl _) ?_)
    intro w1 hown hgrow
    have hB := chid (bytes_zero hown)
    have hbel : Below w.heap.size w w1 := (Below.refl _ _).grown hgrow (Nat.le_refl _) (by simp)
    clear hown hgrow hz0 hz1 hz2 hi0 hm1 hm2
    go_wp2_with fail
    have e1 : (s.data.toList.take n).length = n := by rw [List.length_take, data_len]; omega
    have e2 : (t.data.toList.take n).length = n := by rw [List.length_take, data_len]; omega
    have e3 : (u.data.toList.take n).length = n := by rw [List.length_take, data_len]; omega
    obtain ⟨X, hX⟩ : ∃ X, X = xorL (xorL (s.data.toList.take n) (t.data.toList.take n)) (u.data.toList.take n) := ⟨_, rfl⟩
    have hXl : Hid (X.length = n) := by rw [hX, xorL_length _ _ (by rw [xorL_length _ _ (by omega)]; omega), xorL_length _ _ (by omega)]; exact e1
    have HX := chid hX
    have E1 := chid e1
    have E2 := chid e2
    have E3 := chid e3
    clear hX e1 e2 e3
    go_loopw [9] (fun s9 wr => ∃ i : Nat, i ≤ n ∧ s9 = .int .i64 i ∧ Bytes wr w.heap.size (fillX X n i) ∧ Below w.heap.size w wr) (fun s9 _ => n - (intOf s9).toNat)
    case atStart => exact ⟨0, by omega, rfl, by rw [fillX_zero]; exact hB.out, hbel⟩
    case round =>
      obtain ⟨i, hi, rfl, hby, hbl⟩ := hrel
      by_cases hin : i < n
      · have his : i < s.size := by omega
        have hit : i < t.size := by omega
        have hiu : i < u.size := by omega
        obtain ⟨a, ha⟩ : ∃ x : UInt8, s[i]'his = x := ⟨_, rfl⟩
        obtain ⟨b, hb⟩ : ∃ x : UInt8, t[i]'hit = x := ⟨_, rfl⟩
        obtain ⟨c, hc⟩ : ∃ x : UInt8, u[i]'hiu = x := ⟨_, rfl⟩
        have hxa : (s.data.toList.take n)[i]? = some a := by rw [List.getElem?_take, if_pos hin, data_at s i his, ha]
        have hxb : (t.data.toList.take n)[i]? = some b := by rw [List.getElem?_take, if_pos hin, data_at t i hit, hb]
        have hxc : (u.data.toList.take n)[i]? = some c := by rw [List.getElem?_take, if_pos hin, data_at u i hiu, hc]
        have hXi : X[i]? = some (a ^^^ b ^^^ c) := by rw [HX.out]; exact xorL_at _ _ _ _ _ (xorL_at _ _ _ _ _ hxa hxb) hxc
        have hset := hby.set i (a ^^^ b ^^^ c)
        rw [fillX_step X n i hXl.out hin _ hXi] at hset
        have hcell := hby.2 i _ (List.getElem?_eq_getElem (by rw [fillX_length X n i hXl.out hi]; exact hin))
        obtain ⟨o, ho⟩ : ∃ o, wr.cell? ⟨w.heap.size, i, none⟩ = some o := ⟨_, hcell.1⟩
        have hf := hcell.2
        have hbl2 := chid (hbl.setCell (p := ⟨w.heap.size, i, none⟩) (Nat.le_refl _) (.int .u8 ((a ^^^ b ^^^ c).toNat : Int)))
        have hx : bits .xor .u8 (bits .xor .u8 (a.toNat : Int) (b.toNat : Int)) (c.toNat : Int) = ((a ^^^ b ^^^ c).toNat : Int) := by
          rw [u8_xor_nat _ _ (UInt8.toNat_lt a) (UInt8.toNat_lt b), ← u8_xor_toNat, u8_xor_nat _ _ (UInt8.toNat_lt _) (UInt8.toNat_lt c), ← u8_xor_toNat]
        have hset2 := chid hset.drew
        clear hset hXi hxa hxb hxc hcell hby hbl hB hbel
        obtain ⟨y, hy⟩ : ∃ y, y = (a ^^^ b ^^^ c).toNat := ⟨_, rfl⟩
        rw [← hy] at hx hset2 hbl2
        clear hy
        go_wp2_with fail
        go_region
        go_wp2
        go_roundw
        case rel => exact ⟨i + 1, by omega, by go_num, hset2.out, hbl2.out.drew⟩
        case measure => simp [intOf]; omega
      · obtain rfl : i = n := by omega
        rw [fillX_end X i hXl.out] at hby
        have HB := chid hby
        have HL := chid hbl
        have hpl := hXl.out
        have hcv : ∀ w', Bytes w' w.heap.size X ∧ Below w.heap.size w w' → (convert 25 9 (.slice (some ⟨w.heap.size, 0, none⟩) i i)).run Try.prog w' = .ok (.string ⟨X.toArray⟩) w' := fun w' h => by
          have := h.1.conv i
          rw [hpl] at this
          exact this
        have c0 := fun w => sum_any ⟨X.toArray⟩ w (by show X.length ≤ _; omega)
        have c1 := fun w => sum_any (s.extract 0 i) w (by rw [ByteArray.size_extract]; omega)
        have c2 := fun w => sum_any (t.extract 0 i) w (by rw [ByteArray.size_extract]; omega)
        have c3 := fun w => sum_any (u.extract 0 i) w (by rw [ByteArray.size_extract]; omega)
        rw [show (ByteArray.mk X.toArray).data.toList = X from rfl] at c0
        rw [cextract_take] at c1 c2 c3
        have hall := sumN_xor3 (s.data.toList.take i) (t.data.toList.take i) (u.data.toList.take i) (by rw [E1.out, E2.out]) (by rw [E2.out, E3.out])
        rw [← HX.out] at hall
        have l1 := sumN_lt (s.data.toList.take i)
        have l2 := sumN_lt (t.data.toList.take i)
        have l3 := sumN_lt (u.data.toList.take i)
        obtain ⟨x0, hx0⟩ : ∃ x, x = sumN X := ⟨_, rfl⟩
        obtain ⟨x1, hx1⟩ : ∃ x, x = sumN (s.data.toList.take i) := ⟨_, rfl⟩
        obtain ⟨x2, hx2⟩ : ∃ x, x = sumN (t.data.toList.take i) := ⟨_, rfl⟩
        obtain ⟨x3, hx3⟩ : ∃ x, x = sumN (u.data.toList.take i) := ⟨_, rfl⟩
        rw [← hx0] at c0 hall
        rw [← hx1] at c1 hall l1
        rw [← hx2] at c2 hall l2
        rw [← hx3] at c3 hall l3
        have hb1 : bits .xor .i64 (bits .xor .i64 (x1 : Int) (x2 : Int)) (x3 : Int) = (x0 : Int) := by
          have hlt : x1 ^^^ x2 < 4294967296 := xor_lt32 l1 l2
          rw [i64_xor_nat x1 x2 (by omega) (by omega), i64_xor_nat _ x3 (by omega) (by omega), hall]
        have C0 := chid c0
        have C1 := chid c1
        have C2 := chid c2
        have C3 := chid c3
        clear c0 c1 c2 c3 hx0 hx1 hx2 hx3 hby hbl hB hbel hpl hall l1 l2 l3 HX hXl E1 E2 E3 hin
        go_wp2_with fail
        go_region_held (fun w' => Bytes w' w.heap.size X ∧ Below w.heap.size w w')
          (first | exact ⟨HB.out.drew, HL.out.drew⟩ | exact keepS (by assumption) (by assumption))
          (first
            | (go_at_call 8; refine (awake_any _).mono ?_; rintro e w1 ⟨rfl, hb1⟩)
            | (go_at_call_of 9 s; refine (C1.out _).mono ?_; rintro e w1 ⟨rfl, hb1⟩)
            | (go_at_call_of 9 t; refine (C2.out _).mono ?_; rintro e w1 ⟨rfl, hb1⟩)
            | (go_at_call_of 9 u; refine (C3.out _).mono ?_; rintro e w1 ⟨rfl, hb1⟩)
            | (go_at_call_of 9 X; refine (C0.out _).mono ?_; rintro e w1 ⟨rfl, hb1⟩))
        rename_i hh
        have hfin := hh.2
        clear hh
        go_wp2
        go_ret
        exact ⟨rfl, hfin⟩
end Go.Proofs.Ytmbflcjjknkcaaa
