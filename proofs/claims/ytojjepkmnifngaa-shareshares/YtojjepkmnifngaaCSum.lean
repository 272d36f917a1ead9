import Derived.Test.YtojjepkmnifngaaCTable
namespace Go.Proofs.Ytojjepkmnifngaa
open Go.RowKit

theorem crc_take_succ (a : Nat) (l : List UInt8) (i : Nat) (x : UInt8) (h : l[i]? = some x) : crc a (l.take (i + 1)) = stepC (crc a (l.take i)) x := by
  rw [List.take_add_one, h, crc_append]; rfl
theorem data_at (s : ByteArray) (i : Nat) (h : i < s.size) : s.data.toList[i]? = some (s[i]'h) := by
  have : i < s.data.toList.length := by rw [Array.length_toList]; exact h
  rw [List.getElem?_eq_getElem this]; rfl
theorem data_len (s : ByteArray) : s.data.toList.length = s.size := by rw [Array.length_toList]; rfl

set_option maxHeartbeats 4000000 in
set_option maxRecDepth 100000 in
theorem sum_any (s : ByteArray) (w : World) (hs : s.size ≤ 140737488351232) :
    Calls Try.prog 25 #[.string s] w fun e w' => e = .returned (.int .i64 (sumN s.data.toList : Nat)) ∧ Below w.heap.size w w' := by
  obtain ⟨hv, hsz⟩ := zero_of_info infoArr
  rw [← tabC_zero] at hv
  have HZ : Hid ((Try.prog.info? 58).map (·.size) = some (tabC 256).size) := by rw [tabC_size]; exact hsz
  have H1 : Hid ((tabC 256).all (·.oneCell') = true) := tabC_one 256
  have HE : Hid ((tabC 0).size = (tabC 256).size) := by rw [tabC_size, tabC_size]; exact rfl
  clear hsz
  go_enter Try.func25, Try.ntmps25
  go_wp2_with fail
  refine (shiftedOut_any w).mono ?_
  rintro e w1 ⟨rfl, hw1⟩
  have hbel : Below w.heap.size w (w1.alloc (.cells (tabC 256) 58)) := by
    rw [hw1]
    exact (((Below.refl _ _).alloc (Nat.le_refl _) _).alloc (by simp) _).alloc (by simp; omega) _
  clear hw1
  have HU := chid (heap_alloc_last w1 (.cells (tabC 0) 58))
  have HR := chid (World.setRow_alloc_new w1 (tabC 0) (tabC 256) 58)
  go_wp2_with (refine wpList_store_row rfl 58 _ _ rfl w1.heap.size (tabC 256) rfl rfl 58 (tabC 0) HU.out HZ.out HE.out H1.out HR.out ?_)
  have hcells : ∀ j, j < 256 → (w1.alloc (.cells (tabC 256) 58)).cell? ⟨w1.heap.size, j, none⟩ = some (.int .u32 ((tabN j : Nat) : Int)) := fun j hj => by
    rw [World.cell?_alloc_at _ _ _ _ rfl, tabC_at 256 j hj, if_pos hj]
  have HC := chid hcells
  clear hcells hv HZ H1 HE HU HR
  generalize w1.alloc (.cells (tabC 256) 58) = V at *
  generalize w1.heap.size = g at *
  go_loop [4, 9] (fun s4 s9 => ∃ i : Nat, i ≤ s.size ∧ s4 = .int .u32 ((crc 4294967295 (s.data.toList.take i) : Nat) : Int) ∧ s9 = .int .i64 i) (fun _ s9 => s.size - (intOf s9).toNat)
  case atStart => exact ⟨0, by omega, rfl, rfl⟩
  case round =>
    obtain ⟨i, hi, rfl, rfl⟩ := hrel
    have hnl := crc_lt (s.data.toList.take i) 4294967295 (by omega)
    by_cases hlt : i < s.size
    · obtain ⟨x, hx⟩ : ∃ x : UInt8, s[i]'hlt = x := ⟨_, rfl⟩
      have hxl := crc_take_succ 4294967295 s.data.toList i x (by rw [data_at s i hlt, hx])
      obtain ⟨n, hn⟩ : ∃ n, n = crc 4294967295 (s.data.toList.take i) := ⟨_, rfl⟩
      rw [← hn] at hxl hnl ⊢
      have HX := chid hxl
      clear hxl hn
      have hxb := UInt8.toNat_lt x
      have hb1 : bits .xor .u8 ((n : Int) / 16777216) (x.toNat : Int) = ((n / 16777216 % 256 ^^^ x.toNat : Nat) : Int) := by
        have := u8_xor_nat (n / 16777216 % 256) x.toNat (by omega) (by omega)
        rw [← this, show ((n / 16777216 % 256 : Nat) : Int) = (n : Int) / 16777216 by omega]
      obtain ⟨y, hy⟩ : ∃ y, y = n / 16777216 % 256 ^^^ x.toNat := ⟨_, rfl⟩
      have hyl : y < 256 := by rw [hy]; exact Nat.xor_lt_two_pow (n := 8) (by omega) (by omega)
      have hst := stepC_tab n hnl x
      rw [← hy] at hb1 hst
      have hc := HC.out y hyl
      have htl := tabN_lt y
      have hb2 : bits .xor .u32 ((n : Int) * 256 % 4294967296) ((tabN y : Nat) : Int) = ((stepC n x : Nat) : Int) := by
        have := u32_xor_nat (n * 256 % 4294967296) (tabN y) (by omega) htl
        rw [← hst] at this
        exact this
      clear hst hy
      go_wp2
      go_round
      case rel => exact ⟨i + 1, by omega, by rw [HX.out], by go_num⟩
      case measure => simp [intOf]; omega
    · obtain rfl : i = s.size := by omega
      rw [List.take_of_length_le (by rw [data_len]; exact Nat.le_refl _)] at hnl ⊢
      have hb : bits .xor .u32 ((crc 4294967295 s.data.toList : Nat) : Int) 4294967295 = ((sumN s.data.toList : Nat) : Int) := by
        have := u32_xor_nat (crc 4294967295 s.data.toList) 4294967295 hnl (by omega)
        exact this
      have hsl := sumN_lt s.data.toList
      go_wp2
      go_ret
      exact ⟨rfl, hbel⟩
end Go.Proofs.Ytojjepkmnifngaa
