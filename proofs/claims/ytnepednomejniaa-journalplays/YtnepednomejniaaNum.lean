import Derived.Test.YtnepednomejniaaPutNum
import Derived.Laws.BitsAllLaws
namespace Go.Proofs.Ytnepednomejniaa
open Go.RowKit

theorem or_byte (v : Nat) (b : UInt8) (hv : v < 72057594037927936) : bits BinOp.or IntKind.u64 ((v : Int) * 256) (IntKind.u64.wrap (b.toNat : Int)) = ((v * 256 + b.toNat : Nat) : Int) := by
  have hb : b.toNat < 256 := b.toNat_lt
  rw [IntKind.wrap_u64, show (b.toNat : Int) % 18446744073709551616 = ((b.toNat : Nat) : Int) by omega, show (v : Int) * 256 = ((v * 256 : Nat) : Int) by simp]
  rw [u64_or_nat _ _ (by omega) (by omega)]
  have := Nat.two_pow_add_eq_or_of_lt (i := 8) (b := b.toNat) (by omega) v
  rw [Nat.mul_comm v 256]
  rw [show (2 : Nat) ^ 8 = 256 from rfl] at this
  rw [this]

set_option maxRecDepth 100000 in
set_option maxHeartbeats 400000 in
theorem highestFirst_any (s : ByteArray) (w : World) (hs : s.size ≤ 8) :
    Calls Try.prog 75 #[.string s] w fun e w' => e = .returned (.int .u64 (beVal s.data.toList)) ∧ w' = w := by
  go_enter Try.func75, Try.ntmps75
  go_wp2
  go_loop [3, 7] (fun v i => ∃ k : Nat, k ≤ s.size ∧ i = .int .i64 k ∧ v = .int .u64 (beVal (s.data.toList.take k))) (fun _ i => s.size - (intOf i).toNat)
  case atStart => exact ⟨0, Nat.zero_le _, rfl, rfl⟩
  case round =>
    obtain ⟨k, hk, rfl, rfl⟩ := hrel
    have hv := beVal_lt (s.data.toList.take k)
    rw [List.length_take, Nat.min_eq_left (by simpa using hk)] at hv
    by_cases hlt : k < s.size
    · have h7 := pow8_le (show k ≤ 7 by omega)
      have hs1 : beVal (s.data.toList.take (k + 1)) = beVal (s.data.toList.take k) * 256 + s[k].toNat := by rw [take_snoc s k hlt, beVal_snoc]
      have HS := Hid.mk hs1
      generalize hvv : beVal (s.data.toList.take k) = v at *
      have hv2 : v < 72057594037927936 := by omega
      clear hs1 hvv hv h7
      go_wp2
      go_round
      case rel => exact ⟨k + 1, by omega, by go_num, by rw [HS.out, or_byte v s[k] hv2]⟩
      case measure => simp [intOf]; omega
    · have hfin : s.data.toList.take k = s.data.toList := List.take_of_length_le (by simp; omega)
      rw [hfin]
      clear hfin hv
      go_wp2
      go_ret
      exact ⟨rfl, rfl⟩
/-- What Num answers, as a value. -/
def numV (l : List UInt8) : Value := .tuple #[.int .i64 ((numP l).1 : Int), .int .i64 ((numP l).2.1 : Int), .int .i64 ((numP l).2.2 : Int)]

/-- Bytes that begin with c: their first byte, how many they are. -/
theorem cons_facts {s : ByteArray} {c : UInt8} {r : List UInt8} (hL : s.data.toList = c :: r) :
    s.size = r.length + 1 ∧ s.toList.isEmpty = false ∧ ∀ h : 0 < s.size, s[0]'h = c := by
  refine ⟨by rw [← s.size_data, ← Array.length_toList, hL]; rfl, by rw [ByteArray.toList_eq, hL]; rfl, fun h => ?_⟩
  show s.data[0]'h = c
  rw [← Array.getElem_toList]
  simp [hL]

theorem cons_facts2 {s : ByteArray} {c x : UInt8} {r : List UInt8} (hL : s.data.toList = c :: x :: r) : ∀ h : 1 < s.size, s[1]'h = x := by
  intro h
  show s.data[1]'h = x
  rw [← Array.getElem_toList]
  simp [hL]

theorem extract_one {s : ByteArray} {c : UInt8} {r : List UInt8} (hL : s.data.toList = c :: r) (k : Nat) : (s.extract 1 (1 + k)).data.toList = r.take k := by
  rw [Lib.extract_data, hL]; simp

set_option maxRecDepth 100000 in
set_option maxHeartbeats 400000 in
theorem num_any (s : ByteArray) (w : World) (hs : s.size ≤ maxLen) :
    Calls Try.prog 64 #[.string s] w fun e w' => e = .returned (numV s.data.toList) ∧ w' = w := by
  unfold maxLen at hs
  cases hL : s.data.toList with
  | nil =>
    have h0 : s.toList.isEmpty = true := by rw [ByteArray.toList_eq, hL]; rfl
    clear hL
    go_enter Try.func64, Try.ntmps64
    go_wp2
    go_ret3
    exact ⟨rfl, rfl⟩
  | cons c r =>
    obtain ⟨hsz, hne, h0⟩ := cons_facts hL
    have hp : 0 < s.size := by omega
    have hc0 := h0 hp
    have hsI : (s.size : Int) = r.length + 1 := by omega
    have HL := Hid.mk hL
    have HZ := Hid.mk hsI
    have hlt := c.toNat_lt
    clear hL h0 hsI
    have HZ' := Hid.mk hsz
    by_cases hA : 8 < c.toNat
    · have hV := Hid.mk (numP_gt c r hA)
      have hA' : (8 : Int) < c.toNat := by omega
      go_enter Try.func64, Try.ntmps64
      go_wp2
      go_ret3
      exact ⟨by rw [numV, hV.out]; rfl, rfl⟩
    · by_cases hB : r.length < c.toNat
      · have hV := Hid.mk (numP_cut c r hA hB)
        go_enter Try.func64, Try.ntmps64
        go_wp2
        go_ret3
        exact ⟨by rw [numV, hV.out]; rfl, rfl⟩
      · by_cases hC : c.toNat = 0
        · have hb0 : beVal (r.take c.toNat) = 0 := by rw [hC]; rfl
          have hV := Hid.mk (numP_ok c r hA hB (by omega) (by omega))
          have HC := Hid.mk hC
          have hB0 := Hid.mk hb0
          have hC' : (c.toNat : Int) ≤ 0 := by omega
          have hC2 : ((c.toNat : Int) == 0) = true := by simp [hC]
          clear hC hb0
          go_enter Try.func64, Try.ntmps64
          go_wp2_with fail
          refine (highestFirst_any _ _ (by simp [ByteArray.size_extract]; omega)).mono ?_
          rintro e w' ⟨rfl, rfl⟩
          rw [extract_one HL.out, hB0.out]
          go_wp2
          go_ret3
          exact ⟨by rw [numV, hV.out, hB0.out, HC.out]; rfl, rfl⟩
        · have hpos : 0 < c.toNat := by omega
          match r, HL, HZ, HZ', hsz, hB with
          | [], _, _, _, _, hB => simp at hB; omega
          | x :: r', HL, HZ, HZ', hsz, hB =>
            have hp1 : 1 < s.size := by rw [hsz]; simp
            have hx := cons_facts2 HL.out hp1
            by_cases hD : x = 0
            · subst hD
              have hV := Hid.mk (numP_zero c (0 :: r') hA hB hpos rfl)
              go_enter Try.func64, Try.ntmps64
              go_wp2_with fail
              refine (highestFirst_any _ _ (by simp [ByteArray.size_extract]; omega)).mono ?_
              rintro e w' ⟨rfl, rfl⟩
              rw [extract_one HL.out]
              go_wp2
              go_ret3
              exact ⟨by rw [numV, hV.out]; rfl, rfl⟩
            · have hxn : ((x.toNat : Int) == 0) = false := by
                rw [beq_eq_false_iff_ne]; intro h; apply hD; apply UInt8.toNat_inj.1; simpa using h
              by_cases hE : 9223372036854775807 < beVal ((x :: r').take c.toNat)
              · have hV := Hid.mk (numP_big c (x :: r') hA hB hE)
                go_enter Try.func64, Try.ntmps64
                go_wp2_with fail
                refine (highestFirst_any _ _ (by simp [ByteArray.size_extract]; omega)).mono ?_
                rintro e w' ⟨rfl, rfl⟩
                rw [extract_one HL.out]
                generalize hv : beVal ((x :: r').take c.toNat) = v at *
                clear hv
                go_wp2
                go_ret3
                exact ⟨by rw [numV, hV.out]; rfl, rfl⟩
              · have hV := Hid.mk (numP_ok c (x :: r') hA hB (by simp [hD]) hE)
                go_enter Try.func64, Try.ntmps64
                go_wp2_with fail
                refine (highestFirst_any _ _ (by simp [ByteArray.size_extract]; omega)).mono ?_
                rintro e w' ⟨rfl, rfl⟩
                rw [extract_one HL.out]
                generalize hv : beVal ((x :: r').take c.toNat) = v at *
                clear hv
                go_wp2
                go_ret3
                exact ⟨by rw [numV, hV.out]; rfl, rfl⟩
end Go.Proofs.Ytnepednomejniaa
