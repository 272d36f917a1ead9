/- Four bytes; Check and Pack of the program. -/
import Derived.Test.YtnepednomejniaaWBody
import Derived.Test.YtnepednomejniaaCSum
import Derived.Test.YtnepednomejniaaCRSum
import Derived.Laws.BitsLemmas
namespace Go.Proofs.Ytnepednomejniaa
open Go.RowKit

theorem four_conv (n : Nat) (w : World) (hn : n < 4294967296) :
    (convert 53 9 (.slice (some ⟨w.heap.size, 0, none⟩) 4 4)).run Try.prog (w.alloc (.cells #[.int .u8 ((n : Int) / 16777216), .int .u8 ((n : Int) / 65536 % 256), .int .u8 ((n : Int) / 256 % 256), .int .u8 ((n : Int) % 256)] 5))
      = .ok (.string ⟨(fourB n).toArray⟩) (w.alloc (.cells #[.int .u8 ((n : Int) / 16777216), .int .u8 ((n : Int) / 65536 % 256), .int .u8 ((n : Int) / 256 % 256), .int .u8 ((n : Int) % 256)] 5)) := by
  refine run_convert_bytes_back (P := Try.prog) _ 53 9 5 ⟨w.heap.size, 0, none⟩ 4 (fourB n) Try.underlying53 Try.underlying5 Try.underlying9 (fun j hj => ?_)
  rw [show (⟨w.heap.size, 0, none⟩ : Addr).add j = ⟨w.heap.size, j, none⟩ from by cases j <;> simp [Addr.add], World.cell?_alloc_at _ _ _ _ rfl]
  have hj4 : j < 4 := hj
  match j, hj4 with
  | 0, _ => simp [fourB]; omega
  | 1, _ => simp [fourB]
  | 2, _ => simp [fourB]
  | 3, _ => simp [fourB]

set_option maxRecDepth 100000 in
set_option maxHeartbeats 1000000 in
theorem putFour_any (n : Nat) (w : World) (hn : n < 4294967296) :
    Calls Try.prog 40 #[.int .i64 n] w fun e w' => e = .returned (.string ⟨(fourB n).toArray⟩) ∧ Below w.heap.size w w' := by
  have hcv := four_conv n w hn
  go_enter Try.func40, Try.ntmps40
  go_wp2
  go_ret
  exact ⟨rfl, (Below.refl _ _).alloc (Nat.le_refl _) _⟩

theorem i64_or_nat (q y k K : Nat) (hK : K = 2 ^ k) (hy : y < K) (h : K * q + y < 9223372036854775808) : bits .or .i64 ((K * q : Nat) : Int) (y : Int) = ((K * q + y : Nat) : Int) := by
  show IntKind.i64.wrap ((BitVec.ofInt 64 ((K * q : Nat) : Int) ||| BitVec.ofInt 64 (y : Int)).toNat : Int) = _
  have e : K * q ||| y = K * q + y := by subst hK; exact (Nat.two_pow_add_eq_or_of_lt hy q).symm
  rw [BitVec.toNat_or, ofInt_i64 _ (by omega), ofInt_i64 y (by omega), e, IntKind.wrap_i64]
  generalize K * q = x at *
  omega

theorem wrap_in (n : Int) (h1 : -9223372036854775808 ≤ n) (h2 : n ≤ 9223372036854775807) : wrap64 n = n := by unfold wrap64; omega
theorem wrap_byte (a : UInt8) (k : Nat) (hk : k ≤ 16777216) : wrap64 (wrap64 (a.toNat : Int) * (k : Int)) = ((k * a.toNat : Nat) : Int) := by
  have ha := a.toNat_lt
  have hm : k * a.toNat ≤ 16777216 * 255 := Nat.mul_le_mul hk (by omega)
  rw [wrap_in (a.toNat : Int) (by omega) (by omega), ← Int.natCast_mul, Nat.mul_comm a.toNat k]
  generalize k * a.toNat = x at *
  exact wrap_in _ (by omega) (by omega)

theorem or_four (a b c d : UInt8) :
    bits BinOp.or IntKind.i64 (bits BinOp.or IntKind.i64 (bits BinOp.or IntKind.i64 (wrap64 (wrap64 (a.toNat : Int) * 16777216)) (wrap64 (wrap64 (b.toNat : Int) * 65536))) (wrap64 (wrap64 (c.toNat : Int) * 256))) (wrap64 (d.toNat : Int))
      = ((beVal [a, b, c, d] : Nat) : Int) := by
  have e1 := wrap_byte a 16777216 (by omega)
  have e2 := wrap_byte b 65536 (by omega)
  have e3 := wrap_byte c 256 (by omega)
  have ha := a.toNat_lt
  have hb := b.toNat_lt
  have hc := c.toNat_lt
  have hd := d.toNat_lt
  have e4 : wrap64 (d.toNat : Int) = (d.toNat : Int) := wrap_in _ (by omega) (by omega)
  have e5 : beVal [a, b, c, d] = 256 * (65536 * a.toNat + 256 * b.toNat + c.toNat) + d.toNat := by
    simp only [beVal, List.foldl_cons, List.foldl_nil]; omega
  rw [e5, e4]
  rw [show ((16777216 : Nat) : Int) = 16777216 from rfl] at e1
  rw [show ((65536 : Nat) : Int) = 65536 from rfl] at e2
  rw [show ((256 : Nat) : Int) = 256 from rfl] at e3
  rw [e1, e2, e3]
  generalize a.toNat = x at *
  generalize b.toNat = y at *
  generalize c.toNat = z at *
  generalize d.toNat = u at *
  rw [i64_or_nat x (65536 * y) 24 16777216 rfl (by omega) (by omega)]
  have g1 : 16777216 * x + 65536 * y = 65536 * (256 * x + y) := by omega
  rw [g1, i64_or_nat (256 * x + y) (256 * z) 16 65536 rfl (by omega) (by omega)]
  have g2 : 65536 * (256 * x + y) + 256 * z = 256 * (65536 * x + 256 * y + z) := by omega
  rw [g2, i64_or_nat (65536 * x + 256 * y + z) u 8 256 rfl (by omega) (by omega)]

theorem take_four (s : ByteArray) (h : 3 < s.size) : s.data.toList.take 4 = [s[0], s[1], s[2], s[3]] := by
  have e3 : s.data.toList.take 4 = _ := take_snoc s 3 h
  have e2 : s.data.toList.take 3 = _ := take_snoc s 2 (by omega)
  have e1 : s.data.toList.take 2 = _ := take_snoc s 1 (by omega)
  have e0 : s.data.toList.take 1 = _ := take_snoc s 0 (by omega)
  rw [e3, e2, e1, e0]
  rfl

set_option maxRecDepth 100000 in
set_option maxHeartbeats 1000000 in
theorem four_any (s : ByteArray) (w : World) (hs : 4 ≤ s.size) :
    Calls Try.prog 45 #[.string s] w fun e w' => e = .returned (.int .i64 (fourN s.data.toList)) ∧ Below w.heap.size w w' := by
  have h0 : 0 < s.size := by omega
  have h1 : 1 < s.size := by omega
  have h2 : 2 < s.size := by omega
  have h3 : 3 < s.size := by omega
  have h1I : (1 : Int) < (s.size : Int) := by omega
  have h2I : (2 : Int) < (s.size : Int) := by omega
  have h3I : (3 : Int) < (s.size : Int) := by omega
  go_enter Try.func45, Try.ntmps45
  go_wp2_with fail
  go_quiet (fail)
  have hbq : Below w.heap.size w (w.drewN nq) := below_drewN (Below.refl _ _) nq
  have hor := or_four (s[0]'h0) (s[1]'h1) (s[2]'h2) (s[3]'h3)
  go_wp2
  go_ret
  exact ⟨(congrArg (fun z => Ending.returned (Value.int .i64 z)) hor).trans (by rw [fourN, take_four s h3]), hbq⟩

/-- What Pack answers. -/
def packV (n : NoteD) : Value := if n.may then .tuple #[.string ⟨(sealB n.body).toArray⟩, .int .i64 0] else .tuple #[.string ⟨#[]⟩, .int .i64 1]


theorem seal_join (b : List UInt8) : (⟨(fourB b.length).toArray⟩ : ByteArray) ++ ⟨(fourB (sumN b)).toArray⟩ ++ ⟨b.toArray⟩ = ⟨(sealB b).toArray⟩ := by
  apply bytes_ext
  rw [append_data, append_data, data_list, data_list, data_list, data_list, sealB, List.append_assoc]

set_option maxRecDepth 100000 in
set_option maxHeartbeats 1000000 in
theorem pack_any (v : Value) (n : NoteD) (w : World) (h : NoteAt w v n) (hs : n.sane) :
    Calls Try.prog 30 #[v] w fun e w' => e = .returned (packV n) ∧ Below w.heap.size w w' := by
  have hN := h
  obtain ⟨vn, vt, vr, rfl, hn, ht, hr⟩ := h
  have hbb : Below w.heap.size w (w.alloc (.cells #[.int .i64 n.kind, vn, vt, vr] 37)) := (Below.refl _ _).alloc (Nat.le_refl _) _
  have N0 := Hid.mk (hN.below hbb)
  have HS := Hid.mk hs
  clear hN hs hn ht hr
  have HBB := Hid.mk hbb
  clear hbb
  by_cases hm : n.may
  · have HV : Hid (bodyV n = .tuple #[.string ⟨n.body.toArray⟩, .int .i64 0]) := Hid.mk (if_pos hm)
    have HP : Hid (packV n = .tuple #[.string ⟨(sealB n.body).toArray⟩, .int .i64 0]) := Hid.mk (if_pos hm)
    have hbl := hm.2.2
    have HJ := Hid.mk (seal_join n.body)
    have HSUM := fun w => sum_any ⟨n.body.toArray⟩ w (by rw [size_list]; omega)
    rw [data_list] at HSUM
    have HSUM := Hid.mk HSUM
    have hsl := sumN_lt n.body
    have hsz := size_list n.body
    clear hm
    obtain ⟨X, hX⟩ : ∃ X, X = sumN n.body := ⟨_, rfl⟩
    rw [← hX] at HSUM hsl HJ
    clear hX
    go_enter Try.func30, Try.ntmps30
    go_wp2_with fail
    refine (bodyOf_any _ n _ N0.out HS.out).mono ?_
    rintro e w1 ⟨rfl, hb1⟩
    rw [HV.out]
    have B1 := Hid.mk (HBB.out.trans (hb1.mono (by simp)))
    clear hb1
    go_wp2_with fail
    refine (putFour_any _ _ (by omega)).mono ?_
    rintro e w2 ⟨rfl, hb2⟩
    have B2 := Hid.mk (B1.out.trans (hb2.mono B1.out.size))
    clear hb2
    go_wp2_with fail
    refine (HSUM.out _).mono ?_
    rintro e w3 ⟨rfl, hb3⟩
    have B3 := Hid.mk (B2.out.trans (hb3.mono B2.out.size))
    clear hb3
    go_wp2_with fail
    refine (putFour_any _ _ hsl).mono ?_
    rintro e w4 ⟨rfl, hb4⟩
    have B4 := Hid.mk (B3.out.trans (hb4.mono B3.out.size))
    clear hb4
    have q1 := fourB_len n.body.length
    have q2 := fourB_len X
    go_wp2
    go_ret2
    exact ⟨by rw [HP.out, ← HJ.out]; rfl, B4.out⟩
  · have HV : Hid (bodyV n = .tuple #[.string ⟨#[]⟩, .int .i64 1]) := Hid.mk (if_neg hm)
    have HP : Hid (packV n = .tuple #[.string ⟨#[]⟩, .int .i64 1]) := Hid.mk (if_neg hm)
    go_enter Try.func30, Try.ntmps30
    go_wp2_with fail
    refine (bodyOf_any _ n _ N0.out HS.out).mono ?_
    rintro e w1 ⟨rfl, hb1⟩
    rw [HV.out]
    go_wp2
    go_ret2
    exact ⟨by rw [HP.out]; rfl, HBB.out.trans (hb1.mono (by simp))⟩
end Go.Proofs.Ytnepednomejniaa
