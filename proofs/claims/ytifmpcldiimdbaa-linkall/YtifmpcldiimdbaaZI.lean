/- Parts of the proofs of stage 15. -/
import Derived.Test.YtifmpcldiimdbaaZH
import Derived.Deep.AppendLies
namespace Go.Proofs.Ytifmpcldiimdbaa
open Go.RowKit

section
variable {S : Nat → Prop} {w : World} {b : Nat} {vq : Value} {e : En}
/-- What Tick ends with. -/
def TckE (w : World) (e : En) (x : Ending) (w' : World) : Prop := (∃ v, x = .returned v ∧ w'.ownsRow w.heap.size 9 1 v (tickE e).length (strCs (tickE e))) ∧ Below w.heap.size w w'
set_option maxRecDepth 100000 in
set_option maxHeartbeats 1000000 in
theorem tickL_any (h : LB S w b vq e) : Calls Try.prog 16 #[.pointer (some ⟨b, 0, none⟩)] w (TckE w e) := by
  obtain ⟨i0, hi0, hz0, hz1, hz2⟩ := info_partsE infoT
  obtain ⟨⟨g0, g1, g2, g3, g4, g5⟩, -⟩ := six_cells h.blk
  have CG := Hid.mk (given_any b w g0)
  have CW := Hid.mk (window_any h)
  have CC : Hid (∀ W, Below w.heap.size w W → ∀ k t, Calls Try.prog 35 #[.pointer (some ⟨b, 0, none⟩), .int .i64 ((k : Nat) : Int), .string ⟨t.toArray⟩] W fun x w' => x = .returned (.string ⟨(carB e k t).toArray⟩) ∧ Below W.heap.size W w') := Hid.mk (fun W hW k t => carry_any (h.below hW) k t)
  have K4 : Hid (∀ W, Below w.heap.size w W → W.cell? ⟨b, 4, none⟩ = some (.int .i64 e.fs)) := Hid.mk (fun W hW => (six_cells (h.below hW).blk).1.2.2.2.2.1)
  have hfs := h.ok.fs2
  obtain ⟨l, hl⟩ : ∃ l, l = e.q.take 64 := ⟨_, rfl⟩
  rw [← hl] at CW
  have hl64 : l.length ≤ 64 := by rw [hl, List.length_take]; omega
  have HTL : Hid (tickE e = tickF e e.fs l) := Hid.mk (by rw [tickE, hl])
  clear h hl g1 g2 g3 g4 g5
  go_enter Try.func16, Try.ntmps16
  go_wp2_with fail
  refine CG.out.mono ?_
  rintro x w1 ⟨rfl, hw⟩
  rw [hw]; clear hw CG w1
  go_wp2_with fail
  refine CW.out.mono ?_
  rintro x w1 ⟨⟨v, rfl, hwin⟩, hw⟩
  rw [hw]; clear hw CW w1 g0
  obtain ⟨ao, hv, hcell⟩ := hwin
  subst hv
  have HCL := Hid.mk hcell
  clear hcell
  go_wp2_with fail
  go_loopw [3, 14] (fun vl c wr => ∃ (i : Nat) (u : Value), u = vl ∧ i ≤ l.length ∧ c = .int .i64 i ∧ wr.ownsRow w.heap.size 9 1 u i (strCs (tickF e e.fs (l.take i))) ∧ Below w.heap.size w wr) (fun _ c _ => l.length - (intOf c).toNat)
  case atStart => exact ⟨0, _, rfl, Nat.zero_le _, rfl, by simpa [tickF, strCs] using World.ownsRow_nil _ _ _ _, Below.refl _ _⟩
  case round =>
    obtain ⟨i, u, rfl, hi, rfl, hrow, hbq⟩ := hrel
    obtain ⟨wx, hwx⟩ : ∃ wx, wx = wr := ⟨_, rfl⟩
    subst hwx
    obtain ⟨ua, uc, hu⟩ := own_slice hrow
    subst hu
    have HROW := Hid.mk hrow
    have HBQ := Hid.mk hbq
    have hsx : w.heap.size ≤ wx.heap.size := hbq.size
    clear hrow hbq
    by_cases hlt : i < l.length
    · have hltI : (i : Int) < (l.length : Int) := by omega
      obtain ⟨t, ht⟩ : ∃ t, l[i]? = some t := ⟨_, List.getElem?_eq_getElem hlt⟩
      obtain ⟨g, off, rfl, hg, hc⟩ := HCL.out i t ht
      have hc2 := (HBQ.out.cell (p := ⟨g, off + i, none⟩) hg).trans hc
      have q4 := K4.out _ HBQ.out
      have HT := Hid.mk ht
      have C := Hid.mk (CC.out wx HBQ.out (e.fs + i) t)
      have hcast : ((e.fs + i : Nat) : Int) = (e.fs : Int) + (i : Int) := by omega
      rw [hcast] at C
      obtain ⟨p, HP⟩ : ∃ p, Hid (p = carB e (e.fs + i) t) := ⟨_, Hid.mk rfl⟩
      rw [← HP.out] at C
      clear ht hc hcast hg
      go_wp2_with fail
      refine C.out.mono ?_
      rintro x w2 ⟨rfl, hb2⟩
      have HB2 : Hid (Below w.heap.size w w2) := Hid.mk (HBQ.out.trans (hb2.mono HBQ.out.size))
      have HR2 := Hid.mk (ownsRow_below HROW.out hb2)
      have hs2 : w.heap.size ≤ w2.heap.size := HB2.out.size
      clear hb2 C q4 hc2
      go_wp2_with (refine wpList_append_lies _ rfl _ _ _ rfl w.heap.size 9 i0 _ 1 16 Try.underlying27 hi0 hz0 hz1 hz2 rfl (by decide) (.slice ua i uc) _ _ (by rfl) (HR2.out.alloc _) ⟨w2.heap.size, 0, none⟩ 1 1 [.string ⟨p.toArray⟩] (by rfl) (by rfl) ?d1 ?d2 (by decide) ?d3 ?d4 ?d5 (w2.heap.size + 1) (by simp) ?_)
      case d1 => exact World.news_of_block (cs := #[.string ⟨p.toArray⟩]) (t := 9) (fr := (0, 0)) (heap_alloc_new w2 _)
      case d2 => simp [Value.oneCell']
      case d3 => unfold maxLen; omega
      case d4 => omega
      case d5 => simp; omega
      intro gg cap2 w9 hown9 hgrow9 hat9 hlt9
      have ba : Below w2.heap.size w2 (w2.alloc (.cells #[.string ⟨p.toArray⟩] 9)) := (Below.refl _ _).alloc (Nat.le_refl _) _
      have HB9 : Hid (Below w.heap.size w w9) := Hid.mk ((HB2.out.trans (ba.mono HB2.out.size)).grown hgrow9 (by simp; omega) (fun k e => (HR2.out.lt k e).1))
      have HR9 : Hid (w9.ownsRow w.heap.size 9 1 (.slice (some ⟨gg, 0, none⟩) (i + 1) cap2) (i + 1) (strCs (tickF e e.fs (l.take (i + 1))))) := Hid.mk (by
        have h1 : tickF e e.fs (l.take (i + 1)) = tickF e e.fs (l.take i) ++ [p] := by
          rw [List.take_add_one, HT.out, HP.out, Option.toList_some, tickF_snoc, List.length_take, Nat.min_eq_left hi]
        rw [h1, strCs_snoc]
        exact hown9)
      clear hown9 hgrow9 hat9 hlt9 ba
      go_wp2
      go_roundw
      case rel => exact ⟨i + 1, _, rfl, by omega, by go_num, HR9.out, HB9.out⟩
      case measure => simp [intOf]; omega
    · have hltI : ¬ (i : Int) < (l.length : Int) := by omega
      obtain rfl : i = l.length := by omega
      have HE : Hid (TckE w e (.returned (.slice ua l.length uc)) wx) := Hid.mk ⟨⟨_, rfl, by
        have := HROW.out
        rw [List.take_length] at this
        rw [HTL.out, tickF_len]
        exact this⟩, HBQ.out⟩
      go_wp2
      go_ret
      exact HE.out
end
end Go.Proofs.Ytifmpcldiimdbaa

namespace Go.Proofs.Ytifmpcldiimdbaa
open Go.RowKit

section
variable {S : Nat → Prop} {w : World} {b : Nat} {vq : Value} {e : En}
/-- What Put ends with. -/
def PtE (S : Nat → Prop) (w : World) (b : Nat) (e : En) (n : NoteD) (x : Ending) (w' : World) : Prop :=
  (∃ a0 l0 c0, x = .returned (.tuple #[.slice a0 l0 c0, .int .i64 ((putE e n).2.2 : Int)]) ∧ OneT w' w.heap.size (.slice a0 l0 c0) (putE e n).2.1 ∧ ∃ vq', LB (fun k => S k ∨ (Value.slice a0 l0 c0).ownBlock = some k) w' b vq' (putE e n).1) ∧ Fr S w w'
theorem ptE_of {n : NoteD} {W : World} {e' : En} {ps : List (List UInt8)} {r : Nat} {a0 : Option Addr} {l0 c0 : Nat} {vq' : Value} (hp : putE e n = (e', ps, r)) (h1 : OneT W w.heap.size (.slice a0 l0 c0) ps) (hl : LB (fun k => S k ∨ (Value.slice a0 l0 c0).ownBlock = some k) W b vq' e') (hf : Fr S w W) :
    PtE S w b e n (.returned (.tuple #[.slice a0 l0 c0, .int .i64 (r : Int)])) W := by
  unfold PtE
  rw [hp]
  exact ⟨⟨a0, l0, c0, rfl, h1, vq', hl⟩, hf⟩
theorem LB.none {S : Nat → Prop} {w : World} {b : Nat} {vq : Value} {e : En} (h : LB S w b vq e) : LB (fun k => S k ∨ (Value.slice none 0 0).ownBlock = some k) w b vq e := h.sub (fun _ hk => hk.elim id (fun h => by cases h))
set_option maxRecDepth 100000 in
set_option maxHeartbeats 1000000 in
theorem putL_any (h : LB S w b vq e) (hS : Low S w) (v : Value) (n : NoteD) (hn : NoteAt w v n) (hs : n.sane) : Calls Try.prog 13 #[.pointer (some ⟨b, 0, none⟩), v] w (PtE S w b e n) := by
  have hN := hn
  obtain ⟨vn, vt, vr, rfl, -, -, -⟩ := hn
  have hbb : Below w.heap.size w (w.alloc (.cells #[.int .i64 n.kind, vn, vt, vr] 36)) := (Below.refl _ _).alloc (Nat.le_refl _) _
  have h1 := h.below hbb
  have hF1 := fr_below hS hbb
  have CG := Hid.mk (given_any b _ (six_cells h1.blk).1.1)
  have CP := Hid.mk (pack_any _ n _ (hN.below hbb) hs)
  have H1 := Hid.mk h1
  have HF1 := Hid.mk hF1
  have hS1 : Hid (Low S (w.alloc (.cells #[.int .i64 n.kind, vn, vt, vr] 36))) := Hid.mk (hS.below hbb)
  have HSZ : Hid (w.heap.size ≤ (w.alloc (.cells #[.int .i64 n.kind, vn, vt, vr] 36)).heap.size) := Hid.mk hbb.size
  clear h h1 hF1 hN hbb hs
  by_cases hm : n.may
  · rw [packV, if_pos hm] at CP
    obtain ⟨t, ht⟩ : ∃ t, sealB n.body = t := ⟨_, rfl⟩
    rw [ht] at CP
    have HT := Hid.mk ht
    have HM := Hid.mk hm
    have hsz : (⟨t.toArray⟩ : ByteArray).size = t.length := by rw [size_list]
    clear ht hm
    by_cases hl : 32768 < t.length
    · have hlI : (32768 : Int) < (t.length : Int) := by omega
      have HPU : Hid (putE e n = (e, [], 1)) := Hid.mk (by rw [putE, if_pos (fun h => by have := h.2; rw [HT.out] at this; omega)])
      clear hl
      go_enter Try.func13, Try.ntmps13
      go_wp2_with fail
      refine CG.out.mono ?_
      rintro x w1 ⟨rfl, hw⟩
      rw [hw]; clear hw CG w1
      go_wp2_with fail
      refine CP.out.mono ?_
      rintro x w2 ⟨rfl, hb2⟩
      have HE : Hid (PtE S w b e n (.returned (.tuple #[.slice none 0 0, .int .i64 1])) w2) := Hid.mk (ptE_of (r := 1) HPU.out (oneT_nil _ _) (H1.out.below hb2).none (HF1.out.next hS hb2))
      clear hb2 CP
      go_wp2
      go_ret2
      exact HE.out
    · have hlI : ¬ (32768 : Int) < (t.length : Int) := by omega
      have HFN : Hid (fitsN n) := Hid.mk ⟨HM.out, by rw [HT.out]; omega⟩
      have HTL : Hid (t.length ≤ 32768) := Hid.mk (by omega)
      clear hl
      go_enter Try.func13, Try.ntmps13
      go_wp2_with fail
      refine CG.out.mono ?_
      rintro x w1 ⟨rfl, hw⟩
      rw [hw]; clear hw CG w1
      go_wp2_with fail
      refine CP.out.mono ?_
      rintro x w2 ⟨rfl, hb2⟩
      have H2 := Hid.mk (H1.out.below hb2)
      have HF2 := Hid.mk (HF1.out.next hS hb2)
      have HS2 := Hid.mk (hS1.out.below hb2)
      have HZ2 : Hid (w.heap.size ≤ w2.heap.size) := Hid.mk (Nat.le_trans HSZ.out hb2.size)
      have CC := Hid.mk (count_any H2.out)
      clear hb2 CP H1 HF1 hS1 HSZ
      by_cases hq : 4096 ≤ e.q.length
      · have hqI : (4096 : Int) ≤ (e.q.length : Int) := by omega
        have HE : Hid (PtE S w b e n (.returned (.tuple #[.slice none 0 0, .int .i64 2])) w2) := Hid.mk (ptE_of (r := 2) (by rw [putE, if_neg (fun h => h HFN.out), if_pos hq]) (oneT_nil _ _) H2.out.none HF2.out)
        go_wp2_with fail
        refine CC.out.mono ?_
        rintro x w3 ⟨rfl, hw⟩
        rw [hw]; clear hw CC w3
        go_wp2
        go_ret2
        exact HE.out
      · have hqI : ¬ (4096 : Int) ≤ (e.q.length : Int) := by omega
        have CQ := Hid.mk (putQ_any H2.out HS2.out t HTL.out (by omega))
        go_wp2_with fail
        refine CC.out.mono ?_
        rintro x w3 ⟨rfl, hw⟩
        rw [hw]; clear hw CC w3
        go_wp2_with fail
        refine CQ.out.mono ?_
        rintro x w3 ⟨rfl, vq3, h3, hf3⟩
        have H3 := Hid.mk h3
        have HF3 := Hid.mk (HF2.out.trans hf3)
        have HZ3 : Hid (w.heap.size ≤ w3.heap.size) := Hid.mk (Nat.le_trans HZ2.out hf3.size)
        have CC := Hid.mk (count_any h3)
        have hlen : (pushE e t).q.length = e.q.length + 1 := by simp [pushE]
        rw [hlen] at CC
        have CR := Hid.mk (carry_any h3 (e.fs + e.q.length) t)
        obtain ⟨p, hp⟩ : ∃ p, carB (pushE e t) (e.fs + e.q.length) t = p := ⟨_, rfl⟩
        rw [hp] at CR
        have HP : Hid (carB e (e.fs + e.q.length) t = p) := Hid.mk hp
        clear h3 hf3 CQ hlen hp H2 HF2 HS2 HZ2
        have hfs := H3.out.ok.fs2
        by_cases h64 : 64 < e.q.length + 1
        · have h64I : (64 : Int) < ((e.q.length + 1 : Nat) : Int) := by omega
          have h64J : (64 : Int) < (e.q.length : Int) + 1 := by omega
          have HE : Hid (PtE S w b e n (.returned (.tuple #[.slice none 0 0, .int .i64 0])) w3) := Hid.mk (ptE_of (r := 0) (by rw [putE, if_neg (fun h => h HFN.out), if_neg hq, if_pos h64, HT.out]) (oneT_nil _ _) H3.out.none HF3.out)
          go_wp2_with fail
          refine CC.out.mono ?_
          rintro x w4 ⟨rfl, hw⟩
          rw [hw]; clear hw CC w4
          go_wp2
          go_ret2
          exact HE.out
        · have h64I : ¬ (64 : Int) < ((e.q.length + 1 : Nat) : Int) := by omega
          have h64J : ¬ (64 : Int) < (e.q.length : Int) + 1 := by omega
          have HPU : Hid (putE e n = (pushE e t, [p], 0)) := Hid.mk (by rw [putE, if_neg (fun h => h HFN.out), if_neg hq, if_neg h64, HT.out, HP.out])
          go_wp2_with fail
          refine CC.out.mono ?_
          rintro x w4 ⟨rfl, hw⟩
          rw [hw]; clear hw CC w4
          go_wp2_with fail
          refine CR.out.mono ?_
          rintro x w5 ⟨rfl, hb5⟩
          have ba : Below w5.heap.size w5 (w5.alloc (.cells #[.string ⟨p.toArray⟩] 9)) := (Below.refl _ _).alloc (Nat.le_refl _) _
          have HE : Hid (PtE S w b e n (.returned (.tuple #[.slice (some ⟨w5.heap.size, 0, none⟩) 1 1, .int .i64 0])) (w5.alloc (.cells #[.string ⟨p.toArray⟩] 9))) := Hid.mk (ptE_of (r := 0) HPU.out (oneT_one (Nat.le_trans HZ3.out hb5.size) (box_at w5 _)) (((H3.out.below hb5).below ba).more (fun k hk => hk.elim .inl (fun h => .inr (by
            have hkk : w5.heap.size = k := by simpa [Value.ownBlock] using h
            have h5 := lt_of_block (H3.out.below hb5).blk
            exact ⟨by omega, fun e => by have := (H3.out.below hb5).lowq k e; omega⟩)))) ((HF3.out.next hS hb5).next hS ba))
          clear hb5 ba CR
          go_wp2
          go_ret2
          exact HE.out
  · rw [packV, if_neg hm] at CP
    have HPU : Hid (putE e n = (e, [], 1)) := Hid.mk (by rw [putE, if_pos (fun h => hm h.1)])
    clear hm
    go_enter Try.func13, Try.ntmps13
    go_wp2_with fail
    refine CG.out.mono ?_
    rintro x w1 ⟨rfl, hw⟩
    rw [hw]; clear hw CG w1
    go_wp2_with fail
    refine CP.out.mono ?_
    rintro x w2 ⟨rfl, hb2⟩
    have HE : Hid (PtE S w b e n (.returned (.tuple #[.slice none 0 0, .int .i64 1])) w2) := Hid.mk (ptE_of (r := 1) HPU.out (oneT_nil _ _) (H1.out.below hb2).none (HF1.out.next hS hb2))
    clear hb2 CP
    go_wp2
    go_ret2
    exact HE.out
end
end Go.Proofs.Ytifmpcldiimdbaa

namespace Go.Proofs.Ytifmpcldiimdbaa
open Go.RowKit

section
variable {S : Nat → Prop} {w : World} {b : Nat} {vq : Value} {e : En}
set_option maxRecDepth 100000 in
set_option maxHeartbeats 2000000 in
theorem take_none (h : LB S w b vq e) (hS : Low S w) (l : List UInt8) (hl : l.length ≤ 140737488351232) (hh : heardP l = none) :
    Calls Try.prog 19 #[.pointer (some ⟨b, 0, none⟩), .string ⟨l.toArray⟩] w (TakE S w b e l) := by
  have HH := Hid.mk hh
  have HT : Hid (takeE e l = (e, [], [], false)) := Hid.mk (by rw [takeE, hh])
  clear hh
  have F0 : LF S w (w.alloc (.cells #[.slice none 0 0, .slice none 0 0, .bool false] 50)) b vq e := (LF.begin h).alloc hS _
  have r0 := box_at w (.cells #[.slice none 0 0, .slice none 0 0, .bool false] 50)
  have hz0 : (w.alloc (.cells #[.slice none 0 0, .slice none 0 0, .bool false] 50)).heap.size = w.heap.size + 1 := by simp
  have CG := Hid.mk (given_any b (w.alloc (.cells #[.slice none 0 0, .slice none 0 0, .bool false] 50)) (six_cells F0.lb.blk).1.1)
  have CH := Hid.mk (heard_any l (w.alloc (.cells #[.slice none 0 0, .slice none 0 0, .bool false] 50)) hl)
  unfold HdE at CH
  have HF0 := Hid.mk F0
  have HR0 := Hid.mk r0
  have HZ0 := Hid.mk hz0
  clear F0 r0 hz0 h hl
  go_enter Try.func19, Try.ntmps19
  go_wp2_with fail
  refine CG.out.mono ?_
  rintro x w1 ⟨rfl, hw⟩
  rw [hw]; clear hw CG w1
  go_wp2_with fail
  refine CH.out.mono ?_
  clear CH
  rintro x w1 ⟨⟨a, bb, c, d, f, kk, a0, l0, c0, a1, l1, c1, a2, l2, c2, ok, rfl, hv⟩, hb⟩
  unfold HdV at hv
  rw [HH.out] at hv
  simp only at hv
  rw [HZ0.out] at hb
  try rw [HZ0.out] at hv
  have hb' : Below (w.alloc (.cells #[.slice none 0 0, .slice none 0 0, .bool false] 50)).heap.size (w.alloc (.cells #[.slice none 0 0, .slice none 0 0, .bool false] 50)) w1 := by rw [HZ0.out]; exact hb
  have F2 : LF S w (w1.alloc (.cells #[.int .i64 a, .int .i64 bb, .int .i64 c, .bool d, .int .i64 f, .int .i64 kk, .slice a0 l0 c0, .slice a1 l1 c1, .slice a2 l2 c2] 86)) b vq e := (HF0.out.below hS hb').alloc hS _
  have r2 : (w1.alloc (.cells #[.int .i64 a, .int .i64 bb, .int .i64 c, .bool d, .int .i64 f, .int .i64 kk, .slice a0 l0 c0, .slice a1 l1 c1, .slice a2 l2 c2] 86)).heap[w.heap.size]? = some (.cells #[.slice none 0 0, .slice none 0 0, .bool false] 50) := alloc_old (kpB hb' HR0.out)
  have k2' := box_at w1 (.cells #[.int .i64 a, .int .i64 bb, .int .i64 c, .bool d, .int .i64 f, .int .i64 kk, .slice a0 l0 c0, .slice a1 l1 c1, .slice a2 l2 c2] 86)
  have hw1 : w.heap.size + 1 ≤ w1.heap.size := by rw [← HZ0.out]; exact hb.size
  have HF2 := Hid.mk F2
  have HR2 := Hid.mk r2
  have HK2 := Hid.mk k2'
  have HW1 := Hid.mk hw1
  obtain ⟨⟨g0, g1, g2, g3, g4, g5⟩, ⟨f0, f1, f2, f3, f4, f5⟩⟩ := six_cells F2.lb.blk
  obtain ⟨⟨k0, k1, k2, k3, k4, k5, k6, k7, k8⟩, -⟩ := nine_cells k2'
  obtain ⟨⟨r0, r1, r2⟩, ⟨s0, s1, s2⟩⟩ := three_cells r2
  clear F2 r2 k2' hw1 hb hb' HF0 HR0
  subst hv
  go_wp2_with fail
  go_quiet (fail)
  obtain ⟨W3, hW3⟩ : ∃ W3 : World, W3 = (w1.alloc (.cells #[.int .i64 a, .int .i64 bb, .int .i64 c, .bool d, .int .i64 f, .int .i64 kk, .slice a0 l0 c0, .slice a1 l1 c1, .slice a2 l2 c2] 86)).drewN nq := ⟨_, rfl⟩
  rw [← hW3]
  have HF3 : LF S w W3 b vq e := by rw [hW3]; exact HF2.out.drewN nq
  have HR3 : W3.heap[w.heap.size]? = some (.cells #[.slice none 0 0, .slice none 0 0, .bool false] 50) := by rw [hW3]; exact HR2.out
  clear hW3 r0 r1 r2 s0 s1 s2 k0 k1 k2 k3 k4 k5 k6 k7 k8 g0 g1 g2 g3 g4 g5 f0 f1 f2 f3 f4 f5
  have HE : Hid (TakE S w b e l (.returned (.agg #[.slice none 0 0, .slice none 0 0, .bool false])) (set3 W3 w.heap.size (.slice none 0 0) (.slice none 0 0) (.bool false))) := Hid.mk (takE_of HT.out (oneN_nil _ _) (oneT_nil _ _) (HF3.set3 hS (Nat.le_refl _) _ _ _))
  obtain ⟨⟨z0, z1, z2⟩, -⟩ := three_cells (set3_block HR3 (.slice none 0 0) (.slice none 0 0) (.bool false))
  obtain ⟨⟨r0, r1, r2⟩, ⟨s0, s1, s2⟩⟩ := three_cells HR3
  have Z0 := Hid.mk z0
  have Z1 := Hid.mk z1
  have Z2 := Hid.mk z2
  clear z0 z1 z2 HF3 HR3
  go_wp2
  refine bodyPost_ret (v := .agg #[.slice none 0 0, .slice none 0 0, .bool false]) ?_ rfl HE.out
  simp [results, Try.results19, go_sem, Z0.out, Z1.out, Z2.out]
set_option maxRecDepth 100000 in
set_option maxHeartbeats 2000000 in
theorem take_old (h : LB S w b vq e) (hS : Low S w) (l : List UInt8) (hl : l.length ≤ 140737488351232) (y : Hd) (hh : heardP l = some y) (ho : y.ep = 0 ∨ y.ep < (e.ot : Int)) :
    Calls Try.prog 19 #[.pointer (some ⟨b, 0, none⟩), .string ⟨l.toArray⟩] w (TakE S w b e l) := by
  have HH := Hid.mk hh
  have HT : Hid (takeE e l = (e, [], [], false)) := Hid.mk (by rw [takeE, hh]; simp only; rw [if_pos ho])
  clear hh
  have F0 : LF S w (w.alloc (.cells #[.slice none 0 0, .slice none 0 0, .bool false] 50)) b vq e := (LF.begin h).alloc hS _
  have r0 := box_at w (.cells #[.slice none 0 0, .slice none 0 0, .bool false] 50)
  have hz0 : (w.alloc (.cells #[.slice none 0 0, .slice none 0 0, .bool false] 50)).heap.size = w.heap.size + 1 := by simp
  have CG := Hid.mk (given_any b (w.alloc (.cells #[.slice none 0 0, .slice none 0 0, .bool false] 50)) (six_cells F0.lb.blk).1.1)
  have CH := Hid.mk (heard_any l (w.alloc (.cells #[.slice none 0 0, .slice none 0 0, .bool false] 50)) hl)
  unfold HdE at CH
  have HF0 := Hid.mk F0
  have HR0 := Hid.mk r0
  have HZ0 := Hid.mk hz0
  clear F0 r0 hz0 h hl
  go_enter Try.func19, Try.ntmps19
  go_wp2_with fail
  refine CG.out.mono ?_
  rintro x w1 ⟨rfl, hw⟩
  rw [hw]; clear hw CG w1
  go_wp2_with fail
  refine CH.out.mono ?_
  clear CH
  rintro x w1 ⟨⟨a, bb, c, d, f, kk, a0, l0, c0, a1, l1, c1, a2, l2, c2, ok, rfl, hv⟩, hb⟩
  unfold HdV at hv
  rw [HH.out] at hv
  simp only at hv
  rw [HZ0.out] at hb
  try rw [HZ0.out] at hv
  have hb' : Below (w.alloc (.cells #[.slice none 0 0, .slice none 0 0, .bool false] 50)).heap.size (w.alloc (.cells #[.slice none 0 0, .slice none 0 0, .bool false] 50)) w1 := by rw [HZ0.out]; exact hb
  have F2 : LF S w (w1.alloc (.cells #[.int .i64 a, .int .i64 bb, .int .i64 c, .bool d, .int .i64 f, .int .i64 kk, .slice a0 l0 c0, .slice a1 l1 c1, .slice a2 l2 c2] 86)) b vq e := (HF0.out.below hS hb').alloc hS _
  have r2 : (w1.alloc (.cells #[.int .i64 a, .int .i64 bb, .int .i64 c, .bool d, .int .i64 f, .int .i64 kk, .slice a0 l0 c0, .slice a1 l1 c1, .slice a2 l2 c2] 86)).heap[w.heap.size]? = some (.cells #[.slice none 0 0, .slice none 0 0, .bool false] 50) := alloc_old (kpB hb' HR0.out)
  have k2' := box_at w1 (.cells #[.int .i64 a, .int .i64 bb, .int .i64 c, .bool d, .int .i64 f, .int .i64 kk, .slice a0 l0 c0, .slice a1 l1 c1, .slice a2 l2 c2] 86)
  have hw1 : w.heap.size + 1 ≤ w1.heap.size := by rw [← HZ0.out]; exact hb.size
  have HF2 := Hid.mk F2
  have HR2 := Hid.mk r2
  have HK2 := Hid.mk k2'
  have HW1 := Hid.mk hw1
  obtain ⟨⟨g0, g1, g2, g3, g4, g5⟩, ⟨f0, f1, f2, f3, f4, f5⟩⟩ := six_cells F2.lb.blk
  obtain ⟨⟨k0, k1, k2, k3, k4, k5, k6, k7, k8⟩, -⟩ := nine_cells k2'
  obtain ⟨⟨r0, r1, r2⟩, ⟨s0, s1, s2⟩⟩ := three_cells r2
  clear F2 r2 k2' hw1 hb hb' HF0 HR0
  obtain ⟨rfl, rfl, rfl, rfl, rfl, rfl, rfl, hown⟩ := hv
  clear hown
  by_cases h0 : y.ep = 0
  · have h0b : (y.ep == 0) = true := by simp; exact h0
    clear h0 ho
    go_wp2_with fail
    go_quiet (fail)
    obtain ⟨W3, hW3⟩ : ∃ W3 : World, W3 = (w1.alloc (.cells #[.int .i64 y.ep, .int .i64 y.ot, .int .i64 y.wt, .bool y.ca, .int .i64 y.nr, .int .i64 y.pl.kind, .slice a0 l0 c0, .slice a1 l1 c1, .slice a2 l2 c2] 86)).drewN nq := ⟨_, rfl⟩
    rw [← hW3]
    have HF3 : LF S w W3 b vq e := by rw [hW3]; exact HF2.out.drewN nq
    have HR3 : W3.heap[w.heap.size]? = some (.cells #[.slice none 0 0, .slice none 0 0, .bool false] 50) := by rw [hW3]; exact HR2.out
    clear hW3 r0 r1 r2 s0 s1 s2 k0 k1 k2 k3 k4 k5 k6 k7 k8 g0 g1 g2 g3 g4 g5 f0 f1 f2 f3 f4 f5
    have HE : Hid (TakE S w b e l (.returned (.agg #[.slice none 0 0, .slice none 0 0, .bool false])) (set3 W3 w.heap.size (.slice none 0 0) (.slice none 0 0) (.bool false))) := Hid.mk (takE_of HT.out (oneN_nil _ _) (oneT_nil _ _) (HF3.set3 hS (Nat.le_refl _) _ _ _))
    obtain ⟨⟨z0, z1, z2⟩, -⟩ := three_cells (set3_block HR3 (.slice none 0 0) (.slice none 0 0) (.bool false))
    obtain ⟨⟨r0, r1, r2⟩, ⟨s0, s1, s2⟩⟩ := three_cells HR3
    have Z0 := Hid.mk z0
    have Z1 := Hid.mk z1
    have Z2 := Hid.mk z2
    clear z0 z1 z2 HF3 HR3
    go_wp2
    refine bodyPost_ret (v := .agg #[.slice none 0 0, .slice none 0 0, .bool false]) ?_ rfl HE.out
    simp [results, Try.results19, go_sem, Z0.out, Z1.out, Z2.out]
  · have h0b : (y.ep == 0) = false := by simp; exact h0
    have h1 : y.ep < (e.ot : Int) := ho.resolve_left h0
    clear ho
    go_wp2_with fail
    go_quiet (fail)
    obtain ⟨W3, hW3⟩ : ∃ W3 : World, W3 = (w1.alloc (.cells #[.int .i64 y.ep, .int .i64 y.ot, .int .i64 y.wt, .bool y.ca, .int .i64 y.nr, .int .i64 y.pl.kind, .slice a0 l0 c0, .slice a1 l1 c1, .slice a2 l2 c2] 86)).drewN nq := ⟨_, rfl⟩
    rw [← hW3]
    have HF3 : LF S w W3 b vq e := by rw [hW3]; exact HF2.out.drewN nq
    have HR3 : W3.heap[w.heap.size]? = some (.cells #[.slice none 0 0, .slice none 0 0, .bool false] 50) := by rw [hW3]; exact HR2.out
    clear hW3 r0 r1 r2 s0 s1 s2 k0 k1 k2 k3 k4 k5 k6 k7 k8 g0 g1 g2 g3 g4 g5 f0 f1 f2 f3 f4 f5
    have HE : Hid (TakE S w b e l (.returned (.agg #[.slice none 0 0, .slice none 0 0, .bool false])) (set3 W3 w.heap.size (.slice none 0 0) (.slice none 0 0) (.bool false))) := Hid.mk (takE_of HT.out (oneN_nil _ _) (oneT_nil _ _) (HF3.set3 hS (Nat.le_refl _) _ _ _))
    obtain ⟨⟨z0, z1, z2⟩, -⟩ := three_cells (set3_block HR3 (.slice none 0 0) (.slice none 0 0) (.bool false))
    obtain ⟨⟨r0, r1, r2⟩, ⟨s0, s1, s2⟩⟩ := three_cells HR3
    have Z0 := Hid.mk z0
    have Z1 := Hid.mk z1
    have Z2 := Hid.mk z2
    clear z0 z1 z2 HF3 HR3
    go_wp2
    refine bodyPost_ret (v := .agg #[.slice none 0 0, .slice none 0 0, .bool false]) ?_ rfl HE.out
    simp [results, Try.results19, go_sem, Z0.out, Z1.out, Z2.out]
end
end Go.Proofs.Ytifmpcldiimdbaa

namespace Go.Proofs.Ytifmpcldiimdbaa
open Go.RowKit

section
variable {S : Nat → Prop} {w : World} {b : Nat} {vq : Value} {e : En}
set_option maxRecDepth 100000 in
set_option maxHeartbeats 2000000 in
theorem take_later (h : LB S w b vq e) (hS : Low S w) (l : List UInt8) (hl : l.length ≤ 140737488351232) (y : Hd) (hh : heardP l = some y) (ho : ¬ (y.ep = 0 ∨ y.ep < (e.ot : Int))) (hlt : (e.ot : Int) < y.ep) :
    Calls Try.prog 19 #[.pointer (some ⟨b, 0, none⟩), .string ⟨l.toArray⟩] w (TakE S w b e l) := by
  have HH := Hid.mk hh
  obtain ⟨q1, q2, q3, q4, -⟩ := heardP_good hh
  obtain ⟨k, hk⟩ : ∃ k : Nat, y.ep = (k : Int) := ⟨y.ep.toNat, by have := q1.1; omega⟩
  obtain ⟨kw, hkw⟩ : ∃ k : Nat, y.wt = (k : Int) := ⟨y.wt.toNat, by have := q3.1; omega⟩
  have HTK : Hid (takeE e l = metE (seeE e k) y) := Hid.mk (by rw [takeE, hh]; simp only; rw [if_neg ho, hk]; rfl)
  have hk0 : ¬ (k : Int) = 0 := fun h => ho (.inl (by rw [hk]; exact h))
  have hk0b : ((k : Int) == 0) = false := by simp; omega
  have hko : ¬ (k : Int) < (e.ot : Int) := fun h => ho (.inr (by rw [hk]; exact h))
  have HKB : Hid (k ≤ 4611686018427387903) := Hid.mk (by have := q1.2; omega)
  have HKW : Hid (kw ≤ 4611686018427387903) := Hid.mk (by have := q3.2; omega)
  have HNR : Hid (goodNum y.nr) := Hid.mk q4
  rw [hk] at hlt
  have HYE := Hid.mk hk
  have HYW := Hid.mk hkw
  clear hh ho q1 q2 q3 q4 hk hkw
  have F0 : LF S w (w.alloc (.cells #[.slice none 0 0, .slice none 0 0, .bool false] 50)) b vq e := (LF.begin h).alloc hS _
  have r0 := box_at w (.cells #[.slice none 0 0, .slice none 0 0, .bool false] 50)
  have hz0 : (w.alloc (.cells #[.slice none 0 0, .slice none 0 0, .bool false] 50)).heap.size = w.heap.size + 1 := by simp
  have CG := Hid.mk (given_any b (w.alloc (.cells #[.slice none 0 0, .slice none 0 0, .bool false] 50)) (six_cells F0.lb.blk).1.1)
  have CH := Hid.mk (heard_any l (w.alloc (.cells #[.slice none 0 0, .slice none 0 0, .bool false] 50)) hl)
  unfold HdE at CH
  have HF0 := Hid.mk F0
  have HR0 := Hid.mk r0
  have HZ0 := Hid.mk hz0
  clear F0 r0 hz0 h hl
  go_enter Try.func19, Try.ntmps19
  go_wp2_with fail
  refine CG.out.mono ?_
  rintro x w1 ⟨rfl, hw⟩
  rw [hw]; clear hw CG w1
  go_wp2_with fail
  refine CH.out.mono ?_
  clear CH
  rintro x w1 ⟨⟨a, bb, c, d, f, kk, a0, l0, c0, a1, l1, c1, a2, l2, c2, ok, rfl, hv⟩, hb⟩
  unfold HdV at hv
  rw [HH.out] at hv
  simp only at hv
  rw [HZ0.out] at hb
  try rw [HZ0.out] at hv
  have hb' : Below (w.alloc (.cells #[.slice none 0 0, .slice none 0 0, .bool false] 50)).heap.size (w.alloc (.cells #[.slice none 0 0, .slice none 0 0, .bool false] 50)) w1 := by rw [HZ0.out]; exact hb
  have F2 : LF S w (w1.alloc (.cells #[.int .i64 a, .int .i64 bb, .int .i64 c, .bool d, .int .i64 f, .int .i64 kk, .slice a0 l0 c0, .slice a1 l1 c1, .slice a2 l2 c2] 86)) b vq e := (HF0.out.below hS hb').alloc hS _
  have r2 : (w1.alloc (.cells #[.int .i64 a, .int .i64 bb, .int .i64 c, .bool d, .int .i64 f, .int .i64 kk, .slice a0 l0 c0, .slice a1 l1 c1, .slice a2 l2 c2] 86)).heap[w.heap.size]? = some (.cells #[.slice none 0 0, .slice none 0 0, .bool false] 50) := alloc_old (kpB hb' HR0.out)
  have k2' := box_at w1 (.cells #[.int .i64 a, .int .i64 bb, .int .i64 c, .bool d, .int .i64 f, .int .i64 kk, .slice a0 l0 c0, .slice a1 l1 c1, .slice a2 l2 c2] 86)
  have hw1 : w.heap.size + 1 ≤ w1.heap.size := by rw [← HZ0.out]; exact hb.size
  have HF2 := Hid.mk F2
  have HR2 := Hid.mk r2
  have HK2 := Hid.mk k2'
  have HW1 := Hid.mk hw1
  obtain ⟨⟨g0, g1, g2, g3, g4, g5⟩, ⟨f0, f1, f2, f3, f4, f5⟩⟩ := six_cells F2.lb.blk
  obtain ⟨⟨k0, k1, k2, k3, k4, k5, k6, k7, k8⟩, -⟩ := nine_cells k2'
  obtain ⟨⟨r0, r1, r2⟩, ⟨s0, s1, s2⟩⟩ := three_cells r2
  clear F2 r2 k2' hw1 hb hb' HF0 HR0
  obtain ⟨rfl, ha, rfl, hc, rfl, rfl, rfl, hown⟩ := hv
  rw [HYE.out] at ha
  rw [HYW.out] at hc
  subst ha hc
  have HO := Hid.mk (hown.below ((Below.refl w1.heap.size w1).alloc (Nat.le_refl _) (.cells #[.int .i64 (k : Int), .int .i64 y.ot, .int .i64 (kw : Int), .bool y.ca, .int .i64 y.nr, .int .i64 y.pl.kind, .slice a0 l0 c0, .slice a1 l1 c1, .slice a2 l2 c2] 86)))
  have HF := HF2
  have HR := HR2
  have HK := HK2
  have HZ : Hid (w1.heap.size + 1 ≤ (w1.alloc (.cells #[.int .i64 (k : Int), .int .i64 y.ot, .int .i64 (kw : Int), .bool y.ca, .int .i64 y.nr, .int .i64 y.pl.kind, .slice a0 l0 c0, .slice a1 l1 c1, .slice a2 l2 c2] 86)).heap.size) := Hid.mk (by simp)
  clear hown HF2 HR2 HK2 r0 r1 r2 s0 s1 s2
  go_wp2_with fail
  go_quiet (fail)
  obtain ⟨W3, hW3⟩ : ∃ W3 : World, W3 = (w1.alloc (.cells #[.int .i64 (k : Int), .int .i64 y.ot, .int .i64 (kw : Int), .bool y.ca, .int .i64 y.nr, .int .i64 y.pl.kind, .slice a0 l0 c0, .slice a1 l1 c1, .slice a2 l2 c2] 86)).drewN nq := ⟨_, rfl⟩
  rw [← hW3]
  have HFx : Hid (LF S w W3 b vq e) := Hid.mk (by rw [hW3]; exact HF.out.drewN nq)
  have HRx : Hid (W3.heap[w.heap.size]? = some (.cells #[.slice none 0 0, .slice none 0 0, .bool false] 50)) := Hid.mk (by rw [hW3]; exact HR.out)
  have HKx : Hid (W3.heap[w1.heap.size]? = some (.cells #[.int .i64 (k : Int), .int .i64 y.ot, .int .i64 (kw : Int), .bool y.ca, .int .i64 y.nr, .int .i64 y.pl.kind, .slice a0 l0 c0, .slice a1 l1 c1, .slice a2 l2 c2] 86)) := Hid.mk (by rw [hW3]; exact HK.out)
  have HZx : Hid (w1.heap.size + 1 ≤ W3.heap.size) := Hid.mk (by rw [hW3]; exact HZ.out)
  have HOx : Hid (NoteOwn W3 (w.heap.size + 1) (.agg #[.int .i64 y.pl.kind, .slice a0 l0 c0, .slice a1 l1 c1, .slice a2 l2 c2]) y.pl) := Hid.mk (by rw [hW3]; exact HO.out.keep (fun _ _ _ h => h))
  clear HF HR HK HZ HO
  have HF := HFx
  have HR := HRx
  have HK := HKx
  have HZ := HZx
  have HO := HOx
  clear HFx HRx HKx HZx HOx
  clear hW3 k0 k1 k2 k3 k4 k5 k6 k7 k8 g0 g1 g2 g3 g4 g5 f0 f1 f2 f3 f4 f5
  obtain ⟨cb, hcb⟩ : ∃ cb, W3.heap.size = cb := ⟨_, rfl⟩
  have HCB : Hid (w.heap.size + 1 ≤ cb ∧ w1.heap.size + 1 ≤ cb) := Hid.mk (by have := HZ.out; have := HW1.out; omega)
  have HC : Hid ((W3.alloc (.cells #[.slice none 0 0, .slice none 0 0, .bool false] 50)).heap[cb]? = some (.cells #[.slice none 0 0, .slice none 0 0, .bool false] 50)) := Hid.mk (by rw [← hcb]; exact box_at W3 _)
  have HFx : Hid (LF S w (W3.alloc (.cells #[.slice none 0 0, .slice none 0 0, .bool false] 50)) b vq e) := Hid.mk (HF.out.alloc hS _)
  have HRx : Hid ((W3.alloc (.cells #[.slice none 0 0, .slice none 0 0, .bool false] 50)).heap[w.heap.size]? = some (.cells #[.slice none 0 0, .slice none 0 0, .bool false] 50)) := Hid.mk (alloc_old HR.out)
  have HKx : Hid ((W3.alloc (.cells #[.slice none 0 0, .slice none 0 0, .bool false] 50)).heap[w1.heap.size]? = some (.cells #[.int .i64 (k : Int), .int .i64 y.ot, .int .i64 (kw : Int), .bool y.ca, .int .i64 y.nr, .int .i64 y.pl.kind, .slice a0 l0 c0, .slice a1 l1 c1, .slice a2 l2 c2] 86)) := Hid.mk (alloc_old HK.out)
  have HZx : Hid (w1.heap.size + 1 ≤ (W3.alloc (.cells #[.slice none 0 0, .slice none 0 0, .bool false] 50)).heap.size) := Hid.mk (by have := HZ.out; simp; omega)
  have HOx : Hid (NoteOwn (W3.alloc (.cells #[.slice none 0 0, .slice none 0 0, .bool false] 50)) (w.heap.size + 1) (.agg #[.int .i64 y.pl.kind, .slice a0 l0 c0, .slice a1 l1 c1, .slice a2 l2 c2]) y.pl) := Hid.mk (HO.out.below ((Below.refl W3.heap.size W3).alloc (Nat.le_refl _) _))
  clear HF HR HK HZ HO
  have HF := HFx
  have HR := HRx
  have HK := HKx
  have HZ := HZx
  have HO := HOx
  clear HFx HRx HKx HZx HOx
  obtain ⟨⟨g0, g1, g2, g3, g4, g5⟩, ⟨f0, f1, f2, f3, f4, f5⟩⟩ := six_cells HF.out.lb.blk
  obtain ⟨⟨k0, k1, k2, k3, k4, k5, k6, k7, k8⟩, -⟩ := nine_cells HK.out
  obtain ⟨⟨m0, m1, m2⟩, ⟨n0, n1, n2⟩⟩ := three_cells HC.out
  go_wp2_with fail
  go_quiet (fail)
  obtain ⟨W5, hW5⟩ : ∃ W5 : World, W5 = (W3.alloc (.cells #[.slice none 0 0, .slice none 0 0, .bool false] 50)).drewN nq := ⟨_, rfl⟩
  rw [← hW5]
  have HFx : Hid (LF S w W5 b vq e) := Hid.mk (by rw [hW5]; exact HF.out.drewN nq)
  have HRx : Hid (W5.heap[w.heap.size]? = some (.cells #[.slice none 0 0, .slice none 0 0, .bool false] 50)) := Hid.mk (by rw [hW5]; exact HR.out)
  have HKx : Hid (W5.heap[w1.heap.size]? = some (.cells #[.int .i64 (k : Int), .int .i64 y.ot, .int .i64 (kw : Int), .bool y.ca, .int .i64 y.nr, .int .i64 y.pl.kind, .slice a0 l0 c0, .slice a1 l1 c1, .slice a2 l2 c2] 86)) := Hid.mk (by rw [hW5]; exact HK.out)
  have HZx : Hid (w1.heap.size + 1 ≤ W5.heap.size) := Hid.mk (by rw [hW5]; exact HZ.out)
  have HCx : Hid (W5.heap[cb]? = some (.cells #[.slice none 0 0, .slice none 0 0, .bool false] 50)) := Hid.mk (by rw [hW5]; exact HC.out)
  have HOx : Hid (NoteOwn W5 (w.heap.size + 1) (.agg #[.int .i64 y.pl.kind, .slice a0 l0 c0, .slice a1 l1 c1, .slice a2 l2 c2]) y.pl) := Hid.mk (by rw [hW5]; exact HO.out.keep (fun _ _ _ h => h))
  clear HF HR HK HZ HC HO
  have HF := HFx
  have HR := HRx
  have HK := HKx
  have HZ := HZx
  have HC := HCx
  have HO := HOx
  clear HFx HRx HKx HZx HCx HOx
  clear hW5 k0 k1 k2 k3 k4 k5 k6 k7 k8 g0 g1 g2 g3 g4 g5 f0 f1 f2 f3 f4 f5
  obtain ⟨⟨g0, g1, g2, g3, g4, g5⟩, ⟨f0, f1, f2, f3, f4, f5⟩⟩ := six_cells HF.out.lb.blk
  obtain ⟨⟨k0, k1, k2, k3, k4, k5, k6, k7, k8⟩, -⟩ := nine_cells HK.out
  obtain ⟨⟨m0, m1, m2⟩, ⟨n0, n1, n2⟩⟩ := three_cells HC.out
  have CM := Hid.mk (meet_any HF.out.sn (HF.out.low hS) k HKB.out)
  unfold MtE at CM
  obtain ⟨e1, he1⟩ : ∃ x, (meetE e k).1 = x := ⟨_, rfl⟩
  obtain ⟨an, han⟩ : ∃ x, (meetE e k).2 = x := ⟨_, rfl⟩
  rw [he1, han] at CM
  have HSE : Hid (seeE e k = (e1, an)) := Hid.mk (by rw [seeE, if_pos (by omega), ← he1, ← han])
  clear he1 han hlt hk0 hk0b hko
  go_wp2_with fail
  refine CM.out.mono ?_
  clear CM
  rintro x w6 ⟨rfl, vq1, hl6, hf6, hq6⟩
  have HF6 := HF.out.link hl6 hf6 hq6
  have HR6 := LF.kp hf6 (Nat.le_refl _) HR.out
  have HK6 := LF.kp hf6 (by have := HW1.out; omega) HK.out
  have HC6 := LF.kp hf6 (by have := HCB.out; omega) HC.out
  have HO6 := HO.out.keep (fun k o hk ho => LF.kp hf6 (by omega) ho)
  have HZ6 : w1.heap.size + 1 ≤ w6.heap.size := Nat.le_trans HZ.out hf6.size
  clear HF HR HK HC HO HZ k0 k1 k2 k3 k4 k5 k6 k7 k8 g0 g1 g2 g3 g4 g5 f0 f1 f2 f3 f4 f5 m0 m1 m2 n0 n1 n2
  obtain ⟨⟨m0, m1, m2⟩, ⟨n0, n1, n2⟩⟩ := three_cells HC6
  have HF : Hid (LF S w (w6.setCell ⟨cb, 2, none⟩ (.bool an)) b vq1 e1) := Hid.mk (HF6.set hS (by have := HCB.out; omega) _)
  have HR : Hid ((w6.setCell ⟨cb, 2, none⟩ (.bool an)).heap[w.heap.size]? = some (.cells #[.slice none 0 0, .slice none 0 0, .bool false] 50)) := Hid.mk ((set1_other (by have := HCB.out; omega) _).trans HR6)
  have HK : Hid ((w6.setCell ⟨cb, 2, none⟩ (.bool an)).heap[w1.heap.size]? = some (.cells #[.int .i64 (k : Int), .int .i64 y.ot, .int .i64 (kw : Int), .bool y.ca, .int .i64 y.nr, .int .i64 y.pl.kind, .slice a0 l0 c0, .slice a1 l1 c1, .slice a2 l2 c2] 86)) := Hid.mk ((set1_other (by have := HCB.out; omega) _).trans HK6)
  have HC : Hid ((w6.setCell ⟨cb, 2, none⟩ (.bool an)).heap[cb]? = some (.cells #[.slice none 0 0, .slice none 0 0, .bool an] 50)) := Hid.mk (three_set2 HC6)
  have HO : Hid (NoteOwn (w6.setCell ⟨cb, 2, none⟩ (.bool an)) (w.heap.size + 1) (.agg #[.int .i64 y.pl.kind, .slice a0 l0 c0, .slice a1 l1 c1, .slice a2 l2 c2]) y.pl) := Hid.mk (HO6.setT HC6 (by decide) (by decide) (by decide))
  have HZ : Hid (w1.heap.size + 1 ≤ (w6.setCell ⟨cb, 2, none⟩ (.bool an)).heap.size) := Hid.mk (by rw [size_set1]; exact HZ6)
  clear HF6 HR6 HK6 HC6 HO6 HZ6 hl6 hf6 hq6
  go_wp2_with fail
  obtain ⟨W8, hW8⟩ : ∃ W8 : World, W8 = w6.setCell ⟨cb, 2, none⟩ (.bool an) := ⟨_, rfl⟩
  rw [← hW8] at HF HR HK HC HO HZ
  rw [← hW8]
  clear hW8 m0 m1 m2 n0 n1 n2
  obtain ⟨⟨g0, g1, g2, g3, g4, g5⟩, ⟨f0, f1, f2, f3, f4, f5⟩⟩ := six_cells HF.out.lb.blk
  obtain ⟨⟨k0, k1, k2, k3, k4, k5, k6, k7, k8⟩, -⟩ := nine_cells HK.out
  obtain ⟨⟨m0, m1, m2⟩, ⟨n0, n1, n2⟩⟩ := three_cells HC.out
  by_cases ho : y.ot = (e1.ep : Int)
  · have ho1 : (y.ot != (e1.ep : Int)) = false := by simp; exact ho
    have HTM0 : Hid (takeE e l = tookE (dropE e1 kw) y an) := Hid.mk (by rw [HTK.out, metE, if_neg (by rw [HSE.out]; simp only [ne_eq, Classical.not_not]; exact ho), HSE.out, HYW.out]; rfl)
    clear ho HTK
    go_wp2_with fail
    go_quiet (fail)
    obtain ⟨W9, hW9⟩ : ∃ W9 : World, W9 = W8.drewN nq := ⟨_, rfl⟩
    rw [← hW9]
    have HFx : Hid (LF S w W9 b vq1 e1) := Hid.mk (by rw [hW9]; exact HF.out.drewN nq)
    have HRx : Hid (W9.heap[w.heap.size]? = some (.cells #[.slice none 0 0, .slice none 0 0, .bool false] 50)) := Hid.mk (by rw [hW9]; exact HR.out)
    have HKx : Hid (W9.heap[w1.heap.size]? = some (.cells #[.int .i64 (k : Int), .int .i64 y.ot, .int .i64 (kw : Int), .bool y.ca, .int .i64 y.nr, .int .i64 y.pl.kind, .slice a0 l0 c0, .slice a1 l1 c1, .slice a2 l2 c2] 86)) := Hid.mk (by rw [hW9]; exact HK.out)
    have HZx : Hid (w1.heap.size + 1 ≤ W9.heap.size) := Hid.mk (by rw [hW9]; exact HZ.out)
    have HCx : Hid (W9.heap[cb]? = some (.cells #[.slice none 0 0, .slice none 0 0, .bool an] 50)) := Hid.mk (by rw [hW9]; exact HC.out)
    have HOx : Hid (NoteOwn W9 (w.heap.size + 1) (.agg #[.int .i64 y.pl.kind, .slice a0 l0 c0, .slice a1 l1 c1, .slice a2 l2 c2]) y.pl) := Hid.mk (by rw [hW9]; exact HO.out.keep (fun _ _ _ h => h))
    clear HF HR HK HZ HC HO
    have HF := HFx
    have HR := HRx
    have HK := HKx
    have HZ := HZx
    have HC := HCx
    have HO := HOx
    clear HFx HRx HKx HZx HCx HOx
    clear hW9 k0 k1 k2 k3 k4 k5 k6 k7 k8 g0 g1 g2 g3 g4 g5 f0 f1 f2 f3 f4 f5
    have CD := Hid.mk (dropQ_any HF.out.drew.sn (HF.out.drew.low hS) kw HKW.out)
    unfold DrpE at CD
    obtain ⟨e2, he2⟩ : ∃ x, dropE e1 kw = x := ⟨_, rfl⟩
    rw [he2] at CD HTM0
    clear he2
    have HFD := Hid.mk HF.out.drew
    have HKD : Hid (W9.drew.cell? ⟨w1.heap.size, 2, none⟩ = some (.int .i64 (kw : Int))) := Hid.mk (nine_cells (show W9.drew.heap[w1.heap.size]? = _ from HK.out)).1.2.2.1
    have HRD : Hid (W9.drew.heap[w.heap.size]? = some (.cells #[.slice none 0 0, .slice none 0 0, .bool false] 50)) := Hid.mk HR.out
    have HKK : Hid (W9.drew.heap[w1.heap.size]? = some (.cells #[.int .i64 (k : Int), .int .i64 y.ot, .int .i64 (kw : Int), .bool y.ca, .int .i64 y.nr, .int .i64 y.pl.kind, .slice a0 l0 c0, .slice a1 l1 c1, .slice a2 l2 c2] 86)) := Hid.mk HK.out
    have HCD : Hid (W9.drew.heap[cb]? = some (.cells #[.slice none 0 0, .slice none 0 0, .bool an] 50)) := Hid.mk HC.out
    have HOD : Hid (NoteOwn W9.drew (w.heap.size + 1) (.agg #[.int .i64 y.pl.kind, .slice a0 l0 c0, .slice a1 l1 c1, .slice a2 l2 c2]) y.pl) := Hid.mk (HO.out.keep (fun _ _ _ h => h))
    have HZD : Hid (w1.heap.size + 1 ≤ W9.drew.heap.size) := Hid.mk HZ.out
    have HLE : Hid (w.heap.size ≤ w1.heap.size) := Hid.mk (by have := HW1.out; omega)
    go_wp2_with fail
    go_region_held3 (fun u => u.cell? ⟨w1.heap.size, 2, none⟩ = some (.int .i64 (kw : Int)))
      (first | with_reducible exact HKD.out | exact (nine_cells (LF.kp hf10 HLE.out HKK.out)).1.2.2.1)
      (first | (with_reducible refine CD.out.mono ?_; rintro x w10 ⟨rfl, vq2, hl10, hf10, hq10⟩))
    clear HF HR HK HC HO HZ CD
    have HF := Hid.mk (HFD.out.link hl10 hf10 hq10)
    have HR := Hid.mk (LF.kp hf10 (Nat.le_refl _) HRD.out)
    have HK := Hid.mk (LF.kp hf10 HLE.out HKK.out)
    have HC := Hid.mk (LF.kp hf10 (by have := HCB.out; omega) HCD.out)
    have HO := Hid.mk (HOD.out.keep (fun k o hk ho => LF.kp hf10 (by omega) ho))
    have HZ : Hid (w1.heap.size + 1 ≤ w10.heap.size) := Hid.mk (Nat.le_trans HZD.out hf10.size)
    have HTM := HTM0
    clear HFD HRD HKK HCD HOD HZD HKD hl10 hf10 hq10 HTM0
    obtain ⟨⟨g0, g1, g2, g3, g4, g5⟩, ⟨f0, f1, f2, f3, f4, f5⟩⟩ := six_cells HF.out.lb.blk
    obtain ⟨⟨k0, k1, k2, k3, k4, k5, k6, k7, k8⟩, -⟩ := nine_cells HK.out
    obtain ⟨⟨m0, m1, m2⟩, ⟨n0, n1, n2⟩⟩ := three_cells HC.out
    by_cases hca : y.ca = true
    · by_cases hnr : y.nr = (e2.wt : Int)
      · have hnb : (y.nr == (e2.wt : Int)) = true := by simp; exact hnr
        have HT : Hid (takeE e l = ({ e2 with wt := e2.wt + 1 }, [y.pl], [telB { e2 with wt := e2.wt + 1 }], an)) := Hid.mk (by rw [HTM.out, tookE, if_neg (by rw [hca]; decide), if_pos hnr])
        have HOK3 : Hid ((En.mk e2.ep e2.ot e2.fs (e2.wt + 1) e2.q).ok) := Hid.mk (by
          have h1 := HF.out.lb.ok
          have h2 := HNR.out.2
          exact { h1 with wt1 := by simp, wt2 := by simp only; omega })
        have hwt := HF.out.lb.ok.wt2
        clear hnr HTM
        go_wp2_with fail
        go_quiet (fail)
        obtain ⟨W11, hW11⟩ : ∃ W11 : World, W11 = w10.drewN nq := ⟨_, rfl⟩
        rw [← hW11]
        have HFx : Hid (LF S w W11 b vq2 e2) := Hid.mk (by rw [hW11]; exact HF.out.drewN nq)
        have HRx : Hid (W11.heap[w.heap.size]? = some (.cells #[.slice none 0 0, .slice none 0 0, .bool false] 50)) := Hid.mk (by rw [hW11]; exact HR.out)
        have HKx : Hid (W11.heap[w1.heap.size]? = some (.cells #[.int .i64 (k : Int), .int .i64 y.ot, .int .i64 (kw : Int), .bool y.ca, .int .i64 y.nr, .int .i64 y.pl.kind, .slice a0 l0 c0, .slice a1 l1 c1, .slice a2 l2 c2] 86)) := Hid.mk (by rw [hW11]; exact HK.out)
        have HZx : Hid (w1.heap.size + 1 ≤ W11.heap.size) := Hid.mk (by rw [hW11]; exact HZ.out)
        have HCx : Hid (W11.heap[cb]? = some (.cells #[.slice none 0 0, .slice none 0 0, .bool an] 50)) := Hid.mk (by rw [hW11]; exact HC.out)
        have HOx : Hid (NoteOwn W11 (w.heap.size + 1) (.agg #[.int .i64 y.pl.kind, .slice a0 l0 c0, .slice a1 l1 c1, .slice a2 l2 c2]) y.pl) := Hid.mk (by rw [hW11]; exact HO.out.keep (fun _ _ _ h => h))
        clear HF HR HK HZ HC HO
        have HF := HFx
        have HR := HRx
        have HK := HKx
        have HZ := HZx
        have HC := HCx
        have HO := HOx
        clear HFx HRx HKx HZx HCx HOx
        clear hW11 k0 k1 k2 k3 k4 k5 k6 k7 k8 g0 g1 g2 g3 g4 g5 f0 f1 f2 f3 f4 f5
        obtain ⟨⟨g0, g1, g2, g3, g4, g5⟩, ⟨f0, f1, f2, f3, f4, f5⟩⟩ := six_cells HF.out.lb.blk
        obtain ⟨⟨k0, k1, k2, k3, k4, k5, k6, k7, k8⟩, -⟩ := nine_cells HK.out
        obtain ⟨⟨m0, m1, m2⟩, ⟨n0, n1, n2⟩⟩ := three_cells HC.out
        have HNCB : Hid (cb < W11.heap.size) := Hid.mk (lt_of_block HC.out)
        have HB : b < W11.heap.size := lt_of_block HF.out.lb.blk
        have HFw : Hid (LF S w (((W11.alloc (.cells #[.int .i64 y.pl.kind, .slice a0 l0 c0, .slice a1 l1 c1, .slice a2 l2 c2] 36)).setCell ⟨cb, 0, none⟩ (.slice (some ⟨W11.heap.size, 0, none⟩) 1 1)).setCell ⟨b, 3, none⟩ (.int .i64 ((e2.wt : Int) + 1))) b vq2 { e2 with wt := e2.wt + 1 }) := Hid.mk (((HF.out.alloc hS _).set hS (by have := HCB.out; omega) _).want HOK3.out)
        have hbw := HF.out.b_lt
        have HLB : (W11.alloc (.cells #[.int .i64 y.pl.kind, .slice a0 l0 c0, .slice a1 l1 c1, .slice a2 l2 c2] 36)).heap[b]? = _ := alloc_old HF.out.lb.blk
        have hc1 : (W11.alloc (.cells #[.int .i64 y.pl.kind, .slice a0 l0 c0, .slice a1 l1 c1, .slice a2 l2 c2] 36)).heap[cb]? = some (.cells #[.slice none 0 0, .slice none 0 0, .bool an] 50) := alloc_old HC.out
        have hc2 : ((W11.alloc (.cells #[.int .i64 y.pl.kind, .slice a0 l0 c0, .slice a1 l1 c1, .slice a2 l2 c2] 36)).setCell ⟨cb, 0, none⟩ (.slice (some ⟨W11.heap.size, 0, none⟩) 1 1)).heap[cb]? = some (.cells #[.slice (some ⟨W11.heap.size, 0, none⟩) 1 1, .slice none 0 0, .bool an] 50) := three_set0 hc1
        have hb2 : ((W11.alloc (.cells #[.int .i64 y.pl.kind, .slice a0 l0 c0, .slice a1 l1 c1, .slice a2 l2 c2] 36)).setCell ⟨cb, 0, none⟩ (.slice (some ⟨W11.heap.size, 0, none⟩) 1 1)).heap[b]? = _ := (set1_other (by have := HCB.out; omega) _).trans HLB
        have HCw : Hid ((((W11.alloc (.cells #[.int .i64 y.pl.kind, .slice a0 l0 c0, .slice a1 l1 c1, .slice a2 l2 c2] 36)).setCell ⟨cb, 0, none⟩ (.slice (some ⟨W11.heap.size, 0, none⟩) 1 1)).setCell ⟨b, 3, none⟩ (.int .i64 ((e2.wt : Int) + 1))).heap[cb]? = some (.cells #[.slice (some ⟨W11.heap.size, 0, none⟩) 1 1, .slice none 0 0, .bool an] 50)) := Hid.mk ((set1_other (by have := HCB.out; omega) _).trans hc2)
        have HRw : Hid ((((W11.alloc (.cells #[.int .i64 y.pl.kind, .slice a0 l0 c0, .slice a1 l1 c1, .slice a2 l2 c2] 36)).setCell ⟨cb, 0, none⟩ (.slice (some ⟨W11.heap.size, 0, none⟩) 1 1)).setCell ⟨b, 3, none⟩ (.int .i64 ((e2.wt : Int) + 1))).heap[w.heap.size]? = some (.cells #[.slice none 0 0, .slice none 0 0, .bool false] 50)) := Hid.mk ((set1_other (by omega) _).trans ((set1_other (by have := HCB.out; omega) _).trans (alloc_old HR.out)))
        have HKw : Hid ((((W11.alloc (.cells #[.int .i64 y.pl.kind, .slice a0 l0 c0, .slice a1 l1 c1, .slice a2 l2 c2] 36)).setCell ⟨cb, 0, none⟩ (.slice (some ⟨W11.heap.size, 0, none⟩) 1 1)).setCell ⟨b, 3, none⟩ (.int .i64 ((e2.wt : Int) + 1))).heap[w1.heap.size]? = some (.cells #[.int .i64 (k : Int), .int .i64 y.ot, .int .i64 (kw : Int), .bool y.ca, .int .i64 y.nr, .int .i64 y.pl.kind, .slice a0 l0 c0, .slice a1 l1 c1, .slice a2 l2 c2] 86)) := Hid.mk ((set1_other (by have := HW1.out; omega) _).trans ((set1_other (by have := HCB.out; omega) _).trans (alloc_old HK.out)))
        have HNw : Hid ((((W11.alloc (.cells #[.int .i64 y.pl.kind, .slice a0 l0 c0, .slice a1 l1 c1, .slice a2 l2 c2] 36)).setCell ⟨cb, 0, none⟩ (.slice (some ⟨W11.heap.size, 0, none⟩) 1 1)).setCell ⟨b, 3, none⟩ (.int .i64 ((e2.wt : Int) + 1))).heap[W11.heap.size]? = some (.cells #[.int .i64 y.pl.kind, .slice a0 l0 c0, .slice a1 l1 c1, .slice a2 l2 c2] 36)) := Hid.mk ((set1_other (by omega) _).trans ((set1_other (by have := lt_of_block HC.out; omega) _).trans (box_at W11 _)))
        have HOw : Hid (NoteOwn (((W11.alloc (.cells #[.int .i64 y.pl.kind, .slice a0 l0 c0, .slice a1 l1 c1, .slice a2 l2 c2] 36)).setCell ⟨cb, 0, none⟩ (.slice (some ⟨W11.heap.size, 0, none⟩) 1 1)).setCell ⟨b, 3, none⟩ (.int .i64 ((e2.wt : Int) + 1))) (w.heap.size + 1) (.agg #[.int .i64 y.pl.kind, .slice a0 l0 c0, .slice a1 l1 c1, .slice a2 l2 c2]) y.pl) := Hid.mk (((HO.out.below ((Below.refl W11.heap.size W11).alloc (Nat.le_refl _) _)).setT hc1 (by decide) (by decide) (by decide)).setT hb2 (by decide) (by decide) (by decide))
        have HZw : Hid (w1.heap.size + 1 ≤ (((W11.alloc (.cells #[.int .i64 y.pl.kind, .slice a0 l0 c0, .slice a1 l1 c1, .slice a2 l2 c2] 36)).setCell ⟨cb, 0, none⟩ (.slice (some ⟨W11.heap.size, 0, none⟩) 1 1)).setCell ⟨b, 3, none⟩ (.int .i64 ((e2.wt : Int) + 1))).heap.size ∧ w1.heap.size + 1 ≤ W11.heap.size) := Hid.mk (by have := HZ.out; constructor <;> (try simp) <;> omega)
        obtain ⟨⟨i0, i1, i2, i3, i4, i5⟩, ⟨j0, j1, j2, j3, j4, j5⟩⟩ := six_cells hb2
        obtain ⟨⟨p0, p1, p2⟩, ⟨q0, q1, q2⟩⟩ := three_cells hc1
        clear HF HR HK HZ HC HO hc1 hc2 hb2 HLB HB hbw
        have HF := HFw
        have HR := HRw
        have HK := HKw
        have HC := HCw
        have HO := HOw
        have HZ : Hid (w1.heap.size + 1 ≤ (((W11.alloc (.cells #[.int .i64 y.pl.kind, .slice a0 l0 c0, .slice a1 l1 c1, .slice a2 l2 c2] 36)).setCell ⟨cb, 0, none⟩ (.slice (some ⟨W11.heap.size, 0, none⟩) 1 1)).setCell ⟨b, 3, none⟩ (.int .i64 ((e2.wt : Int) + 1))).heap.size) := Hid.mk HZw.out.1
        have CT := Hid.mk (tell_any HF.out.lb)
        obtain ⟨tl, HTL⟩ : ∃ tl, Hid (tl = telB { e2 with wt := e2.wt + 1 }) := ⟨_, Hid.mk rfl⟩
        rw [← HTL.out] at CT
        go_wp2_with fail
        refine CT.out.mono ?_
        clear CT HFw HRw HKw HCw HOw k0 k1 k2 k3 k4 k5 k6 k7 k8 g0 g1 g2 g3 g4 g5 f0 f1 f2 f3 f4 f5 i0 i1 i2 i3 i4 i5 j0 j1 j2 j3 j4 j5 m0 m1 m2 n0 n1 n2 p0 p1 p2 q0 q1 q2
        rintro x w9 ⟨rfl, hb9⟩
        have HN9 := kpB hb9 HNw.out
        have HO9 := HO.out.below hb9
        have hbx := alloc_old (o' := .cells #[.string ⟨tl.toArray⟩] 9) (kpB hb9 HC.out)
        have hby : ((w9.alloc (.cells #[.string ⟨tl.toArray⟩] 9)).setCell ⟨cb, 1, none⟩ (.slice (some ⟨w9.heap.size, 0, none⟩) 1 1)).heap[w.heap.size]? = some (.cells #[.slice none 0 0, .slice none 0 0, .bool false] 50) := (set1_other (by have := HCB.out; omega) _).trans (alloc_old (kpB hb9 HR.out))
        have ho1 := (HO9.below ((Below.refl w9.heap.size w9).alloc (Nat.le_refl _) (.cells #[.string ⟨tl.toArray⟩] 9))).setT (i := 1) (u := .slice (some ⟨w9.heap.size, 0, none⟩) 1 1) hbx (by decide) (by decide) (by decide)
        have ho2 := ho1.setT (i := 0) (u := .slice (some ⟨W11.heap.size, 0, none⟩) 1 1) hby (by decide) (by decide) (by decide)
        have ho3 := ho2.setT (i := 1) (u := .slice (some ⟨w9.heap.size, 0, none⟩) 1 1) (three_set0 hby) (by decide) (by decide) (by decide)
        have ho4 := ho3.setT (i := 2) (u := .bool an) (three_set1 (three_set0 hby)) (by decide) (by decide) (by decide)
        have HONE : Hid (OneN (set3 ((w9.alloc (.cells #[.string ⟨tl.toArray⟩] 9)).setCell ⟨cb, 1, none⟩ (.slice (some ⟨w9.heap.size, 0, none⟩) 1 1)) w.heap.size (.slice (some ⟨W11.heap.size, 0, none⟩) 1 1) (.slice (some ⟨w9.heap.size, 0, none⟩) 1 1) (.bool an)) w.heap.size (.slice (some ⟨W11.heap.size, 0, none⟩) 1 1) [y.pl]) := Hid.mk (.inr ⟨W11.heap.size, y.pl, a0, l0, c0, a1, l1, c1, a2, l2, c2, rfl, rfl, by have := HZw.out.2; have := HW1.out; omega, (set3_other (by have := HZw.out.2; have := HW1.out; omega) _ _ _).trans ((set1_other (by have := HNCB.out; omega) _).trans (alloc_old HN9)), ho4.base (by omega)⟩)
        clear HN9 HO9 hbx hby ho1 ho2 ho3 ho4 HNw HZw
        have HF9 := HF.out.below hS hb9
        have HC9 := kpB hb9 HC.out
        have HR9 := kpB hb9 HR.out
        have HZ9 : w.heap.size + 1 ≤ w9.heap.size := by have := HZ.out; have := hb9.size; have := HW1.out; omega
        have HC10 := alloc_old (o' := .cells #[.string ⟨tl.toArray⟩] 9) HC9
        have hcx : ((w9.alloc (.cells #[.string ⟨tl.toArray⟩] 9)).setCell ⟨cb, 1, none⟩ (.slice (some ⟨w9.heap.size, 0, none⟩) 1 1)).heap[cb]? = some (.cells #[.slice (some ⟨W11.heap.size, 0, none⟩) 1 1, .slice (some ⟨w9.heap.size, 0, none⟩) 1 1, .bool an] 50) := three_set1 HC10
        have hrx : ((w9.alloc (.cells #[.string ⟨tl.toArray⟩] 9)).setCell ⟨cb, 1, none⟩ (.slice (some ⟨w9.heap.size, 0, none⟩) 1 1)).heap[w.heap.size]? = some (.cells #[.slice none 0 0, .slice none 0 0, .bool false] 50) := (set1_other (by have := HCB.out; omega) _).trans (alloc_old HR9)
        have hgx : (set3 ((w9.alloc (.cells #[.string ⟨tl.toArray⟩] 9)).setCell ⟨cb, 1, none⟩ (.slice (some ⟨w9.heap.size, 0, none⟩) 1 1)) w.heap.size (.slice (some ⟨W11.heap.size, 0, none⟩) 1 1) (.slice (some ⟨w9.heap.size, 0, none⟩) 1 1) (.bool an)).heap[w9.heap.size]? = some (.cells #[.string ⟨tl.toArray⟩] 9 (0, 0)) := (set3_other (by omega) _ _ _).trans ((set1_other (by have := lt_of_block HC9; omega) _).trans (box_at w9 _))
        have HE : Hid (TakE S w b e l (.returned (.agg #[.slice (some ⟨W11.heap.size, 0, none⟩) 1 1, .slice (some ⟨w9.heap.size, 0, none⟩) 1 1, .bool an])) (set3 ((w9.alloc (.cells #[.string ⟨tl.toArray⟩] 9)).setCell ⟨cb, 1, none⟩ (.slice (some ⟨w9.heap.size, 0, none⟩) 1 1)) w.heap.size (.slice (some ⟨W11.heap.size, 0, none⟩) 1 1) (.slice (some ⟨w9.heap.size, 0, none⟩) 1 1) (.bool an))) := Hid.mk (takE_of HT.out HONE.out (by rw [← HTL.out]; exact oneT_one (by omega) hgx) (((HF9.alloc hS _).set hS (by have := HCB.out; omega) _).set3 hS (Nat.le_refl _) _ _ _))
        obtain ⟨⟨p0, p1, p2⟩, ⟨q0, q1, q2⟩⟩ := three_cells HC10
        obtain ⟨⟨u0, u1, u2⟩, ⟨v0, v1, v2⟩⟩ := three_cells hcx
        obtain ⟨⟨r0, r1, r2⟩, ⟨s0, s1, s2⟩⟩ := three_cells hrx
        obtain ⟨⟨z0, z1, z2⟩, -⟩ := three_cells (set3_block hrx (.slice (some ⟨W11.heap.size, 0, none⟩) 1 1) (.slice (some ⟨w9.heap.size, 0, none⟩) 1 1) (.bool an))
        have Z0 := Hid.mk z0
        have Z1 := Hid.mk z1
        have Z2 := Hid.mk z2
        clear z0 z1 z2 hcx hrx hgx hb9 HF9 HC9 HR9 HC10 HZ9 HF HR HK HZ HC HO
        go_wp2
        refine bodyPost_ret (v := .agg #[.slice (some ⟨W11.heap.size, 0, none⟩) 1 1, .slice (some ⟨w9.heap.size, 0, none⟩) 1 1, .bool an]) ?_ rfl HE.out
        simp [results, Try.results19, go_sem, Z0.out, Z1.out, Z2.out]
      · have hnb : (y.nr == (e2.wt : Int)) = false := by simp; exact hnr
        have hnr2 : ¬ y.nr = (e2.wt : Int) := hnr
        have HT : Hid (takeE e l = (e2, [], [telB e2], an)) := Hid.mk (by rw [HTM.out, tookE, if_neg (by rw [hca]; decide), if_neg hnr])
        clear hnr HTM
        go_wp2_with fail
        go_quiet (fail)
        obtain ⟨W11, hW11⟩ : ∃ W11 : World, W11 = w10.drewN nq := ⟨_, rfl⟩
        rw [← hW11]
        have HFx : Hid (LF S w W11 b vq2 e2) := Hid.mk (by rw [hW11]; exact HF.out.drewN nq)
        have HRx : Hid (W11.heap[w.heap.size]? = some (.cells #[.slice none 0 0, .slice none 0 0, .bool false] 50)) := Hid.mk (by rw [hW11]; exact HR.out)
        have HKx : Hid (W11.heap[w1.heap.size]? = some (.cells #[.int .i64 (k : Int), .int .i64 y.ot, .int .i64 (kw : Int), .bool y.ca, .int .i64 y.nr, .int .i64 y.pl.kind, .slice a0 l0 c0, .slice a1 l1 c1, .slice a2 l2 c2] 86)) := Hid.mk (by rw [hW11]; exact HK.out)
        have HZx : Hid (w1.heap.size + 1 ≤ W11.heap.size) := Hid.mk (by rw [hW11]; exact HZ.out)
        have HCx : Hid (W11.heap[cb]? = some (.cells #[.slice none 0 0, .slice none 0 0, .bool an] 50)) := Hid.mk (by rw [hW11]; exact HC.out)
        have HOx : Hid (NoteOwn W11 (w.heap.size + 1) (.agg #[.int .i64 y.pl.kind, .slice a0 l0 c0, .slice a1 l1 c1, .slice a2 l2 c2]) y.pl) := Hid.mk (by rw [hW11]; exact HO.out.keep (fun _ _ _ h => h))
        clear HF HR HK HZ HC HO
        have HF := HFx
        have HR := HRx
        have HK := HKx
        have HZ := HZx
        have HC := HCx
        have HO := HOx
        clear HFx HRx HKx HZx HCx HOx
        clear hW11 k0 k1 k2 k3 k4 k5 k6 k7 k8 g0 g1 g2 g3 g4 g5 f0 f1 f2 f3 f4 f5
        have CT := Hid.mk (tell_any HF.out.lb)
        obtain ⟨tl, HTL⟩ : ∃ tl, Hid (tl = telB e2) := ⟨_, Hid.mk rfl⟩
        rw [← HTL.out] at CT
        go_wp2_with fail
        refine CT.out.mono ?_
        clear CT
        rintro x w9 ⟨rfl, hb9⟩
        have HF9 := HF.out.below hS hb9
        have HC9 := kpB hb9 HC.out
        have HR9 := kpB hb9 HR.out
        have HZ9 : w.heap.size + 1 ≤ w9.heap.size := by have := HZ.out; have := hb9.size; have := HW1.out; omega
        have HC10 := alloc_old (o' := .cells #[.string ⟨tl.toArray⟩] 9) HC9
        have hcx : ((w9.alloc (.cells #[.string ⟨tl.toArray⟩] 9)).setCell ⟨cb, 1, none⟩ (.slice (some ⟨w9.heap.size, 0, none⟩) 1 1)).heap[cb]? = some (.cells #[.slice none 0 0, .slice (some ⟨w9.heap.size, 0, none⟩) 1 1, .bool an] 50) := three_set1 HC10
        have hrx : ((w9.alloc (.cells #[.string ⟨tl.toArray⟩] 9)).setCell ⟨cb, 1, none⟩ (.slice (some ⟨w9.heap.size, 0, none⟩) 1 1)).heap[w.heap.size]? = some (.cells #[.slice none 0 0, .slice none 0 0, .bool false] 50) := (set1_other (by have := HCB.out; omega) _).trans (alloc_old HR9)
        have hgx : (set3 ((w9.alloc (.cells #[.string ⟨tl.toArray⟩] 9)).setCell ⟨cb, 1, none⟩ (.slice (some ⟨w9.heap.size, 0, none⟩) 1 1)) w.heap.size (.slice none 0 0) (.slice (some ⟨w9.heap.size, 0, none⟩) 1 1) (.bool an)).heap[w9.heap.size]? = some (.cells #[.string ⟨tl.toArray⟩] 9 (0, 0)) := (set3_other (by omega) _ _ _).trans ((set1_other (by have := lt_of_block HC9; omega) _).trans (box_at w9 _))
        have HE : Hid (TakE S w b e l (.returned (.agg #[.slice none 0 0, .slice (some ⟨w9.heap.size, 0, none⟩) 1 1, .bool an])) (set3 ((w9.alloc (.cells #[.string ⟨tl.toArray⟩] 9)).setCell ⟨cb, 1, none⟩ (.slice (some ⟨w9.heap.size, 0, none⟩) 1 1)) w.heap.size (.slice none 0 0) (.slice (some ⟨w9.heap.size, 0, none⟩) 1 1) (.bool an))) := Hid.mk (takE_of HT.out (oneN_nil _ _) (by rw [← HTL.out]; exact oneT_one (by omega) hgx) (((HF9.alloc hS _).set hS (by have := HCB.out; omega) _).set3 hS (Nat.le_refl _) _ _ _))
        obtain ⟨⟨p0, p1, p2⟩, ⟨q0, q1, q2⟩⟩ := three_cells HC10
        obtain ⟨⟨u0, u1, u2⟩, ⟨v0, v1, v2⟩⟩ := three_cells hcx
        obtain ⟨⟨r0, r1, r2⟩, ⟨s0, s1, s2⟩⟩ := three_cells hrx
        obtain ⟨⟨z0, z1, z2⟩, -⟩ := three_cells (set3_block hrx (.slice none 0 0) (.slice (some ⟨w9.heap.size, 0, none⟩) 1 1) (.bool an))
        have Z0 := Hid.mk z0
        have Z1 := Hid.mk z1
        have Z2 := Hid.mk z2
        clear z0 z1 z2 hcx hrx hgx hb9 HF9 HC9 HR9 HC10 HZ9 HF HR HK HZ HC HO
        go_wp2
        refine bodyPost_ret (v := .agg #[.slice none 0 0, .slice (some ⟨w9.heap.size, 0, none⟩) 1 1, .bool an]) ?_ rfl HE.out
        simp [results, Try.results19, go_sem, Z0.out, Z1.out, Z2.out]
    · have hca2 : y.ca = false := by cases h : y.ca with | false => rfl | true => exact absurd h hca
      have HT : Hid (takeE e l = (e2, [], [], an)) := Hid.mk (by rw [HTM.out, tookE, if_pos hca2])
      have HE : Hid (TakE S w b e l (.returned (.agg #[.slice none 0 0, .slice none 0 0, .bool an])) (set3 w10 w.heap.size (.slice none 0 0) (.slice none 0 0) (.bool an))) := Hid.mk (takE_of HT.out (oneN_nil _ _) (oneT_nil _ _) (HF.out.set3 hS (Nat.le_refl _) _ _ _))
      obtain ⟨⟨r0, r1, r2⟩, ⟨s0, s1, s2⟩⟩ := three_cells HR.out
      obtain ⟨⟨z0, z1, z2⟩, -⟩ := three_cells (set3_block HR.out (.slice none 0 0) (.slice none 0 0) (.bool an))
      have Z0 := Hid.mk z0
      have Z1 := Hid.mk z1
      have Z2 := Hid.mk z2
      clear z0 z1 z2 HF HR HK HZ HC HO HTM
      go_wp2
      refine bodyPost_ret (v := .agg #[.slice none 0 0, .slice none 0 0, .bool an]) ?_ rfl HE.out
      simp [results, Try.results19, go_sem, Z0.out, Z1.out, Z2.out]
  · have ho1 : (y.ot != (e1.ep : Int)) = true := by simp; exact ho
    have HT : Hid (takeE e l = (e1, [], [telB e1], an)) := Hid.mk (by rw [HTK.out, metE, if_pos (by rw [HSE.out]; exact ho), HSE.out])
    clear ho HTK
    go_wp2_with fail
    go_quiet (fail)
    obtain ⟨W9, hW9⟩ : ∃ W9 : World, W9 = W8.drewN nq := ⟨_, rfl⟩
    rw [← hW9]
    have HFx : Hid (LF S w W9 b vq1 e1) := Hid.mk (by rw [hW9]; exact HF.out.drewN nq)
    have HRx : Hid (W9.heap[w.heap.size]? = some (.cells #[.slice none 0 0, .slice none 0 0, .bool false] 50)) := Hid.mk (by rw [hW9]; exact HR.out)
    have HKx : Hid (W9.heap[w1.heap.size]? = some (.cells #[.int .i64 (k : Int), .int .i64 y.ot, .int .i64 (kw : Int), .bool y.ca, .int .i64 y.nr, .int .i64 y.pl.kind, .slice a0 l0 c0, .slice a1 l1 c1, .slice a2 l2 c2] 86)) := Hid.mk (by rw [hW9]; exact HK.out)
    have HZx : Hid (w1.heap.size + 1 ≤ W9.heap.size) := Hid.mk (by rw [hW9]; exact HZ.out)
    have HCx : Hid (W9.heap[cb]? = some (.cells #[.slice none 0 0, .slice none 0 0, .bool an] 50)) := Hid.mk (by rw [hW9]; exact HC.out)
    have HOx : Hid (NoteOwn W9 (w.heap.size + 1) (.agg #[.int .i64 y.pl.kind, .slice a0 l0 c0, .slice a1 l1 c1, .slice a2 l2 c2]) y.pl) := Hid.mk (by rw [hW9]; exact HO.out.keep (fun _ _ _ h => h))
    clear HF HR HK HZ HC HO
    have HF := HFx
    have HR := HRx
    have HK := HKx
    have HZ := HZx
    have HC := HCx
    have HO := HOx
    clear HFx HRx HKx HZx HCx HOx
    clear hW9 k0 k1 k2 k3 k4 k5 k6 k7 k8 g0 g1 g2 g3 g4 g5 f0 f1 f2 f3 f4 f5
    have CT := Hid.mk (tell_any HF.out.lb)
    obtain ⟨tl, HTL⟩ : ∃ tl, Hid (tl = telB e1) := ⟨_, Hid.mk rfl⟩
    rw [← HTL.out] at CT
    go_wp2_with fail
    refine CT.out.mono ?_
    clear CT
    rintro x w9 ⟨rfl, hb9⟩
    have HF9 := HF.out.below hS hb9
    have HC9 := kpB hb9 HC.out
    have HR9 := kpB hb9 HR.out
    have HZ9 : w.heap.size + 1 ≤ w9.heap.size := by have := HZ.out; have := hb9.size; have := HW1.out; omega
    have HC10 := alloc_old (o' := .cells #[.string ⟨tl.toArray⟩] 9) HC9
    have hcx : ((w9.alloc (.cells #[.string ⟨tl.toArray⟩] 9)).setCell ⟨cb, 1, none⟩ (.slice (some ⟨w9.heap.size, 0, none⟩) 1 1)).heap[cb]? = some (.cells #[.slice none 0 0, .slice (some ⟨w9.heap.size, 0, none⟩) 1 1, .bool an] 50) := three_set1 HC10
    have hrx : ((w9.alloc (.cells #[.string ⟨tl.toArray⟩] 9)).setCell ⟨cb, 1, none⟩ (.slice (some ⟨w9.heap.size, 0, none⟩) 1 1)).heap[w.heap.size]? = some (.cells #[.slice none 0 0, .slice none 0 0, .bool false] 50) := (set1_other (by have := HCB.out; omega) _).trans (alloc_old HR9)
    have hgx : (set3 ((w9.alloc (.cells #[.string ⟨tl.toArray⟩] 9)).setCell ⟨cb, 1, none⟩ (.slice (some ⟨w9.heap.size, 0, none⟩) 1 1)) w.heap.size (.slice none 0 0) (.slice (some ⟨w9.heap.size, 0, none⟩) 1 1) (.bool an)).heap[w9.heap.size]? = some (.cells #[.string ⟨tl.toArray⟩] 9 (0, 0)) := (set3_other (by omega) _ _ _).trans ((set1_other (by have := lt_of_block HC9; omega) _).trans (box_at w9 _))
    have HE : Hid (TakE S w b e l (.returned (.agg #[.slice none 0 0, .slice (some ⟨w9.heap.size, 0, none⟩) 1 1, .bool an])) (set3 ((w9.alloc (.cells #[.string ⟨tl.toArray⟩] 9)).setCell ⟨cb, 1, none⟩ (.slice (some ⟨w9.heap.size, 0, none⟩) 1 1)) w.heap.size (.slice none 0 0) (.slice (some ⟨w9.heap.size, 0, none⟩) 1 1) (.bool an))) := Hid.mk (takE_of HT.out (oneN_nil _ _) (by rw [← HTL.out]; exact oneT_one (by omega) hgx) (((HF9.alloc hS _).set hS (by have := HCB.out; omega) _).set3 hS (Nat.le_refl _) _ _ _))
    obtain ⟨⟨p0, p1, p2⟩, ⟨q0, q1, q2⟩⟩ := three_cells HC10
    obtain ⟨⟨u0, u1, u2⟩, ⟨v0, v1, v2⟩⟩ := three_cells hcx
    obtain ⟨⟨r0, r1, r2⟩, ⟨s0, s1, s2⟩⟩ := three_cells hrx
    obtain ⟨⟨z0, z1, z2⟩, -⟩ := three_cells (set3_block hrx (.slice none 0 0) (.slice (some ⟨w9.heap.size, 0, none⟩) 1 1) (.bool an))
    have Z0 := Hid.mk z0
    have Z1 := Hid.mk z1
    have Z2 := Hid.mk z2
    clear z0 z1 z2 hcx hrx hgx hb9 HF9 HC9 HR9 HC10 HZ9 HF HR HK HZ HC HO
    go_wp2
    refine bodyPost_ret (v := .agg #[.slice none 0 0, .slice (some ⟨w9.heap.size, 0, none⟩) 1 1, .bool an]) ?_ rfl HE.out
    simp [results, Try.results19, go_sem, Z0.out, Z1.out, Z2.out]
end
end Go.Proofs.Ytifmpcldiimdbaa

namespace Go.Proofs.Ytifmpcldiimdbaa
open Go.RowKit

section
variable {S : Nat → Prop} {w : World} {b : Nat} {vq : Value} {e : En}
set_option maxRecDepth 100000 in
set_option maxHeartbeats 2000000 in
theorem take_same (h : LB S w b vq e) (hS : Low S w) (l : List UInt8) (hl : l.length ≤ 140737488351232) (y : Hd) (hh : heardP l = some y) (ho : ¬ (y.ep = 0 ∨ y.ep < (e.ot : Int))) (hlt : ¬ (e.ot : Int) < y.ep) :
    Calls Try.prog 19 #[.pointer (some ⟨b, 0, none⟩), .string ⟨l.toArray⟩] w (TakE S w b e l) := by
  have HH := Hid.mk hh
  obtain ⟨q1, q2, q3, q4, -⟩ := heardP_good hh
  obtain ⟨k, hk⟩ : ∃ k : Nat, y.ep = (k : Int) := ⟨y.ep.toNat, by have := q1.1; omega⟩
  obtain ⟨kw, hkw⟩ : ∃ k : Nat, y.wt = (k : Int) := ⟨y.wt.toNat, by have := q3.1; omega⟩
  have HTK : Hid (takeE e l = metE (seeE e k) y) := Hid.mk (by rw [takeE, hh]; simp only; rw [if_neg ho, hk]; rfl)
  have hk0 : ¬ (k : Int) = 0 := fun h => ho (.inl (by rw [hk]; exact h))
  have hk0b : ((k : Int) == 0) = false := by simp; omega
  have hko : ¬ (k : Int) < (e.ot : Int) := fun h => ho (.inr (by rw [hk]; exact h))
  have HKB : Hid (k ≤ 4611686018427387903) := Hid.mk (by have := q1.2; omega)
  have HKW : Hid (kw ≤ 4611686018427387903) := Hid.mk (by have := q3.2; omega)
  have HNR : Hid (goodNum y.nr) := Hid.mk q4
  rw [hk] at hlt
  have HYE := Hid.mk hk
  have HYW := Hid.mk hkw
  clear hh ho q1 q2 q3 q4 hk hkw
  have F0 : LF S w (w.alloc (.cells #[.slice none 0 0, .slice none 0 0, .bool false] 50)) b vq e := (LF.begin h).alloc hS _
  have r0 := box_at w (.cells #[.slice none 0 0, .slice none 0 0, .bool false] 50)
  have hz0 : (w.alloc (.cells #[.slice none 0 0, .slice none 0 0, .bool false] 50)).heap.size = w.heap.size + 1 := by simp
  have CG := Hid.mk (given_any b (w.alloc (.cells #[.slice none 0 0, .slice none 0 0, .bool false] 50)) (six_cells F0.lb.blk).1.1)
  have CH := Hid.mk (heard_any l (w.alloc (.cells #[.slice none 0 0, .slice none 0 0, .bool false] 50)) hl)
  unfold HdE at CH
  have HF0 := Hid.mk F0
  have HR0 := Hid.mk r0
  have HZ0 := Hid.mk hz0
  clear F0 r0 hz0 h hl
  go_enter Try.func19, Try.ntmps19
  go_wp2_with fail
  refine CG.out.mono ?_
  rintro x w1 ⟨rfl, hw⟩
  rw [hw]; clear hw CG w1
  go_wp2_with fail
  refine CH.out.mono ?_
  clear CH
  rintro x w1 ⟨⟨a, bb, c, d, f, kk, a0, l0, c0, a1, l1, c1, a2, l2, c2, ok, rfl, hv⟩, hb⟩
  unfold HdV at hv
  rw [HH.out] at hv
  simp only at hv
  rw [HZ0.out] at hb
  try rw [HZ0.out] at hv
  have hb' : Below (w.alloc (.cells #[.slice none 0 0, .slice none 0 0, .bool false] 50)).heap.size (w.alloc (.cells #[.slice none 0 0, .slice none 0 0, .bool false] 50)) w1 := by rw [HZ0.out]; exact hb
  have F2 : LF S w (w1.alloc (.cells #[.int .i64 a, .int .i64 bb, .int .i64 c, .bool d, .int .i64 f, .int .i64 kk, .slice a0 l0 c0, .slice a1 l1 c1, .slice a2 l2 c2] 86)) b vq e := (HF0.out.below hS hb').alloc hS _
  have r2 : (w1.alloc (.cells #[.int .i64 a, .int .i64 bb, .int .i64 c, .bool d, .int .i64 f, .int .i64 kk, .slice a0 l0 c0, .slice a1 l1 c1, .slice a2 l2 c2] 86)).heap[w.heap.size]? = some (.cells #[.slice none 0 0, .slice none 0 0, .bool false] 50) := alloc_old (kpB hb' HR0.out)
  have k2' := box_at w1 (.cells #[.int .i64 a, .int .i64 bb, .int .i64 c, .bool d, .int .i64 f, .int .i64 kk, .slice a0 l0 c0, .slice a1 l1 c1, .slice a2 l2 c2] 86)
  have hw1 : w.heap.size + 1 ≤ w1.heap.size := by rw [← HZ0.out]; exact hb.size
  have HF2 := Hid.mk F2
  have HR2 := Hid.mk r2
  have HK2 := Hid.mk k2'
  have HW1 := Hid.mk hw1
  obtain ⟨⟨g0, g1, g2, g3, g4, g5⟩, ⟨f0, f1, f2, f3, f4, f5⟩⟩ := six_cells F2.lb.blk
  obtain ⟨⟨k0, k1, k2, k3, k4, k5, k6, k7, k8⟩, -⟩ := nine_cells k2'
  obtain ⟨⟨r0, r1, r2⟩, ⟨s0, s1, s2⟩⟩ := three_cells r2
  clear F2 r2 k2' hw1 hb hb' HF0 HR0
  obtain ⟨rfl, ha, rfl, hc, rfl, rfl, rfl, hown⟩ := hv
  rw [HYE.out] at ha
  rw [HYW.out] at hc
  subst ha hc
  have HO := Hid.mk (hown.below ((Below.refl w1.heap.size w1).alloc (Nat.le_refl _) (.cells #[.int .i64 (k : Int), .int .i64 y.ot, .int .i64 (kw : Int), .bool y.ca, .int .i64 y.nr, .int .i64 y.pl.kind, .slice a0 l0 c0, .slice a1 l1 c1, .slice a2 l2 c2] 86)))
  have HF := HF2
  have HR := HR2
  have HK := HK2
  have HZ : Hid (w1.heap.size + 1 ≤ (w1.alloc (.cells #[.int .i64 (k : Int), .int .i64 y.ot, .int .i64 (kw : Int), .bool y.ca, .int .i64 y.nr, .int .i64 y.pl.kind, .slice a0 l0 c0, .slice a1 l1 c1, .slice a2 l2 c2] 86)).heap.size) := Hid.mk (by simp)
  clear hown HF2 HR2 HK2 r0 r1 r2 s0 s1 s2
  go_wp2_with fail
  go_quiet (fail)
  obtain ⟨W3, hW3⟩ : ∃ W3 : World, W3 = (w1.alloc (.cells #[.int .i64 (k : Int), .int .i64 y.ot, .int .i64 (kw : Int), .bool y.ca, .int .i64 y.nr, .int .i64 y.pl.kind, .slice a0 l0 c0, .slice a1 l1 c1, .slice a2 l2 c2] 86)).drewN nq := ⟨_, rfl⟩
  rw [← hW3]
  have HFx : Hid (LF S w W3 b vq e) := Hid.mk (by rw [hW3]; exact HF.out.drewN nq)
  have HRx : Hid (W3.heap[w.heap.size]? = some (.cells #[.slice none 0 0, .slice none 0 0, .bool false] 50)) := Hid.mk (by rw [hW3]; exact HR.out)
  have HKx : Hid (W3.heap[w1.heap.size]? = some (.cells #[.int .i64 (k : Int), .int .i64 y.ot, .int .i64 (kw : Int), .bool y.ca, .int .i64 y.nr, .int .i64 y.pl.kind, .slice a0 l0 c0, .slice a1 l1 c1, .slice a2 l2 c2] 86)) := Hid.mk (by rw [hW3]; exact HK.out)
  have HZx : Hid (w1.heap.size + 1 ≤ W3.heap.size) := Hid.mk (by rw [hW3]; exact HZ.out)
  have HOx : Hid (NoteOwn W3 (w.heap.size + 1) (.agg #[.int .i64 y.pl.kind, .slice a0 l0 c0, .slice a1 l1 c1, .slice a2 l2 c2]) y.pl) := Hid.mk (by rw [hW3]; exact HO.out.keep (fun _ _ _ h => h))
  clear HF HR HK HZ HO
  have HF := HFx
  have HR := HRx
  have HK := HKx
  have HZ := HZx
  have HO := HOx
  clear HFx HRx HKx HZx HOx
  clear hW3 k0 k1 k2 k3 k4 k5 k6 k7 k8 g0 g1 g2 g3 g4 g5 f0 f1 f2 f3 f4 f5
  obtain ⟨cb, hcb⟩ : ∃ cb, W3.heap.size = cb := ⟨_, rfl⟩
  have HCB : Hid (w.heap.size + 1 ≤ cb ∧ w1.heap.size + 1 ≤ cb) := Hid.mk (by have := HZ.out; have := HW1.out; omega)
  have HC : Hid ((W3.alloc (.cells #[.slice none 0 0, .slice none 0 0, .bool false] 50)).heap[cb]? = some (.cells #[.slice none 0 0, .slice none 0 0, .bool false] 50)) := Hid.mk (by rw [← hcb]; exact box_at W3 _)
  have HFx : Hid (LF S w (W3.alloc (.cells #[.slice none 0 0, .slice none 0 0, .bool false] 50)) b vq e) := Hid.mk (HF.out.alloc hS _)
  have HRx : Hid ((W3.alloc (.cells #[.slice none 0 0, .slice none 0 0, .bool false] 50)).heap[w.heap.size]? = some (.cells #[.slice none 0 0, .slice none 0 0, .bool false] 50)) := Hid.mk (alloc_old HR.out)
  have HKx : Hid ((W3.alloc (.cells #[.slice none 0 0, .slice none 0 0, .bool false] 50)).heap[w1.heap.size]? = some (.cells #[.int .i64 (k : Int), .int .i64 y.ot, .int .i64 (kw : Int), .bool y.ca, .int .i64 y.nr, .int .i64 y.pl.kind, .slice a0 l0 c0, .slice a1 l1 c1, .slice a2 l2 c2] 86)) := Hid.mk (alloc_old HK.out)
  have HZx : Hid (w1.heap.size + 1 ≤ (W3.alloc (.cells #[.slice none 0 0, .slice none 0 0, .bool false] 50)).heap.size) := Hid.mk (by have := HZ.out; simp; omega)
  have HOx : Hid (NoteOwn (W3.alloc (.cells #[.slice none 0 0, .slice none 0 0, .bool false] 50)) (w.heap.size + 1) (.agg #[.int .i64 y.pl.kind, .slice a0 l0 c0, .slice a1 l1 c1, .slice a2 l2 c2]) y.pl) := Hid.mk (HO.out.below ((Below.refl W3.heap.size W3).alloc (Nat.le_refl _) _))
  clear HF HR HK HZ HO
  have HF := HFx
  have HR := HRx
  have HK := HKx
  have HZ := HZx
  have HO := HOx
  clear HFx HRx HKx HZx HOx
  obtain ⟨⟨g0, g1, g2, g3, g4, g5⟩, ⟨f0, f1, f2, f3, f4, f5⟩⟩ := six_cells HF.out.lb.blk
  obtain ⟨⟨k0, k1, k2, k3, k4, k5, k6, k7, k8⟩, -⟩ := nine_cells HK.out
  obtain ⟨⟨m0, m1, m2⟩, ⟨n0, n1, n2⟩⟩ := three_cells HC.out
  go_wp2_with fail
  go_quiet (fail)
  obtain ⟨W5, hW5⟩ : ∃ W5 : World, W5 = (W3.alloc (.cells #[.slice none 0 0, .slice none 0 0, .bool false] 50)).drewN nq := ⟨_, rfl⟩
  rw [← hW5]
  have HFx : Hid (LF S w W5 b vq e) := Hid.mk (by rw [hW5]; exact HF.out.drewN nq)
  have HRx : Hid (W5.heap[w.heap.size]? = some (.cells #[.slice none 0 0, .slice none 0 0, .bool false] 50)) := Hid.mk (by rw [hW5]; exact HR.out)
  have HKx : Hid (W5.heap[w1.heap.size]? = some (.cells #[.int .i64 (k : Int), .int .i64 y.ot, .int .i64 (kw : Int), .bool y.ca, .int .i64 y.nr, .int .i64 y.pl.kind, .slice a0 l0 c0, .slice a1 l1 c1, .slice a2 l2 c2] 86)) := Hid.mk (by rw [hW5]; exact HK.out)
  have HZx : Hid (w1.heap.size + 1 ≤ W5.heap.size) := Hid.mk (by rw [hW5]; exact HZ.out)
  have HCx : Hid (W5.heap[cb]? = some (.cells #[.slice none 0 0, .slice none 0 0, .bool false] 50)) := Hid.mk (by rw [hW5]; exact HC.out)
  have HOx : Hid (NoteOwn W5 (w.heap.size + 1) (.agg #[.int .i64 y.pl.kind, .slice a0 l0 c0, .slice a1 l1 c1, .slice a2 l2 c2]) y.pl) := Hid.mk (by rw [hW5]; exact HO.out.keep (fun _ _ _ h => h))
  clear HF HR HK HZ HC HO
  have HF := HFx
  have HR := HRx
  have HK := HKx
  have HZ := HZx
  have HC := HCx
  have HO := HOx
  clear HFx HRx HKx HZx HCx HOx
  clear hW5 k0 k1 k2 k3 k4 k5 k6 k7 k8 g0 g1 g2 g3 g4 g5 f0 f1 f2 f3 f4 f5
  have HSE0 : seeE e k = (e, false) := by rw [seeE, if_neg (by omega)]
  obtain ⟨⟨g0, g1, g2, g3, g4, g5⟩, ⟨f0, f1, f2, f3, f4, f5⟩⟩ := six_cells HF.out.lb.blk
  obtain ⟨⟨k0, k1, k2, k3, k4, k5, k6, k7, k8⟩, -⟩ := nine_cells HK.out
  obtain ⟨⟨m0, m1, m2⟩, ⟨n0, n1, n2⟩⟩ := three_cells HC.out
  go_wp2_with fail
  obtain ⟨W8, hW8⟩ : ∃ W8 : World, W8 = W5 := ⟨_, rfl⟩
  rw [← hW8] at HF HR HK HC HO HZ
  rw [← hW8]
  obtain ⟨e1, he1⟩ : ∃ x, x = e := ⟨_, rfl⟩
  obtain ⟨an, han⟩ : ∃ x, x = false := ⟨_, rfl⟩
  obtain ⟨vq1, hv1⟩ : ∃ x, x = vq := ⟨_, rfl⟩
  have HSE : Hid (seeE e k = (e1, an)) := Hid.mk (by rw [he1, han]; exact HSE0)
  have HFx : Hid (LF S w W8 b vq1 e1) := by rw [he1, hv1]; exact HF
  have HCx : Hid (W8.heap[cb]? = some (.cells #[.slice none 0 0, .slice none 0 0, .bool an] 50)) := by rw [han]; exact HC
  clear HSE0 HF HC hlt hk0 hk0b hko hW8 k0 k1 k2 k3 k4 k5 k6 k7 k8 g0 g1 g2 g3 g4 g5 f0 f1 f2 f3 f4 f5 m0 m1 m2 n0 n1 n2 he1 han hv1
  have HF := HFx
  have HC := HCx
  clear HFx HCx
  obtain ⟨⟨g0, g1, g2, g3, g4, g5⟩, ⟨f0, f1, f2, f3, f4, f5⟩⟩ := six_cells HF.out.lb.blk
  obtain ⟨⟨k0, k1, k2, k3, k4, k5, k6, k7, k8⟩, -⟩ := nine_cells HK.out
  obtain ⟨⟨m0, m1, m2⟩, ⟨n0, n1, n2⟩⟩ := three_cells HC.out
  by_cases ho : y.ot = (e1.ep : Int)
  · have ho1 : (y.ot != (e1.ep : Int)) = false := by simp; exact ho
    have HTM0 : Hid (takeE e l = tookE (dropE e1 kw) y an) := Hid.mk (by rw [HTK.out, metE, if_neg (by rw [HSE.out]; simp only [ne_eq, Classical.not_not]; exact ho), HSE.out, HYW.out]; rfl)
    clear ho HTK
    go_wp2_with fail
    go_quiet (fail)
    obtain ⟨W9, hW9⟩ : ∃ W9 : World, W9 = W8.drewN nq := ⟨_, rfl⟩
    rw [← hW9]
    have HFx : Hid (LF S w W9 b vq1 e1) := Hid.mk (by rw [hW9]; exact HF.out.drewN nq)
    have HRx : Hid (W9.heap[w.heap.size]? = some (.cells #[.slice none 0 0, .slice none 0 0, .bool false] 50)) := Hid.mk (by rw [hW9]; exact HR.out)
    have HKx : Hid (W9.heap[w1.heap.size]? = some (.cells #[.int .i64 (k : Int), .int .i64 y.ot, .int .i64 (kw : Int), .bool y.ca, .int .i64 y.nr, .int .i64 y.pl.kind, .slice a0 l0 c0, .slice a1 l1 c1, .slice a2 l2 c2] 86)) := Hid.mk (by rw [hW9]; exact HK.out)
    have HZx : Hid (w1.heap.size + 1 ≤ W9.heap.size) := Hid.mk (by rw [hW9]; exact HZ.out)
    have HCx : Hid (W9.heap[cb]? = some (.cells #[.slice none 0 0, .slice none 0 0, .bool an] 50)) := Hid.mk (by rw [hW9]; exact HC.out)
    have HOx : Hid (NoteOwn W9 (w.heap.size + 1) (.agg #[.int .i64 y.pl.kind, .slice a0 l0 c0, .slice a1 l1 c1, .slice a2 l2 c2]) y.pl) := Hid.mk (by rw [hW9]; exact HO.out.keep (fun _ _ _ h => h))
    clear HF HR HK HZ HC HO
    have HF := HFx
    have HR := HRx
    have HK := HKx
    have HZ := HZx
    have HC := HCx
    have HO := HOx
    clear HFx HRx HKx HZx HCx HOx
    clear hW9 k0 k1 k2 k3 k4 k5 k6 k7 k8 g0 g1 g2 g3 g4 g5 f0 f1 f2 f3 f4 f5
    have CD := Hid.mk (dropQ_any HF.out.drew.sn (HF.out.drew.low hS) kw HKW.out)
    unfold DrpE at CD
    obtain ⟨e2, he2⟩ : ∃ x, dropE e1 kw = x := ⟨_, rfl⟩
    rw [he2] at CD HTM0
    clear he2
    have HFD := Hid.mk HF.out.drew
    have HKD : Hid (W9.drew.cell? ⟨w1.heap.size, 2, none⟩ = some (.int .i64 (kw : Int))) := Hid.mk (nine_cells (show W9.drew.heap[w1.heap.size]? = _ from HK.out)).1.2.2.1
    have HRD : Hid (W9.drew.heap[w.heap.size]? = some (.cells #[.slice none 0 0, .slice none 0 0, .bool false] 50)) := Hid.mk HR.out
    have HKK : Hid (W9.drew.heap[w1.heap.size]? = some (.cells #[.int .i64 (k : Int), .int .i64 y.ot, .int .i64 (kw : Int), .bool y.ca, .int .i64 y.nr, .int .i64 y.pl.kind, .slice a0 l0 c0, .slice a1 l1 c1, .slice a2 l2 c2] 86)) := Hid.mk HK.out
    have HCD : Hid (W9.drew.heap[cb]? = some (.cells #[.slice none 0 0, .slice none 0 0, .bool an] 50)) := Hid.mk HC.out
    have HOD : Hid (NoteOwn W9.drew (w.heap.size + 1) (.agg #[.int .i64 y.pl.kind, .slice a0 l0 c0, .slice a1 l1 c1, .slice a2 l2 c2]) y.pl) := Hid.mk (HO.out.keep (fun _ _ _ h => h))
    have HZD : Hid (w1.heap.size + 1 ≤ W9.drew.heap.size) := Hid.mk HZ.out
    have HLE : Hid (w.heap.size ≤ w1.heap.size) := Hid.mk (by have := HW1.out; omega)
    go_wp2_with fail
    go_region_held3 (fun u => u.cell? ⟨w1.heap.size, 2, none⟩ = some (.int .i64 (kw : Int)))
      (first | with_reducible exact HKD.out | exact (nine_cells (LF.kp hf10 HLE.out HKK.out)).1.2.2.1)
      (first | (with_reducible refine CD.out.mono ?_; rintro x w10 ⟨rfl, vq2, hl10, hf10, hq10⟩))
    clear HF HR HK HC HO HZ CD
    have HF := Hid.mk (HFD.out.link hl10 hf10 hq10)
    have HR := Hid.mk (LF.kp hf10 (Nat.le_refl _) HRD.out)
    have HK := Hid.mk (LF.kp hf10 HLE.out HKK.out)
    have HC := Hid.mk (LF.kp hf10 (by have := HCB.out; omega) HCD.out)
    have HO := Hid.mk (HOD.out.keep (fun k o hk ho => LF.kp hf10 (by omega) ho))
    have HZ : Hid (w1.heap.size + 1 ≤ w10.heap.size) := Hid.mk (Nat.le_trans HZD.out hf10.size)
    have HTM := HTM0
    clear HFD HRD HKK HCD HOD HZD HKD hl10 hf10 hq10 HTM0
    obtain ⟨⟨g0, g1, g2, g3, g4, g5⟩, ⟨f0, f1, f2, f3, f4, f5⟩⟩ := six_cells HF.out.lb.blk
    obtain ⟨⟨k0, k1, k2, k3, k4, k5, k6, k7, k8⟩, -⟩ := nine_cells HK.out
    obtain ⟨⟨m0, m1, m2⟩, ⟨n0, n1, n2⟩⟩ := three_cells HC.out
    by_cases hca : y.ca = true
    · by_cases hnr : y.nr = (e2.wt : Int)
      · have hnb : (y.nr == (e2.wt : Int)) = true := by simp; exact hnr
        have HT : Hid (takeE e l = ({ e2 with wt := e2.wt + 1 }, [y.pl], [telB { e2 with wt := e2.wt + 1 }], an)) := Hid.mk (by rw [HTM.out, tookE, if_neg (by rw [hca]; decide), if_pos hnr])
        have HOK3 : Hid ((En.mk e2.ep e2.ot e2.fs (e2.wt + 1) e2.q).ok) := Hid.mk (by
          have h1 := HF.out.lb.ok
          have h2 := HNR.out.2
          exact { h1 with wt1 := by simp, wt2 := by simp only; omega })
        have hwt := HF.out.lb.ok.wt2
        clear hnr HTM
        go_wp2_with fail
        go_quiet (fail)
        obtain ⟨W11, hW11⟩ : ∃ W11 : World, W11 = w10.drewN nq := ⟨_, rfl⟩
        rw [← hW11]
        have HFx : Hid (LF S w W11 b vq2 e2) := Hid.mk (by rw [hW11]; exact HF.out.drewN nq)
        have HRx : Hid (W11.heap[w.heap.size]? = some (.cells #[.slice none 0 0, .slice none 0 0, .bool false] 50)) := Hid.mk (by rw [hW11]; exact HR.out)
        have HKx : Hid (W11.heap[w1.heap.size]? = some (.cells #[.int .i64 (k : Int), .int .i64 y.ot, .int .i64 (kw : Int), .bool y.ca, .int .i64 y.nr, .int .i64 y.pl.kind, .slice a0 l0 c0, .slice a1 l1 c1, .slice a2 l2 c2] 86)) := Hid.mk (by rw [hW11]; exact HK.out)
        have HZx : Hid (w1.heap.size + 1 ≤ W11.heap.size) := Hid.mk (by rw [hW11]; exact HZ.out)
        have HCx : Hid (W11.heap[cb]? = some (.cells #[.slice none 0 0, .slice none 0 0, .bool an] 50)) := Hid.mk (by rw [hW11]; exact HC.out)
        have HOx : Hid (NoteOwn W11 (w.heap.size + 1) (.agg #[.int .i64 y.pl.kind, .slice a0 l0 c0, .slice a1 l1 c1, .slice a2 l2 c2]) y.pl) := Hid.mk (by rw [hW11]; exact HO.out.keep (fun _ _ _ h => h))
        clear HF HR HK HZ HC HO
        have HF := HFx
        have HR := HRx
        have HK := HKx
        have HZ := HZx
        have HC := HCx
        have HO := HOx
        clear HFx HRx HKx HZx HCx HOx
        clear hW11 k0 k1 k2 k3 k4 k5 k6 k7 k8 g0 g1 g2 g3 g4 g5 f0 f1 f2 f3 f4 f5
        obtain ⟨⟨g0, g1, g2, g3, g4, g5⟩, ⟨f0, f1, f2, f3, f4, f5⟩⟩ := six_cells HF.out.lb.blk
        obtain ⟨⟨k0, k1, k2, k3, k4, k5, k6, k7, k8⟩, -⟩ := nine_cells HK.out
        obtain ⟨⟨m0, m1, m2⟩, ⟨n0, n1, n2⟩⟩ := three_cells HC.out
        have HNCB : Hid (cb < W11.heap.size) := Hid.mk (lt_of_block HC.out)
        have HB : b < W11.heap.size := lt_of_block HF.out.lb.blk
        have HFw : Hid (LF S w (((W11.alloc (.cells #[.int .i64 y.pl.kind, .slice a0 l0 c0, .slice a1 l1 c1, .slice a2 l2 c2] 36)).setCell ⟨cb, 0, none⟩ (.slice (some ⟨W11.heap.size, 0, none⟩) 1 1)).setCell ⟨b, 3, none⟩ (.int .i64 ((e2.wt : Int) + 1))) b vq2 { e2 with wt := e2.wt + 1 }) := Hid.mk (((HF.out.alloc hS _).set hS (by have := HCB.out; omega) _).want HOK3.out)
        have hbw := HF.out.b_lt
        have HLB : (W11.alloc (.cells #[.int .i64 y.pl.kind, .slice a0 l0 c0, .slice a1 l1 c1, .slice a2 l2 c2] 36)).heap[b]? = _ := alloc_old HF.out.lb.blk
        have hc1 : (W11.alloc (.cells #[.int .i64 y.pl.kind, .slice a0 l0 c0, .slice a1 l1 c1, .slice a2 l2 c2] 36)).heap[cb]? = some (.cells #[.slice none 0 0, .slice none 0 0, .bool an] 50) := alloc_old HC.out
        have hc2 : ((W11.alloc (.cells #[.int .i64 y.pl.kind, .slice a0 l0 c0, .slice a1 l1 c1, .slice a2 l2 c2] 36)).setCell ⟨cb, 0, none⟩ (.slice (some ⟨W11.heap.size, 0, none⟩) 1 1)).heap[cb]? = some (.cells #[.slice (some ⟨W11.heap.size, 0, none⟩) 1 1, .slice none 0 0, .bool an] 50) := three_set0 hc1
        have hb2 : ((W11.alloc (.cells #[.int .i64 y.pl.kind, .slice a0 l0 c0, .slice a1 l1 c1, .slice a2 l2 c2] 36)).setCell ⟨cb, 0, none⟩ (.slice (some ⟨W11.heap.size, 0, none⟩) 1 1)).heap[b]? = _ := (set1_other (by have := HCB.out; omega) _).trans HLB
        have HCw : Hid ((((W11.alloc (.cells #[.int .i64 y.pl.kind, .slice a0 l0 c0, .slice a1 l1 c1, .slice a2 l2 c2] 36)).setCell ⟨cb, 0, none⟩ (.slice (some ⟨W11.heap.size, 0, none⟩) 1 1)).setCell ⟨b, 3, none⟩ (.int .i64 ((e2.wt : Int) + 1))).heap[cb]? = some (.cells #[.slice (some ⟨W11.heap.size, 0, none⟩) 1 1, .slice none 0 0, .bool an] 50)) := Hid.mk ((set1_other (by have := HCB.out; omega) _).trans hc2)
        have HRw : Hid ((((W11.alloc (.cells #[.int .i64 y.pl.kind, .slice a0 l0 c0, .slice a1 l1 c1, .slice a2 l2 c2] 36)).setCell ⟨cb, 0, none⟩ (.slice (some ⟨W11.heap.size, 0, none⟩) 1 1)).setCell ⟨b, 3, none⟩ (.int .i64 ((e2.wt : Int) + 1))).heap[w.heap.size]? = some (.cells #[.slice none 0 0, .slice none 0 0, .bool false] 50)) := Hid.mk ((set1_other (by omega) _).trans ((set1_other (by have := HCB.out; omega) _).trans (alloc_old HR.out)))
        have HKw : Hid ((((W11.alloc (.cells #[.int .i64 y.pl.kind, .slice a0 l0 c0, .slice a1 l1 c1, .slice a2 l2 c2] 36)).setCell ⟨cb, 0, none⟩ (.slice (some ⟨W11.heap.size, 0, none⟩) 1 1)).setCell ⟨b, 3, none⟩ (.int .i64 ((e2.wt : Int) + 1))).heap[w1.heap.size]? = some (.cells #[.int .i64 (k : Int), .int .i64 y.ot, .int .i64 (kw : Int), .bool y.ca, .int .i64 y.nr, .int .i64 y.pl.kind, .slice a0 l0 c0, .slice a1 l1 c1, .slice a2 l2 c2] 86)) := Hid.mk ((set1_other (by have := HW1.out; omega) _).trans ((set1_other (by have := HCB.out; omega) _).trans (alloc_old HK.out)))
        have HNw : Hid ((((W11.alloc (.cells #[.int .i64 y.pl.kind, .slice a0 l0 c0, .slice a1 l1 c1, .slice a2 l2 c2] 36)).setCell ⟨cb, 0, none⟩ (.slice (some ⟨W11.heap.size, 0, none⟩) 1 1)).setCell ⟨b, 3, none⟩ (.int .i64 ((e2.wt : Int) + 1))).heap[W11.heap.size]? = some (.cells #[.int .i64 y.pl.kind, .slice a0 l0 c0, .slice a1 l1 c1, .slice a2 l2 c2] 36)) := Hid.mk ((set1_other (by omega) _).trans ((set1_other (by have := lt_of_block HC.out; omega) _).trans (box_at W11 _)))
        have HOw : Hid (NoteOwn (((W11.alloc (.cells #[.int .i64 y.pl.kind, .slice a0 l0 c0, .slice a1 l1 c1, .slice a2 l2 c2] 36)).setCell ⟨cb, 0, none⟩ (.slice (some ⟨W11.heap.size, 0, none⟩) 1 1)).setCell ⟨b, 3, none⟩ (.int .i64 ((e2.wt : Int) + 1))) (w.heap.size + 1) (.agg #[.int .i64 y.pl.kind, .slice a0 l0 c0, .slice a1 l1 c1, .slice a2 l2 c2]) y.pl) := Hid.mk (((HO.out.below ((Below.refl W11.heap.size W11).alloc (Nat.le_refl _) _)).setT hc1 (by decide) (by decide) (by decide)).setT hb2 (by decide) (by decide) (by decide))
        have HZw : Hid (w1.heap.size + 1 ≤ (((W11.alloc (.cells #[.int .i64 y.pl.kind, .slice a0 l0 c0, .slice a1 l1 c1, .slice a2 l2 c2] 36)).setCell ⟨cb, 0, none⟩ (.slice (some ⟨W11.heap.size, 0, none⟩) 1 1)).setCell ⟨b, 3, none⟩ (.int .i64 ((e2.wt : Int) + 1))).heap.size ∧ w1.heap.size + 1 ≤ W11.heap.size) := Hid.mk (by have := HZ.out; constructor <;> (try simp) <;> omega)
        obtain ⟨⟨i0, i1, i2, i3, i4, i5⟩, ⟨j0, j1, j2, j3, j4, j5⟩⟩ := six_cells hb2
        obtain ⟨⟨p0, p1, p2⟩, ⟨q0, q1, q2⟩⟩ := three_cells hc1
        clear HF HR HK HZ HC HO hc1 hc2 hb2 HLB HB hbw
        have HF := HFw
        have HR := HRw
        have HK := HKw
        have HC := HCw
        have HO := HOw
        have HZ : Hid (w1.heap.size + 1 ≤ (((W11.alloc (.cells #[.int .i64 y.pl.kind, .slice a0 l0 c0, .slice a1 l1 c1, .slice a2 l2 c2] 36)).setCell ⟨cb, 0, none⟩ (.slice (some ⟨W11.heap.size, 0, none⟩) 1 1)).setCell ⟨b, 3, none⟩ (.int .i64 ((e2.wt : Int) + 1))).heap.size) := Hid.mk HZw.out.1
        have CT := Hid.mk (tell_any HF.out.lb)
        obtain ⟨tl, HTL⟩ : ∃ tl, Hid (tl = telB { e2 with wt := e2.wt + 1 }) := ⟨_, Hid.mk rfl⟩
        rw [← HTL.out] at CT
        go_wp2_with fail
        refine CT.out.mono ?_
        clear CT HFw HRw HKw HCw HOw k0 k1 k2 k3 k4 k5 k6 k7 k8 g0 g1 g2 g3 g4 g5 f0 f1 f2 f3 f4 f5 i0 i1 i2 i3 i4 i5 j0 j1 j2 j3 j4 j5 m0 m1 m2 n0 n1 n2 p0 p1 p2 q0 q1 q2
        rintro x w9 ⟨rfl, hb9⟩
        have HN9 := kpB hb9 HNw.out
        have HO9 := HO.out.below hb9
        have hbx := alloc_old (o' := .cells #[.string ⟨tl.toArray⟩] 9) (kpB hb9 HC.out)
        have hby : ((w9.alloc (.cells #[.string ⟨tl.toArray⟩] 9)).setCell ⟨cb, 1, none⟩ (.slice (some ⟨w9.heap.size, 0, none⟩) 1 1)).heap[w.heap.size]? = some (.cells #[.slice none 0 0, .slice none 0 0, .bool false] 50) := (set1_other (by have := HCB.out; omega) _).trans (alloc_old (kpB hb9 HR.out))
        have ho1 := (HO9.below ((Below.refl w9.heap.size w9).alloc (Nat.le_refl _) (.cells #[.string ⟨tl.toArray⟩] 9))).setT (i := 1) (u := .slice (some ⟨w9.heap.size, 0, none⟩) 1 1) hbx (by decide) (by decide) (by decide)
        have ho2 := ho1.setT (i := 0) (u := .slice (some ⟨W11.heap.size, 0, none⟩) 1 1) hby (by decide) (by decide) (by decide)
        have ho3 := ho2.setT (i := 1) (u := .slice (some ⟨w9.heap.size, 0, none⟩) 1 1) (three_set0 hby) (by decide) (by decide) (by decide)
        have ho4 := ho3.setT (i := 2) (u := .bool an) (three_set1 (three_set0 hby)) (by decide) (by decide) (by decide)
        have HONE : Hid (OneN (set3 ((w9.alloc (.cells #[.string ⟨tl.toArray⟩] 9)).setCell ⟨cb, 1, none⟩ (.slice (some ⟨w9.heap.size, 0, none⟩) 1 1)) w.heap.size (.slice (some ⟨W11.heap.size, 0, none⟩) 1 1) (.slice (some ⟨w9.heap.size, 0, none⟩) 1 1) (.bool an)) w.heap.size (.slice (some ⟨W11.heap.size, 0, none⟩) 1 1) [y.pl]) := Hid.mk (.inr ⟨W11.heap.size, y.pl, a0, l0, c0, a1, l1, c1, a2, l2, c2, rfl, rfl, by have := HZw.out.2; have := HW1.out; omega, (set3_other (by have := HZw.out.2; have := HW1.out; omega) _ _ _).trans ((set1_other (by have := HNCB.out; omega) _).trans (alloc_old HN9)), ho4.base (by omega)⟩)
        clear HN9 HO9 hbx hby ho1 ho2 ho3 ho4 HNw HZw
        have HF9 := HF.out.below hS hb9
        have HC9 := kpB hb9 HC.out
        have HR9 := kpB hb9 HR.out
        have HZ9 : w.heap.size + 1 ≤ w9.heap.size := by have := HZ.out; have := hb9.size; have := HW1.out; omega
        have HC10 := alloc_old (o' := .cells #[.string ⟨tl.toArray⟩] 9) HC9
        have hcx : ((w9.alloc (.cells #[.string ⟨tl.toArray⟩] 9)).setCell ⟨cb, 1, none⟩ (.slice (some ⟨w9.heap.size, 0, none⟩) 1 1)).heap[cb]? = some (.cells #[.slice (some ⟨W11.heap.size, 0, none⟩) 1 1, .slice (some ⟨w9.heap.size, 0, none⟩) 1 1, .bool an] 50) := three_set1 HC10
        have hrx : ((w9.alloc (.cells #[.string ⟨tl.toArray⟩] 9)).setCell ⟨cb, 1, none⟩ (.slice (some ⟨w9.heap.size, 0, none⟩) 1 1)).heap[w.heap.size]? = some (.cells #[.slice none 0 0, .slice none 0 0, .bool false] 50) := (set1_other (by have := HCB.out; omega) _).trans (alloc_old HR9)
        have hgx : (set3 ((w9.alloc (.cells #[.string ⟨tl.toArray⟩] 9)).setCell ⟨cb, 1, none⟩ (.slice (some ⟨w9.heap.size, 0, none⟩) 1 1)) w.heap.size (.slice (some ⟨W11.heap.size, 0, none⟩) 1 1) (.slice (some ⟨w9.heap.size, 0, none⟩) 1 1) (.bool an)).heap[w9.heap.size]? = some (.cells #[.string ⟨tl.toArray⟩] 9 (0, 0)) := (set3_other (by omega) _ _ _).trans ((set1_other (by have := lt_of_block HC9; omega) _).trans (box_at w9 _))
        have HE : Hid (TakE S w b e l (.returned (.agg #[.slice (some ⟨W11.heap.size, 0, none⟩) 1 1, .slice (some ⟨w9.heap.size, 0, none⟩) 1 1, .bool an])) (set3 ((w9.alloc (.cells #[.string ⟨tl.toArray⟩] 9)).setCell ⟨cb, 1, none⟩ (.slice (some ⟨w9.heap.size, 0, none⟩) 1 1)) w.heap.size (.slice (some ⟨W11.heap.size, 0, none⟩) 1 1) (.slice (some ⟨w9.heap.size, 0, none⟩) 1 1) (.bool an))) := Hid.mk (takE_of HT.out HONE.out (by rw [← HTL.out]; exact oneT_one (by omega) hgx) (((HF9.alloc hS _).set hS (by have := HCB.out; omega) _).set3 hS (Nat.le_refl _) _ _ _))
        obtain ⟨⟨p0, p1, p2⟩, ⟨q0, q1, q2⟩⟩ := three_cells HC10
        obtain ⟨⟨u0, u1, u2⟩, ⟨v0, v1, v2⟩⟩ := three_cells hcx
        obtain ⟨⟨r0, r1, r2⟩, ⟨s0, s1, s2⟩⟩ := three_cells hrx
        obtain ⟨⟨z0, z1, z2⟩, -⟩ := three_cells (set3_block hrx (.slice (some ⟨W11.heap.size, 0, none⟩) 1 1) (.slice (some ⟨w9.heap.size, 0, none⟩) 1 1) (.bool an))
        have Z0 := Hid.mk z0
        have Z1 := Hid.mk z1
        have Z2 := Hid.mk z2
        clear z0 z1 z2 hcx hrx hgx hb9 HF9 HC9 HR9 HC10 HZ9 HF HR HK HZ HC HO
        go_wp2
        refine bodyPost_ret (v := .agg #[.slice (some ⟨W11.heap.size, 0, none⟩) 1 1, .slice (some ⟨w9.heap.size, 0, none⟩) 1 1, .bool an]) ?_ rfl HE.out
        simp [results, Try.results19, go_sem, Z0.out, Z1.out, Z2.out]
      · have hnb : (y.nr == (e2.wt : Int)) = false := by simp; exact hnr
        have hnr2 : ¬ y.nr = (e2.wt : Int) := hnr
        have HT : Hid (takeE e l = (e2, [], [telB e2], an)) := Hid.mk (by rw [HTM.out, tookE, if_neg (by rw [hca]; decide), if_neg hnr])
        clear hnr HTM
        go_wp2_with fail
        go_quiet (fail)
        obtain ⟨W11, hW11⟩ : ∃ W11 : World, W11 = w10.drewN nq := ⟨_, rfl⟩
        rw [← hW11]
        have HFx : Hid (LF S w W11 b vq2 e2) := Hid.mk (by rw [hW11]; exact HF.out.drewN nq)
        have HRx : Hid (W11.heap[w.heap.size]? = some (.cells #[.slice none 0 0, .slice none 0 0, .bool false] 50)) := Hid.mk (by rw [hW11]; exact HR.out)
        have HKx : Hid (W11.heap[w1.heap.size]? = some (.cells #[.int .i64 (k : Int), .int .i64 y.ot, .int .i64 (kw : Int), .bool y.ca, .int .i64 y.nr, .int .i64 y.pl.kind, .slice a0 l0 c0, .slice a1 l1 c1, .slice a2 l2 c2] 86)) := Hid.mk (by rw [hW11]; exact HK.out)
        have HZx : Hid (w1.heap.size + 1 ≤ W11.heap.size) := Hid.mk (by rw [hW11]; exact HZ.out)
        have HCx : Hid (W11.heap[cb]? = some (.cells #[.slice none 0 0, .slice none 0 0, .bool an] 50)) := Hid.mk (by rw [hW11]; exact HC.out)
        have HOx : Hid (NoteOwn W11 (w.heap.size + 1) (.agg #[.int .i64 y.pl.kind, .slice a0 l0 c0, .slice a1 l1 c1, .slice a2 l2 c2]) y.pl) := Hid.mk (by rw [hW11]; exact HO.out.keep (fun _ _ _ h => h))
        clear HF HR HK HZ HC HO
        have HF := HFx
        have HR := HRx
        have HK := HKx
        have HZ := HZx
        have HC := HCx
        have HO := HOx
        clear HFx HRx HKx HZx HCx HOx
        clear hW11 k0 k1 k2 k3 k4 k5 k6 k7 k8 g0 g1 g2 g3 g4 g5 f0 f1 f2 f3 f4 f5
        have CT := Hid.mk (tell_any HF.out.lb)
        obtain ⟨tl, HTL⟩ : ∃ tl, Hid (tl = telB e2) := ⟨_, Hid.mk rfl⟩
        rw [← HTL.out] at CT
        go_wp2_with fail
        refine CT.out.mono ?_
        clear CT
        rintro x w9 ⟨rfl, hb9⟩
        have HF9 := HF.out.below hS hb9
        have HC9 := kpB hb9 HC.out
        have HR9 := kpB hb9 HR.out
        have HZ9 : w.heap.size + 1 ≤ w9.heap.size := by have := HZ.out; have := hb9.size; have := HW1.out; omega
        have HC10 := alloc_old (o' := .cells #[.string ⟨tl.toArray⟩] 9) HC9
        have hcx : ((w9.alloc (.cells #[.string ⟨tl.toArray⟩] 9)).setCell ⟨cb, 1, none⟩ (.slice (some ⟨w9.heap.size, 0, none⟩) 1 1)).heap[cb]? = some (.cells #[.slice none 0 0, .slice (some ⟨w9.heap.size, 0, none⟩) 1 1, .bool an] 50) := three_set1 HC10
        have hrx : ((w9.alloc (.cells #[.string ⟨tl.toArray⟩] 9)).setCell ⟨cb, 1, none⟩ (.slice (some ⟨w9.heap.size, 0, none⟩) 1 1)).heap[w.heap.size]? = some (.cells #[.slice none 0 0, .slice none 0 0, .bool false] 50) := (set1_other (by have := HCB.out; omega) _).trans (alloc_old HR9)
        have hgx : (set3 ((w9.alloc (.cells #[.string ⟨tl.toArray⟩] 9)).setCell ⟨cb, 1, none⟩ (.slice (some ⟨w9.heap.size, 0, none⟩) 1 1)) w.heap.size (.slice none 0 0) (.slice (some ⟨w9.heap.size, 0, none⟩) 1 1) (.bool an)).heap[w9.heap.size]? = some (.cells #[.string ⟨tl.toArray⟩] 9 (0, 0)) := (set3_other (by omega) _ _ _).trans ((set1_other (by have := lt_of_block HC9; omega) _).trans (box_at w9 _))
        have HE : Hid (TakE S w b e l (.returned (.agg #[.slice none 0 0, .slice (some ⟨w9.heap.size, 0, none⟩) 1 1, .bool an])) (set3 ((w9.alloc (.cells #[.string ⟨tl.toArray⟩] 9)).setCell ⟨cb, 1, none⟩ (.slice (some ⟨w9.heap.size, 0, none⟩) 1 1)) w.heap.size (.slice none 0 0) (.slice (some ⟨w9.heap.size, 0, none⟩) 1 1) (.bool an))) := Hid.mk (takE_of HT.out (oneN_nil _ _) (by rw [← HTL.out]; exact oneT_one (by omega) hgx) (((HF9.alloc hS _).set hS (by have := HCB.out; omega) _).set3 hS (Nat.le_refl _) _ _ _))
        obtain ⟨⟨p0, p1, p2⟩, ⟨q0, q1, q2⟩⟩ := three_cells HC10
        obtain ⟨⟨u0, u1, u2⟩, ⟨v0, v1, v2⟩⟩ := three_cells hcx
        obtain ⟨⟨r0, r1, r2⟩, ⟨s0, s1, s2⟩⟩ := three_cells hrx
        obtain ⟨⟨z0, z1, z2⟩, -⟩ := three_cells (set3_block hrx (.slice none 0 0) (.slice (some ⟨w9.heap.size, 0, none⟩) 1 1) (.bool an))
        have Z0 := Hid.mk z0
        have Z1 := Hid.mk z1
        have Z2 := Hid.mk z2
        clear z0 z1 z2 hcx hrx hgx hb9 HF9 HC9 HR9 HC10 HZ9 HF HR HK HZ HC HO
        go_wp2
        refine bodyPost_ret (v := .agg #[.slice none 0 0, .slice (some ⟨w9.heap.size, 0, none⟩) 1 1, .bool an]) ?_ rfl HE.out
        simp [results, Try.results19, go_sem, Z0.out, Z1.out, Z2.out]
    · have hca2 : y.ca = false := by cases h : y.ca with | false => rfl | true => exact absurd h hca
      have HT : Hid (takeE e l = (e2, [], [], an)) := Hid.mk (by rw [HTM.out, tookE, if_pos hca2])
      have HE : Hid (TakE S w b e l (.returned (.agg #[.slice none 0 0, .slice none 0 0, .bool an])) (set3 w10 w.heap.size (.slice none 0 0) (.slice none 0 0) (.bool an))) := Hid.mk (takE_of HT.out (oneN_nil _ _) (oneT_nil _ _) (HF.out.set3 hS (Nat.le_refl _) _ _ _))
      obtain ⟨⟨r0, r1, r2⟩, ⟨s0, s1, s2⟩⟩ := three_cells HR.out
      obtain ⟨⟨z0, z1, z2⟩, -⟩ := three_cells (set3_block HR.out (.slice none 0 0) (.slice none 0 0) (.bool an))
      have Z0 := Hid.mk z0
      have Z1 := Hid.mk z1
      have Z2 := Hid.mk z2
      clear z0 z1 z2 HF HR HK HZ HC HO HTM
      go_wp2
      refine bodyPost_ret (v := .agg #[.slice none 0 0, .slice none 0 0, .bool an]) ?_ rfl HE.out
      simp [results, Try.results19, go_sem, Z0.out, Z1.out, Z2.out]
  · have ho1 : (y.ot != (e1.ep : Int)) = true := by simp; exact ho
    have HT : Hid (takeE e l = (e1, [], [telB e1], an)) := Hid.mk (by rw [HTK.out, metE, if_pos (by rw [HSE.out]; exact ho), HSE.out])
    clear ho HTK
    go_wp2_with fail
    go_quiet (fail)
    obtain ⟨W9, hW9⟩ : ∃ W9 : World, W9 = W8.drewN nq := ⟨_, rfl⟩
    rw [← hW9]
    have HFx : Hid (LF S w W9 b vq1 e1) := Hid.mk (by rw [hW9]; exact HF.out.drewN nq)
    have HRx : Hid (W9.heap[w.heap.size]? = some (.cells #[.slice none 0 0, .slice none 0 0, .bool false] 50)) := Hid.mk (by rw [hW9]; exact HR.out)
    have HKx : Hid (W9.heap[w1.heap.size]? = some (.cells #[.int .i64 (k : Int), .int .i64 y.ot, .int .i64 (kw : Int), .bool y.ca, .int .i64 y.nr, .int .i64 y.pl.kind, .slice a0 l0 c0, .slice a1 l1 c1, .slice a2 l2 c2] 86)) := Hid.mk (by rw [hW9]; exact HK.out)
    have HZx : Hid (w1.heap.size + 1 ≤ W9.heap.size) := Hid.mk (by rw [hW9]; exact HZ.out)
    have HCx : Hid (W9.heap[cb]? = some (.cells #[.slice none 0 0, .slice none 0 0, .bool an] 50)) := Hid.mk (by rw [hW9]; exact HC.out)
    have HOx : Hid (NoteOwn W9 (w.heap.size + 1) (.agg #[.int .i64 y.pl.kind, .slice a0 l0 c0, .slice a1 l1 c1, .slice a2 l2 c2]) y.pl) := Hid.mk (by rw [hW9]; exact HO.out.keep (fun _ _ _ h => h))
    clear HF HR HK HZ HC HO
    have HF := HFx
    have HR := HRx
    have HK := HKx
    have HZ := HZx
    have HC := HCx
    have HO := HOx
    clear HFx HRx HKx HZx HCx HOx
    clear hW9 k0 k1 k2 k3 k4 k5 k6 k7 k8 g0 g1 g2 g3 g4 g5 f0 f1 f2 f3 f4 f5
    have CT := Hid.mk (tell_any HF.out.lb)
    obtain ⟨tl, HTL⟩ : ∃ tl, Hid (tl = telB e1) := ⟨_, Hid.mk rfl⟩
    rw [← HTL.out] at CT
    go_wp2_with fail
    refine CT.out.mono ?_
    clear CT
    rintro x w9 ⟨rfl, hb9⟩
    have HF9 := HF.out.below hS hb9
    have HC9 := kpB hb9 HC.out
    have HR9 := kpB hb9 HR.out
    have HZ9 : w.heap.size + 1 ≤ w9.heap.size := by have := HZ.out; have := hb9.size; have := HW1.out; omega
    have HC10 := alloc_old (o' := .cells #[.string ⟨tl.toArray⟩] 9) HC9
    have hcx : ((w9.alloc (.cells #[.string ⟨tl.toArray⟩] 9)).setCell ⟨cb, 1, none⟩ (.slice (some ⟨w9.heap.size, 0, none⟩) 1 1)).heap[cb]? = some (.cells #[.slice none 0 0, .slice (some ⟨w9.heap.size, 0, none⟩) 1 1, .bool an] 50) := three_set1 HC10
    have hrx : ((w9.alloc (.cells #[.string ⟨tl.toArray⟩] 9)).setCell ⟨cb, 1, none⟩ (.slice (some ⟨w9.heap.size, 0, none⟩) 1 1)).heap[w.heap.size]? = some (.cells #[.slice none 0 0, .slice none 0 0, .bool false] 50) := (set1_other (by have := HCB.out; omega) _).trans (alloc_old HR9)
    have hgx : (set3 ((w9.alloc (.cells #[.string ⟨tl.toArray⟩] 9)).setCell ⟨cb, 1, none⟩ (.slice (some ⟨w9.heap.size, 0, none⟩) 1 1)) w.heap.size (.slice none 0 0) (.slice (some ⟨w9.heap.size, 0, none⟩) 1 1) (.bool an)).heap[w9.heap.size]? = some (.cells #[.string ⟨tl.toArray⟩] 9 (0, 0)) := (set3_other (by omega) _ _ _).trans ((set1_other (by have := lt_of_block HC9; omega) _).trans (box_at w9 _))
    have HE : Hid (TakE S w b e l (.returned (.agg #[.slice none 0 0, .slice (some ⟨w9.heap.size, 0, none⟩) 1 1, .bool an])) (set3 ((w9.alloc (.cells #[.string ⟨tl.toArray⟩] 9)).setCell ⟨cb, 1, none⟩ (.slice (some ⟨w9.heap.size, 0, none⟩) 1 1)) w.heap.size (.slice none 0 0) (.slice (some ⟨w9.heap.size, 0, none⟩) 1 1) (.bool an))) := Hid.mk (takE_of HT.out (oneN_nil _ _) (by rw [← HTL.out]; exact oneT_one (by omega) hgx) (((HF9.alloc hS _).set hS (by have := HCB.out; omega) _).set3 hS (Nat.le_refl _) _ _ _))
    obtain ⟨⟨p0, p1, p2⟩, ⟨q0, q1, q2⟩⟩ := three_cells HC10
    obtain ⟨⟨u0, u1, u2⟩, ⟨v0, v1, v2⟩⟩ := three_cells hcx
    obtain ⟨⟨r0, r1, r2⟩, ⟨s0, s1, s2⟩⟩ := three_cells hrx
    obtain ⟨⟨z0, z1, z2⟩, -⟩ := three_cells (set3_block hrx (.slice none 0 0) (.slice (some ⟨w9.heap.size, 0, none⟩) 1 1) (.bool an))
    have Z0 := Hid.mk z0
    have Z1 := Hid.mk z1
    have Z2 := Hid.mk z2
    clear z0 z1 z2 hcx hrx hgx hb9 HF9 HC9 HR9 HC10 HZ9 HF HR HK HZ HC HO
    go_wp2
    refine bodyPost_ret (v := .agg #[.slice none 0 0, .slice (some ⟨w9.heap.size, 0, none⟩) 1 1, .bool an]) ?_ rfl HE.out
    simp [results, Try.results19, go_sem, Z0.out, Z1.out, Z2.out]
end
end Go.Proofs.Ytifmpcldiimdbaa

namespace Go.Proofs.Ytifmpcldiimdbaa
open Go.RowKit

section
variable {S : Nat → Prop} {w : World} {b : Nat} {vq : Value} {e : En}
theorem takeL_any (h : LB S w b vq e) (hS : Low S w) (l : List UInt8) (hl : l.length ≤ 140737488351232) :
    Calls Try.prog 19 #[.pointer (some ⟨b, 0, none⟩), .string ⟨l.toArray⟩] w (TakE S w b e l) := by
  cases hh : heardP l with
  | none => exact take_none h hS l hl hh
  | some y =>
    by_cases ho : y.ep = 0 ∨ y.ep < (e.ot : Int)
    · exact take_old h hS l hl y hh ho
    · by_cases hlt : (e.ot : Int) < y.ep
      · exact take_later h hS l hl y hh ho hlt
      · exact take_same h hS l hl y hh ho hlt
end
end Go.Proofs.Ytifmpcldiimdbaa

namespace Go.Proofs.Ytifmpcldiimdbaa
open Go.RowKit

/-- Two ends; neither owns a block of S, nor one of the other's. -/
def Two (S : Nat → Prop) (w : World) (b1 : Nat) (e1 : En) (b2 : Nat) (e2 : En) : Prop :=
  ∃ v1 v2, LB S w b1 v1 e1 ∧ LB S w b2 v2 e2 ∧ b1 ≠ b2 ∧ (∀ g, v1.ownBlock = some g → v2.ownBlock ≠ some g) ∧ v1.ownBlock ≠ some b2 ∧ v2.ownBlock ≠ some b1
/-- S, and all blocks that are new. -/
def Nw (S : Nat → Prop) (w w' : World) : Nat → Prop := fun k => S k ∨ (w.heap.size ≤ k ∧ k < w'.heap.size)
section
variable {S T : Nat → Prop} {w w' : World} {b1 b2 : Nat} {e1 e2 : En}
theorem Two.swap (h : Two S w b1 e1 b2 e2) : Two S w b2 e2 b1 e1 := by
  obtain ⟨v1, v2, h1, h2, h3, h4, h5, h6⟩ := h
  exact ⟨v2, v1, h2, h1, h3.symm, fun g hg hq => h4 g hq hg, h6, h5⟩
theorem Two.sub (h : Two S w b1 e1 b2 e2) (hT : ∀ k, T k → S k) : Two T w b1 e1 b2 e2 := by
  obtain ⟨v1, v2, h1, h2, h3⟩ := h
  exact ⟨v1, v2, h1.sub hT, h2.sub hT, h3⟩
theorem Two.below (h : Two S w b1 e1 b2 e2) (hb : Below w.heap.size w w') : Two S w' b1 e1 b2 e2 := by
  obtain ⟨v1, v2, h1, h2, h3⟩ := h
  exact ⟨v1, v2, h1.below hb, h2.below hb, h3⟩
theorem LB.nw {b : Nat} {v : Value} {e : En} (h : LB S w b v e) (hb : Below w.heap.size w w') : LB (Nw S w w') w' b v e := by
  have hlt := lt_of_block h.blk
  refine (h.below hb).more (fun k hk => hk.elim .inl (fun h1 => .inr ⟨by omega, fun e => by have := h.lowq k e; omega⟩))
/-- What is new is none of theirs. -/
theorem Two.nw (h : Two S w b1 e1 b2 e2) (hb : Below w.heap.size w w') : Two (Nw S w w') w' b1 e1 b2 e2 := by
  obtain ⟨v1, v2, h1, h2, h3⟩ := h
  exact ⟨v1, v2, h1.nw hb, h2.nw hb, h3⟩
theorem Nw.low (hS : Low S w) (hz : w.heap.size ≤ w'.heap.size) : Low (Nw S w w') w' := fun k hk => hk.elim (fun h => Nat.lt_of_lt_of_le (hS k h) hz) (fun h => h.2)
/-- Blocks that are none of theirs are written. -/
theorem Two.fr (h : Two S w b1 e1 b2 e2) (hk : ∀ k, k < w.heap.size → ¬ S k → w'.heap[k]? = w.heap[k]?) (hz : w.heap.size ≤ w'.heap.size) : Two S w' b1 e1 b2 e2 := by
  obtain ⟨v1, v2, h1, h2, h3⟩ := h
  have key : ∀ {b : Nat} {v : Value} {e : En}, LB S w b v e → LB S w' b v e := fun {b v e} h =>
    { h with blk := (hk b (lt_of_block h.blk) h.out).trans h.blk, row := h.row.keep (fun g o hg ho => (hk g (lt_of_block ho) (h.outq g hg)).trans ho), lowq := fun g hg => Nat.lt_of_lt_of_le (h.lowq g hg) hz }
  exact ⟨v1, v2, key h1, key h2, h3⟩
theorem Two.grown {row : Option Nat} (h : Two S w b1 e1 b2 e2) (hg : w.grownBy w' row) (hr : ∀ g, row = some g → S g) : Two S w' b1 e1 b2 e2 :=
  h.fr (fun k hk hn => hg.block k hk (fun e => hn (hr k e.symm))) hg.size
theorem Two.set {k i : Nat} (h : Two S w b1 e1 b2 e2) (hk : S k) (u : Value) : Two S (w.setCell ⟨k, i, none⟩ u) b1 e1 b2 e2 :=
  h.fr (fun j _ hn => set1_other (fun e => hn (by rw [e]; exact hk)) u) (by simp)
/-- What the first one may not own while the other one is there. -/
def Oth (S : Nat → Prop) (b2 : Nat) (v2 : Value) : Nat → Prop := fun k => S k ∨ k = b2 ∨ v2.ownBlock = some k
theorem two_open (h : Two S w b1 e1 b2 e2) (hS : Low S w) : ∃ v1 v2, LB (Oth S b2 v2) w b1 v1 e1 ∧ LB S w b2 v2 e2 ∧ b1 ≠ b2 ∧ v2.ownBlock ≠ some b1 ∧ Low (Oth S b2 v2) w := by
  obtain ⟨v1, v2, h1, h2, h3, h4, h5, h6⟩ := h
  refine ⟨v1, v2, h1.more (fun k hk => ?_), h2, h3, h6, fun k hk => ?_⟩
  · rcases hk with hk | rfl | hk
    · exact .inl hk
    · exact .inr ⟨h3.symm, h5⟩
    · exact .inr ⟨fun e => h6 (by rw [← e]; exact hk), fun e => h4 k e hk⟩
  · rcases hk with hk | rfl | hk
    · exact hS k hk
    · exact lt_of_block h2.blk
    · exact h2.lowq k hk
theorem two_shut {v1 v2 : Value} {e1' : En} (hl : LB (Oth S b2 v2) w' b1 v1 e1') (h2 : LB S w b2 v2 e2) (h3 : b1 ≠ b2) (h6 : v2.ownBlock ≠ some b1) (hf : Fr (Oth S b2 v2) w w') : Two S w' b1 e1' b2 e2 := by
  refine ⟨v1, v2, hl.sub (fun _ hk => .inl hk), h2.other hf (.inr (.inl rfl)) (fun g hg => .inr (.inr hg)), h3, fun g hg hq => hl.outq g hg (.inr (.inr hq)), fun e => hl.outq b2 e (.inr (.inl rfl)), h6⟩
/-- What a packet that the first one takes ends with. -/
def TakT (S : Nat → Prop) (w : World) (b1 : Nat) (e1 : En) (b2 : Nat) (e2 : En) (l : List UInt8) (x : Ending) (w' : World) : Prop :=
  (∃ a0 l0 c0 a1 l1 c1, x = .returned (.agg #[.slice a0 l0 c0, .slice a1 l1 c1, .bool (takeE e1 l).2.2.2]) ∧ OneN w' w.heap.size (.slice a0 l0 c0) (takeE e1 l).2.1 ∧ OneT w' w.heap.size (.slice a1 l1 c1) (takeE e1 l).2.2.1) ∧ Two (Nw S w w') w' b1 (takeE e1 l).1 b2 e2 ∧ Fr S w w'
theorem takT_any (h : Two S w b1 e1 b2 e2) (hS : Low S w) (l : List UInt8) (hl : l.length ≤ 140737488351232) :
    Calls Try.prog 19 #[.pointer (some ⟨b1, 0, none⟩), .string ⟨l.toArray⟩] w (TakT S w b1 e1 b2 e2 l) := by
  obtain ⟨v1, v2, h1, h2, h3, h6, hO⟩ := two_open h hS
  refine (takeL_any h1 hO l hl).mono ?_
  rintro x w' ⟨hr, vq', hf⟩
  have ht := two_shut (hf.lb.sub (fun k hk => .inl hk)) h2 h3 h6 hf.fr
  refine ⟨hr, ?_, hf.fr.sub (fun _ hk => .inl hk)⟩
  obtain ⟨u1, u2, k1, k2, k3⟩ := two_shut (hf.lb.sub (fun k hk => .inl hk)) h2 h3 h6 hf.fr
  refine ⟨vq', v2, hf.lb.sub (fun k hk => hk.elim (fun h => .inl (.inl h)) (fun h => .inr h.1)), ?_, h3, fun g hg hq => hf.lb.outq g hg (.inl (.inr (.inr hq))), fun e => hf.lb.outq b2 e (.inl (.inr (.inl rfl))), h6⟩
  have hlt := lt_of_block h2.blk
  exact (h2.other hf.fr (.inr (.inl rfl)) (fun g hg => .inr (.inr hg))).more (fun k hk => hk.elim .inl (fun h1 => .inr ⟨by omega, fun e => by have := h2.lowq k e; omega⟩))
def PtT2 (S : Nat → Prop) (w : World) (b1 : Nat) (e1 : En) (b2 : Nat) (e2 : En) (n : NoteD) (x : Ending) (w' : World) : Prop :=
  (∃ a0 l0 c0, x = .returned (.tuple #[.slice a0 l0 c0, .int .i64 ((putE e1 n).2.2 : Int)]) ∧ OneT w' w.heap.size (.slice a0 l0 c0) (putE e1 n).2.1 ∧ Two (fun k => S k ∨ (Value.slice a0 l0 c0).ownBlock = some k) w' b1 (putE e1 n).1 b2 e2) ∧ Fr S w w'
theorem putT2_any (h : Two S w b1 e1 b2 e2) (hS : Low S w) (v : Value) (n : NoteD) (hn : NoteAt w v n) (hs : n.sane) :
    Calls Try.prog 13 #[.pointer (some ⟨b1, 0, none⟩), v] w (PtT2 S w b1 e1 b2 e2 n) := by
  obtain ⟨v1, v2, h1, h2, h3, h6, hO⟩ := two_open h hS
  refine (putL_any h1 hO v n hn hs).mono ?_
  rintro x w' ⟨⟨a0, l0, c0, hr, ho, vq', hl⟩, hf⟩
  refine ⟨⟨a0, l0, c0, hr, ho, vq', v2, hl.sub (fun k hk => hk.elim (fun h => .inl (.inl h)) .inr), ?_, h3, fun g hg hq => hl.outq g hg (.inl (.inr (.inr hq))), fun e => hl.outq b2 e (.inl (.inr (.inl rfl))), h6⟩, hf.sub (fun _ hk => .inl hk)⟩
  have hlt := lt_of_block h2.blk
  refine (h2.other hf (.inr (.inl rfl)) (fun g hg => .inr (.inr hg))).more (fun k hk => hk.elim .inl (fun h1 => .inr ?_))
  rcases ho with ⟨_, e0⟩ | ⟨g, t, _, e0, hB, _⟩
  · rw [e0] at h1; cases h1
  · rw [e0] at h1
    have : g = k := by simpa [Value.ownBlock] using h1
    subst this
    exact ⟨by omega, fun e => by have := h2.lowq g e; omega⟩
def PtT (S : Nat → Prop) (w : World) (b1 : Nat) (e1 : En) (b2 : Nat) (e2 : En) (n : NoteD) (x : Ending) (w' : World) : Prop :=
  (∃ a0 l0 c0, x = .returned (.tuple #[.slice a0 l0 c0, .int .i64 ((putE e1 n).2.2 : Int)]) ∧ OneT w' w.heap.size (.slice a0 l0 c0) (putE e1 n).2.1) ∧ Two S w' b1 (putE e1 n).1 b2 e2 ∧ Fr S w w'
theorem putT_any (h : Two S w b1 e1 b2 e2) (hS : Low S w) (v : Value) (n : NoteD) (hn : NoteAt w v n) (hs : n.sane) :
    Calls Try.prog 13 #[.pointer (some ⟨b1, 0, none⟩), v] w (PtT S w b1 e1 b2 e2 n) := by
  refine (putT2_any h hS v n hn hs).mono ?_
  rintro x w' ⟨⟨a0, l0, c0, hr, ho, ht⟩, hf⟩
  exact ⟨⟨a0, l0, c0, hr, ho⟩, ht.sub (fun _ hk => .inl hk), hf⟩
theorem tickT_any (h : Two S w b1 e1 b2 e2) : Calls Try.prog 16 #[.pointer (some ⟨b1, 0, none⟩)] w (TckE w e1) := by
  obtain ⟨v1, v2, h1, _⟩ := h
  exact tickL_any h1
theorem waitsT_any (h : Two S w b1 e1 b2 e2) : Calls Try.prog 22 #[.pointer (some ⟨b1, 0, none⟩)] w fun x w' => x = .returned (.int .i64 (e1.q.length : Int)) ∧ w' = w := by
  obtain ⟨v1, v2, h1, _⟩ := h
  exact waits_any h1
theorem otherT_any (h : Two S w b1 e1 b2 e2) : Calls Try.prog 23 #[.pointer (some ⟨b1, 0, none⟩)] w fun x w' => x = .returned (.int .i64 (e1.ot : Int)) ∧ w' = w := by
  obtain ⟨v1, v2, h1, _⟩ := h
  exact other_any h1
/-- Two ends that are new. -/
theorem two_new {k1 k2 : Nat} (hk1 : LBlk w b1 (.slice none 0 0) (newE k1)) (hk2 : LBlk w b2 (.slice none 0 0) (newE k2)) (h1 : (newE k1).ok) (h2 : (newE k2).ok) (hs1 : ¬ S b1) (hs2 : ¬ S b2) (hne : b1 ≠ b2) : Two S w b1 (newE k1) b2 (newE k2) :=
  ⟨.slice none 0 0, .slice none 0 0, ⟨hk1, hs1, QRow.nil _, fun g hg => (by cases hg), fun g hg => (by cases hg), by simp [Value.ownBlock], h1⟩, ⟨hk2, hs2, QRow.nil _, fun g hg => (by cases hg), fun g hg => (by cases hg), by simp [Value.ownBlock], h2⟩, hne, fun g hg => (by cases hg), by simp [Value.ownBlock], by simp [Value.ownBlock]⟩
theorem Two.ok (h : Two S w b1 e1 b2 e2) : e1.ok ∧ e2.ok := by
  obtain ⟨v1, v2, h1, h2, _⟩ := h
  exact ⟨h1.ok, h2.ok⟩
end
end Go.Proofs.Ytifmpcldiimdbaa
