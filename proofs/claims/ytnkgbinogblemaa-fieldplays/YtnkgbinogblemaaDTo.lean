/- Those that go to a node: To of a field. -/
import Derived.Test.YtnkgbinogblemaaDArr
namespace Go.Proofs.Ytnkgbinogblemaa
open Go.RowKit

theorem field_to (a b c : Int) (s : ByteArray) (w : World) : (Instr.field 40 (.agg #[.int .i64 a, .int .i64 b, .int .i64 c, .string s]) 2).run Try.prog w = .ok (.int .i64 c) w := by
  have hu := Try.underlying40
  simp [Instr.field, run_underlying hu, Result.andThen]
  rfl
theorem toL_succ {l : List Pk} {i : Nat} {p : Pk} (h : l[i]? = some p) (k : Int) : toL (l.take (i + 1)) k = toL (l.take i) k ++ if p.to = k then [p] else [] := by
  rw [List.take_add_one, h]
  simp only [toL, List.filter_append, Option.toList_some]
  by_cases e : p.to = k <;> simp [e]
theorem toL_len (l : List Pk) (k : Int) : (toL l k).length ≤ l.length := List.length_filter_le _ _
section
variable {S : Nat → Prop} {w : World} {b : Nat} {f : Fd}
set_option maxRecDepth 100000 in
set_option maxHeartbeats 2000000 in
theorem to_any (h : FB S w b f) (k : Int) (hl : f.last ≤ 100000) :
    Calls Try.prog 19 #[.pointer (some ⟨b, 0, none⟩), .int .i64 k] w fun e w' => ∃ v', e = .returned v' ∧ w'.ownsRow w.heap.size 3 1 v' (toL f.l k).length (idCs (toL f.l k)) ∧ Below w.heap.size w w' := by
  obtain ⟨i0, hi0, hz0, hz1, hz2⟩ := info_parts infoZ
  have hlen := h.ok.len
  have HID : Hid (∀ p ∈ f.l, p.id ≤ 100000) := Hid.mk (fun p hp => by have := h.ok.id2 p hp; omega)
  obtain ⟨mb, vi, h⟩ := h
  obtain ⟨⟨g0, g1, g2, g3, g4⟩, -⟩ := five_cells h.blk
  have C0 := Hid.mk (given_any b w g0)
  obtain ⟨ao, cap, rfl⟩ := own_slice h.ids
  have H := Hid.mk h
  obtain ⟨m, hm⟩ : ∃ m, m = f.l.length := ⟨_, rfl⟩
  rw [← hm] at g4
  have hm1 : m ≤ 100000 := by omega
  have HM := Hid.mk hm
  clear h g0 g1 g2 g3 hlen hl hm
  go_enter Try.func19, Try.ntmps19
  go_wp2_with fail
  refine C0.out.mono ?_
  rintro e w1 ⟨rfl, hw⟩
  rw [hw]; clear hw w1
  go_wp2_with fail
  go_loopw [5, 16] (fun vl c wr => ∃ (i : Nat) (u : Value), u = vl ∧ i ≤ m ∧ c = .int .i64 i ∧ wr.ownsRow w.heap.size 3 1 u (toL (f.l.take i) k).length (idCs (toL (f.l.take i) k)) ∧ Below w.heap.size w wr) (fun _ c _ => m - (intOf c).toNat)
  case atStart => exact ⟨0, _, rfl, Nat.zero_le _, rfl, World.ownsRow_nil _ _ _ _, Below.refl _ _⟩
  case round =>
    obtain ⟨i, u, rfl, hi, rfl, hrow, hbq⟩ := hrel
    obtain ⟨wx, hwx⟩ : ∃ wx, wx = wr := ⟨_, rfl⟩
    subst hwx
    obtain ⟨ua, uc, hu⟩ := own_slice hrow
    obtain ⟨nu, hnu⟩ : ∃ n, n = (toL (f.l.take i) k).length := ⟨_, rfl⟩
    rw [← hnu] at hu hrow
    subst hu
    have hnb : nu ≤ 100000 := by have := toL_len (f.l.take i) k; have : (f.l.take i).length ≤ i := by simp; omega
                                 omega
    have HROW := Hid.mk hrow
    have HBQ := Hid.mk hbq
    have HNU := Hid.mk hnu
    have hsx : w.heap.size ≤ wx.heap.size := hbq.size
    clear hrow hbq hnu
    by_cases hlt : i < m
    · have hltI : (i : Int) < (m : Int) := by omega
      obtain ⟨p, hp⟩ : ∃ p, f.l[i]? = some p := ⟨_, List.getElem?_eq_getElem (by rw [← HM.out]; exact hlt)⟩
      have hx := H.out.below HBQ.out
      have hrow : ∃ g, ao = some ⟨g, 0, none⟩ := by
        rcases hx.ids.2 with ⟨_, h1⟩ | ⟨g, cap2, cur, e, _⟩
        · have := HM.out; omega
        · injection e with e; exact ⟨g, e⟩
      obtain ⟨g, rfl⟩ := hrow
      have q := ids_get hx.ids hp
      have hrun := hx.map.look_at (List.mem_of_getElem? hp) (by have := HID.out p (List.mem_of_getElem? hp); omega)
      obtain ⟨⟨g0, g1, g2, g3, g4x⟩, -⟩ := five_cells hx.blk
      have HSUC := Hid.mk (toL_succ hp k)
      have hfl := field_to (p.id : Int) p.fr p.to ⟨p.bs.toArray⟩ wx
      obtain ⟨z, hz⟩ : ∃ z : Int, z = (p.id : Int) := ⟨_, rfl⟩
      unfold encP at hrun
      rw [← hz] at q hrun hfl
      obtain ⟨pt, hpt⟩ : ∃ x : Int, x = p.to := ⟨_, rfl⟩
      rw [← hpt] at hrun hfl HSUC
      have HZ := Hid.mk hz
      clear hx hp hz g0 g1 g2 hpt
      by_cases e : pt = k
      · have HE := Hid.mk e
        rw [e] at hrun hfl
        clear e
        go_wp2_with (at_builtin; refine wpList_append_lies _ rfl _ _ _ rfl w.heap.size 3 i0 _ 1 8 Try.underlying50 hi0 hz0 hz1 hz2 rfl (by decide) (.slice ua nu uc) _ _ (by rfl) (HROW.out.alloc _) ⟨wx.heap.size, 0, none⟩ 1 1 (csZ z) (by rfl) (by rfl) (World.news_of_block (cs := #[.int .i64 z]) (t := 3) (fr := (0, 0)) (heap_alloc_new wx _)) ?d2 (by decide) ?d3 ?d4 ?d5 (wx.heap.size + 1) (by simp) ?_)
        case d2 => simp [Value.oneCell']
        case d3 => unfold maxLen; have := HNU.out; omega
        case d4 => have := HNU.out; omega
        case d5 => first | omega | (simp; omega)
        intro gg cap2 w9 hown9 hgrow9 hat9 hlt9
        have ba : Below wx.heap.size wx (wx.alloc (.cells #[.int .i64 z] 3)) := (Below.refl _ _).alloc (Nat.le_refl _) _
        have HB9 : Hid (Below w.heap.size w w9) := Hid.mk ((HBQ.out.trans (ba.mono HBQ.out.size)).grown hgrow9 (by simp; omega) (fun k e => (HROW.out.lt k e).1))
        have HR9 : Hid (w9.ownsRow w.heap.size 3 1 (.slice (some ⟨gg, 0, none⟩) (nu + 1) cap2) (toL (f.l.take (i + 1)) k).length (idCs (toL (f.l.take (i + 1)) k))) := Hid.mk (by
          rw [HSUC.out, if_pos HE.out, List.length_append, ← HNU.out, idCs_snoc, ← HZ.out]
          exact hown9)
        clear hown9 hgrow9 hat9 hlt9 ba
        go_wp2
        go_roundw
        case rel => exact ⟨i + 1, _, rfl, by omega, by go_num, HR9.out, HB9.out⟩
        case measure => simp [intOf]; omega
      · have e2 : (pt == k) = false := by simpa using e
        have HR9 : Hid (wx.ownsRow w.heap.size 3 1 (.slice ua nu uc) (toL (f.l.take (i + 1)) k).length (idCs (toL (f.l.take (i + 1)) k))) := Hid.mk (by
          have h1 := HROW.out
          have h2 := HNU.out
          rw [HSUC.out, if_neg e, List.append_nil]
          rw [← h2]
          exact h1)
        go_wp2
        go_roundw
        case rel => exact ⟨i + 1, _, rfl, by omega, by go_num, HR9.out, HBQ.out⟩
        case measure => simp [intOf]; omega
    · have hltI : ¬ (i : Int) < (m : Int) := by omega
      have HR9 : Hid (wx.ownsRow w.heap.size 3 1 (.slice ua nu uc) (toL f.l k).length (idCs (toL f.l k))) := Hid.mk (by
        have h1 := HROW.out
        have h2 := HNU.out
        rw [List.take_of_length_le (by rw [← HM.out]; omega)] at h1 h2
        rw [← h2]
        exact h1)
      go_wp2
      go_ret
      exact ⟨_, rfl, HR9.out, HBQ.out⟩
end
end Go.Proofs.Ytnkgbinogblemaa
