/- Automata in memory; rising, May of the document. -/
import Derived.Test.YthdnpddfdlhlaaaAInts
namespace Go.Proofs.Ythdnpddfdlhlaaa
open Go.RowKit

/-- An automaton in memory. -/
structure Mu where
  wv : Value
  ws : List Wd
  fv : Value
  fs : List Int
  lv : Value
  ls : List Int
  ov : Value
  os : List (Value × List Int)
  em : Bool
def Mu.au (m : Mu) : Au := ⟨m.ws, m.fs, m.ls, m.os.map (·.2), m.em⟩
abbrev encU (m : Mu) : Value := .agg #[m.wv, m.fv, m.lv, m.ov, .bool m.em]
abbrev csW (p : Value × List Int) : List Value := [p.1]
structure UOk (S : Nat → Prop) (w : World) (m : Mu) : Prop where
  ws : TxtS S w m.wv m.ws
  wb : ∀ s ∈ m.ws, s.length ≤ 9223372036854775807
  wl : m.ws.length ≤ 9223372036854775806
  fs : IntZ S w m.fv m.fs
  fl : m.fs.length ≤ 9223372036854775806
  ls : IntZ S w m.lv m.ls
  ll : m.ls.length ≤ 9223372036854775806
  os : SlS csW 1 S w m.ov m.os
  ok : ∀ p ∈ m.os, IntZ S w p.1 p.2 ∧ p.2.length ≤ 9223372036854775806
  ol : m.os.length ≤ 9223372036854775806
theorem UOk.keep {S T : Nat → Prop} {w w' : World} {m : Mu} (h : UOk S w m) (hz : w.heap.size ≤ w'.heap.size) (hk : ∀ b, S b → b < w.heap.size → T b ∧ w'.heap[b]? = w.heap[b]?) : UOk T w' m :=
  ⟨h.ws.keep hz hk, h.wb, h.wl, h.fs.keep hz hk, h.fl, h.ls.keep hz hk, h.ll, h.os.keep hz hk, fun p hp => ⟨(h.ok p hp).1.keep hz hk, (h.ok p hp).2⟩, h.ol⟩
theorem UOk.below {S : Nat → Prop} {w w' : World} {m : Mu} (h : UOk S w m) (hb : Below w.heap.size w w') : UOk S w' m := h.keep hb.size (fun b hs hl => ⟨hs, hb.block b hl⟩)
/-- The slices of an automaton, written out. -/
theorem UOk.slices {S : Nat → Prop} {w : World} {m : Mu} (h : UOk S w m) : ∃ wa wc fa fc la lc oa oc, m.wv = .slice wa m.ws.length wc ∧ m.fv = .slice fa m.fs.length fc ∧ m.lv = .slice la m.ls.length lc ∧ m.ov = .slice oa m.os.length oc := by
  obtain ⟨wa, wc, h1⟩ := h.ws.slice
  obtain ⟨fa, fc, h2⟩ := h.fs.slice
  obtain ⟨la, lc, h3⟩ := h.ls.slice
  obtain ⟨oa, oc, h4⟩ := h.os.slice
  exact ⟨wa, wc, fa, fc, la, lc, oa, oc, h1, h2, h3, h4⟩
theorem cells5 {w : World} {b : Nat} {c0 c1 c2 c3 c4 : Value} {t : TypeId} (h : w.heap[b]? = some (.cells #[c0, c1, c2, c3, c4] t (0, 0))) :
    w.cell? ⟨b, 0, none⟩ = some c0 ∧ w.cell? ⟨b, 1, none⟩ = some c1 ∧ w.cell? ⟨b, 2, none⟩ = some c2 ∧ w.cell? ⟨b, 3, none⟩ = some c3 ∧ w.cell? ⟨b, 4, none⟩ = some c4 := by
  simp [World.cell?, h]

theorem riseI_succ (k : Nat) (L : List Int) : riseI (k + 1) L = riseI k L ++ (if (k : Int) ∈ L then [(k : Int)] else []) := by
  unfold riseI
  rw [List.range_succ, List.filter_append, List.map_append]
  congr 1
  by_cases h : (k : Int) ∈ L
  · rw [if_pos h]; simp [h]
  · rw [if_neg h]; simp [h]
theorem riseI_len (k : Nat) (L : List Int) : (riseI k L).length ≤ k := by
  unfold riseI
  rw [List.length_map]
  exact Nat.le_trans (List.length_filter_le _ _) (by simp)
set_option maxHeartbeats 2000000 in
set_option maxRecDepth 100000 in
theorem rising_any {S : Nat → Prop} {w : World} {v : Value} {L : List Int} (h : IntZ S w v L) (hl : L.length ≤ 9223372036854775806) (m : Nat) (hm : m ≤ 1000000) :
    Calls Try.prog 34 #[v, .int .i64 (m : Int)] w fun e w' => ∃ v', e = .returned v' ∧ w'.ownsRow w.heap.size 3 1 v' (riseI m L).length ((riseI m L).flatMap csZ) ∧ Below w.heap.size w w' := by
  obtain ⟨i0, hi0, hz0, hz1, hz2⟩ := info_parts infoZ
  obtain ⟨ao, cap, rfl⟩ := h.slice
  have H := Hid.mk h
  obtain ⟨n, hn⟩ : ∃ n, n = L.length := ⟨_, rfl⟩
  rw [← hn] at hl H ⊢
  have HN := Hid.mk hn
  clear h hn
  go_enter Try.func34, Try.ntmps34
  go_wp2_with fail
  go_loopw [5, 6] (fun vl c wr => ∃ (k : Nat) (u : Value), u = vl ∧ k ≤ m ∧ c = .int .i64 k ∧ wr.ownsRow w.heap.size 3 1 u (riseI k L).length ((riseI k L).flatMap csZ) ∧ Below w.heap.size w wr) (fun _ c _ => m - (intOf c).toNat)
  case atStart => exact ⟨0, _, rfl, Nat.zero_le _, rfl, World.ownsRow_nil _ _ _ _, Below.refl _ _⟩
  case round =>
    obtain ⟨k, u, rfl, hk, rfl, hrow, hbq⟩ := hrel
    obtain ⟨wx, hwx⟩ : ∃ wx, wx = wr := ⟨_, rfl⟩
    subst hwx
    obtain ⟨ua, uc, hu⟩ := own_slice hrow
    obtain ⟨nu, hnu⟩ : ∃ n, n = (riseI k L).length := ⟨_, rfl⟩
    rw [← hnu] at hu
    subst hu
    have hnb : nu ≤ 1000000 := by have := riseI_len k L; omega
    have HROW := Hid.mk hrow
    have HBQ := Hid.mk hbq
    have HNU := Hid.mk hnu
    have hsx : w.heap.size ≤ wx.heap.size := hbq.size
    clear hrow hbq hnu
    by_cases hlt : k < m
    · have hltI : (k : Int) < (m : Int) := by omega
      go_wp2_with fail
      go_loopw [5, 7] (fun vl c wr => ∃ (i : Nat), vl = .slice ua nu uc ∧ i ≤ n ∧ c = .int .i64 i ∧ (k : Int) ∉ L.take i ∧ wr = wx) (fun _ c _ => n - (intOf c).toNat)
      case atStart => exact ⟨0, rfl, Nat.zero_le _, rfl, by simp, rfl⟩
      case round =>
        obtain ⟨i, rfl, hi, rfl, hall, hwr⟩ := hrel
        subst hwr
        obtain ⟨wx, hwx⟩ : ∃ wx, wx = wr := ⟨_, rfl⟩
        subst hwx
        have HAll := Hid.mk hall
        clear hall
        by_cases hli : i < n
        · have hliI : (i : Int) < (n : Int) := by omega
          obtain ⟨x, hx⟩ : ∃ x, L[i]? = some x := ⟨_, List.getElem?_eq_getElem (by rw [← HN.out]; exact hli)⟩
          obtain ⟨g, off, rfl, _, _, hcell⟩ := (H.out.below HBQ.out).get hx
          have q0 := getZ hcell
          rw [Nat.mul_one] at q0
          have HX := Hid.mk hx
          clear hx hcell
          by_cases e : x = (k : Int)
          · have HM : Hid ((k : Int) ∈ L) := Hid.mk (by rw [← e]; exact List.mem_of_getElem? HX.out)
            subst e
            rw [HNU.out] at HROW
            rw [← HNU.out] at HROW
            go_wp2_with (at_builtin; refine wpList_append_lies _ rfl _ _ _ rfl w.heap.size 3 i0 _ 1 8 Try.underlying28 hi0 hz0 hz1 hz2 rfl (by decide) (.slice ua nu uc) _ _ (by rfl) (HROW.out.alloc _) ⟨wx.heap.size, 0, none⟩ 1 1 (csZ (k : Int)) (by rfl) (by rfl) ?d1 ?d2 (by decide) ?d3 ?d4 ?d5 (wx.heap.size + 1) (by simp) ?_)
            case d1 => exact World.news_of_block (cs := #[.int .i64 (k : Int)]) (t := 3) (fr := (0, 0)) (heap_alloc_new wx _)
            case d2 => simp [Value.oneCell']
            case d3 => unfold maxLen; have := HNU.out; omega
            case d4 => have := HNU.out; omega
            case d5 => simp; omega
            intro gg cap2 w9 hown9 hgrow9 hat9 hlt9
            have ba : Below wx.heap.size wx (wx.alloc (.cells #[.int .i64 (k : Int)] 3)) := (Below.refl _ _).alloc (Nat.le_refl _) _
            have HB9 : Hid (Below w.heap.size w w9) := Hid.mk ((HBQ.out.trans (ba.mono HBQ.out.size)).grown hgrow9 (by simp; omega) (fun k e => (HROW.out.lt k e).1))
            have HR9 : Hid (w9.ownsRow w.heap.size 3 1 (.slice (some ⟨gg, 0, none⟩) (nu + 1) cap2) (riseI (k + 1) L).length ((riseI (k + 1) L).flatMap csZ)) := Hid.mk (by
              rw [riseI_succ, if_pos HM.out, List.length_append, ← HNU.out, List.flatMap_append]
              have h2 := hown9
              simpa [csZ] using h2)
            clear hown9 hgrow9 hat9 hlt9 ba
            go_wp2
            go_roundw
            case rel => exact ⟨k + 1, _, rfl, by omega, by go_num, HR9.out, HB9.out⟩
            case measure => simp [intOf]; omega
          · obtain ⟨e1, e2⟩ := not_both e
            have HA2 : Hid ((k : Int) ∉ L.take (i + 1)) := Hid.mk (by
              rw [List.take_add_one, HX.out]
              intro h
              rcases List.mem_append.1 h with h | h
              · exact HAll.out h
              · simp at h; exact e h.symm)
            clear e
            go_wp2
            go_roundw
            case rel => exact ⟨i + 1, rfl, by omega, by go_num, HA2.out, by trivial⟩
            case measure => simp [intOf]; omega
        · have hliI : ¬ (i : Int) < (n : Int) := by omega
          have HR9 : Hid (wx.ownsRow w.heap.size 3 1 (.slice ua nu uc) (riseI (k + 1) L).length ((riseI (k + 1) L).flatMap csZ)) := Hid.mk (by
            rw [riseI_succ, if_neg (fun h => HAll.out (by rw [List.take_of_length_le (by rw [← HN.out]; omega)]; exact h)), List.append_nil]
            exact HROW.out)
          go_wp2
          go_roundw
          case rel => exact ⟨k + 1, _, rfl, by omega, by go_num, HR9.out, HBQ.out⟩
          case measure => simp [intOf]; omega
    · have hltI : ¬ (k : Int) < (m : Int) := by omega
      have hke : k = m := by omega
      subst hke
      go_wp2
      go_ret
      exact ⟨_, rfl, HROW.out, HBQ.out⟩
end Go.Proofs.Ythdnpddfdlhlaaa
