/- The document's level, and its Key. -/
import Derived.Test.YtfocpjplokabgaaPRefN
namespace Go.Proofs.Ytfocpjplokabgaa
open Go.RowKit Go.Shelf

/-- Numbers in memory, read-only, in a block of S. -/
def IntsS (S : Nat → Prop) (w : World) (v : Value) (xs : List Int) : Prop :=
  ∃ ao cap, v = .slice ao xs.length cap ∧ xs.length ≤ cap ∧ (ao = none → cap = 0) ∧ (xs = [] ∨ ∃ g off, ao = some ⟨g, off, none⟩ ∧ S g ∧ g < w.heap.size ∧ ∀ (j : Nat) x, xs[j]? = some x → w.cell? ⟨g, off + j, none⟩ = some (.int .i64 x))
abbrev IntsAt (w : World) (v : Value) (xs : List Int) : Prop := IntsS (fun _ => True) w v xs
theorem IntsS.keep {S T : Nat → Prop} {w w' : World} {v : Value} {xs : List Int} (h : IntsS S w v xs) (hz : w.heap.size ≤ w'.heap.size) (hk : ∀ k, S k → k < w.heap.size → T k ∧ w'.heap[k]? = w.heap[k]?) : IntsS T w' v xs := by
  obtain ⟨ao, cap, e, hl, hn, hc⟩ := h
  refine ⟨ao, cap, e, hl, hn, ?_⟩
  rcases hc with h0 | ⟨g, off, e1, hS, hg, hc⟩
  · exact .inl h0
  · obtain ⟨k1, k2⟩ := hk g hS hg
    exact .inr ⟨g, off, e1, k1, Nat.lt_of_lt_of_le hg hz, fun j x hx => by have := hc j x hx; simpa only [World.cell?, k2] using this⟩
theorem IntsS.below {S : Nat → Prop} {w w' : World} {v : Value} {xs : List Int} (h : IntsS S w v xs) (hb : Below w.heap.size w w') : IntsS S w' v xs := h.keep hb.size (fun k hk hl => ⟨hk, hb.block k hl⟩)
theorem IntsS.weak {S : Nat → Prop} {w : World} {v : Value} {xs : List Int} (h : IntsS S w v xs) : IntsAt w v xs := h.keep (Nat.le_refl _) (fun _ _ _ => ⟨trivial, rfl⟩)
theorem IntsS.nil (S : Nat → Prop) (w : World) : IntsS S w (.slice none 0 0) [] := ⟨none, 0, rfl, Nat.le_refl _, fun _ => rfl, .inl rfl⟩
def intCs (xs : List Int) : List Value := xs.map (fun x => .int .i64 x)
theorem intCs_len (xs : List Int) : (intCs xs).length = xs.length := by simp [intCs]
theorem intCs_one (xs : List Int) : ∀ u ∈ intCs xs, u.oneCell' = true := by
  intro u hu
  obtain ⟨x, _, rfl⟩ := List.mem_map.1 hu
  rfl
theorem own_ints {S : Nat → Prop} {w : World} {B : Nat} {v : Value} {xs : List Int} (h : w.ownsRow B 3 1 v xs.length (intCs xs)) (hS : ∀ k, B ≤ k → S k) : IntsS S w v xs := by
  rcases h.2 with ⟨e0, h0⟩ | ⟨g, cap, cur, e0, hBg, hgb, hcap, _⟩
  · have hx : xs = [] := List.length_eq_zero_iff.1 h0
    subst hx
    rw [e0]
    exact IntsS.nil S w
  · subst e0
    refine ⟨_, cap, rfl, hcap, (fun e => by cases e), .inr ⟨g, 0, rfl, hS g hBg, lt_of_block hgb, fun j x hx => ?_⟩⟩
    have hj := (List.getElem?_eq_some_iff.1 hx).1
    rw [Nat.zero_add, h.cellAt j (by omega)]
    simp [intCs, hx]
theorem IntsS.cut {S : Nat → Prop} {w : World} {ao : Option Addr} {n cap : Nat} {xs : List Int} (h : IntsS S w (.slice ao n cap) xs) : Cut w 1 (intCs xs) ao n cap := by
  obtain ⟨ao2, cap2, e, hl, hn, hc⟩ := h
  injection e with e1 e2 e3
  subst e1 e2 e3
  refine ⟨by rw [intCs_len]; omega, fun e => ⟨?_, hn e⟩, fun ad e j u hu => ?_⟩
  · have := hn e; omega
  · rcases hc with h0 | ⟨g, off, e1, _, hg, hc⟩
    · rw [h0] at hu; simp [intCs] at hu
    · rw [e] at e1
      obtain rfl := Option.some.inj e1
      rw [addr_add]
      refine ⟨?_, hg⟩
      rw [intCs, List.getElem?_map] at hu
      obtain ⟨x, hx, rfl⟩ := Option.map_eq_some_iff.1 hu
      exact hc j x hx
theorem sizeI (w : World) : (Go.sizeOf 3).run Try.prog w = .ok 1 w := by kernel_rfl
theorem infoI : (Try.prog.info? 3).map (fun i => (i.zero, i.size, i.bytes)) = some (some (.int .i64 0), 1, 8) := by kernel_rfl
/-- 'at[:k]' and 'at[:k:k]'. -/
theorem ints_cut {S : Nat → Prop} {w : World} {ao : Option Addr} {n cap : Nat} {xs : List Int} (h : IntsS S w (.slice ao n cap) xs) {k : Nat} (hk : k ≤ n) :
    (∃ aa cc, (∀ w', (Instr.slice 41 (.slice ao n cap) none (some (.int .i64 (k : Int))) none).run Try.prog w' = .ok (.slice aa k cc) w') ∧ IntsS S w (.slice aa k cc) (xs.take k)) ∧
    (∃ aa cc, (∀ w', (Instr.slice 41 (.slice ao n cap) none (some (.int .i64 (k : Int))) (some (.int .i64 (k : Int)))).run Try.prog w' = .ok (.slice aa k cc) w') ∧ IntsS S w (.slice aa k cc) (xs.take k)) := by
  have helem : Try.prog.elem 41 = 3 := by kernel_rfl
  have ht : Try.prog.underlying 41 = some (.slice (Try.prog.elem 41)) := by rw [helem]; exact Try.underlying41
  have hsz : ∀ w', (sizeOf (Try.prog.elem 41)).run Try.prog w' = .ok 1 w' := fun w' => by rw [helem]; exact sizeI w'
  obtain ⟨ao2, cap2, e, hl, hn, hc⟩ := h
  injection e with e1 e2 e3
  subst e1 e2 e3
  have htk : (xs.take k).length = k := by rw [List.length_take, Nat.min_eq_left hk]
  have mk : ∀ (c : Prop) (_ : Decidable c) (cc : Nat), k ≤ cc → (cap = 0 → cc = 0) → (c → xs.take k = []) → IntsS S w (.slice (if c then ao else ao.map (·.add (0 * 1))) k cc) (xs.take k) := fun c dc cc h1 h2 h3 => by
    refine ⟨_, cc, by rw [htk], by omega, fun e => h2 (hn ?_), ?_⟩
    · by_cases hcc : c
      · rw [if_pos hcc] at e; exact e
      · rw [if_neg hcc] at e; exact Option.map_eq_none_iff.1 e
    · by_cases hx : xs.take k = []
      · exact .inl hx
      · rcases hc with h0 | ⟨g, off, e1, hS, hg, hc⟩
        · rw [h0] at hx; simp at hx
        · refine .inr ⟨g, off, ?_, hS, hg, fun j x hj => hc j x ?_⟩
          · rw [if_neg (fun h => hx (h3 h)), e1, Option.map_some, addr_add]
            rfl
          · have hjk : j < k := by have := (List.getElem?_eq_some_iff.1 hj).1; omega
            rw [List.getElem?_take_of_lt hjk] at hj
            exact hj
  refine ⟨⟨if cap = 0 then ao else ao.map (·.add (0 * 1)), cap, fun w' => ?_, mk _ _ cap (by omega) id (fun h => ?_)⟩, ⟨if k = 0 then ao else ao.map (·.add (0 * 1)), k, fun w' => ?_, mk _ _ k (Nat.le_refl _) (by omega) (fun h => ?_)⟩⟩
  · rw [run_slice_h w' _ ao xs.length cap ht .i64 (k : Int) (by omega) (by omega), hsz]
    simp [sliced, Result.andThen]
  · rw [List.take_eq_nil_iff]
    left
    omega
  · rw [run_slice_hm w' _ ao xs.length cap ht .i64 .i64 (k : Int) (k : Int) (by omega) (by omega) (by omega), hsz]
    simp [sliced, Result.andThen]
  · rw [h]; rfl

theorem levF_len (o : Od) (q : List Int) : ∀ (L : List R3) (out : List Int), (L.foldl (levStep o q) out).length ≤ out.length + L.length
  | [], out => by simp
  | r :: L, out => by
    have := levF_len o q L (levStep o q out r)
    have h2 : (levStep o q out r).length ≤ out.length + 1 := by
      unfold levStep
      split
      · simp
      · omega
    simp only [List.foldl_cons, List.length_cons]
    omega
theorem lev_len (o : Od) (L : List R3) (q : List Int) : (lev o L q).length ≤ L.length := by
  have := levF_len o q L []
  simpa [lev] using this
theorem mt_succ {o : Od} {q : List Int} {r : R3} {k : Nat} {y : Int} (hq : q.length ≤ 3) (hk : q[k]? = some y) : mt o (q.take (k + 1)) r = (mt o (q.take k) r && decide (num o r k = y)) := by
  have hkl := (List.getElem?_eq_some_iff.1 hk).1
  have hl : (q.take k).length = k := by rw [List.length_take, Nat.min_eq_left (by omega)]
  have e : q.take (k + 1) = q.take k ++ [y] := by rw [List.take_add_one, hk]; rfl
  rw [e, Bool.eq_iff_iff, mt_snoc (by omega), hl]
  simp

set_option maxHeartbeats 8000000 in
set_option maxRecDepth 100000 in
theorem level_any {o : Od} (ho : o.ok) {w : World} {vl va : Value} {L : List R3} {q : List Int} (hr : RowsAt w vl L) (ha : IntsAt w va q) (hq : q.length < 3) :
    Calls Try.prog 39 #[xV o.r3 vl, va] w fun e w' => ∃ ao cap, e = .returned (.slice ao (lev o L q).length cap) ∧ IntsAt w' (.slice ao (lev o L q).length cap) (lev o L q) ∧ Below w.heap.size w w' := by
  obtain ⟨W1, hW1⟩ : ∃ W1, W1 = w.alloc (.cells #[.int .i64 o.r3.a, .int .i64 o.r3.b, .int .i64 o.r3.c, vl] 30) := ⟨_, rfl⟩
  have hb1 : Below w.heap.size w W1 := by rw [hW1]; exact (Below.refl _ _).alloc (Nat.le_refl _) _
  have hblk : W1.heap[w.heap.size]? = some (.cells #[.int .i64 o.r3.a, .int .i64 o.r3.b, .int .i64 o.r3.c, vl] 30 (0, 0)) := by rw [hW1]; exact box_at w _
  obtain ⟨hl, _, al, cl, rfl, hcl⟩ := hr
  obtain ⟨aa, ca, rfl, hla, _, hca⟩ := ha
  have HCL := Hid.mk hcl
  have HCA := Hid.mk hca
  have HW := Hid.mk hW1
  have HB1 := Hid.mk hb1
  have HBK := Hid.mk hblk
  have HO := Hid.mk ho
  obtain ⟨N, hN⟩ : ∃ N, N = L.length := ⟨_, rfl⟩
  obtain ⟨Q, hQ⟩ : ∃ Q, Q = q.length := ⟨_, rfl⟩
  have HN := Hid.mk hN
  have HQ := Hid.mk hQ
  rw [← hN] at hl HW HBK ⊢
  rw [← hQ] at hla hq ⊢
  have HPL : Hid (∀ w5, Below W1.heap.size W1 w5 → (∀ k, k < 3 → w5.cell? ⟨w.heap.size, k, none⟩ = some (.int .i64 (o.at k : Int))) ∧ w5.cell? ⟨w.heap.size, 3, none⟩ = some (.slice al N cl)) := Hid.mk (fun w5 hb5 => by
    obtain ⟨⟨x0, x1, x2, x3⟩, _⟩ := four_cells ((hb5.block _ (lt_of_block HBK.out)).trans HBK.out)
    exact ⟨fun k hk => (match k, hk with
      | 0, _ => x0
      | 1, _ => x1
      | 2, _ => x2), x3⟩)
  clear hN hQ hb1 hblk hW1 ho hcl hca
  obtain ⟨i0, hi0, hz0, hz1, hz2⟩ := info_parts infoI
  go_enter Try.func39, Try.ntmps39
  go_wp2_with fail
  rw [← HW.out]
  go_loopw [5, 6] (fun s5 s6 wr => ∃ (i : Nat) (out : List Int), s6 = .int .i64 i ∧ i ≤ N ∧ out = lev o (L.take i) q ∧ wr.ownsRow W1.heap.size 3 1 s5 out.length (intCs out) ∧ Below W1.heap.size W1 wr) (fun _ s6 _ => N - (intOf s6).toNat)
  case atStart => exact ⟨0, [], rfl, by omega, rfl, World.ownsRow_nil _ W1.heap.size _ _, Below.refl _ _⟩
  case round =>
    obtain ⟨i, out, rfl, hi, hout, hown, hbw⟩ := hrel
    obtain ⟨n, hn⟩ : ∃ n, n = out.length := ⟨_, rfl⟩
    rw [← hn] at hown
    obtain ⟨a5, c5, rfl⟩ := own_slice hown
    have hni : n ≤ i := by have := lev_len o (L.take i) q; rw [List.length_take] at this; rw [hn, hout]; omega
    have HOWN := Hid.mk hown
    have HBW := Hid.mk hbw
    have HOUT := Hid.mk hout
    have HN2 := Hid.mk hn
    have hx3 := (HPL.out wr hbw).2
    clear hown hbw hout hn
    by_cases hlt : i < N
    · have hltI : (i : Int) < (N : Int) := by omega
      obtain ⟨r, hr⟩ : ∃ r, L[i]? = some r := ⟨_, List.getElem?_eq_getElem (by rw [← HN.out]; exact hlt)⟩
      rcases HCL.out with h0 | ⟨g6, off6, rfl, _, hg6, hcs6⟩
      · rw [h0] at hr; simp at hr
      have HRI : Hid (∀ w5, Below w.heap.size w w5 → ∀ P, P < 3 → w5.cell? ⟨g6, off6 + i * 3 + P, none⟩ = some (.int .i64 (r.at P))) := Hid.mk (fun w5 hb5 P hP => (hb5.cell (p := ⟨g6, off6 + i * 3 + P, none⟩) hg6).trans ((hcs6 i r hr).at hP))
      have HSN : Hid (lev o (L.take (i + 1)) q = levStep o q out r) := Hid.mk (by rw [take_snoc hr, lev_snoc, HOUT.out])
      clear hr hcs6
      go_wp2
      obtain ⟨WR, hWR⟩ : ∃ WR, WR = wr := ⟨_, rfl⟩
      subst hWR
      clear hx3
      go_loopw [7, 8] (fun s7 s8 wx => ∃ k : Nat, s8 = .int .i64 k ∧ k ≤ Q ∧ s7 = .bool (mt o (q.take k) r) ∧ Below WR.heap.size WR wx) (fun _ s8 _ => Q - (intOf s8).toNat)
      case atStart => exact ⟨0, rfl, by omega, rfl, Below.refl _ _⟩
      case round =>
        obtain ⟨wx, hwx⟩ : ∃ wx, wx = wr := ⟨_, rfl⟩
        subst hwx
        obtain ⟨k, rfl, hk, rfl, hbx⟩ := hrel
        have HBX := Hid.mk hbx
        have HXX : Hid (Below W1.heap.size W1 wx) := Hid.mk (HBW.out.trans (hbx.mono HBW.out.size))
        have HXW : Hid (Below w.heap.size w wx) := Hid.mk (HB1.out.trans (HXX.out.mono HB1.out.size))
        clear hbx
        have hx3 := (HPL.out wx HXX.out).2
        have HOX := Hid.mk (ownsRow_below HOWN.out HBX.out)
        by_cases hkq : k < Q
        · have hkqI : (k : Int) < (Q : Int) := by omega
          obtain ⟨y, hy⟩ : ∃ y, q[k]? = some y := ⟨_, List.getElem?_eq_getElem (by rw [← HQ.out]; exact hkq)⟩
          rcases HCA.out with h0 | ⟨ga, offa, rfl, _, hga, hcca⟩
          · rw [h0] at hy; simp at hy
          have cy := (HXW.out.cell (p := ⟨ga, offa + k, none⟩) hga).trans (hcca k y hy)
          have hk3 : k < 3 := by omega
          have co := (HPL.out wx HXX.out).1 k hk3
          have hP := Od.lt HO.out k
          obtain ⟨P, hPP⟩ : ∃ P, P = o.at k := ⟨_, rfl⟩
          rw [← hPP] at co hP
          have hPI : (P : Int) < 3 := by omega
          have hkI : (k : Int) < 3 := by omega
          have cx := HRI.out wx HXW.out P hP
          obtain ⟨X, hX⟩ : ∃ X, X = r.at P := ⟨_, rfl⟩
          rw [← hX] at cx
          have hXn : num o r k = X := by rw [hX, hPP]; rfl
          have hms := mt_succ (o := o) (r := r) (by rw [← HQ.out]; omega) hy
          rw [hXn] at hms
          have h3 : (mt o (q.take k) r = false ∧ mt o (q.take (k + 1)) r = false) ∨ (mt o (q.take k) r = true ∧ X = y ∧ mt o (q.take (k + 1)) r = true) ∨ (mt o (q.take k) r = true ∧ ¬ X = y ∧ mt o (q.take (k + 1)) r = false) := by
            cases hm : mt o (q.take k) r with
            | false => left; rw [hms, hm]; exact ⟨rfl, rfl⟩
            | true =>
              right
              by_cases hxy : X = y
              · left; rw [hms, hm, decide_eq_true hxy]; exact ⟨rfl, hxy, rfl⟩
              · right; rw [hms, hm, decide_eq_false hxy]; exact ⟨rfl, hxy, rfl⟩
          clear hy hcca hms hX hXn hPP
          rcases h3 with ⟨m1, m2⟩ | ⟨m1, m3, m2⟩ | ⟨m1, m3, m2⟩
          · rw [m1]
            have HM2 := Hid.mk m2
            clear m1 m2
            go_wp2_with fail
            go_region
            go_wp2
            go_roundw
            case rel => exact ⟨k + 1, by go_num, by omega, by rw [HM2.out], HBX.out.drew⟩
            case measure => simp [intOf]; omega
          · rw [m1]
            subst m3
            have HM2 := Hid.mk m2
            clear m1 m2
            go_wp2_with fail
            go_region
            go_wp2
            go_roundw
            case rel => exact ⟨k + 1, by go_num, by omega, by rw [HM2.out], HBX.out.drew⟩
            case measure => simp [intOf]; omega
          · rw [m1]
            have HM2 := Hid.mk m2
            have HXY : Hid ((X == y) = false) := Hid.mk (by simpa using m3)
            clear m1 m2
            go_wp2_with fail
            go_region
            go_wp2
            go_roundw
            case rel => exact ⟨k + 1, by go_num, by omega, by rw [HM2.out, HXY.out], HBX.out.drew⟩
            case measure => simp [intOf]; omega
        · have hkqI : ¬ (k : Int) < (Q : Int) := by omega
          have hkQ : k = q.length := by rw [← HQ.out]; omega
          have hmt : mt o (q.take k) r = mt o q r := by rw [hkQ, List.take_of_length_le (Nat.le_refl _)]
          rw [hmt]
          have hQ3 : Q < 3 := hq
          have hQI : (Q : Int) < 3 := by omega
          have co := (HPL.out wx HXX.out).1 Q hQ3
          have hP := Od.lt HO.out Q
          obtain ⟨P, hPP⟩ : ∃ P, P = o.at Q := ⟨_, rfl⟩
          rw [← hPP] at co hP
          have hPI : (P : Int) < 3 := by omega
          have cx := HRI.out wx HXW.out P hP
          obtain ⟨X, hX⟩ : ∃ X, X = r.at P := ⟨_, rfl⟩
          rw [← hX] at cx
          have hXn : num o r q.length = X := by rw [hX, hPP, HQ.out]; rfl
          clear hX hPP hkQ hmt
          cases hm : mt o q r with
          | false =>
            have HLS : Hid (levStep o q out r = out) := Hid.mk (by unfold levStep; rw [if_neg (by rw [hm]; simp)])
            clear hm hXn
            go_wp2_with fail
            go_region
            go_wp2
            go_roundw
            case rel => exact ⟨i + 1, out, by go_num, by omega, by rw [HSN.out, HLS.out], by rw [← HN2.out]; exact HOX.out, HXX.out.drew⟩
            case measure => simp [intOf]; omega
          | true =>
            rcases HOX.out.2 with ⟨e0, h0⟩ | ⟨g5, cap5, cur5, e0, hg5, hgb5, _⟩
            · injection e0 with e1 _ e3
              subst e1 e3 h0
              have hnil : out = [] := List.length_eq_zero_iff.1 HN2.out.symm
              have HLS : Hid (levStep o q out r = out ++ [X]) := Hid.mk (by unfold levStep; rw [if_pos ⟨hm, by rw [hnil]; simp⟩, hXn])
              clear hm hXn hnil
              go_wp2_with fail
              go_region
              have OWN2 : Hid (((wx.alloc (.cells #[.int .i64 X] 3)).drew).ownsRow W1.heap.size 3 1 (.slice none 0 0) 0 (intCs out)) := Hid.mk (HOX.out.alloc _)
              have hbig : W1.heap.size ≤ wx.heap.size := HXX.out.size
              go_wp2_with (at_builtin; refine wpList_append_lies _ rfl _ _ _ rfl W1.heap.size 3 i0 _ 1 8 Try.underlying41 hi0 hz0 hz1 hz2 rfl (by decide) (.slice none 0 0) _ _ (by rfl) OWN2.out ⟨wx.heap.size, 0, none⟩ 1 1 [.int .i64 X] (by rfl) (by rfl) ?d1 ?d2 (by decide) ?d3 ?d4 ?d5 (wx.heap.size + 1) (by simp) ?_)
              case d1 => exact World.news_of_block (w := (wx.alloc (.cells #[.int .i64 X] 3)).drew) (cs := #[.int .i64 X]) (t := 3) (fr := (0, 0)) (heap_alloc_new wx _)
              case d2 => intro u hu; simp at hu; rw [hu]; rfl
              case d3 => unfold maxLen; omega
              case d4 => omega
              case d5 => simp; omega
              intro gg cap8 w8 hown8 hgrow8 _ _
              have HB8 : Hid (Below W1.heap.size W1 w8) := Hid.mk ((HXX.out.alloc hbig _).drew.grown hgrow8 (by simp; omega) (fun k hk => (HOX.out.lt k hk).1))
              have HO8 : Hid (w8.ownsRow W1.heap.size 3 1 (.slice (some ⟨gg, 0, none⟩) (0 + 1) cap8) (out ++ [X]).length (intCs (out ++ [X]))) := Hid.mk (by
                have e1 : intCs (out ++ [X]) = intCs out ++ [.int .i64 X] := by simp [intCs]
                rw [e1, List.length_append, List.length_singleton, ← HN2.out]
                exact hown8)
              clear hown8 hgrow8
              go_wp2
              go_roundw
              case rel => exact ⟨i + 1, out ++ [X], by go_num, by omega, by rw [HSN.out, HLS.out], HO8.out, HB8.out⟩
              case measure => simp [intOf]; omega
            · injection e0 with e1 _ e3
              subst e1 e3
              by_cases hn0 : n = 0
              · subst hn0
                have hnil : out = [] := List.length_eq_zero_iff.1 HN2.out.symm
                have HLS : Hid (levStep o q out r = out ++ [X]) := Hid.mk (by unfold levStep; rw [if_pos ⟨hm, by rw [hnil]; simp⟩, hXn])
                clear hm hXn hnil
                go_wp2_with fail
                go_region
                have OWN2 : Hid (((wx.alloc (.cells #[.int .i64 X] 3)).drew).ownsRow W1.heap.size 3 1 (.slice (some ⟨g5, 0, none⟩) 0 c5) 0 (intCs out)) := Hid.mk (HOX.out.alloc _)
                have hbig : W1.heap.size ≤ wx.heap.size := HXX.out.size
                go_wp2_with (at_builtin; refine wpList_append_lies _ rfl _ _ _ rfl W1.heap.size 3 i0 _ 1 8 Try.underlying41 hi0 hz0 hz1 hz2 rfl (by decide) (.slice (some ⟨g5, 0, none⟩) 0 c5) _ _ (by rfl) OWN2.out ⟨wx.heap.size, 0, none⟩ 1 1 [.int .i64 X] (by rfl) (by rfl) ?d1 ?d2 (by decide) ?d3 ?d4 ?d5 (wx.heap.size + 1) (by simp) ?_)
                case d1 => exact World.news_of_block (w := (wx.alloc (.cells #[.int .i64 X] 3)).drew) (cs := #[.int .i64 X]) (t := 3) (fr := (0, 0)) (heap_alloc_new wx _)
                case d2 => intro u hu; simp at hu; rw [hu]; rfl
                case d3 => unfold maxLen; omega
                case d4 => omega
                case d5 => simp; omega
                intro gg cap8 w8 hown8 hgrow8 _ _
                have HB8 : Hid (Below W1.heap.size W1 w8) := Hid.mk ((HXX.out.alloc hbig _).drew.grown hgrow8 (by simp; omega) (fun k hk => (HOX.out.lt k hk).1))
                have HO8 : Hid (w8.ownsRow W1.heap.size 3 1 (.slice (some ⟨gg, 0, none⟩) (0 + 1) cap8) (out ++ [X]).length (intCs (out ++ [X]))) := Hid.mk (by
                  have e1 : intCs (out ++ [X]) = intCs out ++ [.int .i64 X] := by simp [intCs]
                  rw [e1, List.length_append, List.length_singleton, ← HN2.out]
                  exact hown8)
                clear hown8 hgrow8
                go_wp2
                go_roundw
                case rel => exact ⟨i + 1, out ++ [X], by go_num, by omega, by rw [HSN.out, HLS.out], HO8.out, HB8.out⟩
                case measure => simp [intOf]; omega
              · obtain ⟨m, rfl⟩ : ∃ m, n = m + 1 := ⟨n - 1, by omega⟩
                obtain ⟨y, hy⟩ : ∃ y, out[m]? = some y := ⟨_, List.getElem?_eq_getElem (by rw [← HN2.out]; omega)⟩
                have cy := HOX.out.cellAt m (by omega)
                rw [show (intCs out)[m]? = some (.int .i64 y) by simp [intCs, hy]] at cy
                have hlast : out.getLast? = some y := by rw [List.getLast?_eq_getElem?, ← HN2.out]; simpa using hy
                have wm : IntKind.i64.wrap (m : Int) = (m : Int) := by rw [IntKind.wrap_i64]; omega
                have hmI : (m : Int) < (m : Int) + 1 := by omega
                by_cases hyX : y = X
                · have HLS : Hid (levStep o q out r = out) := Hid.mk (by unfold levStep; rw [if_neg (by rw [hlast, hXn, hyX]; simp)])
                  subst hyX
                  clear hm hXn hlast hy hn0
                  go_wp2_with fail
                  go_region
                  go_wp2
                  go_roundw
                  case rel => exact ⟨i + 1, out, by go_num, by omega, by rw [HSN.out, HLS.out], by rw [← HN2.out]; exact HOX.out, HXX.out.drew⟩
                  case measure => simp [intOf]; omega
                · have HLS : Hid (levStep o q out r = out ++ [X]) := Hid.mk (by unfold levStep; rw [if_pos ⟨hm, by rw [hlast, hXn]; simpa using hyX⟩, hXn])
                  have hyXb : (y != X) = true := by simpa using hyX
                  have hm0 : ¬ (m : Int) + 1 = 0 := by omega
                  clear hm hXn hlast hy hn0
                  go_wp2_with fail
                  go_region
                  have OWN2 : Hid (((wx.alloc (.cells #[.int .i64 X] 3)).drew).ownsRow W1.heap.size 3 1 (.slice (some ⟨g5, 0, none⟩) (m + 1) c5) (m + 1) (intCs out)) := Hid.mk (HOX.out.alloc _)
                  have hbig : W1.heap.size ≤ wx.heap.size := HXX.out.size
                  go_wp2_with (at_builtin; refine wpList_append_lies _ rfl _ _ _ rfl W1.heap.size 3 i0 _ 1 8 Try.underlying41 hi0 hz0 hz1 hz2 rfl (by decide) (.slice (some ⟨g5, 0, none⟩) (m + 1) c5) _ _ (by rfl) OWN2.out ⟨wx.heap.size, 0, none⟩ 1 1 [.int .i64 X] (by rfl) (by rfl) ?d1 ?d2 (by decide) ?d3 ?d4 ?d5 (wx.heap.size + 1) (by simp) ?_)
                  case d1 => exact World.news_of_block (w := (wx.alloc (.cells #[.int .i64 X] 3)).drew) (cs := #[.int .i64 X]) (t := 3) (fr := (0, 0)) (heap_alloc_new wx _)
                  case d2 => intro u hu; simp at hu; rw [hu]; rfl
                  case d3 => unfold maxLen; omega
                  case d4 => omega
                  case d5 => simp; omega
                  intro gg cap8 w8 hown8 hgrow8 _ _
                  have HB8 : Hid (Below W1.heap.size W1 w8) := Hid.mk ((HXX.out.alloc hbig _).drew.grown hgrow8 (by simp; omega) (fun k hk => (HOX.out.lt k hk).1))
                  have HO8 : Hid (w8.ownsRow W1.heap.size 3 1 (.slice (some ⟨gg, 0, none⟩) ((m + 1) + 1) cap8) (out ++ [X]).length (intCs (out ++ [X]))) := Hid.mk (by
                    have e1 : intCs (out ++ [X]) = intCs out ++ [.int .i64 X] := by simp [intCs]
                    rw [e1, List.length_append, List.length_singleton, ← HN2.out]
                    exact hown8)
                  clear hown8 hgrow8
                  go_wp2
                  go_roundw
                  case rel => exact ⟨i + 1, out ++ [X], by go_num, by omega, by rw [HSN.out, HLS.out], HO8.out, HB8.out⟩
                  case measure => simp [intOf]; omega
    · have hnI : ¬ (i : Int) < (N : Int) := by omega
      have hiN : i = L.length := by rw [← HN.out]; omega
      have hfin : out = lev o L q := by have := HOUT.out; rw [hiN, List.take_of_length_le (Nat.le_refl _)] at this; exact this
      have HF : Hid (IntsAt wr (.slice a5 n c5) (lev o L q)) := Hid.mk (by rw [← hfin]; exact own_ints (by rw [← HN2.out]; exact HOWN.out) (fun _ _ => trivial))
      have HNL : Hid (n = (lev o L q).length) := Hid.mk (by rw [← hfin]; exact HN2.out)
      have HBF : Hid (Below w.heap.size w wr) := Hid.mk (HB1.out.trans (HBW.out.mono HB1.out.size))
      clear hiN hfin
      go_wp2
      go_ret
      exact ⟨a5, c5, by rw [← HNL.out]; rfl, by rw [← HNL.out]; exact HF.out, HBF.out⟩
end Go.Proofs.Ytfocpjplokabgaa
