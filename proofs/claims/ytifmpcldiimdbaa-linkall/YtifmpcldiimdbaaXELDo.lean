/- LinkAll: behind whatever script of up to 150 acts on a line of two ends, once all that an end sends again comes, in whatever order, all that was put has come and nothing waits: for every epochs, script and turn. -/
import Derived.Test.YtifmpcldiimdbaaXELDoM
namespace Go.Proofs.Ytifmpcldiimdbaa
open Go.RowKit Go.Shelf

section
variable {N : Nat} {w0 : World} {T : Nat → Prop} {W W' : World} {x : Nat} {V : LV} {e : Nat → En} {U : Nat → List (List UInt8)} {n c : Nat → Nat}
/-- What an act ends with. -/
def DoE (w0 : World) (T : Nat → Prop) (x N : Nat) (r : Ending) (w' : World) : Prop :=
  r = .returned (.tuple #[]) ∧ ∃ T' V' e' U' n' c', LnS w0 T' w' x V' e' U' n' c' (N + 1) ∧ ∀ j, T j → T' j
theorem putE_one (e : En) (n : NoteD) : (putE e n).2.1.length ≤ 1 := by
  unfold putE
  split
  · simp
  · split
    · simp
    · split <;> simp
theorem does_puts (h : LnS w0 T W x V e U n c N) (hN : N < 1000) {k : Nat} (hk : k < 2) :
    Calls Try.prog 46 #[.pointer (some ⟨x, 0, none⟩), .int .i64 (k : Int)] W (DoE w0 T x N) := by
  have hn := h.nk hk
  obtain ⟨h0, hi⟩ := h.i.put hk (by omega)
  refine (puts_any h.b hk (by omega) h0).mono ?_
  rintro r w' ⟨rfl, T', V', hl, -, hT⟩
  exact ⟨rfl, T', V', _, _, _, _, ⟨hl, hi, u_one h.u (sendU_363 (h.u _ (by omega)) (by have := putE_one (e k) (nk 5 (n k)); omega)), n_one h.N hk⟩, hT⟩
theorem does_comes (h : LnS w0 T W x V e U n c N) {k : Nat} (hk : k < 2) (z : Int) (tw : Bool) :
    Calls Try.prog 28 #[.pointer (some ⟨x, 0, none⟩), .int .i64 (k : Int), .int .i64 z, .bool tw] W (DoE w0 T x N) := by
  refine (comes_any h.b h.i hk z tw (by have := h.u k hk; omega)).mono ?_
  intro r w' hc
  obtain ⟨hr, T', V', e', U', c', hs, hT⟩ := h.come hk hc
  exact ⟨hr, T', V', e', U', _, c', ⟨hs.b, hs.i, hs.u, Nat.le_succ_of_le hs.N⟩, hT⟩
theorem does_ticks (h : LnS w0 T W x V e U n c N) {k : Nat} (hk : k < 2) {v : Value} {w1 : World} (hb : Below W.heap.size W w1) (hv : w1.ownsRow W.heap.size 9 1 v (tickE (e k)).length (strCs (tickE (e k)))) :
    Calls Try.prog 27 #[.pointer (some ⟨x, 0, none⟩), .int .i64 ((1 - k : Nat) : Int), v] w1 (fun r w' => r = .returned (.tuple #[]) ∧ ∃ T' V', LnS w0 T' w' x V' e (upd U (1 - k) (sendU (U (1 - k)) (tickE (e k)))) n c N ∧ ∀ j, T j → T' j) := by
  have h64 : (tickE (e k)).length ≤ 64 := by rw [tickE_len]; omega
  refine (sends_any (h.b.nw hb) (k := 1 - k) (by omega) v (tickE (e k)) (TxR.own hv (fun g hg => .inr (hv.lt g hg))) (by omega)).mono ?_
  rintro r w' ⟨rfl, T', v', hl, hT⟩
  exact ⟨rfl, T', _, ⟨hl, h.i.tick hk, u_one h.u (sendU_363 (h.u _ (by omega)) h64), h.N⟩, fun j hj => hT j (.inl hj)⟩
theorem lose_txr {T : Nat → Prop} {w : World} {ao : Option Addr} {cap : Nat} {p : List UInt8} {l : List (List UInt8)} (h : TxR T w (.slice ao (p :: l).length cap) (p :: l)) : ∃ g o, ao = some ⟨g, o, none⟩ ∧ TxR T w (.slice (if cap = 1 then some ⟨g, o, none⟩ else some ⟨g, o + 1, none⟩) l.length (cap - 1)) l := by
  obtain ⟨ao', cap', e, h0, h1, h⟩ := h
  injection e with e1 _ e2
  subst e1 e2
  rcases h with h | ⟨g, o, cur, rfl, e2, e3, e4⟩
  · cases h
  · refine ⟨g, o, rfl, ?_⟩
    rw [List.length_cons] at h1
    by_cases hc : cap = 1
    · rw [if_pos hc]
      have hl : l = [] := List.length_eq_zero_iff.1 (by omega)
      subst hl
      exact ⟨_, _, rfl, fun h => (by cases h), by simp, .inl rfl⟩
    · rw [if_neg hc]
      refine ⟨_, _, rfl, fun h => (by cases h), by omega, .inr ⟨g, o + 1, cur, rfl, e2, e3, fun j t hj => ?_⟩⟩
      rw [show o + 1 + j = o + (j + 1) by omega]
      exact e4 (j + 1) t (by rw [List.getElem?_cons_succ]; exact hj)
set_option maxRecDepth 100000 in
set_option maxHeartbeats 2000000 in
theorem does_any (h : LnS w0 T W x V e U n c N) (hN : N < 1000) (d : Nat) :
    Calls Try.prog 25 #[.pointer (some ⟨x, 0, none⟩), .int .i64 (d : Int)] W (DoE w0 T x N) := by
  obtain ⟨k, hk1, hk⟩ := mask_nat (d : Int) 1 1 2 (by decide) (by decide) (by decide)
  obtain ⟨j, hj1, hj⟩ := mask_nat ((d : Int) / 2) 2 3 4 (by decide) (by decide) (by decide)
  obtain ⟨i, hi1, hi⟩ := mask_nat ((d : Int) / 8) 1 1 2 (by decide) (by decide) (by decide)
  have hj4 : j = 0 ∨ j = 1 ∨ j = 2 ∨ j = 3 := by omega
  have hk2 : k < 2 := by omega
  have hkI : (k : Int) < 2 := by omega
  have HN := Hid.mk hN
  have H := Hid.mk h
  clear h hj hk hN
  rcases hj4 with rfl | rfl | rfl | rfl
  · have CP := Hid.mk (does_puts H.out HN.out hk2)
    go_enter Try.func25, Try.ntmps25
    go_wp2_with fail
    refine CP.out.mono ?_
    clear CP
    rintro r w2 ⟨rfl, hd⟩
    have HE : Hid (DoE w0 T x N (.returned (.tuple #[])) w2) := Hid.mk ⟨rfl, hd⟩
    clear hd
    go_wp2
    go_end0
    exact HE.out
  · have CP := Hid.mk (does_comes H.out hk2 ((d : Int) / 16) false)
    go_enter Try.func25, Try.ntmps25
    go_wp2_with fail
    refine CP.out.mono ?_
    clear CP
    rintro r w2 ⟨rfl, hd⟩
    have HE : Hid (DoE w0 T x N (.returned (.tuple #[])) w2) := Hid.mk ⟨rfl, hd⟩
    clear hd
    go_wp2
    go_end0
    exact HE.out
  · have CP := Hid.mk (does_comes H.out hk2 ((d : Int) / 16) true)
    go_enter Try.func25, Try.ntmps25
    go_wp2_with fail
    refine CP.out.mono ?_
    clear CP
    rintro r w2 ⟨rfl, hd⟩
    have HE : Hid (DoE w0 T x N (.returned (.tuple #[])) w2) := Hid.mk ⟨rfl, hd⟩
    clear hd
    go_wp2
    go_end0
    exact HE.out
  · obtain ⟨q0, q1⟩ := H.out.b.cells _ _ (lnC_u V hk2)
    obtain ⟨t0, -⟩ := H.out.b.cells _ _ (lnC_end V hk2)
    obtain ⟨k2', hk2'⟩ : ∃ j, 1 - k = j := ⟨_, rfl⟩
    have h1k : (1 : Int) - (k : Int) = (k2' : Int) := by omega
    have hkI' : (k2' : Int) < 2 := by omega
    have CT := Hid.mk (tickT_any (H.out.b.at_k hk2))
    unfold TckE at CT
    have CS : Hid (∀ v w1, Below W.heap.size W w1 → w1.ownsRow W.heap.size 9 1 v (tickE (e k)).length (strCs (tickE (e k))) → Calls Try.prog 27 #[.pointer (some ⟨x, 0, none⟩), .int .i64 (k2' : Int), v] w1 (DoE w0 T x N)) := Hid.mk (fun v w1 hb hv => by
      rw [← hk2']
      refine (does_ticks H.out hk2 hb hv).mono ?_
      rintro r w' ⟨hr, T', V', hs, hT⟩
      exact ⟨hr, T', V', e, _, n, c, { hs with N := Nat.le_succ_of_le hs.N }, hT⟩)
    obtain ⟨ao, cap, hu, -, hu1, -⟩ := txr_cells (H.out.b.tu k hk2)
    rw [hu] at q0
    have HU := Hid.mk hu
    have HK2 := Hid.mk hk2'
    clear hu hk2'
    by_cases hi2 : i = 1
    · subst hi2
      cases hU : U k with
      | nil =>
        rw [hU] at q0 hu1
        go_enter Try.func25, Try.ntmps25
        go_wp2_with fail
        refine CT.out.mono ?_
        clear CT
        rintro r w2 ⟨⟨v, rfl, hv⟩, hb⟩
        have C := Hid.mk (CS.out v w2 hb hv)
        clear CS hb hv
        go_wp2_with fail
        refine C.out.mono ?_
        rintro r w3 ⟨rfl, hd⟩
        have HE : Hid (DoE w0 T x N (.returned (.tuple #[])) w3) := Hid.mk ⟨rfl, hd⟩
        clear hd C
        go_wp2
        go_end0
        exact HE.out
      | cons s l =>
        have htx := H.out.b.tu k hk2
        rw [HU.out, hU] at htx
        obtain ⟨g, o, rfl, hlt⟩ := lose_txr htx
        rw [hU, List.length_cons] at q0 hu1
        obtain ⟨L, hL⟩ : ∃ L, l.length = L := ⟨_, rfl⟩
        rw [hL] at q0 hu1 hlt
        have hLI : (0 : Int) < (L : Int) + 1 := by omega
        have HDO : Hid (∀ v, TxR T W v l → DoE w0 T x N (.returned (.tuple #[])) (W.setCell ⟨x, 2 + k, none⟩ v).drew) := Hid.mk (fun v hv => by
          have hul := H.out.u k hk2
          rw [hU, List.length_cons] at hul
          exact ⟨rfl, T, _, e, upd U k l, n, c, ⟨(H.out.b.setu hk2 hv).drew, H.out.i.lose hk2 (fun p hp => by rw [hU]; exact List.mem_cons_of_mem _ hp), u_one H.out.u (by omega), Nat.le_succ_of_le H.out.N⟩, fun _ h => h⟩)
        clear htx hU hL CT CS
        by_cases hc : cap = 1
        · subst hc
          rw [if_pos rfl, show L = 0 by omega] at hlt
          have HE := Hid.mk (HDO.out _ hlt)
          clear hlt HDO
          go_enter Try.func25, Try.ntmps25
          go_wp2_with fail
          go_region
          go_wp2
          go_end0
          exact HE.out
        · rw [if_neg hc] at hlt
          have HE := Hid.mk (HDO.out _ hlt)
          clear hlt HDO
          go_enter Try.func25, Try.ntmps25
          go_wp2_with fail
          go_region
          go_wp2
          go_end0
          exact HE.out
    · obtain rfl : i = 0 := by omega
      go_enter Try.func25, Try.ntmps25
      go_wp2_with fail
      refine CT.out.mono ?_
      clear CT
      rintro r w2 ⟨⟨v, rfl, hv⟩, hb⟩
      have C := Hid.mk (CS.out v w2 hb hv)
      clear CS hb hv
      go_wp2_with fail
      refine C.out.mono ?_
      rintro r w3 ⟨rfl, hd⟩
      have HE : Hid (DoE w0 T x N (.returned (.tuple #[])) w3) := Hid.mk ⟨rfl, hd⟩
      clear hd C
      go_wp2
      go_end0
      exact HE.out
end
end Go.Proofs.Ytifmpcldiimdbaa
