/- LinkAll: behind whatever script of up to 150 acts on a line of two ends, once all that an end sends again comes, in whatever order, all that was put has come and nothing waits: for every epochs, script and turn. -/
import Derived.Test.YtifmpcldiimdbaaXEBits
namespace Go.Proofs.Ytifmpcldiimdbaa
open Go.RowKit

/-- What a packet says that an end of the epoch ep has sent, that has put n payloads and wants no more than wt. -/
def Und (ep n wt : Nat) (p : List UInt8) : Prop :=
  ∃ h, heardP p = some h ∧ h.ep = (ep : Int) ∧ h.wt ≤ (wt : Int) ∧ (h.ca = true → ∃ k : Nat, h.nr = (k : Int) + 1 ∧ k < n ∧ h.pl = nk 5 k)
theorem Und.more {ep n n' wt wt' : Nat} {p : List UInt8} (h : Und ep n wt p) (hn : n ≤ n') (hw : wt ≤ wt') : Und ep n' wt' p := by
  obtain ⟨x, h1, h2, h3, h4⟩ := h
  exact ⟨x, h1, h2, by omega, fun hc => by obtain ⟨k, k1, k2, k3⟩ := h4 hc; exact ⟨k, k1, by omega, k3⟩⟩
/-- From the end e (that has put n payloads) to the end f (to which c have come): what is under way is u. -/
structure Half (e f : En) (n c : Nat) (u : List (List UInt8)) : Prop where
  q : e.q = qs 5 (e.fs - 1) n
  fs : 1 ≤ e.fs ∧ e.fs ≤ n + 1
  wt : f.wt = c + 1
  cn : c ≤ n
  fc : e.fs ≤ c + 1
  o0 : f.ot = 0 → c = 0
  ot : f.ot = 0 ∨ f.ot = e.ep
  und : ∀ p ∈ u, Und e.ep n e.wt p
  ok : e.ok
  n2 : n ≤ 1000
theorem Half.sub {e f : En} {n c : Nat} {u v : List (List UInt8)} (h : Half e f n c u) (hv : ∀ p ∈ v, p ∈ u) : Half e f n c v := { h with und := fun p hp => h.und p (hv p hp) }
theorem Half.add {e f : En} {n c : Nat} {u v : List (List UInt8)} (h : Half e f n c u) (hv : ∀ p ∈ v, Und e.ep n e.wt p) : Half e f n c (u ++ v) :=
  { h with und := fun p hp => (List.mem_append.1 hp).elim (h.und p) (hv p) }
theorem und_tel {e : En} (h : e.ok) {n : Nat} (hw : e.wt ≤ 1001) : Und e.ep n e.wt (telB e) := ⟨_, heardP_tel h (by omega), rfl, Int.le_refl _, fun hc => by cases hc⟩
theorem und_car {e : En} (h : e.ok) {n k j : Nat} (hw : e.wt ≤ 1001) (hk : k = j + 1) (hj : j < n) (hn : n ≤ 1000) : Und e.ep n e.wt (carB e k (pk 5 j)) := by
  have hf := nk_fits (k := 5) (i := j) (by omega) (by omega)
  refine ⟨_, heardP_car h (by omega) (by omega) hf.1 hf.2, rfl, Int.le_refl _, fun _ => ⟨j, by simp only; omega, hj, rfl⟩⟩
/-- What an end sends at a tick. -/
theorem und_tick {e f : En} {n c : Nat} {u : List (List UInt8)} (h : Half e f n c u) (hw : e.wt ≤ 1001) : ∀ p ∈ tickE e, Und e.ep n e.wt p := by
  intro p hp
  obtain ⟨j, hj⟩ := List.mem_iff_getElem?.1 hp
  have hl : j < (tickE e).length := (List.getElem?_eq_some_iff.1 hj).1
  rw [tickE_len, h.q, qs_len] at hl
  have h1 := h.fs
  rw [tick_get (k := 5) (a := e.fs - 1) (b := n) h.q (by omega) (by omega)] at hj
  cases hj
  exact und_car h.ok hw (by omega) (by omega) h.n2
/-- One more is put. -/
theorem half_put {e f : En} {n c : Nat} {u : List (List UInt8)} (h : Half e f n c u) (hn : n < 1000) (hw : e.wt ≤ 1001) :
    ∃ ps, putE e (nk 5 n) = (pushE e (pk 5 n), ps, 0) ∧ Half (pushE e (pk 5 n)) f (n + 1) c (u ++ ps) := by
  have hf := nk_fits (k := 5) (i := n) (by omega) (by omega)
  have h1 := h.fs
  have hql : e.q.length = n - (e.fs - 1) := by rw [h.q, qs_len]
  have hok : (pushE e (pk 5 n)).ok := pushE_ok h.ok (by omega) hf.2
  have hq : (pushE e (pk 5 n)).q = qs 5 (e.fs - 1) (n + 1) := by
    rw [pushE]
    simp only
    rw [qs_snoc (by omega), h.q]
  have hH : ∀ ps, (∀ p ∈ ps, Und e.ep (n + 1) e.wt p) → Half (pushE e (pk 5 n)) f (n + 1) c (u ++ ps) := fun ps hps =>
    { q := hq, fs := ⟨h1.1, by simp only [pushE]; omega⟩, wt := h.wt, cn := by have := h.cn; omega, fc := h.fc, o0 := h.o0, ot := h.ot, und := fun p hp => (List.mem_append.1 hp).elim (fun hp => (h.und p hp).more (by omega) (Nat.le_refl _)) (hps p), ok := hok, n2 := by omega }
  rw [putE, if_neg (fun x => x hf), if_neg (by omega)]
  by_cases h64 : 64 < e.q.length + 1
  · rw [if_pos h64]
    exact ⟨[], rfl, hH [] (by simp)⟩
  · rw [if_neg h64]
    refine ⟨_, rfl, hH _ (fun p hp => ?_)⟩
    rw [List.mem_singleton.1 hp]
    exact und_car h.ok hw (by omega) (by omega) (by omega)
/-- The other way round nothing changes. -/
theorem half_put2 {e f : En} {n c : Nat} {u : List (List UInt8)} (h : Half e f n c u) (p : List UInt8) : Half e (pushE f p) n c u := { h with wt := h.wt, o0 := h.o0, ot := h.ot }
/-- A packet comes to f (that has put m payloads, of which d came): how f stands then, what came, what it answers. -/
theorem half_take {e f : En} {n c m d : Nat} {u v : List (List UInt8)} (h : Half e f n c u) (g : Half f e m d v) {p : List UInt8} (hp : p ∈ u) :
    ∃ f' ns ps, takeE f p = (f', ns, ps, false) ∧ ((ns = [] ∧ Half e f' n c u) ∨ (ns = [nk 5 c] ∧ Half e f' n (c + 1) u)) ∧ Half f' e m d (v ++ ps) ∧ f'.ep = f.ep ∧ f.fs ≤ f'.fs ∧ f.wt ≤ f'.wt := by
  obtain ⟨x, hx, hxe, hxw, hxc⟩ := h.und p hp
  obtain ⟨g1, g2, g3, g4, _⟩ := heardP_good hx
  have he1 := h.ok.ep1
  have hot := h.ot
  have hfok := g.ok
  have hefs := h.fs
  have hgfs := g.fs
  -- the end that has met
  obtain ⟨f1, hf1⟩ : ∃ f1, f1 = { f with ot := e.ep } := ⟨_, rfl⟩
  have hwt := h.wt
  have hsee : seeE f x.ep.toNat = (f1, false) := by
    have hxn : x.ep.toNat = e.ep := by omega
    rw [hxn, seeE]
    rcases hot with h0 | h0
    · rw [if_pos (by omega), meetE, if_pos h0, hf1]
      have hw1 : f.wt = 1 := by rw [hwt, h.o0 h0]
      rw [← hw1]
    · rw [if_neg (by omega), hf1, ← h0]
  have hok1 : f1.ok := by rw [hf1]; exact { hfok with ot2 := by have := h.ok.ep2; simp only; omega }
  have htake : takeE f p = metE (f1, false) x := by
    rw [takeE, hx]
    simp only
    rw [if_neg (by omega), hsee]
  have h1 : Half e f1 n c u := by rw [hf1]; exact { h with wt := h.wt, o0 := fun h0 => absurd h0 (by simp only; omega), ot := .inr rfl }
  have hg1 : Half f1 e m d v := by rw [hf1]; exact { g with q := g.q, fs := g.fs, fc := g.fc, ok := by have := hok1; rw [hf1] at this; exact this }
  have hwb : c ≤ 1000 := by have := h.cn; have := h.n2; omega
  have hf1wt : f1.wt = c + 1 := by rw [hf1]; exact hwt
  have hf1fs : f1.fs = f.fs := by rw [hf1]
  by_cases ho : x.ot = (f1.ep : Int)
  · obtain ⟨kw, hkw⟩ : ∃ kw : Nat, x.wt = (kw : Int) := ⟨x.wt.toNat, by have := g3.1; omega⟩
    have hkw2 : x.wt.toNat = kw := by omega
    have hfc := g.fc
    have hewt := g.wt
    -- what is dropped
    obtain ⟨gn, hgn⟩ : ∃ gn, goneE f1 kw = gn := ⟨_, rfl⟩
    have hql : f1.q.length = m - (f1.fs - 1) := by rw [hg1.q, qs_len]
    have hgl : gn ≤ m - (f1.fs - 1) ∧ f1.fs + gn ≤ d + 1 := by
      rw [← hgn, goneE, hql]
      omega
    have hdok : (dropE f1 kw).ok := dropE_ok hok1 (by have := g3.2; omega)
    have hd : dropE f1 kw = { f1 with fs := f1.fs + gn, q := f1.q.drop gn } := by rw [dropE, hgn]
    have hgd : Half (dropE f1 kw) e m d v := by
      have hf1s := hg1.fs
      rw [hd]
      refine { hg1 with q := ?_, fs := ⟨by simp only; omega, by simp only; omega⟩, fc := by simp only; omega, ok := by rw [← hd]; exact hdok }
      simp only
      rw [hg1.q, qs_drop]
      congr 1
      omega
    have hed : Half e (dropE f1 kw) n c u := by rw [hd]; exact { h1 with wt := h1.wt, o0 := h1.o0, ot := h1.ot }
    have hdw : (dropE f1 kw).wt = c + 1 := by rw [hd]; exact hf1wt
    have hde : (dropE f1 kw).ep = f.ep := by rw [hd, hf1]
    have hdo : (dropE f1 kw).ot = e.ep := by rw [hd, hf1]
    have hdf : f.fs ≤ (dropE f1 kw).fs := by rw [hd]; simp only; omega
    rw [htake, metE_yes ho, hkw2]
    by_cases hc : x.ca = true
    · obtain ⟨k, k1, k2, k3⟩ := hxc hc
      by_cases hnr : x.nr = ((dropE f1 kw).wt : Int)
      · obtain rfl : k = c := by omega
        rw [took_next hc hnr, k3]
        have hok2 : (En.mk (dropE f1 kw).ep (dropE f1 kw).ot (dropE f1 kw).fs ((dropE f1 kw).wt + 1) (dropE f1 kw).q).ok := { hdok with wt1 := by simp, wt2 := by simp only; omega }
        refine ⟨_, _, _, rfl, .inr ⟨rfl, { hed with wt := by simp only; omega, cn := by omega, fc := by have := hed.fc; omega, o0 := fun h0 => absurd h0 (by simp only; omega), ot := hed.ot }⟩, ?_, hde, hdf, by simp only; omega⟩
        have hgd2 : Half (En.mk (dropE f1 kw).ep (dropE f1 kw).ot (dropE f1 kw).fs ((dropE f1 kw).wt + 1) (dropE f1 kw).q) e m d v := { hgd with q := hgd.q, fs := hgd.fs, fc := hgd.fc, ot := hgd.ot, und := fun p hp => (hgd.und p hp).more (Nat.le_refl _) (by simp only; omega), ok := hok2 }
        exact hgd2.add (fun q hq => by
          rw [List.mem_singleton.1 hq]
          exact und_tel hok2 (by have := h.n2; simp only; omega))
      · rw [took_not hc hnr]
        exact ⟨_, _, _, rfl, .inl ⟨rfl, hed⟩, hgd.add (fun q hq => by rw [List.mem_singleton.1 hq]; exact und_tel hdok (by omega)), hde, hdf, by rw [hdw, hwt]; exact Nat.le_refl _⟩
    · have hc2 : x.ca = false := by cases h5 : x.ca with | false => rfl | true => exact absurd h5 hc
      rw [tookE, if_pos hc2]
      exact ⟨_, _, _, rfl, .inl ⟨rfl, hed⟩, by rw [List.append_nil]; exact hgd, hde, hdf, by rw [hdw, hwt]; exact Nat.le_refl _⟩
  · rw [htake, metE_not ho]
    refine ⟨_, _, _, rfl, .inl ⟨rfl, h1⟩, hg1.add (fun q hq => ?_), by rw [hf1], by rw [hf1]; exact Nat.le_refl _, by rw [hf1wt, hwt]; exact Nat.le_refl _⟩
    rw [List.mem_singleton.1 hq]
    exact und_tel hok1 (by omega)
end Go.Proofs.Ytifmpcldiimdbaa
