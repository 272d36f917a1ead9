/- LinkAll: behind whatever script of up to 150 acts on a line of two ends, once all that an end sends again comes, in whatever order, all that was put has come and nothing waits: for every epochs, script and turn. -/
import Derived.Test.YtifmpcldiimdbaaXELOrdM
namespace Go.Proofs.Ytifmpcldiimdbaa
open Go.RowKit

/-- Does a packet carry a payload? -/
def caP (p : List UInt8) : Bool := match heardP p with | some h => h.ca | none => false
theorem caP_of {p : List UInt8} {x : Hd} (h : heardP p = some x) : caP p = x.ca := by rw [caP, h]
def wgP (p : List UInt8) : Nat := if caP p = true then 2 else 1
def wgU (u : List (List UInt8)) : Nat := (u.map wgP).sum
theorem wgP_pos (p : List UInt8) : 1 ≤ wgP p := by unfold wgP; split <;> omega
theorem wgP_two (p : List UInt8) : wgP p ≤ 2 := by unfold wgP; split <;> omega
theorem wgU_nil : wgU [] = 0 := rfl
theorem wgU_cons (p : List UInt8) (u : List (List UInt8)) : wgU (p :: u) = wgP p + wgU u := by simp [wgU]
theorem wgU_app (u v : List (List UInt8)) : wgU (u ++ v) = wgU u + wgU v := by simp [wgU]
theorem wgU_len : ∀ u : List (List UInt8), u.length ≤ wgU u
  | [] => by simp
  | p :: u => by have := wgU_len u; have := wgP_pos p; rw [wgU_cons, List.length_cons]; omega
theorem wgU_two : ∀ u : List (List UInt8), wgU u ≤ 2 * u.length
  | [] => by simp [wgU]
  | p :: u => by have := wgU_two u; have := wgP_two p; rw [wgU_cons, List.length_cons]; omega
theorem wgU_erase {s : List UInt8} : ∀ {u : List (List UInt8)} {i : Nat}, u[i]? = some s → wgU (u.eraseIdx i) + wgP s = wgU u
  | [], _, h => by simp at h
  | p :: u, 0, h => by
    have h2 : p = s := by simpa using h
    subst h2
    rw [List.eraseIdx_cons_zero, wgU_cons]; omega
  | p :: u, i + 1, h => by
    rw [List.getElem?_cons_succ] at h
    have := wgU_erase h
    rw [List.eraseIdx_cons_succ, wgU_cons, wgU_cons]; omega
theorem mem_erase {s p : List UInt8} : ∀ {u : List (List UInt8)} {i : Nat}, u[i]? = some s → p ∈ u → p = s ∨ p ∈ u.eraseIdx i
  | [], _, h, _ => by simp at h
  | q :: u, 0, h, hp => by
    have h2 : q = s := by simpa using h
    subst h2
    rw [List.eraseIdx_cons_zero]
    exact List.mem_cons.1 hp
  | q :: u, i + 1, h, hp => by
    rw [List.getElem?_cons_succ] at h
    rw [List.eraseIdx_cons_succ]
    rcases List.mem_cons.1 hp with rfl | hp
    · exact .inr (List.mem_cons.2 (.inl rfl))
    · exact (mem_erase h hp).imp id (fun h => List.mem_cons.2 (.inr h))
theorem erase_sub {u : List (List UInt8)} {i : Nat} {p : List UInt8} (h : p ∈ u.eraseIdx i) : p ∈ u := List.mem_of_mem_eraseIdx h
theorem caP_tel {e : En} (h : e.ok) (hw : e.wt ≤ 1001) : caP (telB e) = false := caP_of (heardP_tel h (by omega))

/-- A packet comes to f: how f stands then, and what it answers. -/
theorem take_rep {e f : En} {n c : Nat} {u : List (List UInt8)} (h : Half e f n c u) {p : List UInt8} (hp : p ∈ u) {x : Hd} (hx : heardP p = some x) :
    ∃ f' ns ps, takeE f p = (f', ns, ps, false) ∧ f'.ot = e.ep ∧ f'.ep = f.ep ∧ f.fs ≤ f'.fs ∧ (ps = [] ∨ ps = [telB f']) ∧ (x.ca = true → ps = [telB f']) ∧ (x.ca = false → x.ot = (f.ep : Int) → ps = []) ∧
      (x.ot = (f.ep : Int) → f.q ≠ [] → (f.fs : Int) < x.wt → f.fs < f'.fs) ∧ (x.ot = (f.ep : Int) → x.ca = true → ∀ F : Nat, x.nr = (F : Int) → F ≤ f.wt → F < f'.wt) := by
  obtain ⟨y, hy, hxe, hxw, hxc⟩ := h.und p hp
  rw [hx] at hy
  cases hy
  obtain ⟨g1, g2, g3, g4, _⟩ := heardP_good hx
  have he1 := h.ok.ep1
  have hot := h.ot
  obtain ⟨f1, hf1⟩ : ∃ f1, f1 = { f with ot := e.ep } := ⟨_, rfl⟩
  have hwt := h.wt
  have hsee : seeE f x.ep.toNat = (f1, false) := by
    have hxn : x.ep.toNat = e.ep := by omega
    rw [hxn, seeE]
    rcases hot with h0 | h0
    · rw [if_pos (by omega), meetE, if_pos h0, hf1]
      have hw1 : f.wt = 1 := by rw [hwt, h.o0 h0]
      rw [← hw1]
    · rw [if_neg (by omega), hf1, ← h0]
  have htake : takeE f p = metE (f1, false) x := by
    rw [takeE, hx]
    simp only
    rw [if_neg (by omega), hsee]
  have a1 : f1.ep = f.ep := by rw [hf1]
  have a2 : f1.ot = e.ep := by rw [hf1]
  have a3 : f1.fs = f.fs := by rw [hf1]
  have a4 : f1.wt = f.wt := by rw [hf1]
  have a5 : f1.q = f.q := by rw [hf1]
  by_cases ho : x.ot = (f1.ep : Int)
  · have ho2 : x.ot = (f.ep : Int) := by rw [ho, a1]
    obtain ⟨dd, hdd⟩ : ∃ dd, dropE f1 x.wt.toNat = dd := ⟨_, rfl⟩
    have b1 : dd.ep = f.ep := by rw [← hdd]; exact a1
    have b2 : dd.ot = e.ep := by rw [← hdd]; exact a2
    have b3 : dd.fs = f.fs + goneE f1 x.wt.toNat := by rw [← hdd, ← a3]; rfl
    have b4 : dd.wt = f.wt := by rw [← hdd]; exact a4
    have b5 : f.q ≠ [] → (f.fs : Int) < x.wt → f.fs < dd.fs := by
      intro hq hw
      have : 0 < f.q.length := List.length_pos_iff.2 hq
      rw [b3, goneE, a3, a5]
      omega
    rw [htake, metE_yes ho, hdd]
    by_cases hc : x.ca = true
    · by_cases hnr : x.nr = (dd.wt : Int)
      · rw [took_next hc hnr]
        exact ⟨_, _, _, rfl, b2, b1, by simp only; omega, .inr rfl, fun _ => rfl, fun h => (by rw [hc] at h; cases h), fun _ hq hw => b5 hq hw, fun _ _ F hF hle => by simp only; omega⟩
      · rw [took_not hc hnr]
        exact ⟨_, _, _, rfl, b2, b1, by omega, .inr rfl, fun _ => rfl, fun h => (by rw [hc] at h; cases h), fun _ hq hw => b5 hq hw, fun _ _ F hF hle => by omega⟩
    · have hc2 : x.ca = false := by cases h5 : x.ca with | false => rfl | true => exact absurd h5 hc
      rw [tookE, if_pos hc2]
      exact ⟨_, _, _, rfl, b2, b1, by omega, .inl rfl, fun h => absurd h hc, fun _ _ => rfl, fun _ hq hw => b5 hq hw, fun _ h => absurd h hc⟩
  · have ho2 : ¬ x.ot = (f.ep : Int) := by rw [← a1]; exact ho
    rw [htake, metE_not ho]
    exact ⟨_, _, _, rfl, a2, a1, Nat.le_of_eq a3.symm, .inr rfl, fun _ => rfl, fun _ h => absurd h ho2, fun h => absurd h ho2, fun h => absurd h ho2⟩

/-- A calm round: F tells the first numbers when it began, Kn that both knew each other then; at most B is under way. -/
structure Calm (e : Nat → En) (U : Nat → List (List UInt8)) (n c F : Nat → Nat) (Kn : Prop) (B : Nat) : Prop where
  ln : LnI e U n c
  wg : wgU (U 0) + wgU (U 1) ≤ B
  tel : ∀ k, k < 2 → ∀ p ∈ U k, ∀ x, heardP p = some x → x.ca = false → x.ot = ((e k).ep : Int)
  fs : ∀ k, k < 2 → F k ≤ (e k).fs
  met : ∀ k, k < 2 → F k ≤ n k → (∃ p ∈ U (1 - k), caP p = true) ∨ ((e (1 - k)).ot ≠ 0 ∧ ((e k).ot ≠ 0 ∨ U k ≠ []))
  kn : Kn → ∀ k, k < 2 → (e k).ot ≠ 0
  prg : Kn → ∀ k, k < 2 → F k ≤ n k → F k < (e k).fs ∨ (∃ p ∈ U k, ∃ x, heardP p = some x ∧ x.ot = ((e k).ep : Int) ∧ (F k : Int) < x.wt) ∨ (∃ p ∈ U (1 - k), ∃ x, heardP p = some x ∧ x.ca = true ∧ x.nr = (F k : Int) ∧ x.ot = ((e (1 - k)).ep : Int))
section
variable {e : Nat → En} {U : Nat → List (List UInt8)} {n c F : Nat → Nat} {Kn : Prop} {B k : Nat}
theorem Calm.wgk (h : Calm e U n c F Kn B) (hk : k < 2) : wgU (U k) + wgU (U (1 - k)) ≤ B := by
  have := h.wg
  match k, hk with
  | 0, _ => exact this
  | 1, _ => show wgU (U 1) + wgU (U 0) ≤ B; omega
theorem wg_back {U' : Nat → List (List UInt8)} (hk : k < 2) (h : wgU (U' k) + wgU (U' (1 - k)) ≤ B) : wgU (U' 0) + wgU (U' 1) ≤ B := by
  match k, hk with
  | 0, _ => exact h
  | 1, _ => have h2 : wgU (U' 1) + wgU (U' 0) ≤ B := h; omega
theorem both {P : Nat → Prop} (hk : k < 2) (h1 : P k) (h2 : P (1 - k)) : ∀ j, j < 2 → P j := by
  intro j hj
  by_cases e : j = k
  · rw [e]; exact h1
  · have : j = 1 - k := by omega
    rw [this]; exact h2
/-- A packet comes. -/
theorem Calm.come (h : Calm e U n c F Kn B) (hB : B ≤ 256) (hk : k < 2) {i : Nat} {s : List UInt8} (hs : (U k)[i]? = some s) {f' : En} {ns : List NoteD} {ps : List (List UInt8)} {a : Bool} (ht : takeE (e k) s = (f', ns, ps, a)) :
    1 ≤ B ∧ Calm (upd e k f') (upd (upd U k ((U k).eraseIdx i)) (1 - k) (sendU (U (1 - k)) ps)) n (upd c k (c k + ns.length)) F Kn (B - 1) := by
  have hsm : s ∈ U k := List.mem_of_getElem? hs
  obtain ⟨h1, h2⟩ := h.ln.at_k hk
  obtain ⟨x, hx, hxe, hxw, hxc⟩ := h2.und s hsm
  obtain ⟨f2, ns2, ps2, e2, r1, r2, r3, r4, r5, r6, r7, r8⟩ := take_rep h2 hsm hx
  rw [ht] at e2
  cases e2
  obtain ⟨f3, ns3, ps3, e3, -, hln⟩ := h.ln.come hk hsm
  rw [ht] at e3
  cases e3
  have hln2 := hln ((U k).eraseIdx i) (fun q hq => erase_sub hq)
  have hwg := h.wgk hk
  have hwe := wgU_erase hs
  have hwp := wgP_pos s
  have hlen := wgU_len (U (1 - k))
  have hsu : sendU (U (1 - k)) ps = U (1 - k) ++ ps := by rw [sendU, if_pos (by omega)]
  rw [hsu] at hln2 ⊢
  have uk : upd (upd U k ((U k).eraseIdx i)) (1 - k) (U (1 - k) ++ ps) k = (U k).eraseIdx i := by rw [upd_ne (ne_k2 hk), upd_same]
  have uj : upd (upd U k ((U k).eraseIdx i)) (1 - k) (U (1 - k) ++ ps) (1 - k) = U (1 - k) ++ ps := upd_same _ _ _
  have ek : upd e k f' k = f' := upd_same _ _ _
  have ej : upd e k f' (1 - k) = e (1 - k) := upd_ne (ne_k hk)
  have kk : 1 - (1 - k) = k := by omega
  have hok' : f'.ok := by have := (hln2.at_k hk).1.ok; rwa [ek] at this
  have hwt' : f'.wt ≤ 1001 := by have := hln2.wt hk; rwa [ek] at this
  have hep := h1.ok.ep1
  have hep2 := h2.ok.ep1
  have hwps : wgU ps + 1 ≤ wgP s := by
    by_cases hc : x.ca = true
    · have : wgP s = 2 := by rw [wgP, if_pos (by rw [caP_of hx]; exact hc)]
      rw [this, r5 hc, wgU_cons, wgU_nil, wgP, caP_tel hok' hwt', if_neg (by decide)]
      omega
    · have hc2 : x.ca = false := by cases h5 : x.ca with | false => rfl | true => exact absurd h5 hc
      rw [r6 hc2 (h.tel k hk s hsm x hx hc2), wgU_nil]
      omega
  refine ⟨by omega, ?_⟩
  generalize hU' : upd (upd U k ((U k).eraseIdx i)) (1 - k) (U (1 - k) ++ ps) = U' at hln2 uk uj ⊢
  generalize hE' : upd e k f' = e' at hln2 ek ej ⊢
  have hpsx : ∀ p ∈ ps, ∃ y, heardP p = some y ∧ y.ca = false ∧ y.ot = ((e (1 - k)).ep : Int) ∧ y.wt = (f'.wt : Int) := by
    intro p hp
    rcases r4 with hps | hps
    · rw [hps] at hp; cases hp
    · rw [hps] at hp
      rw [List.mem_singleton.1 hp]
      exact ⟨_, heardP_tel hok' (by omega), rfl, by simp only; rw [r1], rfl⟩
  refine { ln := hln2, wg := wg_back hk ?_, tel := ?_, fs := ?_, met := ?_, kn := ?_, prg := ?_ }
  · rw [uk, uj, wgU_app]
    omega
  · refine both hk ?_ ?_
    · rw [uk, ek, r2]
      exact fun p hp y hy hc => h.tel k hk p (erase_sub hp) y hy hc
    · rw [uj, ej]
      intro p hp y hy hc
      rcases List.mem_append.1 hp with hp | hp
      · exact h.tel (1 - k) (by omega) p hp y hy hc
      · obtain ⟨y2, y3, _, y4, _⟩ := hpsx p hp
        rw [hy] at y3
        cases y3
        exact y4
  · refine both hk ?_ ?_
    · rw [ek]; have := h.fs k hk; omega
    · rw [ej]; exact h.fs (1 - k) (by omega)
  · refine both hk ?_ ?_
    · intro hF
      rw [uj, uk, ek, ej]
      rcases h.met k hk hF with ⟨p, hp, hc⟩ | ⟨ha, _⟩
      · exact .inl ⟨p, List.mem_append.2 (.inl hp), hc⟩
      · exact .inr ⟨ha, .inl (by rw [r1]; omega)⟩
    · intro hF
      rw [kk, uj, uk, ek, ej]
      rcases h.met (1 - k) (by omega) hF with ⟨p, hp, hc⟩ | ⟨ha, hb⟩
      · rw [kk] at hp
        rcases mem_erase hs hp with rfl | hp
        · refine .inr ⟨by rw [r1]; omega, .inr ?_⟩
          rw [r5 (by rw [← caP_of hx]; exact hc)]
          simp
        · exact .inl ⟨p, hp, hc⟩
      · refine .inr ⟨by rw [r1]; omega, hb.imp id (fun hb => ?_)⟩
        simp [hb]
  · intro hK
    refine both hk ?_ ?_
    · rw [ek, r1]; omega
    · rw [ej]; exact h.kn hK (1 - k) (by omega)
  · intro hK
    refine both hk ?_ ?_
    · intro hF
      rw [uj, uk, ek, ej]
      have hfk := h.fs k hk
      rcases h.prg hK k hk hF with ha | ⟨p, hp, y, hy, ho, hw⟩ | ⟨p, hp, y, hy, hc, hn, ho⟩
      · exact .inl (by omega)
      · rcases mem_erase hs hp with rfl | hp
        · rw [hx] at hy
          cases hy
          refine .inl ?_
          by_cases hlt : F k < (e k).fs
          · omega
          · have hq : (e k).q ≠ [] := by
              intro h0
              have hl : (e k).q.length = 0 := by rw [h0]; rfl
              rw [h1.q, qs_len] at hl
              have := h1.fs
              omega
            have := r7 ho hq (by omega)
            omega
        · exact .inr (.inl ⟨p, hp, y, hy, by rw [r2]; exact ho, hw⟩)
      · exact .inr (.inr ⟨p, List.mem_append.2 (.inl hp), y, hy, hc, hn, ho⟩)
    · intro hF
      rw [kk, uj, uk, ek, ej]
      rcases h.prg hK (1 - k) (by omega) hF with ha | ⟨p, hp, y, hy, ho, hw⟩ | ⟨p, hp, y, hy, hc, hn, ho⟩
      · exact .inl ha
      · exact .inr (.inl ⟨p, List.mem_append.2 (.inl hp), y, hy, ho, hw⟩)
      · rw [kk] at hp ho
        rcases mem_erase hs hp with rfl | hp
        · rw [hx] at hy
          cases hy
          have hps := r5 hc
          have hfk := h.fs (1 - k) (by omega)
          have hfc := h2.fc
          have hwt := h2.wt
          have := r8 ho hc (F (1 - k)) hn (by omega)
          obtain ⟨z, hz, _, hz3, hz4⟩ := hpsx (telB f') (by rw [hps]; simp)
          exact .inr (.inl ⟨telB f', List.mem_append.2 (.inr (by rw [hps]; simp)), z, hz, hz3, by rw [hz4]; omega⟩)
        · exact .inr (.inr ⟨p, hp, y, hy, hc, hn, by rw [r2]; exact ho⟩)
theorem tick_ne {e f : En} {n c : Nat} {u : List (List UInt8)} (h : Half e f n c u) (hq : e.fs ≤ n) : ∃ p ∈ tickE e, p = carB e e.fs (pk 5 (e.fs - 1)) := by
  have h1 := h.fs
  have hg := tick_get (k := 5) (a := e.fs - 1) (b := n) (j := 0) h.q (by omega) (by omega)
  rw [Nat.add_zero, Nat.add_zero] at hg
  exact ⟨_, List.mem_of_getElem? hg, rfl⟩
theorem tick_ca {e f : En} {n c : Nat} {u : List (List UInt8)} (h : Half e f n c u) (hw : e.wt ≤ 1001) : ∀ p ∈ tickE e, caP p = true := by
  intro p hp
  obtain ⟨j, hj⟩ := List.mem_iff_getElem?.1 hp
  have hl : j < (tickE e).length := (List.getElem?_eq_some_iff.1 hj).1
  rw [tickE_len, h.q, qs_len] at hl
  have h1 := h.fs
  have h2 := h.n2
  rw [tick_get (k := 5) (a := e.fs - 1) (b := n) h.q (by omega) (by omega)] at hj
  cases hj
  have hf := nk_fits (k := 5) (i := e.fs - 1 + j) (by omega) (by omega)
  exact caP_of (heardP_car h.ok (by omega) (by omega) hf.1 hf.2)
/-- A calm round begins. -/
theorem calm_start {U0 U' : Nat → List (List UInt8)} (h : LnI e U0 n c) (h0 : U' 0 = tickE (e 1)) (h1 : U' 1 = tickE (e 0)) : Calm e U' n c (fun k => (e k).fs) (∀ k, k < 2 → (e k).ot ≠ 0) 256 := by
  have hU : ∀ k, k < 2 → U' (1 - k) = tickE (e k) := fun k hk => by
    match k, hk with
    | 0, _ => exact h1
    | 1, _ => exact h0
  have hU2 : ∀ k, k < 2 → U' k = tickE (e (1 - k)) := fun k hk => by have := hU (1 - k) (by omega); rwa [show 1 - (1 - k) = k by omega] at this
  refine { ln := ?_, wg := ?_, tel := ?_, fs := fun _ _ => Nat.le_refl _, met := ?_, kn := fun h => h, prg := ?_ }
  · refine ⟨?_, ?_⟩
    · rw [h1]
      have hs := h.a.sub (v := []) (by simp)
      have := hs.add (und_tick hs (h.wt (k := 0) (by omega)))
      simpa using this
    · rw [h0]
      have hs := h.b.sub (v := []) (by simp)
      have := hs.add (und_tick hs (h.wt (k := 1) (by omega)))
      simpa using this
  · have a := wgU_two (U' 0)
    have b := wgU_two (U' 1)
    have a2 : (U' 0).length ≤ 64 := by rw [h0, tickE_len]; omega
    have b2 : (U' 1).length ≤ 64 := by rw [h1, tickE_len]; omega
    omega
  · intro k hk p hp x hx hc
    rw [hU2 k hk] at hp
    have := tick_ca (h.at_k (show 1 - k < 2 by omega)).1 (h.wt (by omega)) p hp
    rw [caP_of hx, hc] at this
    cases this
  · intro k hk hF
    have ha := (h.at_k hk).1
    obtain ⟨p, hp, -⟩ := tick_ne ha hF
    exact .inl ⟨p, by rw [hU k hk]; exact hp, tick_ca ha (h.wt hk) p hp⟩
  · intro hK k hk hF
    have ha := (h.at_k hk).1
    have hb := (h.at_k hk).2
    obtain ⟨p, hp, hpe⟩ := tick_ne ha hF
    have hf := nk_fits (k := 5) (i := (e k).fs - 1) (by omega) (by have := ha.n2; omega)
    have hx := heardP_car ha.ok (by have := h.wt hk; omega) (k := (e k).fs) (by have := ha.n2; omega) hf.1 hf.2
    refine .inr (.inr ⟨p, by rw [hU k hk]; exact hp, _, by rw [hpe]; exact hx, rfl, rfl, ?_⟩)
    have ho := hb.ot
    have hk0 := hK k hk
    simp only
    rcases ho with ho | ho
    · exact absurd ho hk0
    · rw [ho]
/-- How it stands behind so many rounds. -/
def RndP (e : Nat → En) (n : Nat → Nat) (r : Nat) : Prop := r = 0 ∨ (∀ k, k < 2 → n k + 1 ≤ (e k).fs) ∨ ((∀ k, k < 2 → (e k).ot ≠ 0) ∧ ∀ k, k < 2 → n k + 1 ≤ (e k).fs ∨ n k + r ≤ (e k).fs + 150)
theorem RndP.next {e0 : Nat → En} {r : Nat} (hr : RndP e0 n r) (hn : ∀ k, k < 2 → n k ≤ 150) (h : Calm e U n c (fun k => (e0 k).fs) (∀ k, k < 2 → (e0 k).ot ≠ 0) B) (h0 : U 0 = []) (h1 : U 1 = []) : RndP e n (r + 1) := by
  have hU : ∀ k, k < 2 → U k = [] := fun k hk => by
    match k, hk with
    | 0, _ => exact h0
    | 1, _ => exact h1
  have hmet : ∀ k, k < 2 → (e0 k).fs ≤ n k → ∀ j, j < 2 → (e j).ot ≠ 0 := fun k hk hF => by
    rcases h.met k hk hF with ⟨p, hp, _⟩ | ⟨ha, hb⟩
    · rw [hU (1 - k) (by omega)] at hp; cases hp
    · exact both hk (hb.resolve_right (fun hb => hb (hU k hk))) ha
  have hdone : (∀ k, k < 2 → n k + 1 ≤ (e0 k).fs) → RndP e n (r + 1) := fun hd => .inr (.inl (fun k hk => by have := hd k hk; have h2 : (e0 k).fs ≤ (e k).fs := h.fs k hk; omega))
  have hfs1 : ∀ k, k < 2 → 1 ≤ (e k).fs := fun k hk => (h.ln.at_k hk).1.fs.1
  rcases hr with rfl | hd | ⟨hK, hp⟩
  · by_cases hd : ∀ k, k < 2 → n k + 1 ≤ (e0 k).fs
    · exact hdone hd
    · have : ∃ k, k < 2 ∧ (e0 k).fs ≤ n k := by
        apply Classical.byContradiction
        intro hne
        exact hd (fun k hk => Nat.lt_of_not_le (fun hle => hne ⟨k, hk, hle⟩))
      obtain ⟨k, hk, hF⟩ := this
      exact .inr (.inr ⟨hmet k hk hF, fun j hj => .inr (by have := hn j hj; have := hfs1 j hj; omega)⟩)
  · exact hdone hd
  · refine .inr (.inr ⟨h.kn hK, fun k hk => ?_⟩)
    have hfk : (e0 k).fs ≤ (e k).fs := h.fs k hk
    by_cases hF : (e0 k).fs ≤ n k
    · rcases h.prg hK k hk hF with ha | ⟨p, hp, _⟩ | ⟨p, hp, _⟩
      · rcases hp k hk with hq | hq
        · exact .inl (by omega)
        · exact .inr (by omega)
      · rw [hU k hk] at hp; cases hp
      · rw [hU (1 - k) (by omega)] at hp; cases hp
    · exact .inl (by omega)
theorem RndP.done (hr : RndP e n 200) (hn : ∀ k, k < 2 → n k ≤ 150) : ∀ k, k < 2 → n k + 1 ≤ (e k).fs := by
  rcases hr with h | hd | ⟨_, hp⟩
  · cases h
  · exact hd
  · intro k hk
    rcases hp k hk with h | h
    · exact h
    · have := hn k hk
      omega
/-- Where nothing waits, all has come. -/
theorem all_come (h : LnI e U n c) (hd : ∀ k, k < 2 → n k + 1 ≤ (e k).fs) : ∀ k, k < 2 → (e k).q.length = 0 ∧ c (1 - k) = n k := by
  intro k hk
  have ha := (h.at_k hk).1
  have h1 := hd k hk
  have h2 := ha.fc
  have h3 := ha.cn
  refine ⟨?_, by omega⟩
  rw [ha.q, qs_len]
  omega
theorem waits_none (h : LnI e U n c) (hk : k < 2) (hw : (e k).q.length = 0) : n k + 1 ≤ (e k).fs := by
  have ha := (h.at_k hk).1
  have := ha.fs
  rw [ha.q, qs_len] at hw
  omega
end
end Go.Proofs.Ytifmpcldiimdbaa
