/- Homes of the program; what must come, whatever the arguments are. -/
import Derived.Test.YtiabnjjdeikefaaSMatch
namespace Go.Proofs.Ytiabnjjdeikefaa
open Go.RowKit

set_option maxRecDepth 100000 in
set_option maxHeartbeats 1000000 in
theorem eqT (x y : Tri) (w : World) : (Op.equalIn 10000 25 (encT x) (encT y)).run Try.prog w = .ok (decide (x = y)) w := by
  have u3 := Try.underlying9
  have a3 := Try.isAgg9
  have z3 := Try.sizeOf9
  rw [show (10000 : Nat) = 9999 + 1 from rfl, Op.equalIn]
  simp only [Sem.run_bind, run_underlying Try.underlying25, Result.andThen_ok]
  go_simp
  obtain ⟨a, b, c⟩ := x
  obtain ⟨a2, b2, c2⟩ := y
  by_cases h1 : a = a2 <;> by_cases h2 : b = b2 <;> by_cases h3 : c = c2 <;> simp [h1, h2, h3]

/-- Whether a subject lives there. -/
def homeB (worker n : Int) (s : List UInt8) : Bool := decide (1 ≤ n ∧ n ≤ 64 ∧ ((sumN s : Nat) : Int) % n = worker)
theorem home_any (s : List UInt8) (n : Int) (w : World) (hs : isW s = true) : Calls Try.prog 38 #[strV s, .int .i64 n] w fun e w' => ∃ (h : Int) (er : Nat), e = .returned (.tuple #[.int .i64 h, .int .i64 (er : Int)]) ∧ ((er = 0 ∧ 1 ≤ n ∧ n ≤ 64 ∧ h = ((sumN s : Nat) : Int) % n) ∨ (er = 1 ∧ ¬ (1 ≤ n ∧ n ≤ 64))) ∧ Below w.heap.size w w' := by
  have hl := isW_len hs
  by_cases h : 1 ≤ n ∧ n ≤ 64
  · refine (home_good ⟨s.toArray⟩ n w (by rw [size_list]; omega) h.1 h.2 (by rw [size_list]; omega)).mono ?_
    rintro e w' ⟨rfl, hb⟩
    exact ⟨_, 0, rfl, .inl ⟨rfl, h.1, h.2, by simp⟩, hb⟩
  · refine (home_bad ⟨s.toArray⟩ n w (by omega)).mono ?_
    rintro e w' ⟨rfl, rfl⟩
    exact ⟨0, 1, rfl, .inr ⟨rfl, h⟩, Below.refl _ _⟩
def homesB (All : List (List Tri)) (worker n : Int) : Bool := All.all fun F => F.all fun t => homeB worker n t.1
theorem homesB_no {All : List (List Tri)} {ts : List (Nat × Tri)} (h : Hist All ts) {worker n : Int} {p : Nat × Tri} (hp : p ∈ ts) (hb : homeB worker n p.2.1 = false) : homesB All worker n = false := by
  cases he : homesB All worker n with
  | false => rfl
  | true =>
    obtain ⟨F, hF, hx⟩ := (h.met p.2).1 ⟨p, hp, rfl⟩
    simp only [homesB, List.all_eq_true] at he
    rw [he F hF p.2 hx] at hb; cases hb
theorem homesB_yes {All : List (List Tri)} {ts : List (Nat × Tri)} (h : Hist All ts) {worker n : Int} (hb : ∀ p ∈ ts, homeB worker n p.2.1 = true) : homesB All worker n = true := by
  simp only [homesB, List.all_eq_true]
  intro F hF t ht
  obtain ⟨p, hp, rfl⟩ := (h.met t).2 ⟨F, hF, ht⟩
  exact hb p hp

set_option maxHeartbeats 4000000 in
set_option maxRecDepth 100000 in
theorem homes_any {S : Nat → Prop} {w : World} {b : Nat} {All : List (List Tri)} (hQ : Q S w b All) (hAl : All.length ≤ 1000000) (worker n : Int) :
    Calls Try.prog 21 #[.pointer (some ⟨b, 0, none⟩), .int .i64 worker, .int .i64 n] w fun e w' => e = .returned (.bool (homesB All worker n)) ∧ Below w.heap.size w w' := by
  obtain ⟨mb, N, vt, ts, hA, hN, hH⟩ := hQ
  have hsl := own_sl csU_len hA.ot rfl
  obtain ⟨⟨g0, g1, g2, g3⟩, _⟩ := four_cells hA.blk
  have C := Hid.mk (given_any b w g0)
  have htl := ts_few hH hAl
  obtain ⟨ao, cap, hvt⟩ := own_slice hA.ot
  subst hvt
  obtain ⟨nt, hnt⟩ : ∃ nt, nt = ts.length := ⟨_, rfl⟩
  rw [← hnt] at g3 htl hsl
  have HNT := Hid.mk hnt
  have HSL := Hid.mk hsl
  have HH := Hid.mk hH
  obtain ⟨ans, hans⟩ : ∃ a, a = homesB All worker n := ⟨_, rfl⟩
  rw [← hans]
  have HANS := Hid.mk hans
  clear hA hN hH hnt hsl hans hAl
  go_enter Try.func21, Try.ntmps21
  go_wp2_with fail
  refine C.out.mono ?_
  rintro e w1 ⟨rfl, hw⟩
  have hw := hw.symm
  subst hw
  go_wp2_with fail
  go_loopw [19] (fun c wr => ∃ i : Nat, i ≤ nt ∧ c = .int .i64 i ∧ (∀ p ∈ ts.take i, homeB worker n p.2.1 = true) ∧ Below w.heap.size w wr) (fun c _ => nt - (intOf c).toNat)
  case atStart => exact ⟨0, Nat.zero_le _, rfl, by simp, Below.refl _ _⟩
  case round =>
    obtain ⟨i, hi, rfl, hall, hB⟩ := hrel
    have HAll := Hid.mk hall
    have HB := Hid.mk hB
    clear hall hB
    by_cases hlt : i < nt
    · have hltI : (i : Int) < (nt : Int) := by omega
      obtain ⟨p, hp⟩ : ∃ p, ts[i]? = some p := ⟨_, List.getElem?_eq_getElem (by rw [← HNT.out]; exact hlt)⟩
      obtain ⟨g, off, rfl, _, _, hcell⟩ := (HSL.out.below HB.out).get hp
      obtain ⟨q0, q1, q2, q3⟩ := getU hcell
      have hmem := List.mem_of_getElem? hp
      have CH := Hid.mk (home_any p.2.1 n (wr.alloc (.cells #[.int .i64 (p.1 : Int), strV p.2.1, strV p.2.2.1, strV p.2.2.2] 72)) (isTW_parts (HH.out.word_turn hmem)).1)
      have HBn : Hid (Below w.heap.size w (wr.alloc (.cells #[.int .i64 (p.1 : Int), strV p.2.1, strV p.2.2.1, strV p.2.2.2] 72))) := Hid.mk (HB.out.alloc HB.out.size _)
      have HNO : Hid (homeB worker n p.2.1 = false → ans = false) := Hid.mk (fun h => by rw [HANS.out]; exact homesB_no HH.out hmem h)
      have HYES : Hid (homeB worker n p.2.1 = true → ∀ p ∈ ts.take (i + 1), homeB worker n p.2.1 = true) := Hid.mk (fun h x hx => by
        rw [List.take_add_one, hp] at hx
        rcases List.mem_append.1 hx with hx | hx
        · exact HAll.out x hx
        · simp at hx; subst hx; exact h)
      clear hp hcell hmem
      go_wp2_with fail
      refine CH.out.mono ?_
      rintro e w2 ⟨h, er, rfl, hcase, hb2⟩
      have HB2 := Hid.mk (HBn.out.trans (hb2.mono HBn.out.size))
      clear hb2 q0 q1 q2 q3
      rcases hcase with ⟨her, hn1, hn2, hh⟩ | ⟨her, hn⟩
      · subst her
        by_cases hw : h = worker
        · have HR := Hid.mk (HYES.out (by simp only [homeB]; exact decide_eq_true ⟨hn1, hn2, by rw [← hh]; exact hw⟩))
          have hw2 : (h != worker) = false := by simpa using hw
          clear hw hh hn1 hn2
          go_wp2
          go_roundw
          case rel => exact ⟨i + 1, by omega, by go_num, HR.out, HB2.out⟩
          case measure => simp [intOf]; omega
        · have HF := Hid.mk (HNO.out (by simp only [homeB]; exact decide_eq_false (fun h3 => hw (by rw [hh]; exact h3.2.2))))
          have hw2 : (h != worker) = true := by simpa using hw
          clear hw hh hn1 hn2
          go_wp2
          go_ret
          exact ⟨by rw [HF.out]; rfl, HB2.out⟩
      · subst her
        have HF := Hid.mk (HNO.out (by simp only [homeB]; exact decide_eq_false (fun h3 => hn ⟨h3.1, h3.2.1⟩)))
        by_cases hw : h = worker
        · have hw2 : (h != worker) = false := by simpa using hw
          clear hw hn
          go_wp2
          go_ret
          exact ⟨by rw [HF.out]; rfl, HB2.out⟩
        · have hw2 : (h != worker) = true := by simpa using hw
          clear hw hn
          go_wp2
          go_ret
          exact ⟨by rw [HF.out]; rfl, HB2.out⟩
    · have hltI : ¬ (i : Int) < (nt : Int) := by omega
      have HF : Hid (ans = true) := Hid.mk (by
        rw [HANS.out]
        refine homesB_yes HH.out (fun p hp => HAll.out p ?_)
        rw [List.take_of_length_le (by rw [← HNT.out]; omega)]
        exact hp)
      go_wp2
      go_ret
      exact ⟨by rw [HF.out]; rfl, HB.out⟩

set_option maxRecDepth 100000 in
set_option maxHeartbeats 1000000 in
theorem fact_any (o : List UInt8) (w : World) : Calls Try.prog 40 #[strV o] w fun e w' => e = .returned (encT ([97], [112], o)) ∧ Below w.heap.size w w' := by
  go_enter Try.func40, Try.ntmps40
  go_wp2
  refine bodyPost_ret (v := encT ([97], [112], o)) ?_ rfl ⟨rfl, ?_⟩
  · simp [results, Try.results40, go_sem]
  · exact (Below.refl _ _).alloc (Nat.le_refl _) _

theorem sl_new {α : Type} {enc : α → List Value} {k : Nat} (hk : ∀ x, (enc x).length = k) (w : World) (L : List α) (y : TypeId) (n cap : Nat) (hn : n = L.length) : SlS enc k (fun _ => True) (w.alloc (.cells (L.flatMap enc).toArray y)) (.slice (some ⟨w.heap.size, 0, none⟩) n cap) L := by
  subst hn
  refine ⟨_, cap, rfl, .inr ⟨w.heap.size, 0, rfl, trivial, by simp, fun j x hx c u hu => ?_⟩⟩
  have hc : c < k := by have := (List.getElem?_eq_some_iff.1 hu).1; rw [hk] at this; exact this
  have := box_at w (.cells (L.flatMap enc).toArray y)
  simp only [World.cell?, this]
  have h2 := flat_at hk L j c x hx hc
  rw [hu] at h2
  simpa using h2

abbrev tB : Tri := ([97], [112], [98])
abbrev tC : Tri := ([97], [112], [99])
theorem aw1E : apE [[]] 1 [(false, tB), (false, tC)] = 0 := by decide
theorem aw1A : apA [[]] 1 [(false, tB), (false, tC)] = [[], [tB, tC]] := by decide
theorem aw2E : apE [[], [tB, tC]] 1 [] = 70 := by decide
theorem aw2A : apA [[], [tB, tC]] 1 [] = [[], [tB, tC]] := by decide
theorem aw3E : apE [[], [tB, tC]] 2 [(true, tB)] = 0 := by decide
theorem aw3A : apA [[], [tB, tC]] 2 [(true, tB)] = [[], [tB, tC], [tC]] := by decide
theorem aw4L : (verO [[], [tB, tC], [tC]] 1).getD [] = [tB, tC] := by decide
theorem aw4E : maE [[], [tB, tC], [tC]] 1 = 0 := by decide
theorem aw5L : maL [[], [tB, tC], [tC]] 2 ([], [112], []) = [tC] := by decide
theorem aw5E : maE [[], [tB, tC], [tC]] 2 = 0 := by decide
theorem aw6L : (verO [[], [tB, tC], [tC]] 3).getD [] = [] := by decide
theorem aw6E : maE [[], [tB, tC], [tC]] 3 = 71 := by decide

set_option maxHeartbeats 4000000 in
set_option maxRecDepth 100000 in
theorem awake_any (w : World) : Calls Try.prog 24 #[] w fun e w' => e = .returned (.bool true) ∧ Below w.heap.size w w' := by
  obtain ⟨S, hS⟩ : ∃ S : Nat → Prop, S = fun k => k < w.heap.size := ⟨_, rfl⟩
  have hLow : Low S w := fun k hk => by rw [hS] at hk; exact hk
  have HLow := Hid.mk hLow
  have HS : Hid (∀ k, k < w.heap.size → S k) := Hid.mk (fun k hk => by rw [hS]; exact hk)
  have C1 := Hid.mk (new_any S w hLow)
  clear hS hLow
  go_enter Try.func24, Try.ntmps24
  go_wp2_with fail
  refine C1.out.mono ?_
  rintro e w1 ⟨b, rfl, hQ1, hb1⟩
  have HQ1 := Hid.mk hQ1
  have HB1 := Hid.mk hb1
  clear hQ1 hb1 C1
  go_wp2_with fail
  refine (fact_any [98] _).mono ?_
  rintro e w2 ⟨rfl, hb2⟩
  go_wp2_with fail
  refine (fact_any [99] _).mono ?_
  rintro e w3 ⟨rfl, hb3⟩
  have hb13 : Below w1.heap.size w1 w3 := hb2.trans (hb3.mono hb2.size)
  obtain ⟨W4, hW4⟩ : ∃ W4, W4 = w3.alloc (.cells #[.bool false, strV [97], strV [112], strV [98], .bool false, strV [97], strV [112], strV [99]] 54) := ⟨_, rfl⟩
  have hB4 : Below w3.heap.size w3 W4 := by rw [hW4]; exact (Below.refl _ _).alloc (Nat.le_refl _) _
  have hb14 : Below w1.heap.size w1 W4 := hb13.trans (hB4.mono hb13.size)
  have hv4 : ChgsS (fun _ => True) W4 (.slice (some ⟨w3.heap.size, 0, none⟩) 2 2) [(false, tB), (false, tC)] := by
    rw [hW4]; exact sl_new cs4_len w3 [(false, tB), (false, tC)] 54 2 2 rfl
  have hL4 : Low S W4 := HLow.out.size (Nat.le_trans HB1.out.size hb14.size)
  have C4 := Hid.mk (apply_any (HQ1.out.below hb14) hL4 hv4 (by decide) 1 (by decide))
  unfold AEnd at C4
  rw [aw1E, aw1A] at C4
  have HF4 : Hid (Fr S w W4) := Hid.mk (fr_below HLow.out (HB1.out.trans (hb14.mono HB1.out.size)))
  have HW4 := Hid.mk hW4
  clear hW4 hB4 hb14 hv4 hL4 hb13 hb2 hb3
  go_wp2_with fail
  rw [← HW4.out]
  refine C4.out.mono ?_
  rintro e w5 ⟨rfl, hQ5, hf5⟩
  have HF5 := Hid.mk (HF4.out.trans hf5)
  have HQ5 := Hid.mk hQ5
  clear C4 hQ5 hf5 HF4
  have C5 := Hid.mk (apply_any (T := fun _ => True) (bt := []) HQ5.out (HLow.out.fr HF5.out) (SlS.nil _ _) (by decide) 1 (by decide))
  unfold AEnd at C5
  rw [aw2E, aw2A] at C5
  go_wp2_with fail
  refine C5.out.mono ?_
  rintro e w6 ⟨rfl, hQ6, hf6⟩
  have HF6 := Hid.mk (HF5.out.trans hf6)
  have HQ6 := Hid.mk hQ6
  clear C5 hQ6 hf6 HF5 HQ5
  go_wp2_with fail
  refine (fact_any [98] _).mono ?_
  rintro e w7 ⟨rfl, hb7⟩
  obtain ⟨W8, hW8⟩ : ∃ W8, W8 = w7.alloc (.cells #[.bool true, strV [97], strV [112], strV [98]] 54) := ⟨_, rfl⟩
  have hB8 : Below w7.heap.size w7 W8 := by rw [hW8]; exact (Below.refl _ _).alloc (Nat.le_refl _) _
  have hb68 : Below w6.heap.size w6 W8 := hb7.trans (hB8.mono hb7.size)
  have hv8 : ChgsS (fun _ => True) W8 (.slice (some ⟨w7.heap.size, 0, none⟩) 1 1) [(true, tB)] := by
    rw [hW8]; exact sl_new cs4_len w7 [(true, tB)] 54 1 1 rfl
  have HF8 : Hid (Fr S w W8) := Hid.mk (HF6.out.next HLow.out hb68)
  have C8 := Hid.mk (apply_any (HQ6.out.below hb68) (HLow.out.fr HF8.out) hv8 (by decide) 2 (by decide))
  unfold AEnd at C8
  rw [aw3E, aw3A] at C8
  have HW8 := Hid.mk hW8
  clear hW8 hB8 hb68 hv8 hb7
  go_wp2_with fail
  rw [← HW8.out]
  refine C8.out.mono ?_
  rintro e w9 ⟨rfl, hQ9, hf9⟩
  have HF9 := Hid.mk (HF8.out.trans hf9)
  have HQ9 := Hid.mk hQ9
  clear C8 hQ9 hf9 HF8
  have CF := Hid.mk (facts_any HQ9.out (by decide) 1)
  rw [aw4L, aw4E] at CF
  go_wp2_with fail
  refine CF.out.mono ?_
  rintro e w10 ⟨a10, c10, rfl, _, hb10⟩
  have HQ10 := Hid.mk (HQ9.out.below hb10)
  have HF10 := Hid.mk (HF9.out.next HLow.out hb10)
  clear CF hb10 HF9
  have CM := Hid.mk (match_any HQ10.out (by decide) 2 ([], [112], []))
  rw [aw5L, aw5E] at CM
  go_wp2_with fail
  refine CM.out.mono ?_
  rintro e w11 ⟨a11, c11, rfl, hL11, hb11⟩
  have hT11 := hL11.tris
  obtain ⟨g, off, hag, _, hgl, hcell⟩ := hT11.get (j := 0) (x := tC) rfl
  subst hag
  obtain ⟨p0, p1, p2⟩ := get3 hcell
  rw [Nat.zero_mul, Nat.add_zero] at p0 p1 p2
  have HQ11 := Hid.mk (HQ10.out.below hb11)
  have HF11 := Hid.mk (HF10.out.next HLow.out hb11)
  clear CM hb11 HF10 hL11 hT11 hcell
  have HP : Hid (w11.cell? ⟨g, off, none⟩ = some (strV [97]) ∧ w11.cell? ⟨g, off + 1, none⟩ = some (strV [112]) ∧ w11.cell? ⟨g, off + 2, none⟩ = some (strV [99])) := Hid.mk ⟨p0, p1, p2⟩
  clear p0 p1 p2
  have CG := Hid.mk (facts_any HQ11.out (by decide) 3)
  rw [aw6L, aw6E] at CG
  go_wp2_with fail
  refine CG.out.mono ?_
  rintro e w12 ⟨a12, c12, rfl, _, hb12⟩
  have HQ12 := Hid.mk (HQ11.out.below hb12)
  have HF12 := Hid.mk (HF11.out.next HLow.out hb12)
  obtain ⟨p0, p1, p2⟩ : w12.cell? ⟨g, off, none⟩ = some (strV [97]) ∧ w12.cell? ⟨g, off + 1, none⟩ = some (strV [112]) ∧ w12.cell? ⟨g, off + 2, none⟩ = some (strV [99]) :=
    ⟨(hb12.cell (p := ⟨g, off, none⟩) hgl).trans HP.out.1, (hb12.cell (p := ⟨g, off + 1, none⟩) hgl).trans HP.out.2.1, (hb12.cell (p := ⟨g, off + 2, none⟩) hgl).trans HP.out.2.2⟩
  have hgl12 : g < w12.heap.size := Nat.lt_of_lt_of_le hgl hb12.size
  clear CG hb12 HF11 hgl HP HQ11 HQ10 HQ9 HQ6 HQ1
  have HD : Hid (Below w12.heap.size w12 w12.drew) := Hid.mk (Below.refl _ _).drew
  have HCC : Hid (∀ u, Below w12.drew.heap.size w12.drew u → u.cell? ⟨g, off, none⟩ = some (strV [97]) ∧ u.cell? ⟨g, off + 1, none⟩ = some (strV [112]) ∧ u.cell? ⟨g, off + 2, none⟩ = some (strV [99])) := Hid.mk (fun u hu =>
    ⟨(hu.cell (p := ⟨g, off, none⟩) hgl12).trans p0, (hu.cell (p := ⟨g, off + 1, none⟩) hgl12).trans p1, (hu.cell (p := ⟨g, off + 2, none⟩) hgl12).trans p2⟩)
  have CV : Hid (∀ u, Below w12.drew.heap.size w12.drew u → Calls Try.prog 23 #[.pointer (some ⟨b, 0, none⟩)] u fun e w' => e = .returned (.int .i64 2) ∧ w' = u) := Hid.mk (fun u hu => version_any ((HQ12.out.below HD.out).below hu))
  have heq := eqT tC tC
  rw [decide_eq_true rfl] at heq
  have CFa := Hid.mk (fact_any [99] w12.drew)
  go_wp2_with fail
  go_region_held3 (fun w' => w'.cell? ⟨g, off, none⟩ = some (strV [97]) ∧ w'.cell? ⟨g, off + 1, none⟩ = some (strV [112]) ∧ w'.cell? ⟨g, off + 2, none⟩ = some (strV [99]))
    (first | exact ⟨p0, p1, p2⟩ | exact ⟨by assumption, by assumption, by assumption⟩)
    (first | (go_at_call 40; refine CFa.out.mono ?_; rintro e w13 ⟨rfl, hb13⟩; obtain ⟨r0, r1, r2⟩ := HCC.out w13 hb13; have HB13 := Hid.mk hb13; clear hb13) | (go_at_call 23; refine (CV.out _ HB13.out).mono ?_; rintro e w14 ⟨rfl, rfl⟩))
  have HFF : Hid (Below w.heap.size w w14) := Hid.mk (((HF12.out.next HLow.out HD.out).next HLow.out HB13.out).below HS.out)
  go_wp2
  go_ret
  exact ⟨rfl, HFF.out⟩
end Go.Proofs.Ytiabnjjdeikefaa
