/- Will of the document, of any path; PathWill. -/
import Derived.Test.YthdnpddfdlhlaaaQOpen
import Derived.Test.YthdnpddfdlhlaaaARow
import Derived.Test.YthdnpddfdlhlaaaBAddI
import Derived.Deep.RegionHeld3
import Derived.Test.YthdnpddfdlhlaaaBLaw
namespace Go.Proofs.Ythdnpddfdlhlaaa
open Go.RowKit

/-- No list of a path is longer than its room. -/
def VCap : Vt → Prop
  | ⟨_, _, v, l⟩ => CapS v l.length ∧ ∀ x, x ∈ l → VCap x
theorem vcap_mk {k : Int} {wd : List UInt8} {v : Value} {l : List Vt} : VCap ⟨k, wd, v, l⟩ ↔ CapS v l.length ∧ ∀ x, x ∈ l → VCap x := by rw [VCap]
set_option maxRecDepth 100000 in
theorem open_nodeC {H : Type} {enc : TypeId × Value → H} {W : World} : ∀ (m fuel : Nat) (cs : List Value) (x : DataW H × List MemPlace), SizeOf.sizeOf x.1 < m →
    DataW.trod enc Try.prog W 0 (fun _ => true) true fuel 24 cs = some x → (∀ m ∈ x.1.weights Try.prog 24, m ≤ reachBytes) → ∃ t : Vt, cs = csN t ∧ VOk (fun _ => True) W t ∧ VCap t := by
  intro m
  induction m with
  | zero => intro _ _ _ h; omega
  | succ m ih =>
    intro fuel cs x hm hf hw
    obtain ⟨y0, y1, y2, n, hx, hlen, h0, h1, h2⟩ := Go.Deep.trod_struct3 Try.underlying24 hf
    rw [cellsQP] at hlen
    obtain ⟨c0, c1, c2, rfl⟩ : ∃ c0 c1 c2, cs = [c0, c1, c2] := by
      match cs, hlen with
      | [c0, c1, c2], _ => exact ⟨c0, c1, c2, rfl⟩
    simp only [cellsQI, cellsQS, cellsQK, List.drop_zero, List.drop_succ_cons, List.take_succ_cons, List.take_zero] at h0 h1 h2
    obtain ⟨z, k0, _, _⟩ := DataW.trod_int Try.underlying3 h0
    obtain ⟨s1, k1, _, l1⟩ := DataW.trod_string Try.underlying9 h1
    simp only [List.cons.injEq, and_true] at k0 k1
    subst k0 k1
    have hsz : SizeOf.sizeOf y2.1 < SizeOf.sizeOf x.1 := by
      rw [hx]
      simp only [DataW.agg.sizeOf_spec, List.cons.sizeOf_spec]
      omega
    rw [hx] at hw
    simp only [DataW.weights, Try.underlying24, List.map_cons, List.map_nil, DataW.weightsEach, List.append_nil] at hw
    obtain ⟨L, g1, g2, g3, g4⟩ := open_slN (en := csN) ⟨0, [], .slice none 0 0, []⟩ csN_len (by decide) Try.underlying22 cellsQP (fun t => VOk (fun _ => True) W t ∧ VCap t) (fun fuel cs y hy h hq => ih fuel cs y (by omega) h hq) h2 (fun m hm => hw m (by simp [hm]))
    refine ⟨⟨z, s1.data.toList, c2, L⟩, rfl, vok_mk.2 ⟨g1, ?_, g3, fun x hx => (g2 x hx).1⟩, vcap_mk.2 ⟨g4, fun x hx => (g2 x hx).2⟩⟩
    rw [data_len]
    exact l1
theorem open_pathC {H : Type} {enc : TypeId × Value → H} {W : World} {fuel : Nat} {cs : List Value} {x : DataW H × List MemPlace}
    (hf : DataW.trod enc Try.prog W 0 (fun _ => true) true fuel 24 cs = some x) (hw : ∀ m ∈ x.1.weights Try.prog 24, m ≤ reachBytes) : ∃ t : Vt, cs = csN t ∧ VOk (fun _ => True) W t ∧ VCap t := open_nodeC _ _ _ _ (Nat.lt_succ_self _) hf hw
end Go.Proofs.Ythdnpddfdlhlaaa

namespace Go.Proofs.Ythdnpddfdlhlaaa
open Go.RowKit Go.Shelf

set_option maxHeartbeats 4000000 in
set_option maxRecDepth 100000 in
theorem rW_word {S T : Nat → Prop} {wd : Wd} {v : Value} : WillC S T ⟨1, wd, v, []⟩ := by
  intro w wv L hok htx hcap hL
  obtain ⟨ao, cap, hv⟩ := hok.parts.1.slice
  dsimp only at hv
  subst hv
  obtain ⟨wa, wcap, rfl, hwc⟩ := hcap
  have HX : Hid (willL (Vt.pt ⟨1, wd, .slice ao 0 cap, []⟩) L ↔ L = [wd]) := Hid.mk (by rw [Vt.pt_mk, willL_mk]; rfl)
  obtain ⟨n, hn⟩ : ∃ n, n = L.length := ⟨_, rfl⟩
  have HTX := Hid.mk htx
  rw [← hn] at HTX hL hwc ⊢
  have HN := Hid.mk hn
  obtain ⟨o, ho⟩ : ∃ o, o = Obj.cells #[.int .i64 1, .string ⟨wd.toArray⟩, .slice ao 0 cap] 24 := ⟨_, rfl⟩
  have HOB := Hid.mk ho
  have HB0 : Hid (Below (w.alloc o).heap.size (w.alloc o) (w.alloc (.cells #[.int .i64 1, .string ⟨wd.toArray⟩, .slice ao 0 cap] 24))) := Hid.mk (by rw [HOB.out]; exact Below.refl _ _)
  clear hok htx hn ho
  show Calls Try.prog _ #[.agg #[.int .i64 1, .string ⟨wd.toArray⟩, .slice ao 0 cap], _] w _
  by_cases h1 : n = 1
  · obtain ⟨y, hy⟩ : ∃ y, L = [y] := List.length_eq_one_iff.1 (by rw [← HN.out]; exact h1)
    obtain ⟨g, off, rfl, _, hgl, hcell⟩ := HTX.out.get (j := 0) (x := y) (by rw [hy]; rfl)
    have q0 := getTx hcell
    rw [Nat.zero_mul, Nat.add_zero] at q0
    have HY := Hid.mk hy
    subst h1
    clear hy hcell
    by_cases e : y = wd
    · have HT : Hid (willL (Vt.pt ⟨1, wd, .slice ao 0 cap, []⟩) L) := Hid.mk (HX.out.2 (by rw [HY.out, e]))
      subst e
      go_enter Try.func26, Try.ntmps26
      go_wp2_with fail
      go_quiet (fail)
      go_wp2
      go_ret
      exact ⟨true, rfl, ⟨fun _ => HT.out, fun _ => rfl⟩, below_drewN (below_boxQ HB0.out) _⟩
    · have HT : Hid (¬ willL (Vt.pt ⟨1, wd, .slice ao 0 cap, []⟩) L) := Hid.mk (fun h => e (by have := HX.out.1 h; rw [HY.out] at this; simpa using this))
      have e1 : (y == wd) = false := by simpa using e
      go_enter Try.func26, Try.ntmps26
      go_wp2_with fail
      go_quiet (fail)
      go_wp2
      go_ret
      exact ⟨false, rfl, ⟨fun h => (by cases h), fun h => absurd h HT.out⟩, below_drewN (below_boxQ HB0.out) _⟩
  · have HT : Hid (¬ willL (Vt.pt ⟨1, wd, .slice ao 0 cap, []⟩) L) := Hid.mk (fun h => h1 (by rw [HN.out, HX.out.1 h]; rfl))
    obtain ⟨d1, d2⟩ := not_both (a := (n : Int)) (b := 1) (by omega)
    have d3 : decide ((n : Int) = 1) = false := decide_eq_false d1
    clear h1
    go_enter Try.func26, Try.ntmps26
    go_wp2_with fail
    go_quiet (fail)
    go_wp2
    go_ret
    exact ⟨false, rfl, ⟨fun h => (by cases h), fun h => absurd h HT.out⟩, below_drewN (below_boxQ HB0.out) _⟩

set_option maxHeartbeats 4000000 in
set_option maxRecDepth 100000 in
theorem rW_seq {S T : Nat → Prop} {wd : Wd} {v : Value} {l : List Vt} (hk : ∀ x ∈ l, WillC S T x) (hc : CapS v l.length) (hl : l.length ≤ 1000) : WillC S T ⟨2, wd, v, l⟩ := by
  intro w wv L hok htx hcap hL
  have hok2 := hok.parts
  obtain ⟨ao, cap, hv, hcc⟩ := hc
  dsimp only at hok2
  subst hv
  obtain ⟨ans, hans⟩ := known_some (willL (Vt.pt ⟨2, wd, .slice ao l.length cap, l⟩) L)
  have HANS := Hid.mk hans
  have C : Hid (∀ u, Below w.heap.size w u → Calls Try.prog 48 #[.slice ao l.length cap, wv] u fun e w' => e = .returned (.bool ans) ∧ Below u.heap.size u w') := Hid.mk (fun u hu => Calls.known (rRow_any l hk u _ wv L (hok2.1.below hu) ⟨_, _, rfl, hcc⟩ (fun x hx => (hok2.2.2.2 x hx).below hu) (htx.below hu) hcap hL (by omega)) (by
    rw [hans, Vt.pt_mk, willL_mk, List.map_map]
    rfl))
  obtain ⟨wa, wcap, rfl, hwc⟩ := hcap
  obtain ⟨n, hn⟩ : ∃ n, n = l.length := ⟨_, rfl⟩
  obtain ⟨m, hm⟩ : ∃ n, n = L.length := ⟨_, rfl⟩
  rw [← hn] at C ⊢
  rw [← hm] at C ⊢
  clear hok htx hok2 hn hm hans hk
  obtain ⟨o, ho⟩ : ∃ o, o = Obj.cells #[.int .i64 2, .string ⟨wd.toArray⟩, .slice ao n cap] 24 := ⟨_, rfl⟩
  have HOB := Hid.mk ho
  have HB0 : Hid (Below (w.alloc o).heap.size (w.alloc o) (w.alloc (.cells #[.int .i64 2, .string ⟨wd.toArray⟩, .slice ao n cap] 24))) := Hid.mk (by rw [HOB.out]; exact Below.refl _ _)
  clear ho
  suffices hgoal : Calls Try.prog 26 #[.agg #[.int .i64 2, .string ⟨wd.toArray⟩, .slice ao n cap], .slice wa m wcap] w fun e w' => e = .returned (.bool ans) ∧ Below w.heap.size w w' by
    refine hgoal.mono ?_
    rintro e w' ⟨rfl, hb⟩
    refine ⟨ans, rfl, ?_, hb⟩
    have := HANS.out
    simpa [Vt.pt_mk] using this
  go_enter Try.func26, Try.ntmps26
  go_wp2_with fail
  refine (C.out _ (below_boxQ HB0.out)).mono ?_
  rintro e w2 ⟨rfl, hb2⟩
  have HB2 := Hid.mk (HB0.out.trans (hb2.mono HB0.out.size))
  clear hb2
  go_wp2
  go_ret
  exact ⟨rfl, below_boxQ HB2.out⟩

set_option maxHeartbeats 4000000 in
set_option maxRecDepth 100000 in
theorem rW_alt {S T : Nat → Prop} {wd : Wd} {v : Value} {l : List Vt} (hk : ∀ x ∈ l, WillC S T x) : WillC S T ⟨3, wd, v, l⟩ := by
  intro w wv L hok htx hcap hL
  have hok2 := hok.parts
  obtain ⟨ao, cap, hv⟩ := hok2.1.slice
  dsimp only at hok2 hv
  subst hv
  obtain ⟨ans, hans⟩ := known_some (willL (Vt.pt ⟨3, wd, .slice ao l.length cap, l⟩) L)
  have HANS : Hid (ans = true ↔ ∃ x ∈ l, willL x.pt L) := Hid.mk (by
    rw [hans, Vt.pt_mk, willL_mk, kindL, if_neg (by decide), if_neg (by decide), if_neg (by decide), if_neg (by decide), if_neg (by decide)]
    constructor
    · rintro ⟨f, hf, h⟩
      obtain ⟨p, hp, rfl⟩ := List.mem_map.1 hf
      obtain ⟨x, hx, rfl⟩ := List.mem_map.1 hp
      exact ⟨x, hx, h⟩
    · rintro ⟨x, hx, h⟩
      exact ⟨_, List.mem_map_of_mem (List.mem_map_of_mem hx), h⟩)
  have HANS0 := Hid.mk hans
  have HKI := Hid.mk hok2.1
  have HKV := Hid.mk hok2.2.2.2
  have hkl := hok2.2.2.1
  have HK := Hid.mk hk
  have HTX := Hid.mk htx
  have HCAP := Hid.mk hcap
  have HL := Hid.mk hL
  obtain ⟨wa, wcap, rfl, hwc⟩ := hcap
  obtain ⟨n, hn⟩ : ∃ n, n = l.length := ⟨_, rfl⟩
  obtain ⟨m, hm⟩ : ∃ n, n = L.length := ⟨_, rfl⟩
  rw [← hn] at HKI hkl ⊢
  rw [← hm] at HTX HCAP ⊢
  have HN := Hid.mk hn
  have HM := Hid.mk hm
  clear hok htx hok2 hn hm hans hk hL
  obtain ⟨o, ho⟩ : ∃ o, o = Obj.cells #[.int .i64 3, .string ⟨wd.toArray⟩, .slice ao n cap] 24 := ⟨_, rfl⟩
  have HOB := Hid.mk ho
  have HC : Hid (∀ wr, Below (w.alloc o).heap.size (w.alloc o) wr → wr.cell? ⟨w.heap.size, 2, none⟩ = some (.slice ao n cap)) := Hid.mk (fun wr hb => by
    have h := box_keptQ hb
    rw [HOB.out] at h
    simp [World.cell?, h])
  have HB0 : Hid (Below (w.alloc o).heap.size (w.alloc o) (w.alloc (.cells #[.int .i64 3, .string ⟨wd.toArray⟩, .slice ao n cap] 24))) := Hid.mk (by rw [HOB.out]; exact Below.refl _ _)
  clear ho
  suffices hgoal : Calls Try.prog 26 #[.agg #[.int .i64 3, .string ⟨wd.toArray⟩, .slice ao n cap], .slice wa m wcap] w fun e w' => e = .returned (.bool ans) ∧ Below w.heap.size w w' by
    refine hgoal.mono ?_
    rintro e w' ⟨rfl, hb⟩
    refine ⟨ans, rfl, ?_, hb⟩
    have := HANS0.out
    simpa [Vt.pt_mk] using this
  clear HANS0
  go_enter Try.func26, Try.ntmps26
  go_wp2_with fail
  go_loopw [5] (fun c wr => ∃ i : Nat, i ≤ n ∧ c = .int .i64 i ∧ (∀ x ∈ l.take i, ¬ willL x.pt L) ∧ Below (w.alloc o).heap.size (w.alloc o) wr) (fun c _ => n - (intOf c).toNat)
  case atStart => exact ⟨0, Nat.zero_le _, rfl, by simp, HB0.out⟩
  case round =>
    obtain ⟨i, hi, rfl, hall, hbq⟩ := hrel
    have HBQ := Hid.mk hbq
    have HAll := Hid.mk hall
    have c2 := HC.out _ hbq
    clear hbq hall
    by_cases hlt : i < n
    · have hltI : (i : Int) < (n : Int) := by omega
      obtain ⟨x, hx⟩ : ∃ x, l[i]? = some x := ⟨_, List.getElem?_eq_getElem (by rw [← HN.out]; exact hlt)⟩
      obtain ⟨g, off, rfl, _, _, hcell⟩ := (HKI.out.below (below_boxQ HBQ.out)).get hx
      obtain ⟨q0, q1, q2⟩ := getN hcell
      have hxm := List.mem_of_getElem? hx
      obtain ⟨b, hb⟩ := known_some (willL x.pt L)
      have C := Hid.mk (Calls.known (HK.out x hxm wr (.slice wa m wcap) L ((HKV.out x hxm).below (below_boxQ HBQ.out)) (HTX.out.below (below_boxQ HBQ.out)) (by rw [← HM.out]; exact HCAP.out) HL.out) hb)
      obtain ⟨xa, xc, hxv⟩ := (HKV.out x hxm).parts.1.slice
      have HXX := Hid.mk hx
      have HBB := Hid.mk hb
      have HXM := Hid.mk hxm
      obtain ⟨xn, hxn⟩ : ∃ n, n = x.kids.length := ⟨_, rfl⟩
      rw [← hxn] at hxv
      obtain ⟨xk, xw, xv, xl⟩ := x
      dsimp only at q0 q1 q2 hxv
      subst hxv
      clear hxn hx hcell hxm hb
      cases b with
      | true =>
        have HT : Hid (ans = true) := Hid.mk (HANS.out.2 ⟨_, HXM.out, HBB.out.1 rfl⟩)
        go_wp2_with fail
        refine C.out.mono ?_
        rintro e w2 ⟨rfl, hb2⟩
        have HB2 := Hid.mk (HBQ.out.trans (hb2.mono HBQ.out.size))
        clear hb2
        go_wp2
        go_ret
        exact ⟨by rw [HT.out]; rfl, below_boxQ HB2.out⟩
      | false =>
        have HA2 : Hid (∀ y ∈ l.take (i + 1), ¬ willL y.pt L) := Hid.mk (fun y hy => by
          rw [List.take_add_one, HXX.out] at hy
          rcases List.mem_append.1 hy with hy | hy
          · exact HAll.out y hy
          · simp at hy; subst hy; exact fun h => by have := HBB.out.2 h; cases this)
        go_wp2_with fail
        refine C.out.mono ?_
        rintro e w2 ⟨rfl, hb2⟩
        have HB2 := Hid.mk (HBQ.out.trans (hb2.mono HBQ.out.size))
        clear hb2
        go_wp2
        go_roundw
        case rel => exact ⟨i + 1, by omega, by go_num, HA2.out, HB2.out⟩
        case measure => simp [intOf]; omega
    · have hltI : ¬ (i : Int) < (n : Int) := by omega
      have HT : Hid (ans = false) := Hid.mk (by
        cases ha : ans with
        | false => rfl
        | true =>
          obtain ⟨x, hx, hw⟩ := HANS.out.1 ha
          exact absurd hw (HAll.out x (by rw [List.take_of_length_le (by rw [← HN.out]; omega)]; exact hx)))
      go_wp2
      go_ret
      exact ⟨by rw [HT.out]; rfl, below_boxQ HBQ.out⟩
end Go.Proofs.Ythdnpddfdlhlaaa

namespace Go.Proofs.Ythdnpddfdlhlaaa
open Go.RowKit Go.Shelf

theorem bool_same {a b : Bool} (h : a = true ↔ b = true) : a = b := by
  cases a <;> cases b <;> simp at h ⊢
set_option maxHeartbeats 4000000 in
set_option maxRecDepth 100000 in
theorem rW_maybe {S T : Nat → Prop} {wd : Wd} {v : Value} {x : Vt} (hk : WillC S T x) : WillC S T ⟨6, wd, v, [x]⟩ := by
  intro w wv L hok htx hcap hL
  have hok2 := hok.parts
  obtain ⟨ao, cap, hv⟩ := hok2.1.slice
  dsimp only at hok2 hv
  subst hv
  have hxo := hok2.2.2.2 x (by simp)
  obtain ⟨ans, hans⟩ := known_some (willL (Vt.pt ⟨6, wd, .slice ao [x].length cap, [x]⟩) L)
  obtain ⟨b, hb⟩ := known_some (willL x.pt L)
  have HANS : Hid (ans = true ↔ L = [] ∨ b = true) := Hid.mk (by
    rw [hans, hb, Vt.pt_mk, willL_mk, List.map_cons, List.map_nil, List.map_cons, List.map_nil, kindL, if_neg (by decide), if_neg (by decide), if_neg (by decide), if_neg (by decide), if_pos rfl, alt_one])
  have HANS0 := Hid.mk hans
  have C := Hid.mk (fun u (hu : Below w.heap.size w u) => Calls.known (hk u wv L (hxo.below hu) (htx.below hu) hcap hL) hb)
  obtain ⟨g, off, rfl, _, hgl, hcell⟩ := hok2.1.get (j := 0) (x := x) rfl
  obtain ⟨q0, q1, q2⟩ := getN hcell
  rw [Nat.zero_mul, Nat.add_zero] at q0 q1 q2
  obtain ⟨wa, wcap, rfl, hwc⟩ := hcap
  obtain ⟨xa, xc, hxv⟩ := hxo.parts.1.slice
  obtain ⟨xn, hxn⟩ : ∃ n, n = x.kids.length := ⟨_, rfl⟩
  rw [← hxn] at hxv
  obtain ⟨m, hm⟩ : ∃ n, n = L.length := ⟨_, rfl⟩
  rw [← hm] at C ⊢
  have HM := Hid.mk hm
  obtain ⟨xk, xw, xv, xl⟩ := x
  dsimp only at q0 q1 q2 hxv
  subst hxv
  clear hok htx hok2 hm hans hk hL hb hcell hxn hxo
  suffices hgoal : Calls Try.prog 26 #[.agg #[.int .i64 6, .string ⟨wd.toArray⟩, .slice (some ⟨g, off, none⟩) 1 cap], .slice wa m wcap] w fun e w' => e = .returned (.bool ans) ∧ Below w.heap.size w w' by
    refine hgoal.mono ?_
    rintro e w' ⟨rfl, hb⟩
    exact ⟨ans, rfl, HANS0.out, hb⟩
  clear HANS0
  have HB : Hid (∀ a : Obj, Below w.heap.size w (w.alloc a)) := Hid.mk (fun a => (Below.refl _ _).alloc (Nat.le_refl _) _)
  by_cases h0 : m = 0
  · have HT : Hid (ans = true) := Hid.mk (HANS.out.2 (.inl (List.length_eq_zero_iff.1 (by rw [← HM.out]; exact h0))))
    subst h0
    go_enter Try.func26, Try.ntmps26
    go_wp2
    go_ret
    exact ⟨by rw [HT.out]; rfl, HB.out _⟩
  · have HT : Hid (ans = b) := Hid.mk (by
      have hL0 : ¬ L = [] := fun h => h0 (by rw [HM.out, h]; rfl)
      exact bool_same (by rw [HANS.out]; exact ⟨fun h => h.elim (fun e => absurd e hL0) id, .inr⟩))
    obtain ⟨d1, d2⟩ := not_both (a := (m : Int)) (b := 0) (by omega)
    clear h0
    go_enter Try.func26, Try.ntmps26
    go_wp2_with fail
    refine (C.out _ (HB.out _)).mono ?_
    rintro e w2 ⟨rfl, hb2⟩
    have HB2 := Hid.mk ((HB.out _).trans (hb2.mono (by simp)))
    clear hb2
    go_wp2
    go_ret
    exact ⟨by rw [HT.out]; rfl, HB2.out⟩

/-- As often as one will. -/
def oftL (k : Int) (f : List Wd → Prop) (l : List Wd) : Prop := if k = 4 then starL f l else plusL f l
theorem oft_nil {k : Int} {f : List Wd → Prop} : oftL k f [] ↔ k = 4 ∨ f [] := by
  unfold oftL
  split
  · rename_i h; exact ⟨fun _ => .inl h, fun _ => star_nil f⟩
  · rename_i h
    rw [plus_nil]
    exact ⟨.inr, fun h2 => h2.elim (fun e => absurd e h) id⟩
theorem oft_cut {k : Int} {f : List Wd → Prop} {l : List Wd} (hl : l ≠ []) : oftL k f l ↔ ∃ i, 1 ≤ i ∧ i ≤ l.length ∧ f (l.take i) ∧ (i = l.length ∨ oftL k f (l.drop i)) := by
  unfold oftL
  split
  · exact star_cut2 l hl
  · exact plus_cut l hl
theorem will_oft {k : Int} {wd : Wd} {P : Pt} (hk : k = 4 ∨ k = 5) : willL ⟨k, wd, [P]⟩ = oftL k (willL P) := by
  rw [willL_mk, List.map_cons, List.map_nil]
  funext l
  rcases hk with rfl | rfl
  · rw [kindL, if_neg (by decide), if_neg (by decide), if_pos rfl, oftL, if_pos rfl, alt_one]
  · rw [kindL, if_neg (by decide), if_neg (by decide), if_neg (by decide), if_pos rfl, oftL, if_neg (by decide), alt_one]

end Go.Proofs.Ythdnpddfdlhlaaa

namespace Go.Proofs.Ythdnpddfdlhlaaa
open Go.RowKit Go.Shelf

set_option maxHeartbeats 8000000 in
set_option maxRecDepth 100000 in
theorem rW_oft {S T : Nat → Prop} {k : Int} {wd : Wd} {v : Value} {x : Vt} (hk45 : k = 4 ∨ k = 5) (hk : WillC S T x) : ∀ (N : Nat) (w : World) (wv : Value) (L : List Wd), L.length = N → VOk S w ⟨k, wd, v, [x]⟩ → TxtS T w wv L → CapS wv L.length → L.length ≤ 1000000 →
    Calls Try.prog 26 #[encN ⟨k, wd, v, [x]⟩, wv] w fun e w' => ∃ b : Bool, e = .returned (.bool b) ∧ (b = true ↔ oftL k (willL x.pt) L) ∧ Below w.heap.size w w' := by
  intro N
  induction N using Nat.strongRecOn with
  | _ N IH0 =>
  intro w wv L hNL hok htx hcap hL
  have hok2 := hok.parts
  obtain ⟨ao, cap, hv⟩ := hok2.1.slice
  dsimp only at hok2 hv
  subst hv
  have hxo := hok2.2.2.2 x (by simp)
  obtain ⟨ans, hans⟩ := known_some (oftL k (willL x.pt) L)
  have HANS := Hid.mk hans
  have HTX := Hid.mk htx
  have HOKP := Hid.mk hok
  obtain ⟨g, off, rfl, hgS, hgl, hcell⟩ := hok2.1.get (j := 0) (x := x) rfl
  obtain ⟨wa, wcap, rfl, hwc⟩ := hcap
  have C : Hid (∀ u i, Below w.heap.size w u → i ≤ L.length → ∀ b : Bool, (b = true ↔ willL x.pt (L.take i)) → Calls Try.prog 26 #[encN x, .slice wa i wcap] u fun e w' => e = .returned (.bool b) ∧ Below u.heap.size u w') := Hid.mk (fun u i hu hi b hb => Calls.known (hk u (.slice wa i wcap) (L.take i) (hxo.below hu) (sl_take (htx.below hu) hi) ⟨wa, wcap, by rw [List.length_take, Nat.min_eq_left hi], by rw [List.length_take]; omega⟩ (by rw [List.length_take]; omega)) hb)
  have IH : Hid (∀ u i, Below w.heap.size w u → 1 ≤ i → i < L.length → ∀ b : Bool, (b = true ↔ oftL k (willL x.pt) (L.drop i)) → Calls Try.prog 26 #[encN ⟨k, wd, .slice (some ⟨g, off, none⟩) [x].length cap, [x]⟩, .slice (if wcap = i then wa else Option.map (fun x => x.add i) wa) (L.length - i) (wcap - i)] u fun e w' => e = .returned (.bool b) ∧ Below u.heap.size u w') := Hid.mk (fun u i hu h1 h2 b hb => Calls.known (IH0 (L.drop i).length (by rw [List.length_drop]; omega) u _ (L.drop i) rfl (hok.below hu) (cut_words (htx.below hu) rfl (by omega) hwc) ⟨_, _, by rw [List.length_drop], by rw [List.length_drop]; omega⟩ (by rw [List.length_drop]; omega)) hb)
  have HKC : Hid (∀ u, Below w.heap.size w u → u.cell? ⟨g, off, none⟩ = some (.int .i64 x.kind) ∧ u.cell? ⟨g, off + 1, none⟩ = some (.string ⟨x.word.toArray⟩) ∧ u.cell? ⟨g, off + 2, none⟩ = some x.val) := Hid.mk (fun u hu => by
    obtain ⟨q0, q1, q2⟩ := getN hcell
    rw [Nat.zero_mul, Nat.add_zero] at q0 q1 q2
    exact ⟨(hu.cell (p := ⟨g, off, none⟩) hgl).trans q0, (hu.cell (p := ⟨g, off + 1, none⟩) hgl).trans q1, (hu.cell (p := ⟨g, off + 2, none⟩) hgl).trans q2⟩)
  obtain ⟨xa, xc, hxv⟩ := hxo.parts.1.slice
  obtain ⟨xn, hxn⟩ : ∃ n, n = x.kids.length := ⟨_, rfl⟩
  rw [← hxn] at hxv
  obtain ⟨f, hf⟩ : ∃ f, f = willL x.pt := ⟨_, rfl⟩
  rw [← hf] at HANS C IH
  obtain ⟨xk, xw, xv, xl⟩ := x
  dsimp only at HKC hxv
  subst hxv
  obtain ⟨m, hm⟩ : ∃ n, n = L.length := ⟨_, rfl⟩
  rw [← hm] at C IH HTX hL hwc ⊢
  have HM := Hid.mk hm
  have HK45 := Hid.mk hk45
  suffices hgoal : Calls Try.prog 26 #[.agg #[.int .i64 k, .string ⟨wd.toArray⟩, .slice (some ⟨g, off, none⟩) 1 cap], .slice wa m wcap] w fun e w' => e = .returned (.bool ans) ∧ Below w.heap.size w w' by
    refine hgoal.mono ?_
    rintro e w' ⟨rfl, hb⟩
    exact ⟨ans, rfl, by rw [← hf]; exact HANS.out, hb⟩
  clear hok htx hok2 hm hans hk hcell hxn hxo hf IH0 hNL HOKP hk45
  obtain ⟨o, ho⟩ : ∃ o, o = Obj.cells #[.int .i64 k, .string ⟨wd.toArray⟩, .slice (some ⟨g, off, none⟩) 1 cap] 24 := ⟨_, rfl⟩
  have HOB := Hid.mk ho
  have HC : Hid (∀ wr, Below (w.alloc o).heap.size (w.alloc o) wr → (wr.cell? ⟨w.heap.size, 0, none⟩ = some (.int .i64 k) ∧ wr.cell? ⟨w.heap.size, 1, none⟩ = some (.string ⟨wd.toArray⟩) ∧ wr.cell? ⟨w.heap.size, 2, none⟩ = some (.slice (some ⟨g, off, none⟩) 1 cap)) ∧ (wr.cell? ⟨g, off, none⟩ = some (.int .i64 xk) ∧ wr.cell? ⟨g, off + 1, none⟩ = some (.string ⟨xw.toArray⟩) ∧ wr.cell? ⟨g, off + 2, none⟩ = some (.slice xa xn xc))) := Hid.mk (fun wr hb => by
    have h := box_keptQ hb
    rw [HOB.out] at h
    refine ⟨?_, HKC.out wr (below_boxQ hb)⟩
    simp [World.cell?, h])
  have HB0 : Hid (Below (w.alloc o).heap.size (w.alloc o) (w.alloc (.cells #[.int .i64 k, .string ⟨wd.toArray⟩, .slice (some ⟨g, off, none⟩) 1 cap] 24))) := Hid.mk (by rw [HOB.out]; exact Below.refl _ _)
  clear ho
  have k1 : ¬ k = 1 := by rcases HK45.out with h | h <;> omega
  have k2 : ¬ k = 2 := by rcases HK45.out with h | h <;> omega
  have k3 : ¬ k = 3 := by rcases HK45.out with h | h <;> omega
  have k6 : ¬ k = 6 := by rcases HK45.out with h | h <;> omega
  obtain ⟨a1, b1⟩ := not_both k1
  obtain ⟨a2, b2⟩ := not_both k2
  obtain ⟨a3, b3⟩ := not_both k3
  obtain ⟨a6, b6⟩ := not_both k6
  clear k1 k2 k3 k6
  by_cases h0 : m = 0
  · have hL0 : L = [] := List.length_eq_zero_iff.1 (by rw [← HM.out]; exact h0)
    obtain ⟨b, hb⟩ := known_some (f [])
    have C0 := Hid.mk (fun u hu => C.out u 0 hu (by omega) b (by rw [List.take_zero]; exact hb))
    have HT : Hid (ans = true ↔ k = 4 ∨ b = true) := Hid.mk (by rw [HANS.out, hL0, oft_nil, hb])
    subst h0
    clear hb hL0 C IH
    by_cases k4 : k = 4
    · have HT2 : Hid (ans = true) := Hid.mk (HT.out.2 (.inl k4))
      subst k4
      go_enter Try.func26, Try.ntmps26
      go_wp2
      go_ret
      exact ⟨by rw [HT2.out]; rfl, below_boxQ HB0.out⟩
    · have HT2 : Hid (ans = b) := Hid.mk (bool_same (by rw [HT.out]; exact ⟨fun h => h.elim (fun e => absurd e k4) id, .inr⟩))
      obtain ⟨a4, b4⟩ := not_both k4
      obtain ⟨_, p0, p1, p2⟩ := HC.out _ HB0.out
      have q := HKC.out w (Below.refl _ _)
      obtain ⟨q0, q1, q2⟩ := q
      clear k4
      go_enter Try.func26, Try.ntmps26
      go_wp2_with fail
      refine (C0.out _ (below_boxQ HB0.out)).mono ?_
      rintro e w2 ⟨rfl, hb2⟩
      have HB2 := Hid.mk (HB0.out.trans (hb2.mono HB0.out.size))
      clear hb2
      go_wp2
      go_ret
      exact ⟨by rw [HT2.out]; rfl, below_boxQ HB2.out⟩
  · have hL0 : ¬ L = [] := fun h => h0 (by rw [HM.out, h]; rfl)
    have HCUT : Hid (ans = true ↔ ∃ i, 1 ≤ i ∧ i ≤ m ∧ f (L.take i) ∧ (i = m ∨ oftL k f (L.drop i))) := Hid.mk (by rw [HANS.out, oft_cut hL0, ← HM.out])
    obtain ⟨d1, d2⟩ := not_both (a := (m : Int)) (b := 0) (by omega)
    clear h0 hL0
    go_enter Try.func26, Try.ntmps26
    go_wp2_with fail
    go_loopw [6] (fun c wr => ∃ i : Nat, 1 ≤ i ∧ i ≤ m + 1 ∧ c = .int .i64 i ∧ (∀ j, 1 ≤ j → j < i → ¬ (f (L.take j) ∧ (j = m ∨ oftL k f (L.drop j)))) ∧ Below (w.alloc o).heap.size (w.alloc o) wr) (fun c _ => m + 1 - (intOf c).toNat)
    case atStart => exact ⟨1, Nat.le_refl _, by omega, rfl, fun j h1 h2 => absurd h2 (by omega), HB0.out⟩
    case round =>
      obtain ⟨i, h1i, him, rfl, hall, hbq⟩ := hrel
      have HBQ := Hid.mk hbq
      have HAll := Hid.mk hall
      clear hbq hall
      by_cases hlt : i ≤ m
      · have hltI : (i : Int) ≤ (m : Int) := by omega
        obtain ⟨b, hb⟩ := known_some (f (L.take i))
        have HBB := Hid.mk hb
        have HDW : Hid (Below (w.alloc o).heap.size (w.alloc o) wr.drew) := Hid.mk HBQ.out.drew
        have E1 := Hid.mk (C.out wr.drew i (below_boxQ HDW.out) hlt b hb)
        obtain ⟨⟨c0, c1, c2⟩, ⟨p0, p1, p2⟩⟩ := HC.out _ HBQ.out
        have hiw : (i : Int) ≤ (wcap : Int) := by omega
        have hmw : (m : Int) ≤ (wcap : Int) := by omega
        clear hb
        cases b with
        | false =>
          have HA2 : Hid (∀ j, 1 ≤ j → j < i + 1 → ¬ (f (L.take j) ∧ (j = m ∨ oftL k f (L.drop j)))) := Hid.mk (fun j g1 g2 h => by
            by_cases e : j = i
            · subst e
              have := HBB.out.2 h.1
              cases this
            · exact HAll.out j g1 (by omega) h)
          go_wp2_with fail
          refine wp_region_held_drew (S := fun u => (u.cell? ⟨w.heap.size, 0, none⟩ = some (.int .i64 k) ∧ u.cell? ⟨w.heap.size, 1, none⟩ = some (.string ⟨wd.toArray⟩) ∧ u.cell? ⟨w.heap.size, 2, none⟩ = some (.slice (some ⟨g, off, none⟩) 1 cap)) ∧ (u.cell? ⟨g, off, none⟩ = some (.int .i64 xk) ∧ u.cell? ⟨g, off + 1, none⟩ = some (.string ⟨xw.toArray⟩) ∧ u.cell? ⟨g, off + 2, none⟩ = some (.slice xa xn xc))) (by kernel_rfl) ?_ (fun hHeld => ?_)
          · exact HC.out _ HDW.out
          refine wpAnyH_take (i := 0) (oi := { dst := some 77, op := Go.Op.fieldAddr 24 (Go.Operand.tmp 2) 2, type := 0, pos := "ref.go:216", after := #[], guard := none }) (v := ?_) rfl (by kernel_rfl) (by kernel_rfl) (by kernel_rfl) (fun _ _ _ h => h) (Or.inl ⟨by rfl, ?_⟩) hHeld ?_
          rotate_left 1
          · intro W hSw
            obtain ⟨⟨t0, t1, t2⟩, ⟨t3, t4, t5⟩⟩ := hSw
            go_simp
            try with_reducible rfl
          simp only [Act.put, List.setIfInBounds_toArray, List.set_cons_zero, List.set_cons_succ]
          refine wpAnyH_take (i := 1) (oi := { dst := some 78, op := Go.Op.load 22 (Go.Operand.tmp 77), type := 22, pos := "ref.go:216", after := #[{ on := 0, ground := Go.Ground.data }], guard := none }) (v := ?_) rfl (by kernel_rfl) (by kernel_rfl) (by kernel_rfl) (fun _ _ _ h => h) (Or.inl ⟨by rfl, ?_⟩) hHeld ?_
          rotate_left 1
          · intro W hSw
            obtain ⟨⟨t0, t1, t2⟩, ⟨t3, t4, t5⟩⟩ := hSw
            go_simp
            try with_reducible rfl
          simp only [Act.put, List.setIfInBounds_toArray, List.set_cons_zero, List.set_cons_succ]
          refine wpAnyH_take (i := 2) (oi := { dst := some 79, op := Go.Op.indexAddr 22 (Go.Operand.tmp 78) (Go.Operand.const (Go.Value.int Go.IntKind.i64 0)), type := 0, pos := "ref.go:216", after := #[{ on := 1, ground := Go.Ground.data }], guard := none }) (v := ?_) rfl (by kernel_rfl) (by kernel_rfl) (by kernel_rfl) (fun _ _ _ h => h) (Or.inl ⟨by rfl, ?_⟩) hHeld ?_
          rotate_left 1
          · intro W hSw
            obtain ⟨⟨t0, t1, t2⟩, ⟨t3, t4, t5⟩⟩ := hSw
            go_simp
            try with_reducible rfl
          simp only [Act.put, List.setIfInBounds_toArray, List.set_cons_zero, List.set_cons_succ]
          refine wpAnyH_take (i := 3) (oi := { dst := some 80, op := Go.Op.load 24 (Go.Operand.tmp 79), type := 24, pos := "ref.go:216", after := #[{ on := 2, ground := Go.Ground.data }], guard := none }) (v := ?_) rfl (by kernel_rfl) (by kernel_rfl) (by kernel_rfl) (fun _ _ _ h => h) (Or.inl ⟨by rfl, ?_⟩) hHeld ?_
          rotate_left 1
          · intro W hSw
            obtain ⟨⟨t0, t1, t2⟩, ⟨t3, t4, t5⟩⟩ := hSw
            go_simp
            try with_reducible rfl
          simp only [Act.put, List.setIfInBounds_toArray, List.set_cons_zero, List.set_cons_succ]
          refine wpAnyH_take (i := 4) (oi := { dst := some 81, op := Go.Op.move (Go.Operand.tmp 1), type := 27, pos := "ref.go:216", after := #[], guard := none }) (v := ?_) rfl (by kernel_rfl) (by kernel_rfl) (by kernel_rfl) (fun _ _ _ h => h) (Or.inl ⟨by rfl, ?_⟩) hHeld ?_
          rotate_left 1
          · intro W hSw
            obtain ⟨⟨t0, t1, t2⟩, ⟨t3, t4, t5⟩⟩ := hSw
            go_simp
            try with_reducible rfl
          simp only [Act.put, List.setIfInBounds_toArray, List.set_cons_zero, List.set_cons_succ]
          refine wpAnyH_take (i := 5) (oi := { dst := some 82, op := Go.Op.move (Go.Operand.tmp 6), type := 3, pos := "ref.go:216", after := #[], guard := none }) (v := ?_) rfl (by kernel_rfl) (by kernel_rfl) (by kernel_rfl) (fun _ _ _ h => h) (Or.inl ⟨by rfl, ?_⟩) hHeld ?_
          rotate_left 1
          · intro W hSw
            obtain ⟨⟨t0, t1, t2⟩, ⟨t3, t4, t5⟩⟩ := hSw
            go_simp
            try with_reducible rfl
          simp only [Act.put, List.setIfInBounds_toArray, List.set_cons_zero, List.set_cons_succ]
          refine wpAnyH_take (i := 6) (oi := { dst := some 83, op := Go.Op.slice 27 (Go.Operand.tmp 81) none (some (Go.Operand.tmp 82)) none, type := 27, pos := "ref.go:216", after := #[{ on := 4, ground := Go.Ground.data }, { on := 5, ground := Go.Ground.data }], guard := none }) (v := ?_) rfl (by kernel_rfl) (by kernel_rfl) (by kernel_rfl) (fun _ _ _ h => h) (Or.inl ⟨by rfl, ?_⟩) hHeld ?_
          rotate_left 1
          · intro W hSw
            obtain ⟨⟨t0, t1, t2⟩, ⟨t3, t4, t5⟩⟩ := hSw
            go_simp
            try with_reducible rfl
          simp only [Act.put, List.setIfInBounds_toArray, List.set_cons_zero, List.set_cons_succ]
          refine wpAnyH_ready (rs := [7]) (by kernel_rfl) (by simp) ?_
          refine AllReadyH.cons (o := { dst := some 84, op := Go.Op.call { callee := Go.Callee.value (Go.Operand.func 26), args := #[Go.Operand.tmp 80, Go.Operand.tmp 83], argTypes := #[24, 27] }, type := 4, pos := "ref.go:216", after := #[{ on := 3, ground := Go.Ground.data }, { on := 6, ground := Go.Ground.data }], guard := none }) rfl (fun K hK => ?_) AllReadyH.nil
          go_simp
          refine E1.out.mono ?_
          rintro e w3 ⟨rfl, hb3⟩
          have HB3 := Hid.mk (HDW.out.trans (hb3.mono HDW.out.size))
          clear hb3
          go_wp2_with fail
          refine hK.out _ _ (HC.out _ HB3.out) (fun hHeld => ?_)
          clear hK K
          refine wpAnyH_take (i := 8) (oi := { dst := some 85, op := Go.Op.move (Go.Operand.tmp 84), type := 4, pos := "ref.go:216", after := #[{ on := 7, ground := Go.Ground.data }, { on := 7, ground := Go.Ground.chain }], guard := none }) (v := ?_) rfl (by kernel_rfl) (by kernel_rfl) (by kernel_rfl) (fun _ _ _ h => h) (Or.inl ⟨by rfl, ?_⟩) hHeld ?_
          rotate_left 1
          · intro W hSw
            obtain ⟨⟨t0, t1, t2⟩, ⟨t3, t4, t5⟩⟩ := hSw
            go_simp
            try with_reducible rfl
          simp only [Act.put, List.setIfInBounds_toArray, List.set_cons_zero, List.set_cons_succ]
          refine wpAnyH_take (i := 9) (oi := { dst := some 86, op := Go.Op.move (Go.Operand.tmp 6), type := 3, pos := "ref.go:216", after := #[{ on := 8, ground := Go.Ground.guard }], guard := some (8, true) }) (v := undef) rfl (by kernel_rfl) (by kernel_rfl) (by kernel_rfl) (fun _ _ _ h => h) (Or.inr ⟨by rfl, rfl⟩) hHeld ?_
          simp only [Act.put, List.setIfInBounds_toArray, List.set_cons_zero, List.set_cons_succ]
          refine wpAnyH_take (i := 10) (oi := { dst := some 87, op := Go.Op.move (Go.Operand.tmp 1), type := 27, pos := "ref.go:216", after := #[{ on := 8, ground := Go.Ground.guard }], guard := some (8, true) }) (v := undef) rfl (by kernel_rfl) (by kernel_rfl) (by kernel_rfl) (fun _ _ _ h => h) (Or.inr ⟨by rfl, rfl⟩) hHeld ?_
          simp only [Act.put, List.setIfInBounds_toArray, List.set_cons_zero, List.set_cons_succ]
          refine wpAnyH_take (i := 11) (oi := { dst := some 88, op := Go.Op.call { callee := Go.Callee.builtin Go.Builtin.len, args := #[Go.Operand.tmp 87], argTypes := #[27] }, type := 3, pos := "ref.go:216", after := #[{ on := 10, ground := Go.Ground.data }, { on := 8, ground := Go.Ground.guard }], guard := some (8, true) }) (v := undef) rfl (by kernel_rfl) (by kernel_rfl) (by kernel_rfl) (fun _ _ _ h => h) (Or.inr ⟨by rfl, rfl⟩) hHeld ?_
          simp only [Act.put, List.setIfInBounds_toArray, List.set_cons_zero, List.set_cons_succ]
          refine wpAnyH_take (i := 12) (oi := { dst := some 89, op := Go.Op.binOp Go.BinOp.eql 3 (Go.Operand.tmp 86) (Go.Operand.tmp 88) 3, type := 4, pos := "ref.go:216", after := #[{ on := 9, ground := Go.Ground.data }, { on := 11, ground := Go.Ground.data }, { on := 8, ground := Go.Ground.guard }], guard := some (8, true) }) (v := undef) rfl (by kernel_rfl) (by kernel_rfl) (by kernel_rfl) (fun _ _ _ h => h) (Or.inr ⟨by rfl, rfl⟩) hHeld ?_
          simp only [Act.put, List.setIfInBounds_toArray, List.set_cons_zero, List.set_cons_succ]
          refine wpAnyH_take (i := 13) (oi := { dst := some 90, op := Go.Op.move (Go.Operand.tmp 89), type := 4, pos := "ref.go:216", after := #[{ on := 12, ground := Go.Ground.data }, { on := 8, ground := Go.Ground.chain }, { on := 8, ground := Go.Ground.guard }], guard := some (8, true) }) (v := undef) rfl (by kernel_rfl) (by kernel_rfl) (by kernel_rfl) (fun _ _ _ h => h) (Or.inr ⟨by rfl, rfl⟩) hHeld ?_
          simp only [Act.put, List.setIfInBounds_toArray, List.set_cons_zero, List.set_cons_succ]
          refine wpAnyH_take (i := 14) (oi := { dst := some 91, op := Go.Op.load 24 (Go.Operand.tmp 2), type := 24, pos := "ref.go:216", after := #[{ on := 13, ground := Go.Ground.guard }], guard := some (13, false) }) (v := undef) rfl (by kernel_rfl) (by kernel_rfl) (by kernel_rfl) (fun _ _ _ h => h) (Or.inr ⟨by rfl, rfl⟩) hHeld ?_
          simp only [Act.put, List.setIfInBounds_toArray, List.set_cons_zero, List.set_cons_succ]
          refine wpAnyH_take (i := 15) (oi := { dst := some 92, op := Go.Op.move (Go.Operand.tmp 1), type := 27, pos := "ref.go:216", after := #[{ on := 13, ground := Go.Ground.guard }], guard := some (13, false) }) (v := undef) rfl (by kernel_rfl) (by kernel_rfl) (by kernel_rfl) (fun _ _ _ h => h) (Or.inr ⟨by rfl, rfl⟩) hHeld ?_
          simp only [Act.put, List.setIfInBounds_toArray, List.set_cons_zero, List.set_cons_succ]
          refine wpAnyH_take (i := 16) (oi := { dst := some 93, op := Go.Op.move (Go.Operand.tmp 6), type := 3, pos := "ref.go:216", after := #[{ on := 13, ground := Go.Ground.guard }], guard := some (13, false) }) (v := undef) rfl (by kernel_rfl) (by kernel_rfl) (by kernel_rfl) (fun _ _ _ h => h) (Or.inr ⟨by rfl, rfl⟩) hHeld ?_
          simp only [Act.put, List.setIfInBounds_toArray, List.set_cons_zero, List.set_cons_succ]
          refine wpAnyH_take (i := 17) (oi := { dst := some 94, op := Go.Op.slice 27 (Go.Operand.tmp 92) (some (Go.Operand.tmp 93)) none none, type := 27, pos := "ref.go:216", after := #[{ on := 15, ground := Go.Ground.data }, { on := 16, ground := Go.Ground.data }, { on := 13, ground := Go.Ground.guard }], guard := some (13, false) }) (v := undef) rfl (by kernel_rfl) (by kernel_rfl) (by kernel_rfl) (fun _ _ _ h => h) (Or.inr ⟨by rfl, rfl⟩) hHeld ?_
          simp only [Act.put, List.setIfInBounds_toArray, List.set_cons_zero, List.set_cons_succ]
          refine wpAnyH_take (i := 18) (oi := { dst := some 95, op := Go.Op.call { callee := Go.Callee.value (Go.Operand.func 26), args := #[Go.Operand.tmp 91, Go.Operand.tmp 94], argTypes := #[24, 27] }, type := 4, pos := "ref.go:216", after := #[{ on := 14, ground := Go.Ground.data }, { on := 17, ground := Go.Ground.data }, { on := 13, ground := Go.Ground.chain }, { on := 13, ground := Go.Ground.guard }], guard := some (13, false) }) (v := undef) rfl (by kernel_rfl) (by kernel_rfl) (by kernel_rfl) (fun _ _ _ h => h) (Or.inr ⟨by rfl, rfl⟩) hHeld ?_
          simp only [Act.put, List.setIfInBounds_toArray, List.set_cons_zero, List.set_cons_succ]
          refine wpAnyH_take (i := 19) (oi := { dst := some 96, op := Go.Op.pick (Go.Operand.tmp 90) (Go.Operand.const (Go.Value.bool true)) (Go.Operand.tmp 95), type := 4, pos := "ref.go:216", after := #[{ on := 13, ground := Go.Ground.data }, { on := 18, ground := Go.Ground.data }, { on := 8, ground := Go.Ground.guard }], guard := some (8, true) }) (v := undef) rfl (by kernel_rfl) (by kernel_rfl) (by kernel_rfl) (fun _ _ _ h => h) (Or.inr ⟨by rfl, rfl⟩) hHeld ?_
          simp only [Act.put, List.setIfInBounds_toArray, List.set_cons_zero, List.set_cons_succ]
          refine wpAnyH_take (i := 20) (oi := { dst := some 97, op := Go.Op.pick (Go.Operand.tmp 85) (Go.Operand.tmp 96) (Go.Operand.const (Go.Value.bool false)), type := 4, pos := "ref.go:216", after := #[{ on := 8, ground := Go.Ground.data }, { on := 19, ground := Go.Ground.data }], guard := none }) (v := ?_) rfl (by kernel_rfl) (by kernel_rfl) (by kernel_rfl) (fun _ _ _ h => h) (Or.inl ⟨by rfl, ?_⟩) hHeld ?_
          rotate_left 1
          · intro W hSw
            obtain ⟨⟨t0, t1, t2⟩, ⟨t3, t4, t5⟩⟩ := hSw
            go_simp
            try with_reducible rfl
          simp only [Act.put, List.setIfInBounds_toArray, List.set_cons_zero, List.set_cons_succ]
          refine wpAnyH_done (by kernel_rfl) ?_ _
          go_wp2
          go_roundw
          case rel => exact ⟨i + 1, by omega, by omega, by go_num, HA2.out, HB3.out⟩
          case measure => simp [intOf]; omega
        | true =>
          by_cases him2 : i = m
          · have HT : Hid (ans = true) := Hid.mk (HCUT.out.2 ⟨i, h1i, by omega, HBB.out.1 rfl, .inl him2⟩)
            subst him2
            go_wp2_with fail
            refine wp_region_held_drew (S := fun u => (u.cell? ⟨w.heap.size, 0, none⟩ = some (.int .i64 k) ∧ u.cell? ⟨w.heap.size, 1, none⟩ = some (.string ⟨wd.toArray⟩) ∧ u.cell? ⟨w.heap.size, 2, none⟩ = some (.slice (some ⟨g, off, none⟩) 1 cap)) ∧ (u.cell? ⟨g, off, none⟩ = some (.int .i64 xk) ∧ u.cell? ⟨g, off + 1, none⟩ = some (.string ⟨xw.toArray⟩) ∧ u.cell? ⟨g, off + 2, none⟩ = some (.slice xa xn xc))) (by kernel_rfl) ?_ (fun hHeld => ?_)
            · exact HC.out _ HDW.out
            refine wpAnyH_take (i := 0) (oi := { dst := some 77, op := Go.Op.fieldAddr 24 (Go.Operand.tmp 2) 2, type := 0, pos := "ref.go:216", after := #[], guard := none }) (v := ?_) rfl (by kernel_rfl) (by kernel_rfl) (by kernel_rfl) (fun _ _ _ h => h) (Or.inl ⟨by rfl, ?_⟩) hHeld ?_
            rotate_left 1
            · intro W hSw
              obtain ⟨⟨t0, t1, t2⟩, ⟨t3, t4, t5⟩⟩ := hSw
              go_simp
              try with_reducible rfl
            simp only [Act.put, List.setIfInBounds_toArray, List.set_cons_zero, List.set_cons_succ]
            refine wpAnyH_take (i := 1) (oi := { dst := some 78, op := Go.Op.load 22 (Go.Operand.tmp 77), type := 22, pos := "ref.go:216", after := #[{ on := 0, ground := Go.Ground.data }], guard := none }) (v := ?_) rfl (by kernel_rfl) (by kernel_rfl) (by kernel_rfl) (fun _ _ _ h => h) (Or.inl ⟨by rfl, ?_⟩) hHeld ?_
            rotate_left 1
            · intro W hSw
              obtain ⟨⟨t0, t1, t2⟩, ⟨t3, t4, t5⟩⟩ := hSw
              go_simp
              try with_reducible rfl
            simp only [Act.put, List.setIfInBounds_toArray, List.set_cons_zero, List.set_cons_succ]
            refine wpAnyH_take (i := 2) (oi := { dst := some 79, op := Go.Op.indexAddr 22 (Go.Operand.tmp 78) (Go.Operand.const (Go.Value.int Go.IntKind.i64 0)), type := 0, pos := "ref.go:216", after := #[{ on := 1, ground := Go.Ground.data }], guard := none }) (v := ?_) rfl (by kernel_rfl) (by kernel_rfl) (by kernel_rfl) (fun _ _ _ h => h) (Or.inl ⟨by rfl, ?_⟩) hHeld ?_
            rotate_left 1
            · intro W hSw
              obtain ⟨⟨t0, t1, t2⟩, ⟨t3, t4, t5⟩⟩ := hSw
              go_simp
              try with_reducible rfl
            simp only [Act.put, List.setIfInBounds_toArray, List.set_cons_zero, List.set_cons_succ]
            refine wpAnyH_take (i := 3) (oi := { dst := some 80, op := Go.Op.load 24 (Go.Operand.tmp 79), type := 24, pos := "ref.go:216", after := #[{ on := 2, ground := Go.Ground.data }], guard := none }) (v := ?_) rfl (by kernel_rfl) (by kernel_rfl) (by kernel_rfl) (fun _ _ _ h => h) (Or.inl ⟨by rfl, ?_⟩) hHeld ?_
            rotate_left 1
            · intro W hSw
              obtain ⟨⟨t0, t1, t2⟩, ⟨t3, t4, t5⟩⟩ := hSw
              go_simp
              try with_reducible rfl
            simp only [Act.put, List.setIfInBounds_toArray, List.set_cons_zero, List.set_cons_succ]
            refine wpAnyH_take (i := 4) (oi := { dst := some 81, op := Go.Op.move (Go.Operand.tmp 1), type := 27, pos := "ref.go:216", after := #[], guard := none }) (v := ?_) rfl (by kernel_rfl) (by kernel_rfl) (by kernel_rfl) (fun _ _ _ h => h) (Or.inl ⟨by rfl, ?_⟩) hHeld ?_
            rotate_left 1
            · intro W hSw
              obtain ⟨⟨t0, t1, t2⟩, ⟨t3, t4, t5⟩⟩ := hSw
              go_simp
              try with_reducible rfl
            simp only [Act.put, List.setIfInBounds_toArray, List.set_cons_zero, List.set_cons_succ]
            refine wpAnyH_take (i := 5) (oi := { dst := some 82, op := Go.Op.move (Go.Operand.tmp 6), type := 3, pos := "ref.go:216", after := #[], guard := none }) (v := ?_) rfl (by kernel_rfl) (by kernel_rfl) (by kernel_rfl) (fun _ _ _ h => h) (Or.inl ⟨by rfl, ?_⟩) hHeld ?_
            rotate_left 1
            · intro W hSw
              obtain ⟨⟨t0, t1, t2⟩, ⟨t3, t4, t5⟩⟩ := hSw
              go_simp
              try with_reducible rfl
            simp only [Act.put, List.setIfInBounds_toArray, List.set_cons_zero, List.set_cons_succ]
            refine wpAnyH_take (i := 6) (oi := { dst := some 83, op := Go.Op.slice 27 (Go.Operand.tmp 81) none (some (Go.Operand.tmp 82)) none, type := 27, pos := "ref.go:216", after := #[{ on := 4, ground := Go.Ground.data }, { on := 5, ground := Go.Ground.data }], guard := none }) (v := ?_) rfl (by kernel_rfl) (by kernel_rfl) (by kernel_rfl) (fun _ _ _ h => h) (Or.inl ⟨by rfl, ?_⟩) hHeld ?_
            rotate_left 1
            · intro W hSw
              obtain ⟨⟨t0, t1, t2⟩, ⟨t3, t4, t5⟩⟩ := hSw
              go_simp
              try with_reducible rfl
            simp only [Act.put, List.setIfInBounds_toArray, List.set_cons_zero, List.set_cons_succ]
            refine wpAnyH_ready (rs := [7]) (by kernel_rfl) (by simp) ?_
            refine AllReadyH.cons (o := { dst := some 84, op := Go.Op.call { callee := Go.Callee.value (Go.Operand.func 26), args := #[Go.Operand.tmp 80, Go.Operand.tmp 83], argTypes := #[24, 27] }, type := 4, pos := "ref.go:216", after := #[{ on := 3, ground := Go.Ground.data }, { on := 6, ground := Go.Ground.data }], guard := none }) rfl (fun K hK => ?_) AllReadyH.nil
            go_simp
            refine E1.out.mono ?_
            rintro e w3 ⟨rfl, hb3⟩
            have HB3 := Hid.mk (HDW.out.trans (hb3.mono HDW.out.size))
            clear hb3
            go_wp2_with fail
            refine hK.out _ _ (HC.out _ HB3.out) (fun hHeld => ?_)
            clear hK K
            refine wpAnyH_take (i := 8) (oi := { dst := some 85, op := Go.Op.move (Go.Operand.tmp 84), type := 4, pos := "ref.go:216", after := #[{ on := 7, ground := Go.Ground.data }, { on := 7, ground := Go.Ground.chain }], guard := none }) (v := ?_) rfl (by kernel_rfl) (by kernel_rfl) (by kernel_rfl) (fun _ _ _ h => h) (Or.inl ⟨by rfl, ?_⟩) hHeld ?_
            rotate_left 1
            · intro W hSw
              obtain ⟨⟨t0, t1, t2⟩, ⟨t3, t4, t5⟩⟩ := hSw
              go_simp
              try with_reducible rfl
            simp only [Act.put, List.setIfInBounds_toArray, List.set_cons_zero, List.set_cons_succ]
            refine wpAnyH_take (i := 9) (oi := { dst := some 86, op := Go.Op.move (Go.Operand.tmp 6), type := 3, pos := "ref.go:216", after := #[{ on := 8, ground := Go.Ground.guard }], guard := some (8, true) }) (v := ?_) rfl (by kernel_rfl) (by kernel_rfl) (by kernel_rfl) (fun _ _ _ h => h) (Or.inl ⟨by rfl, ?_⟩) hHeld ?_
            rotate_left 1
            · intro W hSw
              obtain ⟨⟨t0, t1, t2⟩, ⟨t3, t4, t5⟩⟩ := hSw
              go_simp
              try with_reducible rfl
            simp only [Act.put, List.setIfInBounds_toArray, List.set_cons_zero, List.set_cons_succ]
            refine wpAnyH_take (i := 10) (oi := { dst := some 87, op := Go.Op.move (Go.Operand.tmp 1), type := 27, pos := "ref.go:216", after := #[{ on := 8, ground := Go.Ground.guard }], guard := some (8, true) }) (v := ?_) rfl (by kernel_rfl) (by kernel_rfl) (by kernel_rfl) (fun _ _ _ h => h) (Or.inl ⟨by rfl, ?_⟩) hHeld ?_
            rotate_left 1
            · intro W hSw
              obtain ⟨⟨t0, t1, t2⟩, ⟨t3, t4, t5⟩⟩ := hSw
              go_simp
              try with_reducible rfl
            simp only [Act.put, List.setIfInBounds_toArray, List.set_cons_zero, List.set_cons_succ]
            refine wpAnyH_take (i := 11) (oi := { dst := some 88, op := Go.Op.call { callee := Go.Callee.builtin Go.Builtin.len, args := #[Go.Operand.tmp 87], argTypes := #[27] }, type := 3, pos := "ref.go:216", after := #[{ on := 10, ground := Go.Ground.data }, { on := 8, ground := Go.Ground.guard }], guard := some (8, true) }) (v := ?_) rfl (by kernel_rfl) (by kernel_rfl) (by kernel_rfl) (fun _ _ _ h => h) (Or.inl ⟨by rfl, ?_⟩) hHeld ?_
            rotate_left 1
            · intro W hSw
              obtain ⟨⟨t0, t1, t2⟩, ⟨t3, t4, t5⟩⟩ := hSw
              go_simp
              try with_reducible rfl
            simp only [Act.put, List.setIfInBounds_toArray, List.set_cons_zero, List.set_cons_succ]
            refine wpAnyH_take (i := 12) (oi := { dst := some 89, op := Go.Op.binOp Go.BinOp.eql 3 (Go.Operand.tmp 86) (Go.Operand.tmp 88) 3, type := 4, pos := "ref.go:216", after := #[{ on := 9, ground := Go.Ground.data }, { on := 11, ground := Go.Ground.data }, { on := 8, ground := Go.Ground.guard }], guard := some (8, true) }) (v := ?_) rfl (by kernel_rfl) (by kernel_rfl) (by kernel_rfl) (fun _ _ _ h => h) (Or.inl ⟨by rfl, ?_⟩) hHeld ?_
            rotate_left 1
            · intro W hSw
              obtain ⟨⟨t0, t1, t2⟩, ⟨t3, t4, t5⟩⟩ := hSw
              go_simp
              try with_reducible rfl
            simp only [Act.put, List.setIfInBounds_toArray, List.set_cons_zero, List.set_cons_succ]
            refine wpAnyH_take (i := 13) (oi := { dst := some 90, op := Go.Op.move (Go.Operand.tmp 89), type := 4, pos := "ref.go:216", after := #[{ on := 12, ground := Go.Ground.data }, { on := 8, ground := Go.Ground.chain }, { on := 8, ground := Go.Ground.guard }], guard := some (8, true) }) (v := ?_) rfl (by kernel_rfl) (by kernel_rfl) (by kernel_rfl) (fun _ _ _ h => h) (Or.inl ⟨by rfl, ?_⟩) hHeld ?_
            rotate_left 1
            · intro W hSw
              obtain ⟨⟨t0, t1, t2⟩, ⟨t3, t4, t5⟩⟩ := hSw
              go_simp
              try with_reducible rfl
            simp only [Act.put, List.setIfInBounds_toArray, List.set_cons_zero, List.set_cons_succ]
            refine wpAnyH_take (i := 14) (oi := { dst := some 91, op := Go.Op.load 24 (Go.Operand.tmp 2), type := 24, pos := "ref.go:216", after := #[{ on := 13, ground := Go.Ground.guard }], guard := some (13, false) }) (v := undef) rfl (by kernel_rfl) (by kernel_rfl) (by kernel_rfl) (fun _ _ _ h => h) (Or.inr ⟨by rfl, rfl⟩) hHeld ?_
            simp only [Act.put, List.setIfInBounds_toArray, List.set_cons_zero, List.set_cons_succ]
            refine wpAnyH_take (i := 15) (oi := { dst := some 92, op := Go.Op.move (Go.Operand.tmp 1), type := 27, pos := "ref.go:216", after := #[{ on := 13, ground := Go.Ground.guard }], guard := some (13, false) }) (v := undef) rfl (by kernel_rfl) (by kernel_rfl) (by kernel_rfl) (fun _ _ _ h => h) (Or.inr ⟨by rfl, rfl⟩) hHeld ?_
            simp only [Act.put, List.setIfInBounds_toArray, List.set_cons_zero, List.set_cons_succ]
            refine wpAnyH_take (i := 16) (oi := { dst := some 93, op := Go.Op.move (Go.Operand.tmp 6), type := 3, pos := "ref.go:216", after := #[{ on := 13, ground := Go.Ground.guard }], guard := some (13, false) }) (v := undef) rfl (by kernel_rfl) (by kernel_rfl) (by kernel_rfl) (fun _ _ _ h => h) (Or.inr ⟨by rfl, rfl⟩) hHeld ?_
            simp only [Act.put, List.setIfInBounds_toArray, List.set_cons_zero, List.set_cons_succ]
            refine wpAnyH_take (i := 17) (oi := { dst := some 94, op := Go.Op.slice 27 (Go.Operand.tmp 92) (some (Go.Operand.tmp 93)) none none, type := 27, pos := "ref.go:216", after := #[{ on := 15, ground := Go.Ground.data }, { on := 16, ground := Go.Ground.data }, { on := 13, ground := Go.Ground.guard }], guard := some (13, false) }) (v := undef) rfl (by kernel_rfl) (by kernel_rfl) (by kernel_rfl) (fun _ _ _ h => h) (Or.inr ⟨by rfl, rfl⟩) hHeld ?_
            simp only [Act.put, List.setIfInBounds_toArray, List.set_cons_zero, List.set_cons_succ]
            refine wpAnyH_take (i := 18) (oi := { dst := some 95, op := Go.Op.call { callee := Go.Callee.value (Go.Operand.func 26), args := #[Go.Operand.tmp 91, Go.Operand.tmp 94], argTypes := #[24, 27] }, type := 4, pos := "ref.go:216", after := #[{ on := 14, ground := Go.Ground.data }, { on := 17, ground := Go.Ground.data }, { on := 13, ground := Go.Ground.chain }, { on := 13, ground := Go.Ground.guard }], guard := some (13, false) }) (v := undef) rfl (by kernel_rfl) (by kernel_rfl) (by kernel_rfl) (fun _ _ _ h => h) (Or.inr ⟨by rfl, rfl⟩) hHeld ?_
            simp only [Act.put, List.setIfInBounds_toArray, List.set_cons_zero, List.set_cons_succ]
            refine wpAnyH_take (i := 19) (oi := { dst := some 96, op := Go.Op.pick (Go.Operand.tmp 90) (Go.Operand.const (Go.Value.bool true)) (Go.Operand.tmp 95), type := 4, pos := "ref.go:216", after := #[{ on := 13, ground := Go.Ground.data }, { on := 18, ground := Go.Ground.data }, { on := 8, ground := Go.Ground.guard }], guard := some (8, true) }) (v := ?_) rfl (by kernel_rfl) (by kernel_rfl) (by kernel_rfl) (fun _ _ _ h => h) (Or.inl ⟨by rfl, ?_⟩) hHeld ?_
            rotate_left 1
            · intro W hSw
              obtain ⟨⟨t0, t1, t2⟩, ⟨t3, t4, t5⟩⟩ := hSw
              go_simp
              try with_reducible rfl
            simp only [Act.put, List.setIfInBounds_toArray, List.set_cons_zero, List.set_cons_succ]
            refine wpAnyH_take (i := 20) (oi := { dst := some 97, op := Go.Op.pick (Go.Operand.tmp 85) (Go.Operand.tmp 96) (Go.Operand.const (Go.Value.bool false)), type := 4, pos := "ref.go:216", after := #[{ on := 8, ground := Go.Ground.data }, { on := 19, ground := Go.Ground.data }], guard := none }) (v := ?_) rfl (by kernel_rfl) (by kernel_rfl) (by kernel_rfl) (fun _ _ _ h => h) (Or.inl ⟨by rfl, ?_⟩) hHeld ?_
            rotate_left 1
            · intro W hSw
              obtain ⟨⟨t0, t1, t2⟩, ⟨t3, t4, t5⟩⟩ := hSw
              go_simp
              try with_reducible rfl
            simp only [Act.put, List.setIfInBounds_toArray, List.set_cons_zero, List.set_cons_succ]
            refine wpAnyH_done (by kernel_rfl) ?_ _
            go_wp2
            go_ret
            exact ⟨by rw [HT.out]; rfl, below_boxQ HB3.out⟩
          · obtain ⟨b', hb'⟩ := known_some (oftL k f (L.drop i))
            have hilt : i < m := by omega
            have hiltI : (i : Int) < (m : Int) := by omega
            obtain ⟨e1, e2⟩ := not_both (a := (i : Int)) (b := (m : Int)) (by omega)
            have hwi : ¬ wcap = i := by omega
            have E2 : Hid (∀ u, Below (w.alloc o).heap.size (w.alloc o) u → Calls Try.prog 26 #[.agg #[.int .i64 k, .string ⟨wd.toArray⟩, .slice (some ⟨g, off, none⟩) 1 cap], .slice (Option.map (fun x => x.add i) wa) (m - i) (wcap - i)] u fun e w' => e = .returned (.bool b') ∧ Below u.heap.size u w') := Hid.mk (fun u hu => by
              have h := IH.out u i (below_boxQ hu) h1i hilt b' hb'
              rw [if_neg hwi] at h
              exact h)
            have HB' := Hid.mk hb'
            clear hb' him2
            cases b' with
            | true =>
              have HT : Hid (ans = true) := Hid.mk (HCUT.out.2 ⟨i, h1i, by omega, HBB.out.1 rfl, .inr (HB'.out.1 rfl)⟩)
              go_wp2_with fail
              go_region_held3 (fun u => (u.cell? ⟨w.heap.size, 0, none⟩ = some (.int .i64 k) ∧ u.cell? ⟨w.heap.size, 1, none⟩ = some (.string ⟨wd.toArray⟩) ∧ u.cell? ⟨w.heap.size, 2, none⟩ = some (.slice (some ⟨g, off, none⟩) 1 cap)) ∧ (u.cell? ⟨g, off, none⟩ = some (.int .i64 xk) ∧ u.cell? ⟨g, off + 1, none⟩ = some (.string ⟨xw.toArray⟩) ∧ u.cell? ⟨g, off + 2, none⟩ = some (.slice xa xn xc)))
                (first | with_reducible exact HC.out _ HDW.out | with_reducible exact HC.out _ z4 | with_reducible exact HC.out _ z3)
                (first
                  | (go_at_call 26; with_reducible refine E1.out.mono ?_; rintro e w3 ⟨rfl, hb3⟩; have z3 := HDW.out.trans (hb3.mono HDW.out.size))
                  | (go_at_call 26; with_reducible refine (E2.out _ z3).mono ?_; rintro e w4 ⟨rfl, hb4⟩; have z4 := z3.trans (hb4.mono z3.size)))
              all_goals (
                have Z4 := Hid.mk z4
                clear hb3 hb4 z3 z4
                go_wp2
                go_ret
                exact ⟨by rw [HT.out]; rfl, below_boxQ Z4.out⟩)
            | false =>
              have HA2 : Hid (∀ j, 1 ≤ j → j < i + 1 → ¬ (f (L.take j) ∧ (j = m ∨ oftL k f (L.drop j)))) := Hid.mk (fun j g1 g2 h => by
                by_cases e : j = i
                · subst e
                  rcases h.2 with h3 | h3
                  · omega
                  · have := HB'.out.2 h3
                    cases this
                · exact HAll.out j g1 (by omega) h)
              go_wp2_with fail
              go_region_held3 (fun u => (u.cell? ⟨w.heap.size, 0, none⟩ = some (.int .i64 k) ∧ u.cell? ⟨w.heap.size, 1, none⟩ = some (.string ⟨wd.toArray⟩) ∧ u.cell? ⟨w.heap.size, 2, none⟩ = some (.slice (some ⟨g, off, none⟩) 1 cap)) ∧ (u.cell? ⟨g, off, none⟩ = some (.int .i64 xk) ∧ u.cell? ⟨g, off + 1, none⟩ = some (.string ⟨xw.toArray⟩) ∧ u.cell? ⟨g, off + 2, none⟩ = some (.slice xa xn xc)))
                (first | with_reducible exact HC.out _ HDW.out | with_reducible exact HC.out _ z4 | with_reducible exact HC.out _ z3)
                (first
                  | (go_at_call 26; with_reducible refine E1.out.mono ?_; rintro e w3 ⟨rfl, hb3⟩; have z3 := HDW.out.trans (hb3.mono HDW.out.size))
                  | (go_at_call 26; with_reducible refine (E2.out _ z3).mono ?_; rintro e w4 ⟨rfl, hb4⟩; have z4 := z3.trans (hb4.mono z3.size)))
              all_goals (
                have Z4 := Hid.mk z4
                clear hb3 hb4 z3 z4
                go_wp2
                go_roundw
                case rel => exact ⟨i + 1, by omega, by omega, by go_num, HA2.out, Z4.out⟩
                case measure => simp [intOf]; omega)
      · have hltI : ¬ (i : Int) ≤ (m : Int) := by omega
        have HT : Hid (ans = false) := Hid.mk (by
          cases ha : ans with
          | false => rfl
          | true =>
            obtain ⟨j, g1, g2, g3⟩ := HCUT.out.1 ha
            exact absurd g3 (HAll.out j g1 (by omega)))
        go_wp2
        go_ret
        exact ⟨by rw [HT.out]; rfl, below_boxQ HBQ.out⟩

/-- Will of the document, of any path that is shaped. -/
theorem rWill_any {S T : Nat → Prop} : ∀ (t : Vt) (d : Nat), shapedP d t.pt = true → VCap t → WillC S T t := by
  apply Vt.ind
  intro k wd v l ih d hsh hcap
  cases d with
  | zero => simp [shapedP] at hsh
  | succ d =>
    rw [Vt.pt_mk, shapedP, Bool.and_eq_true, Bool.and_eq_true, List.all_eq_true, decide_eq_true_eq, List.length_map] at hsh
    obtain ⟨⟨hfo, h24⟩, hk⟩ := hsh
    obtain ⟨hc1, hc2⟩ := vcap_mk.1 hcap
    have hkids : ∀ x ∈ l, WillC S T x := fun x hx => ih x hx d (hk x.pt (List.mem_map_of_mem hx)) (hc2 x hx)
    have oft : ∀ k : Int, k = 4 ∨ k = 5 → ∀ x, l = [x] → WillC S T ⟨k, wd, v, l⟩ := by
      intro k hk45 x hx
      subst hx
      intro w wv L h1 h2 h3 h4
      have := rW_oft (v := v) (wd := wd) hk45 (hkids x (by simp)) L.length w wv L rfl h1 h2 h3 h4
      rw [Vt.pt_mk, List.map_cons, List.map_nil, will_oft hk45]
      exact this
    rcases formed_cases hfo with ⟨rfl, hn, _⟩ | ⟨rfl, hn⟩ | ⟨rfl, hn⟩ | ⟨rfl, hn⟩ | ⟨rfl, hn⟩ | ⟨rfl, hn⟩
    · obtain rfl : l = [] := List.length_eq_zero_iff.1 hn
      exact rW_word
    · exact rW_seq hkids hc1 (by omega)
    · exact rW_alt hkids
    · obtain ⟨x, hx⟩ := List.length_eq_one_iff.1 hn
      exact oft 4 (.inl rfl) x hx
    · obtain ⟨x, hx⟩ := List.length_eq_one_iff.1 hn
      exact oft 5 (.inr rfl) x hx
    · obtain ⟨x, rfl⟩ := List.length_eq_one_iff.1 hn
      exact rW_maybe (hkids x (by simp))
end Go.Proofs.Ythdnpddfdlhlaaa

namespace Go.Proofs.Ythdnpddfdlhlaaa
open Go.RowKit Go.Shelf

set_option maxRecDepth 100000 in
set_option maxHeartbeats 8000000 in
theorem pathWill_walk (t : Vt) (v : Value) (L : List Wd) (w : World) (h0 : VOk (fun _ => True) w t ∧ VCap t) (hv : TxtS (fun _ => True) w v L) (hcap : L.length ≤ 9223372036854775807 ∧ CapS v L.length) :
    Calls Try.prog 5 #[encN t, v] w fun e w' => e = .returned (.bool true) ∧ Below w.heap.size w w' := by
  obtain ⟨h, hvcap⟩ := h0
  have hcap2 := hcap.2
  obtain ⟨hvl, va, vc, rfl, hvc⟩ := hcap
  obtain ⟨ao, cap, hvv⟩ := h.parts.1.slice
  have hkl := h.parts.2.2.1
  obtain ⟨P, hP⟩ : ∃ P, P = t.pt := ⟨_, rfl⟩
  obtain ⟨b, hb⟩ : ∃ b, b = mayP P := ⟨_, rfl⟩
  obtain ⟨res, hres⟩ := known_some (willL P L)
  have HRES := Hid.mk hres
  have HV := Hid.mk hv
  have CF := Hid.mk (fun u (hu : Below w.heap.size w u) => flat_any (h.below hu))
  have CM : Hid (∀ u, Below w.heap.size w u → Calls Try.prog 23 #[encN t] u fun e w' => e = .returned (.bool b) ∧ Below u.heap.size u w') := Hid.mk (fun u hu => by rw [hb, hP]; exact rMayPath_any (h.below hu))
  have HHI : Hid (b = true → high P ≤ 12 ∧ leaves P ≤ 24) := Hid.mk (fun h1 => by rw [hb] at h1; exact ⟨may_high h1, may_leaves h1⟩)
  have CD : Hid (b = true → ∀ u, Below w.heap.size w u → Calls Try.prog 25 #[encN t] u fun e w' => e = .returned (.int .i64 (high P : Int)) ∧ Below u.heap.size u w') := Hid.mk (fun h1 u hu => by
    rw [hP]
    refine rDeep_any t u ?_ (h.below hu)
    have := (HHI.out h1).1
    rw [hP] at this
    omega)
  have CP : Hid (b = true → ∀ u, Below w.heap.size w u → Calls Try.prog 24 #[encN t] u fun e w' => e = .returned (.int .i64 (leaves P : Int)) ∧ Below u.heap.size u w') := Hid.mk (fun h1 u hu => by
    rw [hP]
    refine rPlaces_any t u ?_ (h.below hu)
    have := (HHI.out h1).2
    rw [hP] at this
    omega)
  have CO : Hid (b = true → ∀ u, Below w.heap.size w u → Calls Try.prog 11 #[encN t] u (OfE P u)) := Hid.mk (fun h1 u hu => by rw [hP]; exact of_may (h.below hu) (by rw [← hP, ← hb, h1]))
  have CW : Hid (b = true → L.length ≤ 6 → ∀ u, Below w.heap.size w u → Calls Try.prog 26 #[encN t, .slice va L.length vc] u fun e w' => e = .returned (.bool res) ∧ Below u.heap.size u w') := Hid.mk (fun h1 h6 u hu => by
    have hsh : shapedP 12 t.pt = true := by
      rw [hb, hP] at h1
      simp only [mayP, Bool.and_eq_true, decide_eq_true_eq] at h1
      exact h1.1
    exact Calls.known (rWill_any (S := fun _ => True) (T := fun _ => True) t 12 hsh hvcap u _ L (h.below hu) (hv.below hu) hcap2 (by omega)) (by rw [hres, hP]))
  have HB := Hid.mk hb
  obtain ⟨k, wd, kv, l⟩ := t
  dsimp only at hvv hkl
  subst hvv
  obtain ⟨nk, hnk⟩ : ∃ n, n = l.length := ⟨_, rfl⟩
  rw [← hnk] at CF CM CO CD CP CW hkl ⊢
  obtain ⟨n, hn⟩ : ∃ n, n = L.length := ⟨_, rfl⟩
  rw [← hn] at HV hvl hvc CW ⊢
  have HN := Hid.mk hn
  obtain ⟨lp, hlp⟩ : ∃ x, x = leaves P := ⟨_, rfl⟩
  obtain ⟨ip, hip⟩ : ∃ x, x = high P := ⟨_, rfl⟩
  rw [← hlp] at CP HHI
  rw [← hip] at CD HHI
  clear h hv hP hb hn hnk hres hcap2 hvcap hlp hip
  show Calls Try.prog _ #[.agg #[.int .i64 k, .string ⟨wd.toArray⟩, .slice ao nk cap], _] w _
  obtain ⟨o, ho⟩ : ∃ o, o = Obj.cells #[.int .i64 k, .string ⟨wd.toArray⟩, .slice ao nk cap] 24 := ⟨_, rfl⟩
  have HOB := Hid.mk ho
  have HC : Hid (∀ wr, Below (w.alloc o).heap.size (w.alloc o) wr → wr.cell? ⟨w.heap.size, 0, none⟩ = some (.int .i64 k) ∧ wr.cell? ⟨w.heap.size, 1, none⟩ = some (.string ⟨wd.toArray⟩) ∧ wr.cell? ⟨w.heap.size, 2, none⟩ = some (.slice ao nk cap)) := Hid.mk (fun wr hb => by
    have h := box_keptQ hb
    rw [HOB.out] at h
    exact (three_cells h).1)
  have HB0 : Hid (Below (w.alloc o).heap.size (w.alloc o) (w.alloc (.cells #[.int .i64 k, .string ⟨wd.toArray⟩, .slice ao nk cap] 24))) := Hid.mk (by rw [HOB.out]; exact Below.refl _ _)
  clear ho
  go_enter Try.func5, Try.ntmps5
  go_wp2_with fail
  refine (CF.out _ (below_boxQ HB0.out)).mono ?_
  rintro e w1 ⟨⟨fl, rfl⟩, hb1⟩
  have HB1 := Hid.mk (HB0.out.trans (hb1.mono HB0.out.size))
  clear hb1
  obtain ⟨c0, c1, c2⟩ := HC.out _ HB1.out
  cases fl with
  | false =>
    go_wp2_with fail
    refine (awake_any _).mono ?_
    rintro e w2 ⟨rfl, hb2⟩
    have HB2 := Hid.mk (HB1.out.trans (hb2.mono HB1.out.size))
    clear hb2
    go_wp2
    go_ret
    exact ⟨rfl, below_boxQ HB2.out⟩
  | true =>
    cases b with
    | false =>
      go_wp2_with fail
      refine (CM.out _ (below_boxQ HB1.out)).mono ?_
      rintro e w2 ⟨rfl, hb2⟩
      have HB2 := Hid.mk (HB1.out.trans (hb2.mono HB1.out.size))
      clear hb2 c0 c1 c2
      obtain ⟨c0, c1, c2⟩ := HC.out _ HB2.out
      go_wp2_with fail
      refine (awake_any _).mono ?_
      rintro e w3 ⟨rfl, hb3⟩
      have HB3 := Hid.mk (HB2.out.trans (hb3.mono HB2.out.size))
      clear hb3
      go_wp2
      go_ret
      exact ⟨rfl, below_boxQ HB3.out⟩
    | true =>
      have CO2 := Hid.mk (CO.out rfl)
      have CP2 := Hid.mk (CP.out rfl)
      have CD2 := Hid.mk (CD.out rfl)
      have hh := HHI.out rfl
      have CW2 := Hid.mk (CW.out rfl)
      clear CO CP CD CW
      go_wp2_with fail
      refine (CM.out _ (below_boxQ HB1.out)).mono ?_
      rintro e w2 ⟨rfl, hb2⟩
      have HB2 := Hid.mk (HB1.out.trans (hb2.mono HB1.out.size))
      clear hb2 c0 c1 c2
      obtain ⟨c0, c1, c2⟩ := HC.out _ HB2.out
      by_cases t1 : (8 : Int) < (lp : Int)
      · have t1b : decide ((8 : Int) < (lp : Int)) = true := decide_eq_true t1
        go_wp2_with fail
        refine (CP2.out _ (below_boxQ HB2.out)).mono ?_
        rintro e w3 ⟨rfl, hb3⟩
        have HB3 := Hid.mk (HB2.out.trans (hb3.mono HB2.out.size))
        clear hb3 c0 c1 c2
        obtain ⟨c0, c1, c2⟩ := HC.out _ HB3.out
        go_wp2_with fail
        refine (awake_any _).mono ?_
        rintro e w4 ⟨rfl, hb4⟩
        have HB4 := Hid.mk (HB3.out.trans (hb4.mono HB3.out.size))
        clear hb4
        go_wp2
        go_ret
        exact ⟨rfl, below_boxQ HB4.out⟩
      · have t1b : decide ((8 : Int) < (lp : Int)) = false := decide_eq_false t1
        go_wp2_with fail
        refine (CP2.out _ (below_boxQ HB2.out)).mono ?_
        rintro e w3 ⟨rfl, hb3⟩
        have HB3 := Hid.mk (HB2.out.trans (hb3.mono HB2.out.size))
        clear hb3 c0 c1 c2
        obtain ⟨c0, c1, c2⟩ := HC.out _ HB3.out
        by_cases t2 : (5 : Int) < (ip : Int)
        · have t2b : decide ((5 : Int) < (ip : Int)) = true := decide_eq_true t2
          go_wp2_with fail
          refine (CD2.out _ (below_boxQ HB3.out)).mono ?_
          rintro e w4 ⟨rfl, hb4⟩
          have HB4 := Hid.mk (HB3.out.trans (hb4.mono HB3.out.size))
          clear hb4 c0 c1 c2
          obtain ⟨c0, c1, c2⟩ := HC.out _ HB4.out
          go_wp2_with fail
          refine (awake_any _).mono ?_
          rintro e w5 ⟨rfl, hb5⟩
          have HB5 := Hid.mk (HB4.out.trans (hb5.mono HB4.out.size))
          clear hb5
          go_wp2
          go_ret
          exact ⟨rfl, below_boxQ HB5.out⟩
        · have t2b : decide ((5 : Int) < (ip : Int)) = false := decide_eq_false t2
          go_wp2_with fail
          refine (CD2.out _ (below_boxQ HB3.out)).mono ?_
          rintro e w4 ⟨rfl, hb4⟩
          have HB4 := Hid.mk (HB3.out.trans (hb4.mono HB3.out.size))
          clear hb4 c0 c1 c2
          obtain ⟨c0, c1, c2⟩ := HC.out _ HB4.out
          by_cases t3 : (6 : Int) < (n : Int)
          · have t3b : decide ((6 : Int) < (n : Int)) = true := decide_eq_true t3
            go_wp2_with fail
            refine (awake_any _).mono ?_
            rintro e w5 ⟨rfl, hb5⟩
            have HB5 := Hid.mk (HB4.out.trans (hb5.mono HB4.out.size))
            clear hb5
            go_wp2
            go_ret
            exact ⟨rfl, below_boxQ HB5.out⟩
          · have t3b : decide ((6 : Int) < (n : Int)) = false := decide_eq_false t3
            have hn6 : n ≤ 6 := by omega
            have CW3 := Hid.mk (CW2.out hn6)
            go_wp2_with fail
            refine (CO2.out _ (below_boxQ HB4.out)).mono ?_
            rintro e w5 ⟨m, rfl, hu, ha, hb5⟩
            have HB5 := Hid.mk (HB4.out.trans (hb5.mono HB4.out.size))
            clear hb5 c0 c1 c2
            have hacc : accB m.au L = res := bool_iff (by rw [ha L, HRES.out])
            have CA : Hid (∀ u, Below w5.heap.size w5 u → Calls Try.prog 16 #[encU m, .slice va n vc] u fun e w' => e = .returned (.bool res) ∧ Below u.heap.size u w') := Hid.mk (fun u hu2 => by
              have h := acc_any (hu.below hu2) (HV.out.below (below_boxQ (HB5.out.trans (hu2.mono HB5.out.size)))) (by rw [← HN.out]; omega)
              rw [hacc] at h
              exact h)
            obtain ⟨wa, wc, fa, fc, la, lc, oa, oc, e1, e2, e3, e4⟩ := hu.slices
            obtain ⟨mv, mws, mfv, mfs, mlv, mls, mov, mos, mem⟩ := m
            dsimp only at e1 e2 e3 e4 CA
            subst e1 e2 e3 e4
            clear hu ha hacc
            obtain ⟨o2, ho2⟩ : ∃ o, o = Obj.cells #[.slice wa mws.length wc, .slice fa mfs.length fc, .slice la mls.length lc, .slice oa mos.length oc, .bool mem] 31 := ⟨_, rfl⟩
            have HO2 := Hid.mk ho2
            have KC : Hid (∀ u, Below (w5.alloc o2).heap.size (w5.alloc o2) u → (u.cell? ⟨w5.heap.size, 0, none⟩ = some (.slice wa mws.length wc) ∧ u.cell? ⟨w5.heap.size, 1, none⟩ = some (.slice fa mfs.length fc) ∧ u.cell? ⟨w5.heap.size, 2, none⟩ = some (.slice la mls.length lc) ∧ u.cell? ⟨w5.heap.size, 3, none⟩ = some (.slice oa mos.length oc) ∧ u.cell? ⟨w5.heap.size, 4, none⟩ = some (.bool mem)) ∧ (u.cell? ⟨w.heap.size, 0, none⟩ = some (.int .i64 k) ∧ u.cell? ⟨w.heap.size, 1, none⟩ = some (.string ⟨wd.toArray⟩) ∧ u.cell? ⟨w.heap.size, 2, none⟩ = some (.slice ao nk cap))) := Hid.mk (fun u hu => by
              have h := box_keptQ hu
              rw [HO2.out] at h
              exact ⟨cells5 h, HC.out u (HB5.out.trans ((below_boxQ hu).mono HB5.out.size))⟩)
            have KB : Hid (∀ u, Below (w5.alloc o2).heap.size (w5.alloc o2) u → Below w5.heap.size w5 u ∧ Below w.heap.size w u) := Hid.mk (fun u hu => ⟨below_boxQ hu, below_boxQ (HB5.out.trans ((below_boxQ hu).mono HB5.out.size))⟩)
            have HD : Hid (Below (w5.alloc o2).heap.size (w5.alloc o2) (w5.alloc (.cells #[.slice wa mws.length wc, .slice fa mfs.length fc, .slice la mls.length lc, .slice oa mos.length oc, .bool mem] 31)).drew) := Hid.mk (by rw [HO2.out]; exact (Below.refl _ _).drew)
            have hbb : (res == res) = true := by simp
            clear ho2
            go_wp2_with fail
            go_region_held3 (fun u => (u.cell? ⟨w5.heap.size, 0, none⟩ = some (.slice wa mws.length wc) ∧ u.cell? ⟨w5.heap.size, 1, none⟩ = some (.slice fa mfs.length fc) ∧ u.cell? ⟨w5.heap.size, 2, none⟩ = some (.slice la mls.length lc) ∧ u.cell? ⟨w5.heap.size, 3, none⟩ = some (.slice oa mos.length oc) ∧ u.cell? ⟨w5.heap.size, 4, none⟩ = some (.bool mem)) ∧ (u.cell? ⟨w.heap.size, 0, none⟩ = some (.int .i64 k) ∧ u.cell? ⟨w.heap.size, 1, none⟩ = some (.string ⟨wd.toArray⟩) ∧ u.cell? ⟨w.heap.size, 2, none⟩ = some (.slice ao nk cap)))
              (first | with_reducible exact KC.out _ HD.out | with_reducible exact KC.out _ h8 | with_reducible exact KC.out _ h7 | with_reducible exact KC.out _ h6)
              (first
                | (go_at_call 16; with_reducible refine (CA.out _ (KB.out _ HD.out).1).mono ?_; rintro e w6 ⟨rfl, hb6⟩; have h6 := HD.out.trans (hb6.mono HD.out.size))
                | (go_at_call 26; with_reducible refine (CW3.out _ (KB.out _ h6).2).mono ?_; rintro e w7 ⟨rfl, hb7⟩; have h7 := h6.trans (hb7.mono h6.size))
                | (go_at_call 10; refine (awake_any _).mono ?_; rintro e w8 ⟨rfl, hb8⟩; have h8 := h7.trans (hb8.mono h7.size)))
            all_goals (
              have H8 := Hid.mk h8
              clear h6 h7 h8 hb6 hb7 hb8
              go_wp2
              go_ret
              exact ⟨rfl, (KB.out _ H8.out).2⟩)
end Go.Proofs.Ythdnpddfdlhlaaa
