/- Sorted of the document. -/
import Derived.Test.YtapdjolgdocilaaVLaws1
import Derived.Deep.Slices
namespace Go.Proofs.Ytapdjolgdocilaa
open Go.RowKit

/-- The first i numbers, in the order of their words. -/
def SortsN (ss : List (List UInt8)) (i : Nat) (is : List Nat) : Prop := is.Perm (List.range i) ∧ is.Pairwise (fun x y => less (wordAt ss x) (wordAt ss y) = true)
theorem SortsN.len {ss : List (List UInt8)} {i : Nat} {is : List Nat} (h : SortsN ss i is) : is.length = i := by have := h.1.length_eq; simpa using this
theorem SortsN.lt {ss : List (List UInt8)} {i x : Nat} {is : List Nat} (h : SortsN ss i is) (hx : x ∈ is) : x < i := by have := h.1.mem_iff.1 hx; simpa using this
theorem sortsN_step {ss : List (List UInt8)} {i k : Nat} {is : List Nat} (ho : Once ss) (hi : i < ss.length) (h : SortsN ss i is) (h1 : ∀ x ∈ is.take k, less (wordAt ss x) (wordAt ss i) = true) (h2 : ∀ x, is[k]? = some x → less (wordAt ss x) (wordAt ss i) = false) :
    SortsN ss (i + 1) (is.take k ++ i :: is.drop k) := by
  refine ⟨?_, ?_⟩
  · rw [List.range_succ]
    refine List.Perm.trans List.perm_middle ?_
    rw [List.take_append_drop]
    refine ((List.Perm.cons i h.1)).trans ?_
    exact (List.perm_append_singleton i (List.range i)).symm
  · have hp := h.2
    rw [← List.take_append_drop k is, List.pairwise_append] at hp
    obtain ⟨p1, p2, p3⟩ := hp
    have hd : ∀ x ∈ is.drop k, less (wordAt ss i) (wordAt ss x) = true := by
      have first : ∀ x, is[k]? = some x → less (wordAt ss i) (wordAt ss x) = true := fun x hx => by
        cases hc : less (wordAt ss i) (wordAt ss x) with
        | true => rfl
        | false =>
          have e := less_cases _ _ hc (h2 x hx)
          have hxl := h.lt (List.mem_of_getElem? hx)
          have := ho i x _ (at_wordAt hi) (by rw [e]; exact at_wordAt (by omega))
          omega
      intro x hx
      cases hd : is.drop k with
      | nil => rw [hd] at hx; simp at hx
      | cons y l =>
        have hy : is[k]? = some y := by
          have : (is.drop k)[0]? = some y := by rw [hd]; rfl
          rwa [List.getElem?_drop] at this
        rw [hd] at hx p2
        rcases List.mem_cons.1 hx with rfl | hx
        · exact first _ hy
        · exact less_trans _ _ _ (first y hy) ((List.pairwise_cons.1 p2).1 x hx)
    rw [List.pairwise_append]
    refine ⟨p1, List.pairwise_cons.2 ⟨hd, p2⟩, fun a ha b hb => ?_⟩
    rcases List.mem_cons.1 hb with rfl | hb
    · exact h1 a ha
    · exact p3 a ha b hb
theorem take_succ_less {ss : List (List UInt8)} {i k x : Nat} {is : List Nat} (h1 : ∀ x ∈ is.take k, less (wordAt ss x) (wordAt ss i) = true) (hx : is[k]? = some x) (hl : less (wordAt ss x) (wordAt ss i) = true) : ∀ x ∈ is.take (k + 1), less (wordAt ss x) (wordAt ss i) = true := by
  intro y hy
  rw [List.take_add_one, hx] at hy
  rcases List.mem_append.1 hy with hy | hy
  · exact h1 y hy
  · simp at hy; rw [hy]; exact hl

theorem natCs_one (l : List Nat) : ∀ u ∈ natCs l, u.oneCell' = true := by
  intro u hu
  obtain ⟨y, _, rfl⟩ := List.mem_map.1 hu
  rfl
theorem owns_nat {w : World} {B n : Nat} {v : Value} {l : List Nat} (h : w.ownsRow B 3 1 v n (natCs l)) {k x : Nat} (hk : l[k]? = some x) : ∃ g cap, v = .slice (some ⟨g, 0, none⟩) n cap ∧ n ≤ cap ∧ w.cell? ⟨g, k, none⟩ = some (.int .i64 (x : Int)) := by
  have hl : n = l.length := by have := h.1; simp [natCs] at this; omega
  have hk2 := (List.getElem?_eq_some_iff.1 hk).1
  rcases h.2 with ⟨_, h0⟩ | ⟨g, cap, cur, rfl, _, _, e4, _⟩
  · omega
  · have hc := h.cellAt k (by omega)
    exact ⟨g, cap, rfl, e4, by rw [hc, natCs, List.getElem?_map, hk]; rfl⟩
/-- The numbers in a row that is kept. -/
def RowI (w : World) (g : Nat) (l : List Nat) : Prop := ∀ (k x : Nat), l[k]? = some x → w.cell? ⟨g, k, none⟩ = some (.int .i64 (x : Int))

set_option maxRecDepth 100000 in
set_option maxHeartbeats 8000000 in
theorem rSorted_any {S : Nat → Prop} {w : World} {v : Value} {ss : List (List UInt8)} (h : StrsS S w v ss) (ho : Once ss) (hl : ss.length ≤ 1000000) :
    Calls Try.prog 18 #[v] w fun e w' => ∃ (ao : Option Addr) (c : Nat) (is : List Nat), e = .returned (.slice ao is.length c) ∧ Sorts ss is ∧ w'.ownsRow w.heap.size 3 1 (.slice ao is.length c) is.length (natCs is) ∧ Below w.heap.size w w' := by
  obtain ⟨_, _, ao, cap, rfl, hc⟩ := h
  have HC := Hid.mk hc
  have HO := Hid.mk ho
  obtain ⟨i0, hi0, hz0, hz1, hz2⟩ := info_parts infoI
  clear hc ho
  go_enter Try.func18, Try.ntmps18
  go_wp2
  go_loopw [3, 4] (fun vo c wr => ∃ (i : Nat) (is : List Nat), c = .int .i64 i ∧ i ≤ ss.length ∧ SortsN ss i is ∧ (vo = .slice none 0 0 ∨ 0 < i) ∧ wr.ownsRow w.heap.size 3 1 vo i (natCs is) ∧ Below w.heap.size w wr) (fun _ c _ => ss.length - (intOf c).toNat)
  case atStart => exact ⟨0, [], rfl, Nat.zero_le _, ⟨List.Perm.refl _, List.Pairwise.nil⟩, .inl rfl, World.ownsRow_nil _ _ _ _, Below.refl _ _⟩
  case round =>
    obtain ⟨i, is, rfl, hil, hso, hvo, hown, hbel⟩ := hrel
    have HSO := Hid.mk hso
    have hisl := hso.len
    obtain ⟨ao1, cap1, hva⟩ := own_slice hown
    subst hva
    have OWN := Hid.mk hown
    have BEL := Hid.mk hbel
    have hsz := hbel.size
    clear hso hown hbel
    by_cases hlt : i < ss.length
    · have hltI : (i : Int) < (ss.length : Int) := by omega
      obtain ⟨t, ht⟩ : ∃ t, ss[i]? = some t := ⟨_, List.getElem?_eq_getElem hlt⟩
      rcases HC.out with hnil | ⟨b, o, rfl, _, hb, hcs⟩
      · rw [hnil] at ht; simp at ht
      · by_cases h0 : i = 0
        · subst h0
          have hv0 : ao1 = none ∧ cap1 = 0 := by
            rcases hvo with h | h
            · injection h with h1 _ h2
              exact ⟨h1, h2⟩
            · omega
          obtain ⟨rfl, rfl⟩ := hv0
          have his : is = [] := List.length_eq_zero_iff.1 hisl
          subst his
          obtain ⟨W, hW⟩ : ∃ W, W = wr := ⟨_, rfl⟩
          subst hW
          go_wp2_with fail
          go_loopw [5] (fun c wr => c = .int .i64 0 ∧ Below W.heap.size W wr) (fun _ _ => 0)
          case atStart => exact ⟨rfl, Below.refl _ _⟩
          case round =>
            obtain ⟨rfl, hbr⟩ := hrel
            go_wp2_with fail
            go_quiet (fail)
            have hbq := below_drewN hbr nq
            obtain ⟨W3, hW3⟩ : ∃ X, X = wr.drewN nq := ⟨_, rfl⟩
            rw [← hW3] at hbq ⊢
            have HB3 : Hid (Below w.heap.size w W3) := Hid.mk (BEL.out.trans (hbq.mono hsz))
            have hsz3 := HB3.out.size
            clear hbq hW3 hbr
            go_wp2_with (at_builtin; refine wpList_append_lies _ rfl (.tmp 38) (.tmp 40) _ rfl w.heap.size 3 i0 _ 1 8 Try.underlying34 hi0 hz0 hz1 hz2 rfl (by decide) (.slice none 0 0) 0 [] (by rfl) (World.ownsRow_nil _ _ _ _) ⟨W3.heap.size, 0, none⟩ 1 1 [.int .i64 0] (by rfl) (by rfl) (World.news_of_block (cs := #[.int .i64 0]) (t := 3) (fr := (0, 0)) (heap_alloc_new W3 _)) (by simp [Value.oneCell']) (by decide) (by decide) (by omega) (by simp; omega) (W3.heap.size + 1) (by simp) ?_)
            intro gg cap3 w4 hown4 hgrow4 hat4 hlt4
            have HB4 : Hid (Below w.heap.size w w4) := Hid.mk ((HB3.out.alloc (by omega) _).grown hgrow4 (by simp; omega) (by simp [Value.ownBlock]))
            have O4 := Hid.mk hown4
            have hsz4 := HB4.out.size
            clear hown4 hgrow4 hat4 hlt4
            go_wp2_with (at_builtin; refine wpList_append_vals rfl (.tmp 42) (.tmp 45) rfl Try.underlying34 hi0 hz0 hz1 hz2 rfl (by rfl) O4.out none [] 0 0 (by rfl) rfl (fun _ => ⟨rfl, rfl⟩) (fun ad h => by cases h) (fun u hu => by simp at hu) (by decide) (by decide) hsz4 ?_)
            intro v5 w5 hown5 hgrow5 _
            have HB5 : Hid (Below w.heap.size w w5) := Hid.mk (HB4.out.grown hgrow5 hsz4 (fun k hk => (O4.out.lt k hk).1))
            have O5 := Hid.mk hown5
            have S5 : Hid (SortsN ss 1 [0]) := Hid.mk ⟨by decide, by simp⟩
            clear hown5 hgrow5
            go_wp2
            go_roundw
            case rel => exact ⟨1, [0], by rfl, by omega, S5.out, .inr (by decide), O5.out, HB5.out⟩
            case measure => simp [intOf]; omega
        · obtain ⟨x0, hx0⟩ : ∃ x, is[0]? = some x := ⟨_, List.getElem?_eq_getElem (by omega)⟩
          obtain ⟨g, c1, ev, hic, _⟩ := owns_nat OWN.out hx0
          injection ev with e1 _ e2
          subst e1 e2
          have ROW : Hid (RowI wr g is) := Hid.mk (fun k x hk => by
            obtain ⟨g2, c2, ev2, _, hc⟩ := owns_nat OWN.out hk
            injection ev2 with e1 _ _
            injection e1 with e1
            injection e1 with e1 _ _
            subst e1
            exact hc)
          have hgl : g < wr.heap.size := own_lt OWN.out rfl
          obtain ⟨W, hW⟩ : ∃ W, W = wr := ⟨_, rfl⟩
          subst hW
          have LC : Hid (∀ wr k u, Below W.heap.size W wr → ss[k]? = some u → wr.cell? ⟨b, o + k, none⟩ = some (.string ⟨u.toArray⟩)) := Hid.mk (fun wr k u hg hk => ((BEL.out.trans (hg.mono hsz)).cell (p := ⟨b, o + k, none⟩) hb).trans (hcs k u hk))
          have HT := Hid.mk ht
          have HWT := Hid.mk (wordAt_of ht)
          clear hx0 hcs ht hvo
          go_wp2_with fail
          go_loopw [5] (fun c wr => ∃ k : Nat, c = .int .i64 k ∧ k ≤ i ∧ (∀ x ∈ is.take k, less (wordAt ss x) (wordAt ss i) = true) ∧ Below W.heap.size W wr) (fun c _ => i - (intOf c).toNat)
          case atStart => exact ⟨0, rfl, Nat.zero_le _, by simp, Below.refl _ _⟩
          case round =>
            obtain ⟨k, rfl, hki, h1, hbr⟩ := hrel
            have H1 := Hid.mk h1
            clear h1
            by_cases hk : k < i
            · have hkI : (k : Int) < (i : Int) := by omega
              obtain ⟨x, hx⟩ : ∃ x, is[k]? = some x := ⟨_, List.getElem?_eq_getElem (by omega)⟩
              have hxi : x < i := HSO.out.lt (List.mem_of_getElem? hx)
              obtain ⟨u, hu⟩ : ∃ u, ss[x]? = some u := ⟨_, List.getElem?_eq_getElem (by omega)⟩
              have cx := (hbr.cell (p := ⟨g, k, none⟩) hgl).trans (ROW.out k x hx)
              have ct := LC.out wr i t hbr HT.out
              have cu := LC.out wr x u hbr hu
              have HWU := Hid.mk (wordAt_of hu)
              have HX := Hid.mk hx
              have hxs : (x : Int) < (ss.length : Int) := by omega
              clear hx hu
              cases hls : Op.bytesLess u t with
              | true =>
                have HN := Hid.mk (take_succ_less H1.out HX.out (by rw [HWT.out, HWU.out]; exact hls))
                go_wp2_with fail
                go_quiet (fail)
                have hbq := below_drewN hbr nq
                go_wp2
                go_roundw
                case rel => exact ⟨k + 1, by go_num, by omega, HN.out, hbq⟩
                case measure => simp [intOf]; omega
              | false =>
                have H2 : Hid (∀ y, is[k]? = some y → less (wordAt ss y) (wordAt ss i) = false) := Hid.mk (fun y hy => by
                  rw [HX.out] at hy
                  rw [← Option.some.inj hy, HWT.out, HWU.out]; exact hls)
                go_wp2_with fail
                go_quiet (fail)
                clear hls
                have HSN := Hid.mk (sortsN_step HO.out hlt HSO.out H1.out H2.out)
                have hkc : k ≤ cap1 := by omega
                have hkcI : (k : Int) ≤ (cap1 : Int) := by omega
                have hkiI : (k : Int) ≤ (i : Int) := by omega
                have hbq := below_drewN hbr nq
                obtain ⟨W3, hW3⟩ : ∃ X, X = wr.drewN nq := ⟨_, rfl⟩
                rw [← hW3] at hbq ⊢
                have HBW3 := Hid.mk hbq
                have hs3 := hbq.size
                clear hbq hW3 hbr cx ct cu
                go_wp2_with (at_builtin; refine wpList_append_vals rfl (.tmp 33) (.tmp 36) rfl Try.underlying34 hi0 hz0 hz1 hz2 rfl (by rfl) (World.ownsRow_nil _ w.heap.size _ _) (some ⟨g, 0, none⟩) (natCs (is.take k)) k cap1 (by rfl) ?a1 (fun h => by cases h) ?a2 (natCs_one _) ?a3 ?a4 ?a5 ?_)
                case a1 => rw [natCs_len, List.length_take]; omega
                case a2 =>
                  intro ad e j u hu
                  obtain rfl := Option.some.inj e
                  rw [natCs, List.getElem?_map] at hu
                  obtain ⟨y, hy, rfl⟩ := Option.map_eq_some_iff.1 hu
                  rw [Go.WideShapes.add_plain, Nat.zero_add]
                  have hj : j < k := by have := (List.getElem?_eq_some_iff.1 hy).1; rw [List.length_take] at this; omega
                  rw [List.getElem?_take, if_pos hj] at hy
                  exact (HBW3.out.cell (p := ⟨g, j, none⟩) hgl).trans (ROW.out j y hy)
                case a3 => rw [natCs_len, List.length_take]; unfold maxLen; omega
                case a4 => rw [natCs_len, List.length_take]; omega
                case a5 => omega
                intro v4 w4 hown4 hgrow4 hat4
                have HB4 : Hid (Below W.heap.size W w4) := Hid.mk (HBW3.out.grown hgrow4 hs3 (by simp [Value.ownBlock]))
                have hs4 := HB4.out.size
                have A4 : Hid (∀ x, v4.ownBlock = some x → W.heap.size ≤ x) := Hid.mk (fun x hx => by
                  rcases hat4 with e | e
                  · rw [hx] at e; simp [Value.ownBlock] at e
                  · rw [hx] at e; have := Option.some.inj e; omega)
                have O4 : Hid (w4.ownsRow w.heap.size 3 1 v4 k (natCs (is.take k))) := Hid.mk (by simpa using hown4)
                obtain ⟨ao4, cap4, hv4⟩ := own_slice O4.out
                subst hv4
                clear hown4 hgrow4 hat4
                go_wp2_with (at_builtin; refine wpList_append_lies _ rfl (.tmp 38) (.tmp 40) _ rfl w.heap.size 3 i0 _ 1 8 Try.underlying34 hi0 hz0 hz1 hz2 rfl (by decide) (.slice ao4 k cap4) k _ (by rfl) (O4.out.alloc _) ⟨w4.heap.size, 0, none⟩ 1 1 [.int .i64 (i : Int)] (by rfl) (by rfl) (World.news_of_block (cs := #[.int .i64 (i : Int)]) (t := 3) (fr := (0, 0)) (heap_alloc_new w4 _)) (by simp [Value.oneCell']) (by decide) (by unfold maxLen; omega) (by omega) (by simp; omega) (w4.heap.size + 1) (by simp) ?_)
                intro gg cap5 w5 hown5 hgrow5 hat5 hlt5
                have HB5 : Hid (Below W.heap.size W w5) := Hid.mk ((HB4.out.alloc (by omega) _).grown hgrow5 (by simp; omega) (fun x hx => A4.out x hx))
                have hs5 := HB5.out.size
                have A5 : Hid (W.heap.size ≤ gg) := Hid.mk (by
                  rcases hat5 with e | e
                  · exact A4.out gg e
                  · omega)
                have O5 := Hid.mk hown5
                clear hown5 hgrow5 hat5 hlt5
                go_wp2_with (at_builtin; refine wpList_append_vals rfl (.tmp 42) (.tmp 45) rfl Try.underlying34 hi0 hz0 hz1 hz2 rfl (by rfl) O5.out _ (natCs (is.drop k)) _ _ (by rfl) ?b1 (fun h => by first | (cases h; done) | (simp at h; done)) ?b3 (natCs_one _) ?b4 ?b5 ?b6 ?_)
                case b1 => rw [natCs_len, List.length_drop]; omega
                case b3 =>
                  intro ad e j u hu
                  obtain rfl := Option.some.inj e
                  rw [natCs, List.getElem?_map] at hu
                  obtain ⟨y, hy, rfl⟩ := Option.map_eq_some_iff.1 hu
                  rw [List.getElem?_drop] at hy
                  rw [Go.WideShapes.add_plain]
                  exact (HB5.out.cell (p := ⟨g, k + j, none⟩) hgl).trans (ROW.out (k + j) y hy)
                case b4 => rw [natCs_len, List.length_drop]; unfold maxLen; omega
                case b5 => rw [natCs_len, List.length_drop]; omega
                case b6 => omega
                intro v6 w6 hown6 hgrow6 _
                have HB6 : Hid (Below w.heap.size w w6) := Hid.mk (BEL.out.trans ((HB5.out.grown hgrow6 hs5 (fun y hy => by
                  have e : gg = y := by simpa [Value.ownBlock] using hy
                  rw [← e]; exact A5.out)).mono hsz))
                have O6 : Hid (w6.ownsRow w.heap.size 3 1 v6 (i + 1) (natCs (is.take k ++ i :: is.drop k))) := Hid.mk (by
                  have e1 : natCs (is.take k ++ i :: is.drop k) = natCs (is.take k) ++ Value.int IntKind.i64 (i : Int) :: natCs (is.drop k) := by simp [natCs]
                  rw [e1, show i + 1 = k + 1 + (i - k) by omega]
                  simpa using hown6)
                clear hown6 hgrow6
                go_wp2
                go_roundw
                case rel => exact ⟨i + 1, is.take k ++ i :: is.drop k, by go_num, by omega, HSN.out, .inr (by omega), O6.out, HB6.out⟩
                case measure => simp [intOf]; omega
            · obtain rfl : k = i := by omega
              have H2 : Hid (∀ y, is[k]? = some y → less (wordAt ss y) (wordAt ss k) = false) := Hid.mk (fun y hy => by
                have := (List.getElem?_eq_some_iff.1 hy).1
                omega)
              by_cases hcc : k = cap1
              · subst hcc
                go_wp2_with fail
                go_quiet (fail)
                have HSN := Hid.mk (sortsN_step HO.out hlt HSO.out H1.out H2.out)
                have hkc : k ≤ k := by omega
                have hkcI : (k : Int) ≤ (k : Int) := by omega
                have hkiI : (k : Int) ≤ (k : Int) := by omega
                have hbq := below_drewN hbr nq
                obtain ⟨W3, hW3⟩ : ∃ X, X = wr.drewN nq := ⟨_, rfl⟩
                rw [← hW3] at hbq ⊢
                have HBW3 := Hid.mk hbq
                have hs3 := hbq.size
                clear hbq hW3 hbr
                go_wp2_with (at_builtin; refine wpList_append_vals rfl (.tmp 33) (.tmp 36) rfl Try.underlying34 hi0 hz0 hz1 hz2 rfl (by rfl) (World.ownsRow_nil _ w.heap.size _ _) (some ⟨g, 0, none⟩) (natCs (is.take k)) k k (by rfl) ?a1 (fun h => by cases h) ?a2 (natCs_one _) ?a3 ?a4 ?a5 ?_)
                case a1 => rw [natCs_len, List.length_take]; omega
                case a2 =>
                  intro ad e j u hu
                  obtain rfl := Option.some.inj e
                  rw [natCs, List.getElem?_map] at hu
                  obtain ⟨y, hy, rfl⟩ := Option.map_eq_some_iff.1 hu
                  rw [Go.WideShapes.add_plain, Nat.zero_add]
                  have hj : j < k := by have := (List.getElem?_eq_some_iff.1 hy).1; rw [List.length_take] at this; omega
                  rw [List.getElem?_take, if_pos hj] at hy
                  exact (HBW3.out.cell (p := ⟨g, j, none⟩) hgl).trans (ROW.out j y hy)
                case a3 => rw [natCs_len, List.length_take]; unfold maxLen; omega
                case a4 => rw [natCs_len, List.length_take]; omega
                case a5 => omega
                intro v4 w4 hown4 hgrow4 hat4
                have HB4 : Hid (Below W.heap.size W w4) := Hid.mk (HBW3.out.grown hgrow4 hs3 (by simp [Value.ownBlock]))
                have hs4 := HB4.out.size
                have A4 : Hid (∀ x, v4.ownBlock = some x → W.heap.size ≤ x) := Hid.mk (fun x hx => by
                  rcases hat4 with e | e
                  · rw [hx] at e; simp [Value.ownBlock] at e
                  · rw [hx] at e; have := Option.some.inj e; omega)
                have O4 : Hid (w4.ownsRow w.heap.size 3 1 v4 k (natCs (is.take k))) := Hid.mk (by simpa using hown4)
                obtain ⟨ao4, cap4, hv4⟩ := own_slice O4.out
                subst hv4
                clear hown4 hgrow4 hat4
                go_wp2_with (at_builtin; refine wpList_append_lies _ rfl (.tmp 38) (.tmp 40) _ rfl w.heap.size 3 i0 _ 1 8 Try.underlying34 hi0 hz0 hz1 hz2 rfl (by decide) (.slice ao4 k cap4) k _ (by rfl) (O4.out.alloc _) ⟨w4.heap.size, 0, none⟩ 1 1 [.int .i64 (k : Int)] (by rfl) (by rfl) (World.news_of_block (cs := #[.int .i64 (k : Int)]) (t := 3) (fr := (0, 0)) (heap_alloc_new w4 _)) (by simp [Value.oneCell']) (by decide) (by unfold maxLen; omega) (by omega) (by simp; omega) (w4.heap.size + 1) (by simp) ?_)
                intro gg cap5 w5 hown5 hgrow5 hat5 hlt5
                have HB5 : Hid (Below W.heap.size W w5) := Hid.mk ((HB4.out.alloc (by omega) _).grown hgrow5 (by simp; omega) (fun x hx => A4.out x hx))
                have hs5 := HB5.out.size
                have A5 : Hid (W.heap.size ≤ gg) := Hid.mk (by
                  rcases hat5 with e | e
                  · exact A4.out gg e
                  · omega)
                have O5 := Hid.mk hown5
                clear hown5 hgrow5 hat5 hlt5
                go_wp2_with (at_builtin; refine wpList_append_vals rfl (.tmp 42) (.tmp 45) rfl Try.underlying34 hi0 hz0 hz1 hz2 rfl (by rfl) O5.out _ (natCs (is.drop k)) _ _ (by rfl) ?b1 (fun h => by first | (cases h; done) | (simp at h; done)) ?b3 (natCs_one _) ?b4 ?b5 ?b6 ?_)
                case b1 => rw [natCs_len, List.length_drop]; omega
                case b3 =>
                  intro ad _ j u hu
                  rw [List.drop_of_length_le (by omega)] at hu
                  simp [natCs] at hu
                case b4 => rw [natCs_len, List.length_drop]; unfold maxLen; omega
                case b5 => rw [natCs_len, List.length_drop]; omega
                case b6 => omega
                intro v6 w6 hown6 hgrow6 _
                have HB6 : Hid (Below w.heap.size w w6) := Hid.mk (BEL.out.trans ((HB5.out.grown hgrow6 hs5 (fun y hy => by
                  have e : gg = y := by simpa [Value.ownBlock] using hy
                  rw [← e]; exact A5.out)).mono hsz))
                have O6 : Hid (w6.ownsRow w.heap.size 3 1 v6 (k + 1) (natCs (is.take k ++ k :: is.drop k))) := Hid.mk (by
                  have e1 : natCs (is.take k ++ k :: is.drop k) = natCs (is.take k) ++ Value.int IntKind.i64 (k : Int) :: natCs (is.drop k) := by simp [natCs]
                  rw [e1, show k + 1 = k + 1 + (k - k) by omega]
                  simpa using hown6)
                clear hown6 hgrow6
                go_wp2
                go_roundw
                case rel => exact ⟨k + 1, is.take k ++ k :: is.drop k, by go_num, by omega, HSN.out, .inr (by omega), O6.out, HB6.out⟩
                case measure => simp [intOf]; omega
              · have hkc2 : k < cap1 := by omega
                have hkc3 : (k : Int) < (cap1 : Int) := by omega
                have hkc4 : ¬ cap1 = k := by omega
                go_wp2_with fail
                go_quiet (fail)
                have HSN := Hid.mk (sortsN_step HO.out hlt HSO.out H1.out H2.out)
                have hkc : k ≤ cap1 := by omega
                have hkcI : (k : Int) ≤ (cap1 : Int) := by omega
                have hkiI : (k : Int) ≤ (k : Int) := by omega
                have hbq := below_drewN hbr nq
                obtain ⟨W3, hW3⟩ : ∃ X, X = wr.drewN nq := ⟨_, rfl⟩
                rw [← hW3] at hbq ⊢
                have HBW3 := Hid.mk hbq
                have hs3 := hbq.size
                clear hbq hW3 hbr
                go_wp2_with (at_builtin; refine wpList_append_vals rfl (.tmp 33) (.tmp 36) rfl Try.underlying34 hi0 hz0 hz1 hz2 rfl (by rfl) (World.ownsRow_nil _ w.heap.size _ _) (some ⟨g, 0, none⟩) (natCs (is.take k)) k cap1 (by rfl) ?a1 (fun h => by cases h) ?a2 (natCs_one _) ?a3 ?a4 ?a5 ?_)
                case a1 => rw [natCs_len, List.length_take]; omega
                case a2 =>
                  intro ad e j u hu
                  obtain rfl := Option.some.inj e
                  rw [natCs, List.getElem?_map] at hu
                  obtain ⟨y, hy, rfl⟩ := Option.map_eq_some_iff.1 hu
                  rw [Go.WideShapes.add_plain, Nat.zero_add]
                  have hj : j < k := by have := (List.getElem?_eq_some_iff.1 hy).1; rw [List.length_take] at this; omega
                  rw [List.getElem?_take, if_pos hj] at hy
                  exact (HBW3.out.cell (p := ⟨g, j, none⟩) hgl).trans (ROW.out j y hy)
                case a3 => rw [natCs_len, List.length_take]; unfold maxLen; omega
                case a4 => rw [natCs_len, List.length_take]; omega
                case a5 => omega
                intro v4 w4 hown4 hgrow4 hat4
                have HB4 : Hid (Below W.heap.size W w4) := Hid.mk (HBW3.out.grown hgrow4 hs3 (by simp [Value.ownBlock]))
                have hs4 := HB4.out.size
                have A4 : Hid (∀ x, v4.ownBlock = some x → W.heap.size ≤ x) := Hid.mk (fun x hx => by
                  rcases hat4 with e | e
                  · rw [hx] at e; simp [Value.ownBlock] at e
                  · rw [hx] at e; have := Option.some.inj e; omega)
                have O4 : Hid (w4.ownsRow w.heap.size 3 1 v4 k (natCs (is.take k))) := Hid.mk (by simpa using hown4)
                obtain ⟨ao4, cap4, hv4⟩ := own_slice O4.out
                subst hv4
                clear hown4 hgrow4 hat4
                go_wp2_with (at_builtin; refine wpList_append_lies _ rfl (.tmp 38) (.tmp 40) _ rfl w.heap.size 3 i0 _ 1 8 Try.underlying34 hi0 hz0 hz1 hz2 rfl (by decide) (.slice ao4 k cap4) k _ (by rfl) (O4.out.alloc _) ⟨w4.heap.size, 0, none⟩ 1 1 [.int .i64 (k : Int)] (by rfl) (by rfl) (World.news_of_block (cs := #[.int .i64 (k : Int)]) (t := 3) (fr := (0, 0)) (heap_alloc_new w4 _)) (by simp [Value.oneCell']) (by decide) (by unfold maxLen; omega) (by omega) (by simp; omega) (w4.heap.size + 1) (by simp) ?_)
                intro gg cap5 w5 hown5 hgrow5 hat5 hlt5
                have HB5 : Hid (Below W.heap.size W w5) := Hid.mk ((HB4.out.alloc (by omega) _).grown hgrow5 (by simp; omega) (fun x hx => A4.out x hx))
                have hs5 := HB5.out.size
                have A5 : Hid (W.heap.size ≤ gg) := Hid.mk (by
                  rcases hat5 with e | e
                  · exact A4.out gg e
                  · omega)
                have O5 := Hid.mk hown5
                clear hown5 hgrow5 hat5 hlt5
                go_wp2_with (at_builtin; refine wpList_append_vals rfl (.tmp 42) (.tmp 45) rfl Try.underlying34 hi0 hz0 hz1 hz2 rfl (by rfl) O5.out _ (natCs (is.drop k)) _ _ (by rfl) ?b1 (fun h => by first | (cases h; done) | (simp at h; done)) ?b3 (natCs_one _) ?b4 ?b5 ?b6 ?_)
                case b1 => rw [natCs_len, List.length_drop]; omega
                case b3 =>
                  intro ad _ j u hu
                  rw [List.drop_of_length_le (by omega)] at hu
                  simp [natCs] at hu
                case b4 => rw [natCs_len, List.length_drop]; unfold maxLen; omega
                case b5 => rw [natCs_len, List.length_drop]; omega
                case b6 => omega
                intro v6 w6 hown6 hgrow6 _
                have HB6 : Hid (Below w.heap.size w w6) := Hid.mk (BEL.out.trans ((HB5.out.grown hgrow6 hs5 (fun y hy => by
                  have e : gg = y := by simpa [Value.ownBlock] using hy
                  rw [← e]; exact A5.out)).mono hsz))
                have O6 : Hid (w6.ownsRow w.heap.size 3 1 v6 (k + 1) (natCs (is.take k ++ k :: is.drop k))) := Hid.mk (by
                  have e1 : natCs (is.take k ++ k :: is.drop k) = natCs (is.take k) ++ Value.int IntKind.i64 (k : Int) :: natCs (is.drop k) := by simp [natCs]
                  rw [e1, show k + 1 = k + 1 + (k - k) by omega]
                  simpa using hown6)
                clear hown6 hgrow6
                go_wp2
                go_roundw
                case rel => exact ⟨k + 1, is.take k ++ k :: is.drop k, by go_num, by omega, HSN.out, .inr (by omega), O6.out, HB6.out⟩
                case measure => simp [intOf]; omega
    · obtain rfl : i = ss.length := by omega
      have HS : Hid (Sorts ss is) := Hid.mk HSO.out
      have hil2 : is.length = ss.length := hisl
      rw [← hil2] at OWN ⊢
      go_wp2
      go_ret
      exact ⟨ao1, cap1, is, rfl, HS.out, OWN.out, BEL.out⟩
end Go.Proofs.Ytapdjolgdocilaa
