/- Names of the program. -/
import Derived.Test.YthdnpddfdlhlaaaQReqS
import Derived.Test.YthdnpddfdlhlaaaShelf
import Derived.Maps.OwnSet
import Derived.Maps.AppendAt
import Derived.LaidEqlPtr
import Derived.Carry
namespace Go.Proofs.Ythdnpddfdlhlaaa
open Go.RowKit

theorem lawQ : Maps.Keyed Try.prog 9 := Maps.string_keyed Try.underlying9
theorem keyQ (s : List UInt8) (hs : s.length ≤ 140737488351232) : keyOf Try.prog 9 (.string ⟨s.toArray⟩) = some (.string s) := by
  have := WideMaps.keyOf_string_mk (P := Try.prog) (k := 9) Try.underlying9 (s := ⟨s.toArray⟩) (by rw [size_list]; unfold maxLen; omega)
  simpa using this
theorem zeroQU (w : World) : (zeroValue 112).run Try.prog w = .ok (.agg #[]) w := by kernel_rfl
theorem infoQS : (Try.prog.info? 9).map (fun i => (i.zero, i.size, i.bytes)) = some (some (.string ⟨#[]⟩), 1, 16) := by kernel_rfl
theorem idx0 (a b c d : Value) (w : World) : (Instr.index 111 (.agg #[a, b, c, d]) (.int .i64 0)).run Try.prog w = .ok (.agg #[a, b]) w := by kernel_rfl
theorem idx1 (a b c d : Value) (w : World) : (Instr.index 111 (.agg #[a, b, c, d]) (.int .i64 1)).run Try.prog w = .ok (.agg #[c, d]) w := by kernel_rfl
/-- The map says of each name whether it is there. -/
def Says (D : DataW Unit) (ns : List (List UInt8)) : Prop := ∀ s, Maps.has D (.string s) = decide (s ∈ ns)
theorem says_nil : Says (.map []) [] := fun s => by simp [Maps.has]
theorem Says.put {D : DataW Unit} {ns : List (List UInt8)} {t : List UInt8} (h : Says D ns) (hm : Maps.IsMap D) : Says (D.put (.string t) (.agg [])) (ns ++ [t]) := fun s => by
  by_cases e : s = t
  · subst e
    rw [Maps.has_put_same hm (show WideAt.IsKeyLit (.string s) from trivial)]; simp
  · rw [Maps.has_put_other (by simpa using e), h s]
    simp [e]
theorem own_ne_mapQ {w : World} {B n b m : Nat} {e k : TypeId} {size : Nat} {v : Value} {xs : List Value} {R : Value → Option (DataW Unit × List MemPlace)} {D : DataW Unit} (h : w.ownsRow B e size v n xs) (hb : w.ownsMap Try.prog k R b m D) : v.ownBlock ≠ some b := by
  obtain ⟨es, clock, hb, _⟩ := hb
  intro hv
  rcases h.2 with ⟨rfl, _⟩ | ⟨g, cap, cur, rfl, _, e3, _⟩
  · simp [Value.ownBlock] at hv
  · have : g = b := by simpa [Value.ownBlock] using hv
    subst this
    rw [hb] at e3
    cases e3
theorem map_keyQ {w w' : World} {k : TypeId} {R : Value → Option (DataW Unit × List MemPlace)} {b n : Nat} {D : DataW Unit} (h : w.ownsMap Try.prog k R b n D) (key : ∀ o, w.heap[b]? = some o → w'.heap[b]? = some o) : w'.ownsMap Try.prog k R b n D := by
  obtain ⟨es, clock, h1, h2⟩ := h
  exact ⟨es, clock, key _ h1, h2⟩
/-- The names that were met: in a row, and in the map mb. -/
structure NmI (w wr : World) (mb : Nat) (v : Value) (D : DataW Unit) (ns : List (List UInt8)) : Prop where
  row : wr.ownsRow w.heap.size 9 1 v ns.length (ns.flatMap csT)
  map : wr.ownsMap Try.prog 9 (unitElem (H := Unit)) mb ns.length D
  says : Says D ns
  bel : Below w.heap.size w wr
theorem NmI.step {w wr wx : World} {mb : Nat} {v : Value} {D : DataW Unit} {ns : List (List UInt8)} (h : NmI w wr mb v D ns) (hb : Below wr.heap.size wr wx) : NmI w wx mb v D ns :=
  ⟨owns_below h.row hb, map_keyQ h.map (fun _ ho => (hb.block _ (lt_of_block ho)).trans ho), h.says, h.bel.trans (hb.mono h.bel.size)⟩
/-- The names behind so many terms of an atom. -/
def nmJ (b : List (List UInt8)) (a : Am) (j : Nat) : List (List UInt8) := if j = 0 then b else if j = 1 then addN b a.1 else addN (addN b a.1) a.2.2
def NmT (w wr : World) (mb : Nat) (v : Value) (ns : List (List UInt8)) : Prop := ∃ D, NmI w wr mb v D ns
theorem take_pa {l : List Am} {i : Nat} {a : Am} (h : l[i]? = some a) : (l.take (i + 1)).map Am.pa = (l.take i).map Am.pa ++ [a.pa] := by
  rw [List.take_add_one, h]; simp
theorem names_len (l : List Pa) : (namesP l).length ≤ 2 * l.length := by
  have key : ∀ (l : List Pa) (n : List (List UInt8)), (l.foldl (fun n a => addN (addN n a.1) a.2.2) n).length ≤ n.length + 2 * l.length := by
    intro l
    induction l with
    | nil => intro n; simp
    | cons a l ih =>
      intro n
      have h1 := ih (addN (addN n a.1) a.2.2)
      have h2 := addN_len n a.1
      have h3 := addN_len (addN n a.1) a.2.2
      rw [List.foldl_cons, List.length_cons]
      omega
  simpa [namesP] using key l []

set_option maxRecDepth 100000 in
set_option maxHeartbeats 8000000 in
theorem names_any {S : Nat → Prop} {w : World} {q : Qm} (h : QOk S w q) (hal : q.atoms.length ≤ 1000000000) :
    Calls Try.prog 75 #[encQ q] w fun e w' => ∃ v, e = .returned v ∧ w'.ownsRow w.heap.size 9 1 v (namesP (q.atoms.map Am.pa)).length ((namesP (q.atoms.map Am.pa)).flatMap csT) ∧ Below w.heap.size w w' := by
  obtain ⟨va, vc, hvv⟩ := h.vs.slice
  obtain ⟨ao, cap, hv⟩ := h.ats.slice
  obtain ⟨i0, hi0, hz0, hz1, hz2⟩ := info_parts infoQS
  obtain ⟨vv, vars, av, atoms⟩ := q
  dsimp only at hvv hv hal ⊢
  subst hvv hv
  have H := Hid.mk h
  obtain ⟨n, hn⟩ : ∃ n, n = atoms.length := ⟨_, rfl⟩
  rw [← hn] at hal H ⊢
  have HN := Hid.mk hn
  obtain ⟨o, ho⟩ : ∃ o, o = Obj.cells #[.slice va vars.length vc, .slice ao n cap] 54 := ⟨_, rfl⟩
  have HO := Hid.mk ho
  have HB0 : Hid (NmT w ((w.alloc o).alloc (.map #[] 0)) (w.heap.size + 1) (.slice none 0 0) []) := Hid.mk ⟨.map [], by
    refine ⟨World.ownsRow_nil _ _ _ _, ?_, says_nil, ((Below.refl _ _).alloc (Nat.le_refl _) _).alloc (by simp) _⟩
    have := World.ownsMap_made (H := Unit) (w.alloc o) Try.prog 9 unitElem
    simpa using this⟩
  obtain ⟨nv, hnv⟩ : ∃ nv, nv = vars.length := ⟨_, rfl⟩
  rw [← hnv] at HO ⊢
  clear h hn ho hnv
  have hmm := @run_makeMap Try.prog
  have hx0 := idx0
  have hx1 := idx1
  go_enter Try.func75, Try.ntmps75
  go_wp2_with fail
  go_loopw [3, 15] (fun vl c wr => ∃ (i : Nat) (v : Value), v = vl ∧ i ≤ n ∧ c = .int .i64 i ∧ NmT w wr (w.heap.size + 1) v (namesP ((atoms.take i).map Am.pa))) (fun _ c _ => n - (intOf c).toNat)
  case atStart => exact ⟨0, _, rfl, Nat.zero_le _, rfl, by have := HB0.out; rw [HO.out] at this; exact this⟩
  case round =>
    obtain ⟨i, v, rfl, hi, rfl, hnt⟩ := hrel
    have HT := Hid.mk hnt
    clear hnt
    by_cases hlt : i < n
    · have hltI : (i : Int) < (n : Int) := by omega
      obtain ⟨a, ha⟩ : ∃ a, atoms[i]? = some a := ⟨_, List.getElem?_eq_getElem (by rw [← HN.out]; exact hlt)⟩
      obtain ⟨D0, hD0⟩ := HT.out
      obtain ⟨g, off, rfl, _, _, hcell⟩ := (H.out.ats.below hD0.bel).get ha
      obtain ⟨q0, q1, q2, q3, q4, q5, q6⟩ := getA hcell
      have hfine := H.out.fine a (List.mem_of_getElem? ha)
      obtain ⟨xa, xc, hxv⟩ := (H.out.ok a (List.mem_of_getElem? ha)).parts.1.slice
      have HA := Hid.mk ha
      obtain ⟨wx, hwx⟩ : ∃ wx, wx = wr := ⟨_, rfl⟩
      subst hwx
      have HBx := Hid.mk hD0.bel
      obtain ⟨B0, hB0⟩ : ∃ B0, B0 = namesP ((atoms.take i).map Am.pa) := ⟨_, rfl⟩
      rw [← hB0] at HT
      have HBL : Hid (B0.length ≤ 2000000000) := Hid.mk (by
        have := names_len ((atoms.take i).map Am.pa)
        rw [← hB0, List.length_map, List.length_take] at this
        omega)
      have HNX : Hid (nmJ B0 a 2 = namesP ((atoms.take (i + 1)).map Am.pa)) := Hid.mk (by rw [take_pa HA.out, namesP_snoc, hB0]; rfl)
      obtain ⟨nx, hnx⟩ : ∃ nx, nx = a.2.1.kids.length := ⟨_, rfl⟩
      rw [← hnx] at hxv
      obtain ⟨⟨b1, n1⟩, ⟨xk, xw, xv, xl⟩, ⟨b2, n2⟩⟩ := a
      dsimp only at q0 q1 q2 q3 q4 q5 q6 hxv hfine
      subst hxv
      have HF1 : Hid (n1.length ≤ 140737488351232) := Hid.mk hfine.1
      have HF2 : Hid (n2.length ≤ 140737488351232) := Hid.mk hfine.2
      have HTa : Hid (∀ o, NmT w (wx.alloc o) (w.heap.size + 1) v B0) := Hid.mk (fun o => by
        obtain ⟨D, hD⟩ := HT.out
        exact ⟨D, hD.step ((Below.refl _ _).alloc (Nat.le_refl _) _)⟩)
      clear ha hcell hfine hnx hD0 hB0 D0
      go_wp2_with fail
      go_loopw [3, 24] (fun vl c wr => ∃ (j : Nat) (v : Value), v = vl ∧ j ≤ 2 ∧ c = .int .i64 j ∧ NmT w wr (w.heap.size + 1) v (nmJ B0 ((b1, n1), ⟨xk, xw, .slice xa nx xc, xl⟩, (b2, n2)) j)) (fun _ c _ => 2 - (intOf c).toNat)
      case atStart => exact ⟨0, _, rfl, Nat.zero_le _, rfl, HTa.out _⟩
      case round =>
        obtain ⟨j, v2, rfl, hj, rfl, hnt⟩ := hrel
        have HT2 := Hid.mk hnt
        clear hnt
        obtain ⟨wy, hwy⟩ : ∃ wy, wy = wr := ⟨_, rfl⟩
        subst hwy
        obtain rfl | rfl | rfl : j = 0 ∨ j = 1 ∨ j = 2 := by omega
        · obtain ⟨D, hD⟩ := HT2.out
          obtain ⟨ns, hns⟩ : ∃ ns, ns = nmJ B0 ((b1, n1), ⟨xk, xw, .slice xa nx xc, xl⟩, (b2, n2)) 0 := ⟨_, rfl⟩
          rw [← hns] at hD
          obtain ⟨av, cv, hvl⟩ := own_slice hD.row
          obtain ⟨nl, hnl⟩ : ∃ nl, nl = ns.length := ⟨_, rfl⟩
          rw [← hnl] at hvl
          subst hvl
          have HNL := Hid.mk hnl
          have HD := Hid.mk hD
          have HNX2 : Hid (nmJ B0 ((b1, n1), ⟨xk, xw, .slice xa nx xc, xl⟩, (b2, n2)) (0 + 1) = addN ns (b1, n1)) := Hid.mk (by rw [hns]; rfl)
          have HLN : nl ≤ 2000000001 := by
            have h1 := HBL.out
            have h2 := addN_len B0 (b1, n1)
            rw [hnl, hns]
            simp only [nmJ, if_true]
            omega
          have HK := Hid.mk (keyQ n1 HF1.out)
          have hszy : w.heap.size ≤ wy.heap.size := hD.bel.size
          clear hD hns hnl
          have HDa : Hid (∀ o, NmI w (wy.alloc o) (w.heap.size + 1) (.slice av nl cv) D ns) := Hid.mk (fun o => HD.out.step ((Below.refl _ _).alloc (Nat.le_refl _) _))
          obtain ⟨m, hm⟩ : ∃ m, m = decide (n1 ∈ ns) := ⟨_, rfl⟩
          have HS : Hid (Maps.has D (.string n1) = m) := Hid.mk (by rw [HD.out.says, hm])
          have HM := Hid.mk hm
          clear hm
          cases m with
          | true =>
            have HE : Hid (∀ wz, NmI w wz (w.heap.size + 1) (.slice av nl cv) D ns → NmT w wz (w.heap.size + 1) (.slice av nl cv) (nmJ B0 ((b1, n1), ⟨xk, xw, .slice xa nx xc, xl⟩, (b2, n2)) (0 + 1))) := Hid.mk (fun wz h => by
              rw [HNX2.out]
              refine ⟨D, ?_⟩
              rw [addN, if_neg (fun hh => hh.2 (of_decide_eq_true HM.out.symm))]
              exact h)
            go_wp2_with (at_lookup; refine wpList_lookup_own_unit _ rfl _ _ 110 rfl 9 112 lawQ Try.underlying110 (zeroQU _) (w.heap.size + 1) _ D rfl (HDa.out _).map _ _ rfl HK.out ?_; rw [HS.out])
            go_roundw
            case rel => exact ⟨0 + 1, _, rfl, by omega, by go_num, HE.out _ ((HDa.out _).step ((Below.refl _ _).alloc (Nat.le_refl _) _))⟩
            case measure => simp [intOf]
          | false =>
            cases b1 with
            | false =>
              have HE : Hid (∀ wz, NmI w wz (w.heap.size + 1) (.slice av nl cv) D ns → NmT w wz (w.heap.size + 1) (.slice av nl cv) (nmJ B0 ((false, n1), ⟨xk, xw, .slice xa nx xc, xl⟩, (b2, n2)) (0 + 1))) := Hid.mk (fun wz h => by
                rw [HNX2.out]
                refine ⟨D, ?_⟩
                rw [addN, if_neg (fun hh => by cases hh.1)]
                exact h)
              go_wp2_with (at_lookup; refine wpList_lookup_own_unit _ rfl _ _ 110 rfl 9 112 lawQ Try.underlying110 (zeroQU _) (w.heap.size + 1) _ D rfl (HDa.out _).map _ _ rfl HK.out ?_; rw [HS.out])
              go_roundw
              case rel => exact ⟨0 + 1, _, rfl, by omega, by go_num, HE.out _ ((HDa.out _).step ((Below.refl _ _).alloc (Nat.le_refl _) _))⟩
              case measure => simp [intOf]
            | true =>
              have HE : Hid (addN ns (true, n1) = ns ++ [n1]) := Hid.mk (by rw [addN, if_pos ⟨rfl, of_decide_eq_false HM.out.symm⟩])
              obtain ⟨WZ, hWZ⟩ : ∃ WZ, WZ = (wy.alloc (.cells #[.bool true, .string ⟨n1.toArray⟩] 49)).alloc (.cells #[] 112) := ⟨_, rfl⟩
              have hbz : Below wy.heap.size wy WZ := by rw [hWZ]; exact ((Below.refl _ _).alloc (Nat.le_refl _) _).alloc (by simp) _
              have HDz : Hid (NmI w WZ (w.heap.size + 1) (.slice av nl cv) D ns) := Hid.mk (HD.out.step hbz)
              have HCz : Hid (WZ.heap[wy.heap.size]? = some (.cells #[.bool true, .string ⟨n1.toArray⟩] 49 (0, 0))) := Hid.mk (by
                rw [hWZ, ((Below.refl _ (wy.alloc _)).alloc (Nat.le_refl _) _).block wy.heap.size (by simp), heap_alloc_new])
              have HMN : Hid (w.heap.size + 1 < wy.heap.size) := Hid.mk HD.out.map.lt
              have HWZ := Hid.mk hWZ
              have hszz : w.heap.size ≤ WZ.heap.size := HDz.out.bel.size
              have HFX : Hid (n1.length ≤ 140737488351232) := Hid.mk HF1.out
              clear hbz hWZ
              have HDaa : Hid (∀ o1 o2, NmI w ((wy.alloc o1).alloc o2) (w.heap.size + 1) (.slice av nl cv) D ns) := Hid.mk (fun o1 o2 => (HDa.out o1).step ((Below.refl _ _).alloc (Nat.le_refl _) _))
              go_wp2_with (first | (at_lookup; refine wpList_lookup_own_unit _ rfl _ _ 110 rfl 9 112 lawQ Try.underlying110 (zeroQU _) (w.heap.size + 1) _ D rfl (HDa.out _).map _ _ rfl HK.out ?_; rw [HS.out]) | (at_mapUpdate; refine wpList_mapUpdate_own _ rfl _ _ _ 110 rfl 9 112 lawQ Try.underlying110 _ (w.heap.size + 1) _ D rfl (HDaa.out _ _).map ?m1 _ _ _ rfl rfl HK.out _ [] unitElem_mk ?_))
              case m1 => have := HNL.out; unfold maxLen; omega
              intro w2 hown2 hgrow2
              rw [← HWZ.out] at hgrow2
              have hc2 := (hgrow2.block wy.heap.size (lt_of_block HCz.out) (fun e => by have := HMN.out; injection e with e; omega)).trans HCz.out
              have c1 : w2.cell? ⟨wy.heap.size, 1, none⟩ = some (.string ⟨n1.toArray⟩) := by simp [World.cell?, hc2]
              have HR2 : Hid (w2.ownsRow w.heap.size 9 1 (.slice av nl cv) ns.length (ns.flatMap csT)) := Hid.mk (owns_key HDz.out.row (fun g _ hg ho => (hgrow2.block g (lt_of_block ho) (fun e => own_ne_mapQ HDz.out.row HDz.out.map (by rw [hg, e]))).trans ho))
              have HM2 := Hid.mk hown2
              have HB2 : Hid (Below w.heap.size w w2) := Hid.mk (HDz.out.bel.grown hgrow2 hszz (fun k e => by injection e with e; omega))
              clear hgrow2 hown2 hc2
              go_wp2_with fail
              refine (clone_any _ _ (by rw [size_list]; have := HFX.out; omega)).mono ?_
              rintro e w3 ⟨rfl, hb3⟩
              have HR3 := Hid.mk (owns_below HR2.out hb3)
              have HM3 := Hid.mk (map_keyQ HM2.out (fun _ ho => (hb3.block _ (lt_of_block ho)).trans ho))
              have HB3 := Hid.mk (HB2.out.trans (hb3.mono HB2.out.size))
              have hs3 : w.heap.size ≤ w3.heap.size := HB3.out.size
              rw [← HNL.out] at HR3
              clear hb3
              go_wp2_with (at_builtin; refine wpList_append_lies _ rfl _ _ _ rfl w.heap.size 9 i0 _ 1 16 Try.underlying27 hi0 hz0 hz1 hz2 rfl (by decide) (.slice av nl cv) _ _ (by rfl) (HR3.out.alloc _) ⟨w3.heap.size, 0, none⟩ 1 1 (csT n1) (by rfl) (by rfl) ?d1 ?d2 (by decide) ?d3 ?d4 ?d5 (w3.heap.size + 1) (by simp) ?_)
              case d1 => exact World.news_of_block (cs := #[.string ⟨n1.toArray⟩]) (t := 9) (fr := (0, 0)) (heap_alloc_new w3 _)
              case d2 => simp [Value.oneCell']
              case d3 => unfold maxLen; omega
              case d4 => omega
              case d5 => simp; omega
              intro gg cap2 w9 hown9 hgrow9 hat9 hlt9
              have ba : Below w3.heap.size w3 (w3.alloc (.cells #[.string ⟨n1.toArray⟩] 9)) := (Below.refl _ _).alloc (Nat.le_refl _) _
              have HB9 : Hid (Below w.heap.size w w9) := Hid.mk ((HB3.out.trans (ba.mono HB3.out.size)).grown hgrow9 (by simp; omega) (fun k e => (HR3.out.lt k e).1))
              have hm4 := map_keyQ HM3.out (fun _ ho => (ba.block _ (lt_of_block ho)).trans ho)
              have HM9 : Hid (w9.ownsMap Try.prog 9 (unitElem (H := Unit)) (w.heap.size + 1) (ns ++ [n1]).length (D.put (.string n1) (.agg []))) := Hid.mk (by
                rw [List.length_append]
                exact map_keyQ hm4 (fun _ ho => (hgrow9.block _ (lt_of_block ho) (fun e => own_ne_mapQ (HR3.out.alloc _) hm4 e.symm)).trans ho))
              have HR9 : Hid (w9.ownsRow w.heap.size 9 1 (.slice (some ⟨gg, 0, none⟩) (nl + 1) cap2) (ns ++ [n1]).length ((ns ++ [n1]).flatMap csT)) := Hid.mk (by
                rw [List.length_append, ← HNL.out, List.flatMap_append]
                have h2 := hown9
                simpa [csT] using h2)
              have HSY : Hid (Says (D.put (.string n1) (.agg [])) (ns ++ [n1])) := Hid.mk (HD.out.says.put HD.out.map.isMap)
              clear hown9 hgrow9 hat9 hlt9 ba hm4
              go_wp2
              go_roundw
              case rel => exact ⟨0 + 1, _, rfl, by omega, by go_num, by rw [HNX2.out, HE.out]; exact ⟨_, HR9.out, HM9.out, HSY.out, HB9.out⟩⟩
              case measure => simp [intOf]
        · obtain ⟨D, hD⟩ := HT2.out
          obtain ⟨ns, hns⟩ : ∃ ns, ns = nmJ B0 ((b1, n1), ⟨xk, xw, .slice xa nx xc, xl⟩, (b2, n2)) 1 := ⟨_, rfl⟩
          rw [← hns] at hD
          obtain ⟨av, cv, hvl⟩ := own_slice hD.row
          obtain ⟨nl, hnl⟩ : ∃ nl, nl = ns.length := ⟨_, rfl⟩
          rw [← hnl] at hvl
          subst hvl
          have HNL := Hid.mk hnl
          have HD := Hid.mk hD
          have HNX2 : Hid (nmJ B0 ((b1, n1), ⟨xk, xw, .slice xa nx xc, xl⟩, (b2, n2)) (1 + 1) = addN ns (b2, n2)) := Hid.mk (by rw [hns]; rfl)
          have HLN : nl ≤ 2000000001 := by
            have h1 := HBL.out
            have h2 := addN_len B0 (b1, n1)
            rw [hnl, hns]
            simp only [nmJ, Nat.one_ne_zero, if_true, if_false]
            omega
          have HK := Hid.mk (keyQ n2 HF2.out)
          have hszy : w.heap.size ≤ wy.heap.size := hD.bel.size
          clear hD hns hnl
          have HDa : Hid (∀ o, NmI w (wy.alloc o) (w.heap.size + 1) (.slice av nl cv) D ns) := Hid.mk (fun o => HD.out.step ((Below.refl _ _).alloc (Nat.le_refl _) _))
          obtain ⟨m, hm⟩ : ∃ m, m = decide (n2 ∈ ns) := ⟨_, rfl⟩
          have HS : Hid (Maps.has D (.string n2) = m) := Hid.mk (by rw [HD.out.says, hm])
          have HM := Hid.mk hm
          clear hm
          cases m with
          | true =>
            have HE : Hid (∀ wz, NmI w wz (w.heap.size + 1) (.slice av nl cv) D ns → NmT w wz (w.heap.size + 1) (.slice av nl cv) (nmJ B0 ((b1, n1), ⟨xk, xw, .slice xa nx xc, xl⟩, (b2, n2)) (1 + 1))) := Hid.mk (fun wz h => by
              rw [HNX2.out]
              refine ⟨D, ?_⟩
              rw [addN, if_neg (fun hh => hh.2 (of_decide_eq_true HM.out.symm))]
              exact h)
            go_wp2_with (at_lookup; refine wpList_lookup_own_unit _ rfl _ _ 110 rfl 9 112 lawQ Try.underlying110 (zeroQU _) (w.heap.size + 1) _ D rfl (HDa.out _).map _ _ rfl HK.out ?_; rw [HS.out])
            go_roundw
            case rel => exact ⟨1 + 1, _, rfl, by omega, by go_num, HE.out _ ((HDa.out _).step ((Below.refl _ _).alloc (Nat.le_refl _) _))⟩
            case measure => simp [intOf]
          | false =>
            cases b2 with
            | false =>
              have HE : Hid (∀ wz, NmI w wz (w.heap.size + 1) (.slice av nl cv) D ns → NmT w wz (w.heap.size + 1) (.slice av nl cv) (nmJ B0 ((b1, n1), ⟨xk, xw, .slice xa nx xc, xl⟩, (false, n2)) (1 + 1))) := Hid.mk (fun wz h => by
                rw [HNX2.out]
                refine ⟨D, ?_⟩
                rw [addN, if_neg (fun hh => by cases hh.1)]
                exact h)
              go_wp2_with (at_lookup; refine wpList_lookup_own_unit _ rfl _ _ 110 rfl 9 112 lawQ Try.underlying110 (zeroQU _) (w.heap.size + 1) _ D rfl (HDa.out _).map _ _ rfl HK.out ?_; rw [HS.out])
              go_roundw
              case rel => exact ⟨1 + 1, _, rfl, by omega, by go_num, HE.out _ ((HDa.out _).step ((Below.refl _ _).alloc (Nat.le_refl _) _))⟩
              case measure => simp [intOf]
            | true =>
              have HE : Hid (addN ns (true, n2) = ns ++ [n2]) := Hid.mk (by rw [addN, if_pos ⟨rfl, of_decide_eq_false HM.out.symm⟩])
              obtain ⟨WZ, hWZ⟩ : ∃ WZ, WZ = (wy.alloc (.cells #[.bool true, .string ⟨n2.toArray⟩] 49)).alloc (.cells #[] 112) := ⟨_, rfl⟩
              have hbz : Below wy.heap.size wy WZ := by rw [hWZ]; exact ((Below.refl _ _).alloc (Nat.le_refl _) _).alloc (by simp) _
              have HDz : Hid (NmI w WZ (w.heap.size + 1) (.slice av nl cv) D ns) := Hid.mk (HD.out.step hbz)
              have HCz : Hid (WZ.heap[wy.heap.size]? = some (.cells #[.bool true, .string ⟨n2.toArray⟩] 49 (0, 0))) := Hid.mk (by
                rw [hWZ, ((Below.refl _ (wy.alloc _)).alloc (Nat.le_refl _) _).block wy.heap.size (by simp), heap_alloc_new])
              have HMN : Hid (w.heap.size + 1 < wy.heap.size) := Hid.mk HD.out.map.lt
              have HWZ := Hid.mk hWZ
              have hszz : w.heap.size ≤ WZ.heap.size := HDz.out.bel.size
              have HFX : Hid (n2.length ≤ 140737488351232) := Hid.mk HF2.out
              clear hbz hWZ
              have HDaa : Hid (∀ o1 o2, NmI w ((wy.alloc o1).alloc o2) (w.heap.size + 1) (.slice av nl cv) D ns) := Hid.mk (fun o1 o2 => (HDa.out o1).step ((Below.refl _ _).alloc (Nat.le_refl _) _))
              go_wp2_with (first | (at_lookup; refine wpList_lookup_own_unit _ rfl _ _ 110 rfl 9 112 lawQ Try.underlying110 (zeroQU _) (w.heap.size + 1) _ D rfl (HDa.out _).map _ _ rfl HK.out ?_; rw [HS.out]) | (at_mapUpdate; refine wpList_mapUpdate_own _ rfl _ _ _ 110 rfl 9 112 lawQ Try.underlying110 _ (w.heap.size + 1) _ D rfl (HDaa.out _ _).map ?m1 _ _ _ rfl rfl HK.out _ [] unitElem_mk ?_))
              case m1 => have := HNL.out; unfold maxLen; omega
              intro w2 hown2 hgrow2
              rw [← HWZ.out] at hgrow2
              have hc2 := (hgrow2.block wy.heap.size (lt_of_block HCz.out) (fun e => by have := HMN.out; injection e with e; omega)).trans HCz.out
              have c1 : w2.cell? ⟨wy.heap.size, 1, none⟩ = some (.string ⟨n2.toArray⟩) := by simp [World.cell?, hc2]
              have HR2 : Hid (w2.ownsRow w.heap.size 9 1 (.slice av nl cv) ns.length (ns.flatMap csT)) := Hid.mk (owns_key HDz.out.row (fun g _ hg ho => (hgrow2.block g (lt_of_block ho) (fun e => own_ne_mapQ HDz.out.row HDz.out.map (by rw [hg, e]))).trans ho))
              have HM2 := Hid.mk hown2
              have HB2 : Hid (Below w.heap.size w w2) := Hid.mk (HDz.out.bel.grown hgrow2 hszz (fun k e => by injection e with e; omega))
              clear hgrow2 hown2 hc2
              go_wp2_with fail
              refine (clone_any _ _ (by rw [size_list]; have := HFX.out; omega)).mono ?_
              rintro e w3 ⟨rfl, hb3⟩
              have HR3 := Hid.mk (owns_below HR2.out hb3)
              have HM3 := Hid.mk (map_keyQ HM2.out (fun _ ho => (hb3.block _ (lt_of_block ho)).trans ho))
              have HB3 := Hid.mk (HB2.out.trans (hb3.mono HB2.out.size))
              have hs3 : w.heap.size ≤ w3.heap.size := HB3.out.size
              rw [← HNL.out] at HR3
              clear hb3
              go_wp2_with (at_builtin; refine wpList_append_lies _ rfl _ _ _ rfl w.heap.size 9 i0 _ 1 16 Try.underlying27 hi0 hz0 hz1 hz2 rfl (by decide) (.slice av nl cv) _ _ (by rfl) (HR3.out.alloc _) ⟨w3.heap.size, 0, none⟩ 1 1 (csT n2) (by rfl) (by rfl) ?d1 ?d2 (by decide) ?d3 ?d4 ?d5 (w3.heap.size + 1) (by simp) ?_)
              case d1 => exact World.news_of_block (cs := #[.string ⟨n2.toArray⟩]) (t := 9) (fr := (0, 0)) (heap_alloc_new w3 _)
              case d2 => simp [Value.oneCell']
              case d3 => unfold maxLen; omega
              case d4 => omega
              case d5 => simp; omega
              intro gg cap2 w9 hown9 hgrow9 hat9 hlt9
              have ba : Below w3.heap.size w3 (w3.alloc (.cells #[.string ⟨n2.toArray⟩] 9)) := (Below.refl _ _).alloc (Nat.le_refl _) _
              have HB9 : Hid (Below w.heap.size w w9) := Hid.mk ((HB3.out.trans (ba.mono HB3.out.size)).grown hgrow9 (by simp; omega) (fun k e => (HR3.out.lt k e).1))
              have hm4 := map_keyQ HM3.out (fun _ ho => (ba.block _ (lt_of_block ho)).trans ho)
              have HM9 : Hid (w9.ownsMap Try.prog 9 (unitElem (H := Unit)) (w.heap.size + 1) (ns ++ [n2]).length (D.put (.string n2) (.agg []))) := Hid.mk (by
                rw [List.length_append]
                exact map_keyQ hm4 (fun _ ho => (hgrow9.block _ (lt_of_block ho) (fun e => own_ne_mapQ (HR3.out.alloc _) hm4 e.symm)).trans ho))
              have HR9 : Hid (w9.ownsRow w.heap.size 9 1 (.slice (some ⟨gg, 0, none⟩) (nl + 1) cap2) (ns ++ [n2]).length ((ns ++ [n2]).flatMap csT)) := Hid.mk (by
                rw [List.length_append, ← HNL.out, List.flatMap_append]
                have h2 := hown9
                simpa [csT] using h2)
              have HSY : Hid (Says (D.put (.string n2) (.agg [])) (ns ++ [n2])) := Hid.mk (HD.out.says.put HD.out.map.isMap)
              clear hown9 hgrow9 hat9 hlt9 ba hm4
              go_wp2
              go_roundw
              case rel => exact ⟨1 + 1, _, rfl, by omega, by go_num, by rw [HNX2.out, HE.out]; exact ⟨_, HR9.out, HM9.out, HSY.out, HB9.out⟩⟩
              case measure => simp [intOf]
        · go_wp2
          go_roundw
          case rel => exact ⟨i + 1, _, rfl, by omega, by go_num, by rw [← HNX.out]; exact HT2.out⟩
          case measure => simp [intOf]; omega
    · have hltI : ¬ (i : Int) < (n : Int) := by omega
      have HE : Hid (namesP ((atoms.take i).map Am.pa) = namesP (atoms.map Am.pa)) := Hid.mk (by rw [List.take_of_length_le (by rw [← HN.out]; omega)])
      go_wp2
      go_ret
      obtain ⟨D, hD⟩ := HT.out
      rw [HE.out] at hD
      exact ⟨_, rfl, hD.row, hD.bel⟩
end Go.Proofs.Ythdnpddfdlhlaaa
