/- Put of the program. -/
import Derived.Test.YtapdjolgdocilaaVState
import Derived.Test.YtapdjolgdocilaaShelf
import Derived.Deep.AppendLies
namespace Go.Proofs.Ytapdjolgdocilaa
open Go.RowKit

theorem infoS : (Try.prog.info? 9).map (fun i => (i.zero, i.size, i.bytes)) = some (some (.string ⟨#[]⟩), 1, 16) := by kernel_rfl

set_option maxRecDepth 100000 in
set_option maxHeartbeats 400000 in
theorem clone_any (s : ByteArray) (w : World) (hs : s.size ≤ 140737488355328) :
    Calls Try.prog 23 #[.string s] w fun e w' => e = .returned (.string s) ∧ Below w.heap.size w w' := by
  go_enter Try.func23, Try.ntmps23
  go_wp2_with fail
  refine (Try.stringslite_Clone _ _ (by omega)).mono ?_
  rintro e w1 ⟨rfl, hb⟩
  go_wp2
  go_ret
  exact ⟨rfl, hb⟩

theorem own_ne {w : World} {B n b : Nat} {e t : TypeId} {size : Nat} {v : Value} {xs : List Value} {cs : Array Value} {fz : Nat × Nat} (h : w.ownsRow B e size v n xs) (hb : w.heap[b]? = some (.cells cs t fz)) (hne : e ≠ t) : v.ownBlock ≠ some b := by
  intro hv
  rcases h.2 with ⟨rfl, _⟩ | ⟨g, cap, cur, rfl, _, e3, _⟩
  · simp [Value.ownBlock] at hv
  · have : g = b := by simpa [Value.ownBlock] using hv
    subst this
    rw [hb] at e3
    simp only [Option.some.injEq, Obj.cells.injEq] at e3
    exact hne e3.2.1.symm
theorem own_ne_map {w : World} {B n b m : Nat} {e k : TypeId} {size : Nat} {v : Value} {xs : List Value} {R : Value → Option (DataW Unit × List MemPlace)} {D : DataW Unit} (h : w.ownsRow B e size v n xs) (hb : w.ownsMap Try.prog k R b m D) : v.ownBlock ≠ some b := by
  obtain ⟨es, clock, hb, _⟩ := hb
  intro hv
  rcases h.2 with ⟨rfl, _⟩ | ⟨g, cap, cur, rfl, _, e3, _⟩
  · simp [Value.ownBlock] at hv
  · have : g = b := by simpa [Value.ownBlock] using hv
    subst this
    rw [hb] at e3
    cases e3
theorem blk_ne_map {w : World} {b c m : Nat} {k t : TypeId} {cs : Array Value} {fz : Nat × Nat} {R : Value → Option (DataW Unit × List MemPlace)} {D : DataW Unit} (h : w.heap[c]? = some (.cells cs t fz)) (hb : w.ownsMap Try.prog k R b m D) : b ≠ c := by
  obtain ⟨es, clock, hb, _⟩ := hb
  intro hv
  subst hv
  rw [hb] at h
  cases h
theorem owns_setAt {w : World} {B n b i : Nat} {e t : TypeId} {size : Nat} {v u : Value} {xs : List Value} {cs : Array Value} {fz : Nat × Nat} (h : w.ownsRow B e size v n xs) (hb : w.heap[b]? = some (.cells cs t fz)) (hne : e ≠ t) : (w.setCell ⟨b, i, none⟩ u).ownsRow B e size v n xs := by
  have hv := own_ne h hb hne
  refine owns_key h (fun g _ hg ho => (Below.heap_setCell w ⟨b, i, none⟩ u g (fun e => hv ?_)).trans ho)
  rw [hg]
  exact congrArg some e
theorem blk_grown {w w' : World} {b : Nat} {o : Obj} {row : Option Nat} (h : w.heap[b]? = some o) (hg : w.grownBy w' row) (hne : row ≠ some b) : w'.heap[b]? = some o :=
  (hg.block b (lt_of_block h) (fun e => hne e.symm)).trans h
theorem owns_grown {w w' : World} {B n : Nat} {e : TypeId} {size : Nat} {v : Value} {xs : List Value} {row : Option Nat} (h : w.ownsRow B e size v n xs) (hg : w.grownBy w' row) (hne : ∀ g, row = some g → v.ownBlock ≠ some g) : w'.ownsRow B e size v n xs :=
  owns_key h (fun g _ hg2 ho => (hg.block g (lt_of_block ho) (fun e => hne g e.symm hg2)).trans ho)

/-- What Put makes of a dictionary. -/
def PEnd (S : Nat → Prop) (w : World) (b : Nat) (ws : List (List UInt8)) (s : List UInt8) (e : Ending) (w' : World) : Prop :=
  ∃ (ws' : List (List UInt8)) (k er : Nat), e = .returned (.tuple #[.int .i64 (k : Int), .int .i64 (er : Int)]) ∧ PutR ws s ws' k er ∧ V S w' b ws' ∧ Fr S w w'

set_option maxHeartbeats 2000000 in
set_option maxRecDepth 100000 in
theorem put_any {S : Nat → Prop} {w : World} {b : Nat} {ws : List (List UInt8)} (hV : V S w b ws) (hS : Low S w) (s : List UInt8) (hs : s.length ≤ maxLen) (hl : ws.length ≤ 1000000) :
    Calls Try.prog 15 #[.pointer (some ⟨b, 0, none⟩), .string ⟨s.toArray⟩] w (PEnd S w b ws s) := by
  have HV := Hid.mk hV
  obtain ⟨mb, vw, D, h⟩ := hV
  have H := Hid.mk h
  have HS := Hid.mk hS
  obtain ⟨⟨g0, g1, g2⟩, _⟩ := three_cells h.blk
  have C := Hid.mk (given_any b w g0)
  have HK := Hid.mk (keyS s hs)
  have hh := h.tells.1 s
  have I := Hid.mk (is_any ⟨s.toArray⟩ w)
  simp only at I
  obtain ⟨m, hm⟩ : ∃ m, m = isW s := ⟨_, rfl⟩
  have I2 : Hid (Calls Try.prog 9 #[.string ⟨s.toArray⟩] w fun e w' => e = .returned (.bool m) ∧ w' = w) := Hid.mk (by rw [hm]; simpa using I.out)
  have HM := Hid.mk hm
  clear I hS hm h
  cases m with
  | false =>
    go_enter Try.func15, Try.ntmps15
    go_wp2_with fail
    refine C.out.mono ?_
    rintro e w1 ⟨rfl, hw⟩
    subst hw
    go_wp2_with fail
    refine I2.out.mono ?_
    rintro e w1 ⟨rfl, hw⟩
    subst hw
    go_wp2
    go_ret2
    exact ⟨ws, 0, 1, rfl, .inl ⟨HM.out.symm, rfl, rfl, rfl⟩, HV.out, Fr.refl _ _⟩
  | true =>
    by_cases hm : s ∈ ws
    · have hmt : Maps.has D (.string s) = true := by rw [hh]; exact decide_eq_true hm
      obtain ⟨i, hi⟩ := List.getElem?_of_mem hm
      have HI := Hid.mk hi
      have HH := Hid.mk hmt
      clear hh hm hi hmt
      go_enter Try.func15, Try.ntmps15
      go_wp2_with fail
      refine C.out.mono ?_
      rintro e w1 ⟨rfl, hw⟩
      subst hw
      go_wp2_with fail
      refine I2.out.mono ?_
      rintro e w1 ⟨rfl, hw⟩
      subst hw
      go_wp2_with (at_lookup; refine wpList_lookup_own_ok_int _ rfl _ _ 41 rfl 9 3 .i64 lawS Try.underlying41 Try.underlying3 (zeroI _) mb _ D rfl H.out.om _ _ rfl HK.out ?_; intro c hat hwc; rw [HH.out]; have hc : c = (i : Int) := (by rw [H.out.tells.2 i s HI.out] at hat; injection hat with hat; injection hat with _ hat; exact hat.symm); clear hat hwc; subst hc)
      go_ret2
      exact ⟨ws, i, 0, rfl, .inr (.inl ⟨HM.out.symm, HI.out, rfl, rfl⟩), HV.out, Fr.refl _ _⟩
    · have hmt : Maps.has D (.string s) = false := by rw [hh]; exact decide_eq_false hm
      have HI := Hid.mk hm
      have HH := Hid.mk hmt
      obtain ⟨ao, cap, rfl⟩ := own_slice H.out.ow
      obtain ⟨i0, hi0, hz0, hz1, hz2⟩ := info_parts infoS
      have hwn := isW_len HM.out.symm
      clear hh hm hmt
      go_enter Try.func15, Try.ntmps15
      go_wp2_with fail
      refine C.out.mono ?_
      rintro e w1 ⟨rfl, hw⟩
      subst hw
      go_wp2_with fail
      refine I2.out.mono ?_
      rintro e w1 ⟨rfl, hw⟩
      subst hw
      go_wp2_with (at_lookup; refine wpList_lookup_own_ok_int _ rfl _ _ 41 rfl 9 3 .i64 lawS Try.underlying41 Try.underlying3 (zeroI _) mb _ D rfl H.out.om _ _ rfl HK.out ?_; intro c hat hwc; rw [HH.out]; clear hat hwc)
      refine (clone_any _ _ (by rw [size_list]; omega)).mono ?_
      rintro e w2 ⟨rfl, hb2⟩
      have H2 := Hid.mk (H.out.below hb2)
      have F2 := Hid.mk (fr_below HS.out hb2)
      clear hb2 g0 g1 g2 C I2
      obtain ⟨⟨g0, g1, g2⟩, _⟩ := three_cells H2.out.blk
      go_wp2_with (at_mapUpdate; refine wpList_mapUpdate_own _ rfl _ _ _ 41 rfl 9 3 lawS Try.underlying41 _ mb _ D rfl H2.out.om ?m1 _ _ _ rfl rfl HK.out _ [] (plainElem_int Try.underlying3 ?m2) ?_)
      case m1 => unfold maxLen; omega
      case m2 => simp [Lit.wf, IntKind.min, IntKind.max, IntKind.bits, IntKind.signed]; omega
      intro w3 hown3 hgrow3
      have hb3 := blk_grown H2.out.blk hgrow3 (fun e => blk_ne_map H2.out.blk H2.out.om (Option.some.inj e))
      have ho3 := owns_grown H2.out.ow hgrow3 (fun g e => by rw [← e]; exact own_ne_map H2.out.ow H2.out.om)
      have F3 := Hid.mk (F2.out.grown HS.out hgrow3 (fun g e => by rw [← Option.some.inj e]; exact H2.out.outm))
      have HO3 := Hid.mk hown3
      clear g0 g1 g2 hown3 hgrow3
      obtain ⟨⟨g0, g1, g2⟩, _⟩ := three_cells hb3
      have hlt3 : b < w3.heap.size := lt_of_block hb3
      go_wp2_with (at_builtin; refine wpList_append_lies _ rfl _ _ _ rfl 0 9 i0 _ 1 16 Try.underlying23 hi0 hz0 hz1 hz2 rfl (by decide) (.slice ao ws.length cap) _ _ (by rfl) (ho3.alloc _) ⟨w3.heap.size, 0, none⟩ 1 1 [.string ⟨s.toArray⟩] (by rfl) (by rfl) ?d1 ?d2 (by decide) ?d3 ?d4 (Nat.zero_le _) (w3.heap.size + 1) (by simp) ?_)
      case d1 => exact World.news_of_block (cs := #[.string ⟨s.toArray⟩]) (t := 9) (fr := (0, 0)) (heap_alloc_new w3 _)
      case d2 => simp [Value.oneCell']
      case d3 => unfold maxLen; omega
      case d4 => omega
      intro gg cap2 w5 hown5 hgrow5 hat5 hlt5
      have ba : Below w3.heap.size w3 (w3.alloc (.cells #[.string ⟨s.toArray⟩] 9)) := (Below.refl _ _).alloc (Nat.le_refl _) _
      have hb4 := (ba.block b hlt3).trans hb3
      have hb5 := blk_grown hb4 hgrow5 (own_ne (ho3.alloc _) hb4 (by decide))
      have hm4 := map_key HO3.out (fun o ho => (ba.block mb HO3.out.lt).trans ho)
      have hm5 := map_key (w' := w5) hm4 (fun o ho => blk_grown ho hgrow5 (own_ne_map (ho3.alloc _) hm4))
      have F5 := Hid.mk (((F3.out.next HS.out ba).grown HS.out hgrow5 (fun g e => H2.out.outw g e)).setCell (i := 2) H2.out.out (.slice (some ⟨gg, 0, none⟩) (ws.length + 1) cap2))
      clear g0 g1 g2
      obtain ⟨⟨g0, g1, g2⟩, ⟨f0, f1, f2⟩⟩ := three_cells hb5
      have hfin : V S (w5.setCell ⟨b, 2, none⟩ (.slice (some ⟨gg, 0, none⟩) (ws.length + 1) cap2)) b (ws ++ [s]) := by
        refine ⟨mb, _, D.put (.string s) (.lit (.int .i64 (ws.length : Int))), ⟨three_set2 hb5, H2.out.out, ?_, ?_, ?_, H2.out.outm, ?_, H2.out.once.snoc HI.out, H2.out.all.snoc HM.out.symm⟩⟩
        · rw [strCs_snoc, List.length_append]
          exact owns_setAt hown5 hb5 (by decide)
        · intro g hg hk
          have e1 : gg = g := by simpa [Value.ownBlock] using hg
          subst e1
          rcases hat5 with e2 | e2
          · exact H2.out.outw gg e2 hk
          · have := (HS.out.fr F3.out) gg hk
            omega
        · rw [List.length_append]
          exact hm5.setCell (blk_ne_map hb5 hm5) _
        · exact H2.out.tells.put H2.out.om.isMap HI.out
      have HFIN := Hid.mk hfin
      clear hfin hown5 hgrow5 hat5 hlt5 ba hb4 hm4 hm5 hb5 hlt3 hb3 ho3
      go_wp2
      go_ret2
      exact ⟨ws ++ [s], ws.length, 0, rfl, .inr (.inr ⟨HM.out.symm, HI.out, rfl, rfl, rfl⟩), HFIN.out, F5.out⟩
end Go.Proofs.Ytapdjolgdocilaa
