/- Lists of notes in memory; the statement that notes that are read, packed again, are the bytes that were read. -/
import Derived.Test.YtgmeehkikamkoaaWAwake
namespace Go.Proofs.Ytgmeehkikamkoaa
open Go.RowKit

/-- A slice of notes in memory, read-only. -/
def NotesAt (w : World) (v : Value) (ns : List NoteD) : Prop :=
  ns.length ≤ 9223372036854775807 ∧ ∃ ao cap, v = .slice ao ns.length cap ∧ (ns = [] ∨ ∃ b o, ao = some ⟨b, o, none⟩ ∧ b < w.heap.size ∧ ∀ (j : Nat) n, ns[j]? = some n → ∃ c1 c2 c3,
    w.cell? ⟨b, o + j * 4, none⟩ = some (.int .i64 n.kind) ∧ w.cell? ⟨b, o + j * 4 + 1, none⟩ = some c1 ∧ w.cell? ⟨b, o + j * 4 + 2, none⟩ = some c2 ∧ w.cell? ⟨b, o + j * 4 + 3, none⟩ = some c3 ∧ NoteAt w (.agg #[.int .i64 n.kind, c1, c2, c3]) n)
theorem NotesAt.below {w w' : World} {v : Value} {ns : List NoteD} (h : NotesAt w v ns) (hb : Below w.heap.size w w') : NotesAt w' v ns := by
  obtain ⟨h1, ao, cap, h2, h3⟩ := h
  refine ⟨h1, ao, cap, h2, ?_⟩
  rcases h3 with h3 | ⟨b, o, ha, hl, hc⟩
  · exact .inl h3
  · refine .inr ⟨b, o, ha, Nat.lt_of_lt_of_le hl hb.size, fun j n hj => ?_⟩
    obtain ⟨c1, c2, c3, a0, a1, a2, a3, a4⟩ := hc j n hj
    have key : ∀ i u, w.cell? ⟨b, i, none⟩ = some u → w'.cell? ⟨b, i, none⟩ = some u := fun i u h => (hb.cell (p := ⟨b, i, none⟩) hl).trans h
    exact ⟨c1, c2, c3, key _ _ a0, key _ _ a1, key _ _ a2, key _ _ a3, a4.below hb⟩
theorem cellAt_wide {w : World} {B g cap n i : Nat} {ao : Option Addr} {e : TypeId} {size : Nat} {xs : List Value} {x : Value} (h : w.ownsRow B e size (.slice ao n cap) n xs) (ha : ao = some ⟨g, 0, none⟩) (hx : xs[i]? = some x) : w.cell? ⟨g, i, none⟩ = some x := by
  subst ha
  have hi := (List.getElem?_eq_some_iff.1 hx).1
  rcases h.2 with ⟨h0, _⟩ | ⟨g', cap', cur, e1, e2, e3, e4, e5, e6, e7⟩
  · simp at h0
  · simp only [Value.slice.injEq, Option.some.injEq, Addr.mk.injEq, and_true] at e1
    obtain ⟨rfl, _, rfl⟩ := e1
    rw [← e7, List.getElem?_take] at hx
    split at hx
    · simp only [World.cell?, e3]
      simpa using hx
    · simp at hx
theorem NotesOwn.at_ {w : World} {B : Nat} {v : Value} {ns : List NoteD} (h : NotesOwn w B v ns) (hl : ns.length ≤ 9223372036854775807) : NotesAt w v ns := by
  obtain ⟨cs, h1, h2⟩ := h
  have h10 := h1
  rcases h1.2 with ⟨rfl, h0⟩ | ⟨g, cap, cur, rfl, e2, e3, e4⟩
  · exact ⟨hl, none, 0, by rw [h0], .inl (List.length_eq_zero_iff.1 h0)⟩
  · refine ⟨hl, _, cap, rfl, .inr ⟨g, 0, rfl, lt_of_block e3, fun j n hj => ?_⟩⟩
    obtain ⟨c1, c2, c3, a0, a1, a2, a3, a4⟩ := h2 j n hj
    simp only [Nat.zero_add]
    exact ⟨c1, c2, c3, cellAt_wide h10 rfl a0, cellAt_wide h10 rfl a1, cellAt_wide h10 rfl a2, cellAt_wide h10 rfl a3, a4.at_⟩

/-- The bytes of notes, one behind the other. -/
def seals (ns : List NoteD) : List UInt8 := (ns.map fun n => sealB n.body).flatten
theorem seals_snoc (ns : List NoteD) (n : NoteD) : seals (ns ++ [n]) = seals ns ++ sealB n.body := by simp [seals]
theorem seals_cons (n : NoteD) (ns : List NoteD) : seals (n :: ns) = sealB n.body ++ seals ns := by simp [seals]

theorem may_sane {n : NoteD} (h : n.may) : n.sane := by
  obtain ⟨_, ⟨h1, h2, _, _⟩, _⟩ := h
  exact ⟨by omega, fun r hr => by have := len_le_cntR hr; omega⟩

theorem allF_sound : ∀ (f : Nat) (l : List UInt8), (∀ n ∈ (allF f l).1, n.may) ∧ l.take (allF f l).2 = seals (allF f l).1 ∧ (allF f l).2 ≤ l.length ∧ (allF f l).1.length * 8 ≤ (allF f l).2
  | 0, l => by simp [allF, seals]
  | f + 1, l => by
    unfold allF
    split
    · rename_i h0
      obtain ⟨n, k, e, hn⟩ : ∃ n k e, unpackP l = (n, k, e) := ⟨_, _, _, rfl⟩
      rw [hn] at h0 ⊢
      simp only at h0 ⊢
      subst h0
      obtain ⟨g1, g2, g3⟩ := unpackP_ok hn
      obtain ⟨u1, u2⟩ := unpackP_used (l := l) (by rw [hn])
      rw [hn] at u1 u2
      simp only at u1 u2
      obtain ⟨i1, i2, i3, i4⟩ := allF_sound f (l.drop k)
      generalize allF f (l.drop k) = q at *
      refine ⟨?_, ?_, ?_, ?_⟩
      · intro m hm
        rcases List.mem_cons.1 hm with rfl | hm
        · exact g1
        · exact i1 m hm
      · rw [seals_cons, ← i2]
        conv => lhs; rw [g2]
        rw [List.take_append, g3, List.take_of_length_le (by omega), Nat.add_sub_cancel_left]
      · rw [List.length_drop] at i3; omega
      · rw [List.length_cons]; omega
    · simp [seals]
theorem allP_sound (l : List UInt8) : (∀ n ∈ (allP l).1, n.may) ∧ l.take (allP l).2 = seals (allP l).1 ∧ (allP l).2 ≤ l.length ∧ (allP l).1.length * 8 ≤ (allP l).2 := allF_sound _ l

theorem seals_append (a b : List NoteD) : seals (a ++ b) = seals a ++ seals b := by simp [seals]
theorem seals_le (ns : List NoteD) (i : Nat) : (seals (ns.take i)).length ≤ (seals ns).length := by
  have e : seals ns = seals (ns.take i) ++ seals (ns.drop i) := by rw [← seals_append, List.take_append_drop]
  rw [e, List.length_append]; omega

set_option maxHeartbeats 2000000 in
set_option maxRecDepth 100000 in
theorem wireTwice_walk (s : ByteArray) (w : World) (_ : s.size ≤ 140737488351232) :
    Calls Try.prog 8 #[.string s] w fun e w' => e = .returned (.bool true) ∧ Below w.heap.size w w' := by
  obtain ⟨l, rfl⟩ : ∃ l : List UInt8, s = ⟨l.toArray⟩ := ⟨s.data.toList, (bytes_eta s).symm⟩
  have hsz := size_list l
  by_cases h13 : 8192 < l.length
  · go_enter Try.func8, Try.ntmps8
    go_wp2_with fail
    refine (awake_any _).mono ?_
    rintro e w1 ⟨rfl, hb1⟩
    go_wp2
    go_ret
    exact ⟨rfl, hb1⟩
  · obtain ⟨s1, s2, s3, s4⟩ := allP_sound l
    have CA : Hid (∀ w, Calls Try.prog 18 #[.string ⟨l.toArray⟩] w (AEnd l w)) := Hid.mk (fun w => all_any l w (by omega))
    unfold AEnd at CA
    obtain ⟨ns, k, hal⟩ : ∃ ns k, allP l = (ns, k) := ⟨_, _, rfl⟩
    rw [hal] at s1 s2 s3 s4 CA
    simp only at s1 s2 s3 s4 CA
    have hx := extract_to l k
    rw [s2] at hx
    have hlen : (seals ns).length = k := by rw [← s2, List.length_take]; omega
    have S1 := Hid.mk s1
    have HLEN := Hid.mk hlen
    clear s1 s2 hal hlen
    go_enter Try.func8, Try.ntmps8
    go_wp2_with fail
    refine (CA.out _).mono ?_
    rintro e w1 ⟨v, rfl, hown, hb1⟩
    have HAT := Hid.mk (hown.at_ (by omega))
    have B1 := Hid.mk hb1
    clear hown hb1 CA
    obtain ⟨hnl, ao, cap, rfl, hc⟩ := HAT.out
    clear hc
    go_wp2
    go_loopw [5, 6] (fun a c wr => ∃ i : Nat, i ≤ ns.length ∧ a = .string ⟨(seals (ns.take i)).toArray⟩ ∧ c = .int .i64 i ∧ NotesAt wr (.slice ao ns.length cap) ns ∧ Below w.heap.size w wr) (fun _ c _ => ns.length - (intOf c).toNat)
    case atStart => exact ⟨0, Nat.zero_le _, rfl, rfl, HAT.out, B1.out⟩
    case round =>
      obtain ⟨i, hi, rfl, rfl, hat, hbw⟩ := hrel
      have HA := Hid.mk hat
      have HB := Hid.mk hbw
      clear hat hbw HAT B1
      by_cases hlt : i < ns.length
      · obtain ⟨n, hn⟩ : ∃ n, ns[i]? = some n := ⟨_, List.getElem?_eq_getElem hlt⟩
        obtain ⟨_, ao', cap', e1, hc⟩ := HA.out
        simp only [Value.slice.injEq, true_and] at e1
        obtain ⟨rfl, rfl⟩ := e1
        rcases hc with hnil | ⟨b, o, rfl, hl, hc⟩
        · rw [hnil] at hn; simp at hn
        · obtain ⟨c1, c2, c3, a0, a1, a2, a3, a4⟩ := hc i n hn
          have hmay := S1.out n (List.mem_of_getElem? hn)
          have hltI : (i : Int) < (ns.length : Int) := by omega
          have HP := Hid.mk (packV_may hmay)
          have HST : Hid (seals (ns.take (i + 1)) = seals (ns.take i) ++ sealB n.body) := Hid.mk (by rw [List.take_add_one, hn, Option.toList_some, seals_snoc])
          have hse := seals_le ns i
          rw [HLEN.out] at hse
          have hbl := hmay.2.2
          have hsl := sealB_len n.body
          have A4 := Hid.mk a4
          have HJ : Hid ((⟨(seals (ns.take i)).toArray⟩ : ByteArray) ++ ⟨(sealB n.body).toArray⟩ = ⟨(seals (ns.take (i + 1))).toArray⟩) := Hid.mk (by rw [append_list, HST.out])
          have hz1 := size_list (seals (ns.take i))
          have hz2 := size_list (sealB n.body)
          have HM := Hid.mk hmay
          clear hc hn a4 hmay
          go_wp2_with fail
          refine (pack_any _ n _ A4.out (may_sane HM.out)).mono ?_
          rintro e w2 ⟨rfl, hb2⟩
          rw [HP.out]
          have key : ∀ j u, wr.cell? ⟨b, j, none⟩ = some u → w2.cell? ⟨b, j, none⟩ = some u := fun j u h => (hb2.cell (p := ⟨b, j, none⟩) hl).trans h
          have a0' := key _ _ a0
          have a1' := key _ _ a1
          have a2' := key _ _ a2
          have a3' := key _ _ a3
          have A42 := Hid.mk (A4.out.below hb2)
          have HA2 := Hid.mk (HA.out.below hb2)
          have HB2 := Hid.mk (HB.out.trans (hb2.mono HB.out.size))
          have CC := Hid.mk (check_any _ n w2 A42.out (may_sane HM.out))
          rw [if_pos HM.out] at CC
          clear key a0 a1 a2 a3 hb2 A4 HA HB
          go_wp2_with fail
          refine CC.out.mono ?_
          rintro e w3 ⟨rfl, hb3⟩
          have HA3 := Hid.mk (HA2.out.below hb3)
          have HB3 := Hid.mk (HB2.out.trans (hb3.mono HB2.out.size))
          clear a0' a1' a2' a3' hb3 HA2 HB2 A42 CC
          go_wp2
          go_roundw
          case rel => exact ⟨i + 1, by omega, by rw [← HJ.out], by go_num, HA3.out, HB3.out⟩
          case measure => simp [intOf]; omega
      · have hall : ns.take i = ns := List.take_of_length_le (by omega)
        rw [hall] at *
        have hkI : (k : Int) ≤ (l.length : Int) := by omega
        have hk0 : (0 : Int) ≤ (k : Int) := by omega
        go_wp2_with fail
        refine (awake_any _).mono ?_
        rintro e w1 ⟨rfl, hb1⟩
        have HB3 := Hid.mk (HB.out.trans (hb1.mono HB.out.size))
        go_wp2
        go_ret
        exact ⟨rfl, HB3.out⟩
end Go.Proofs.Ytgmeehkikamkoaa
