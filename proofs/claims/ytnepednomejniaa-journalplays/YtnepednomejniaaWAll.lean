/- All of the program. -/
import Derived.Test.YtnepednomejniaaWUnpack
namespace Go.Proofs.Ytnepednomejniaa
open Go.RowKit

theorem infoNote : (Try.prog.info? 37).map (fun i => (i.zero, i.size, i.bytes)) = some (some (.agg #[.int .i64 0, .slice none 0 0, .slice none 0 0, .slice none 0 0]), 4, 80) := by kernel_rfl

/-- Notes that a call has made. -/
def NotesOwn (w : World) (B : Nat) (v : Value) (ns : List NoteD) : Prop :=
  ∃ cs, w.ownsRow B 37 4 v ns.length cs ∧ ∀ (j : Nat) n, ns[j]? = some n → ∃ c1 c2 c3, cs[j * 4]? = some (.int .i64 n.kind) ∧ cs[j * 4 + 1]? = some c1 ∧ cs[j * 4 + 2]? = some c2 ∧ cs[j * 4 + 3]? = some c3 ∧ NoteOwn w B (.agg #[.int .i64 n.kind, c1, c2, c3]) n

theorem owns_below {w w' : World} {B n : Nat} {e : TypeId} {size : Nat} {v : Value} {xs : List Value} (h : w.ownsRow B e size v n xs) (hb : Below w.heap.size w w') : w'.ownsRow B e size v n xs := by
  refine ⟨h.1, ?_⟩
  rcases h.2 with h0 | ⟨g, cap, cur, e1, e2, e3, e4⟩
  · exact .inl h0
  · exact .inr ⟨g, cap, cur, e1, e2, (hb.block g (lt_of_block e3)).trans e3, e4⟩
theorem NotesOwn.below {w w' : World} {B : Nat} {v : Value} {ns : List NoteD} (h : NotesOwn w B v ns) (hb : Below w.heap.size w w') : NotesOwn w' B v ns := by
  obtain ⟨cs, h1, h2⟩ := h
  refine ⟨cs, owns_below h1 hb, fun j n hn => ?_⟩
  obtain ⟨c1, c2, c3, a0, a1, a2, a3, a4⟩ := h2 j n hn
  exact ⟨c1, c2, c3, a0, a1, a2, a3, a4.below hb⟩
theorem NotesOwn.snoc {w w' : World} {B : Nat} {v v' c1 c2 c3 : Value} {ns : List NoteD} {n : NoteD} {cs : List Value} (h1 : w.ownsRow B 37 4 v ns.length cs)
    (h2 : ∀ (j : Nat) n, ns[j]? = some n → ∃ c1 c2 c3, cs[j * 4]? = some (.int .i64 n.kind) ∧ cs[j * 4 + 1]? = some c1 ∧ cs[j * 4 + 2]? = some c2 ∧ cs[j * 4 + 3]? = some c3 ∧ NoteOwn w B (.agg #[.int .i64 n.kind, c1, c2, c3]) n)
    (hn : NoteOwn w B (.agg #[.int .i64 n.kind, c1, c2, c3]) n) (hg : w.grownBy w' v.ownBlock) (hv : w'.ownsRow B 37 4 v' (ns.length + 1) (cs ++ [.int .i64 n.kind, c1, c2, c3])) : NotesOwn w' B v' (ns ++ [n]) := by
  have hl := h1.1
  refine ⟨cs ++ [.int .i64 n.kind, c1, c2, c3], by simpa using hv, fun j m hm => ?_⟩
  rcases Nat.lt_or_ge j ns.length with hj | hj
  · rw [List.getElem?_append_left hj] at hm
    obtain ⟨d1, d2, d3, a0, a1, a2, a3, a4⟩ := h2 j m hm
    refine ⟨d1, d2, d3, ?_, ?_, ?_, ?_, a4.other h1 hg⟩
    · rw [List.getElem?_append_left (by omega)]; exact a0
    · rw [List.getElem?_append_left (by omega)]; exact a1
    · rw [List.getElem?_append_left (by omega)]; exact a2
    · rw [List.getElem?_append_left (by omega)]; exact a3
  · have hj2 : j = ns.length := by
      have := (List.getElem?_eq_some_iff.1 hm).1
      simp at this; omega
    subst hj2
    rw [List.getElem?_append_right (Nat.le_refl _), Nat.sub_self] at hm
    simp at hm
    subst hm
    refine ⟨c1, c2, c3, ?_, ?_, ?_, ?_, hn.other h1 hg⟩
    · rw [List.getElem?_append_right (by omega), show ns.length * 4 - cs.length = 0 by omega]; rfl
    · rw [List.getElem?_append_right (by omega), show ns.length * 4 + 1 - cs.length = 1 by omega]; rfl
    · rw [List.getElem?_append_right (by omega), show ns.length * 4 + 2 - cs.length = 2 by omega]; rfl
    · rw [List.getElem?_append_right (by omega), show ns.length * 4 + 3 - cs.length = 3 by omega]; rfl

def AEnd (l : List UInt8) (w : World) (e : Ending) (w' : World) : Prop :=
  ∃ v, e = .returned (.tuple #[v, .int .i64 ((allP l).2 : Int)]) ∧ NotesOwn w' w.heap.size v (allP l).1 ∧ Below w.heap.size w w'

set_option maxHeartbeats 1000000 in
set_option maxRecDepth 100000 in
theorem all_any (l : List UInt8) (w : World) (hl : l.length ≤ 1073741824) :
    Calls Try.prog 29 #[.string ⟨l.toArray⟩] w (AEnd l w) := by
  have hsz := size_list l
  obtain ⟨i0, hi0, hz0, hz1, hz2⟩ := info_parts infoNote
  go_enter Try.func29, Try.ntmps29
  go_wp2
  go_loopw [2, 3] (fun v u wr => ∃ (at_ : Nat) (acc : List NoteD) (vl : Value), vl = v ∧ u = .int .i64 at_ ∧ at_ ≤ l.length ∧ acc.length * 8 ≤ at_ ∧ acc ++ (allP (l.drop at_)).1 = (allP l).1 ∧ at_ + (allP (l.drop at_)).2 = (allP l).2 ∧ NotesOwn wr w.heap.size vl acc ∧ Below w.heap.size w wr) (fun _ u _ => l.length - (intOf u).toNat)
  case atStart => exact ⟨0, [], _, rfl, rfl, Nat.zero_le _, by simp, by simp, by simp, ⟨[], ⟨rfl, .inl ⟨rfl, rfl⟩⟩, by simp⟩, Below.refl _ _⟩
  case round =>
    obtain ⟨k, acc, vl, rfl, rfl, hk, hac, ha1, ha2, hno, hbw⟩ := hrel
    have HA1 := Hid.mk ha1
    have HA2 := Hid.mk ha2
    have HNO := Hid.mk hno
    have HBW := Hid.mk hbw
    have hkI : (k : Int) ≤ (l.length : Int) := by omega
    have hx := extract_from l k
    rw [hsz] at hx
    clear ha1 ha2 hno hbw
    obtain ⟨q, hq⟩ : ∃ q, q = l.drop k := ⟨_, rfl⟩
    rw [← hq] at hx
    have hql : q.length = l.length - k := by rw [hq, List.length_drop]
    have HQ := Hid.mk hq
    have HU : Hid (∀ w, Calls Try.prog 38 #[.string ⟨q.toArray⟩] w (UEnd q w)) := Hid.mk (fun w => unpack_any q w (by omega))
    clear hq
    obtain ⟨n, m, e, hu⟩ : ∃ n m e, unpackP q = (n, m, e) := ⟨_, _, _, rfl⟩
    unfold UEnd at HU
    rw [hu] at HU
    simp only at HU
    by_cases he : e = 0
    · subst he
      obtain ⟨u1, u2⟩ := unpackP_used (l := q) (by rw [hu])
      rw [hu] at u1 u2
      simp only at u1 u2
      have hall := allP_ok hu
      have HALL := Hid.mk hall
      clear hu hall
      go_wp2_with fail
      refine (HU.out _).mono ?_
      rintro e w2 ⟨v2, rfl, hown, hb2⟩
      obtain ⟨a0, l0, c0, a1, l1, c1, a2, l2, c2, rfl⟩ := own_parts hown
      have HN2 := Hid.mk (HNO.out.below hb2)
      have HB2 := Hid.mk (HBW.out.trans (hb2.mono HBW.out.size))
      have HOW := Hid.mk (hown.base HBW.out.size)
      clear hown hb2 HU HBW HNO
      obtain ⟨cs, h1, h2⟩ := HN2.out
      have H1 := Hid.mk h1
      have H2 := Hid.mk h2
      clear h1 h2 HN2
      go_wp2_with (at_builtin; refine wpList_append_lies _ rfl _ _ _ rfl w.heap.size 37 i0 _ 4 80 Try.underlying27 hi0 hz0 hz1 hz2 rfl (by decide) vl acc.length cs (by rfl) ((H1.out.alloc _).alloc _) ⟨w2.heap.size + 1, 0, none⟩ 1 1 [.int .i64 n.kind, .slice a0 l0 c0, .slice a1 l1 c1, .slice a2 l2 c2] (by rfl) (by rfl) ?c1 ?c2 (by decide) ?c3 ?c4 ?c5 (w2.heap.size + 1 + 1) (by simp) ?_)
      case c1 => exact World.news_of_block (cs := #[.int .i64 n.kind, .slice a0 l0 c0, .slice a1 l1 c1, .slice a2 l2 c2]) (t := 37) (fr := (0, 0)) (by have := box_at (w2.alloc (.cells #[.int .i64 n.kind, .slice a0 l0 c0, .slice a1 l1 c1, .slice a2 l2 c2] 37)) (.cells #[.int .i64 n.kind, .slice a0 l0 c0, .slice a1 l1 c1, .slice a2 l2 c2] 37); rwa [show (w2.alloc (.cells #[.int .i64 n.kind, .slice a0 l0 c0, .slice a1 l1 c1, .slice a2 l2 c2] 37)).heap.size = w2.heap.size + 1 from by simp] at this)
      case c2 => intro u hu; simp at hu; rcases hu with rfl | rfl | rfl | rfl <;> rfl
      case c3 => unfold maxLen; omega
      case c4 => omega
      case c5 => have := HB2.out.size; simp; omega
      intro g cap w3 hown3 hgrow hat hlt3
      have bel2 : Below w2.heap.size w2 ((w2.alloc (.cells #[.int .i64 n.kind, .slice a0 l0 c0, .slice a1 l1 c1, .slice a2 l2 c2] 37)).alloc (.cells #[.int .i64 n.kind, .slice a0 l0 c0, .slice a1 l1 c1, .slice a2 l2 c2] 37)) := ((Below.refl _ _).alloc (Nat.le_refl _) _).alloc (by simp) _
      have N3 := Hid.mk (NotesOwn.snoc ((H1.out.alloc _).alloc _) (fun j n hn => by obtain ⟨d1, d2, d3, b0, b1, b2, b3, b4⟩ := H2.out j n hn; exact ⟨d1, d2, d3, b0, b1, b2, b3, b4.below bel2⟩) (HOW.out.below bel2) hgrow hown3)
      have B3 := Hid.mk ((HB2.out.trans (bel2.mono HB2.out.size)).grown hgrow (by have := HB2.out.size; simp; omega) (fun k hk => own_ge H1.out hk))
      clear hown3 hgrow hat hlt3 bel2 H1 H2 HOW HB2
      go_wp2
      go_roundw
      case rel =>
        have e1 := HALL.out
        have e2 := HA1.out
        have e3 := HA2.out
        rw [← HQ.out, e1] at e2 e3
        simp only at e2 e3
        rw [HQ.out, List.drop_drop] at e2 e3
        exact ⟨k + m, acc ++ [n], _, rfl, by go_num, by omega, by rw [List.length_append, List.length_singleton]; omega, by rw [List.append_assoc]; exact e2, by rw [Nat.add_assoc]; exact e3, N3.out, B3.out⟩
      case measure => simp [intOf]; omega
    · have heI : ((e : Int) != 0) = true := by simp; omega
      have hend := allP_end (l := q) (by rw [hu]; exact he)
      have HEND := Hid.mk hend
      clear hend he hu
      go_wp2_with fail
      refine (HU.out _).mono ?_
      rintro e1 w2 ⟨v2, rfl, hown, hb2⟩
      obtain ⟨a0, l0, c0, a1, l1, c1, a2, l2, c2, rfl⟩ := own_parts hown
      have bel2 : Below w2.heap.size w2 (w2.alloc (.cells #[.int .i64 n.kind, .slice a0 l0 c0, .slice a1 l1 c1, .slice a2 l2 c2] 37)) := (Below.refl _ _).alloc (Nat.le_refl _) _
      have HN2 := Hid.mk ((HNO.out.below hb2).below bel2)
      have HB2 := Hid.mk ((HBW.out.trans (hb2.mono HBW.out.size)).trans (bel2.mono (Nat.le_trans HBW.out.size hb2.size)))
      clear hown hb2 HU HBW HNO bel2
      go_wp2
      go_ret2
      have e2 := HA1.out
      have e3 := HA2.out
      rw [← HQ.out, HEND.out] at e2 e3
      simp only [List.append_nil, Nat.add_zero] at e2 e3
      exact ⟨_, by rw [← e3]; rfl, by rw [← e2]; exact HN2.out, HB2.out⟩
end Go.Proofs.Ytnepednomejniaa
