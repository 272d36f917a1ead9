/- The document's field: New, place, Ids, Pick; lists of numbers compared. -/
import Derived.Test.YtnkgbinogblemaaDBits
namespace Go.Proofs.Ytnkgbinogblemaa
open Go.RowKit

theorem csP_len (p : Pk) : (csP p).length = 4 := rfl
theorem csP_one (l : List Pk) : ∀ u ∈ l.flatMap csP, u.oneCell' = true := by
  intro u hu
  obtain ⟨x, _, h⟩ := List.mem_flatMap.1 hu
  simp only [List.mem_cons, List.not_mem_nil, or_false] at h
  rcases h with rfl | rfl | rfl | rfl <;> rfl
theorem infoP : (Try.prog.info? 40).map (fun i => (i.zero, i.size, i.bytes)) = some (some (.agg #[.int .i64 0, .int .i64 0, .int .i64 0, .string ByteArray.empty]), 4, 40) := by kernel_rfl
/-- The document's list of packets: a row that a call has made, in a block of S. -/
structure DL (S : Nat → Prop) (w : World) (v : Value) (l : List Pk) : Prop where
  own : w.ownsRow 0 40 4 v l.length (l.flatMap csP)
  at_ : ∀ g, v.ownBlock = some g → S g
theorem DL.nil (S : Nat → Prop) (w : World) : DL S w (.slice none 0 0) [] := ⟨⟨rfl, .inl ⟨rfl, rfl⟩⟩, fun g hg => by simp [Value.ownBlock] at hg⟩
theorem DL.below {S : Nat → Prop} {w w' : World} {v : Value} {l : List Pk} (h : DL S w v l) (hb : Below w.heap.size w w') : DL S w' v l := ⟨owns_below h.own hb, h.at_⟩
theorem DL.sub {S T : Nat → Prop} {w : World} {v : Value} {l : List Pk} (h : DL S w v l) (hs : ∀ k, S k → T k) : DL T w v l := ⟨h.own, fun g hg => hs g (h.at_ g hg)⟩
theorem DL.fr {S : Nat → Prop} {w w' : World} {v : Value} {l : List Pk} (h : DL S w v l) (hf : Fr S w w') : DL S w' v l := ⟨owns_key h.own (fun g _ hg ho => (hf.block g (h.at_ g hg)).trans ho), h.at_⟩
theorem DL.slice {S : Nat → Prop} {w : World} {v : Value} {l : List Pk} (h : DL S w v l) : ∃ ao cap, v = .slice ao l.length cap := own_slice h.own
/-- A packet of the list. -/
theorem DL.get {S : Nat → Prop} {w : World} {ao : Option Addr} {n cap : Nat} {l : List Pk} (h : DL S w (.slice ao n cap) l) {j : Nat} {p : Pk} (hj : l[j]? = some p) :
    ∃ g, ao = some ⟨g, 0, none⟩ ∧ w.cell? ⟨g, j * 4, none⟩ = some (.int .i64 (p.id : Int)) ∧ w.cell? ⟨g, j * 4 + 1, none⟩ = some (.int .i64 p.fr) ∧ w.cell? ⟨g, j * 4 + 2, none⟩ = some (.int .i64 p.to) ∧ w.cell? ⟨g, j * 4 + 3, none⟩ = some (.string ⟨p.bs.toArray⟩) := by
  rcases h.own.2 with ⟨e, h0⟩ | ⟨g, c2, cur, e, _⟩
  · have := List.length_eq_zero_iff.1 h0
    subst this
    simp at hj
  · injection e with e1 e2 e3
    subst e1 e2
    have hlt := (List.getElem?_eq_some_iff.1 hj).1
    have key : ∀ c, c < 4 → w.cell? ⟨g, j * 4 + c, none⟩ = (csP p)[c]? := fun c hc => by
      rw [h.own.cellAt (j * 4 + c) (by omega)]
      exact flat_at csP_len l j c p hj hc
    exact ⟨g, rfl, key 0 (by decide), key 1 (by decide), key 2 (by decide), key 3 (by decide)⟩
abbrev encF (f : Fd) (v : Value) : Value := .agg #[.int .i64 (f.nodes : Int), .int .i64 (f.last : Int), v]
abbrev zF : Obj := .cells #[.int .i64 0, .int .i64 0, .slice none 0 0] 29
theorem three_cells {w : World} {b : Nat} {c0 c1 c2 : Value} {t : TypeId} (h : w.heap[b]? = some (.cells #[c0, c1, c2] t (0, 0))) :
    (w.cell? ⟨b, 0, none⟩ = some c0 ∧ w.cell? ⟨b, 1, none⟩ = some c1 ∧ w.cell? ⟨b, 2, none⟩ = some c2) ∧
    (w.frozen? ⟨b, 0, none⟩ = false ∧ w.frozen? ⟨b, 1, none⟩ = false ∧ w.frozen? ⟨b, 2, none⟩ = false) := by
  simp [World.cell?, World.frozen?, h]

/-- The document's New. -/
def RNewE (k : Int) (w : World) (e : Ending) (w' : World) : Prop :=
  Below w.heap.size w w' ∧ ((¬ (1 ≤ k ∧ k ≤ 65) ∧ e = .returned (.tuple #[.agg #[.int .i64 0, .int .i64 0, .slice none 0 0], .int .i64 1])) ∨
    ((1 ≤ k ∧ k ≤ 65) ∧ e = .returned (.tuple #[.agg #[.int .i64 k, .int .i64 0, .slice none 0 0], .int .i64 0])))
set_option maxRecDepth 100000 in
theorem rNew_any (k : Int) (w : World) : Calls Try.prog 8 #[.int .i64 k] w (RNewE k w) := by
  have hb : Below w.heap.size w (w.alloc zF) := (Below.refl _ _).alloc (Nat.le_refl _) _
  have x := three_cells (box_at w zF)
  obtain ⟨⟨x0, x1, x2⟩, ⟨y0, y1, y2⟩⟩ := x
  have HB : Hid (∀ v0 v1 v2 : Value, Below w.heap.size w (((w.alloc zF).setCell ⟨w.heap.size, 0, none⟩ v0).setCell ⟨w.heap.size, 1, none⟩ v1)) := Hid.mk (fun v0 v1 v2 => (hb.setCell (p := ⟨w.heap.size, 0, none⟩) (Nat.le_refl _) _).setCell (p := ⟨w.heap.size, 1, none⟩) (Nat.le_refl _) _)
  have HB0 := Hid.mk hb
  have HB1 : Hid (∀ o, Below w.heap.size w (w.alloc o)) := Hid.mk (fun o => (Below.refl _ _).alloc (Nat.le_refl _) o)
  clear hb
  by_cases h1 : k < 1
  · have HE : Hid (¬ (1 ≤ k ∧ k ≤ 65)) := Hid.mk (by omega)
    go_enter Try.func8, Try.ntmps8
    go_wp2
    refine bodyPost_ret (v := .tuple #[.agg #[.int .i64 0, .int .i64 0, .slice none 0 0], .int .i64 1]) ?_ rfl ⟨HB1.out _, .inl ⟨HE.out, rfl⟩⟩
    simp [results, Try.results8, go_sem]
  · by_cases h2 : 65 < k
    · have HE : Hid (¬ (1 ≤ k ∧ k ≤ 65)) := Hid.mk (by omega)
      go_enter Try.func8, Try.ntmps8
      go_wp2
      refine bodyPost_ret (v := .tuple #[.agg #[.int .i64 0, .int .i64 0, .slice none 0 0], .int .i64 1]) ?_ rfl ⟨HB1.out _, .inl ⟨HE.out, rfl⟩⟩
      simp [results, Try.results8, go_sem]
    · have HE : Hid (1 ≤ k ∧ k ≤ 65) := Hid.mk (by omega)
      go_enter Try.func8, Try.ntmps8
      go_wp2
      refine bodyPost_ret (v := .tuple #[.agg #[.int .i64 k, .int .i64 0, .slice none 0 0], .int .i64 0]) ?_ rfl ⟨HB1.out _, .inr ⟨HE.out, rfl⟩⟩
      simp [results, Try.results8, go_sem]

section
variable {S : Nat → Prop} {w : World} {v : Value} {f : Fd}
/-- The place of a number. -/
theorem take_no {l : List Pk} {i : Nat} {p : Pk} {k : Int} (h : ∀ q ∈ l.take i, (q.id : Int) ≠ k) (hp : l[i]? = some p) (hk : (p.id : Int) ≠ k) : ∀ q ∈ l.take (i + 1), (q.id : Int) ≠ k := by
  rw [List.take_add_one, hp]
  intro q hq
  rcases List.mem_append.1 hq with hq | hq
  · exact h q hq
  · simp at hq; rw [hq]; exact hk
/-- What place answers: where the number stands for the first time. -/
def PlcE (l : List Pk) (k : Int) (w : World) (e : Ending) (w' : World) : Prop := Below w.heap.size w w' ∧ ((e = .returned (.int .i64 (-1)) ∧ ∀ q ∈ l, (q.id : Int) ≠ k) ∨ ∃ (i : Nat) (p : Pk), e = .returned (.int .i64 (i : Int)) ∧ l[i]? = some p ∧ (p.id : Int) = k)
set_option maxRecDepth 100000 in
set_option maxHeartbeats 1000000 in
theorem rPlace_any (h : DL S w v f.l) (k : Int) (hl : f.l.length ≤ 100000) : Calls Try.prog 28 #[encF f v, .int .i64 k] w (PlcE f.l k w) := by
  have hb : Below w.heap.size w (w.alloc (.cells #[.int .i64 (f.nodes : Int), .int .i64 (f.last : Int), v] 29)) := (Below.refl _ _).alloc (Nat.le_refl _) _
  have h1 := h.below hb
  obtain ⟨ao, cap, hv⟩ := h.slice
  obtain ⟨n, hn⟩ : ∃ n, n = f.l.length := ⟨_, rfl⟩
  rw [← hn] at hv hl
  subst hv
  have HD := Hid.mk h1
  have HN := Hid.mk hn
  have HB := Hid.mk hb
  unfold encF
  clear h h1 hn hb
  go_enter Try.func28, Try.ntmps28
  go_wp2_with fail
  go_loopw [5] (fun c wr => ∃ i : Nat, i ≤ n ∧ c = .int .i64 (i : Int) ∧ (∀ q ∈ f.l.take i, (q.id : Int) ≠ k) ∧ wr = w.alloc (.cells #[.int .i64 (f.nodes : Int), .int .i64 (f.last : Int), .slice ao n cap] 29)) (fun c _ => n - (intOf c).toNat)
  case atStart => exact ⟨0, Nat.zero_le _, rfl, by simp, rfl⟩
  case round =>
    obtain ⟨i, hi, rfl, hall, hwr⟩ := hrel
    subst hwr
    have HA := Hid.mk hall
    clear hall
    by_cases hlt : i < n
    · have hltI : (i : Int) < (n : Int) := by omega
      obtain ⟨p, hp⟩ : ∃ p, f.l[i]? = some p := ⟨_, List.getElem?_eq_getElem (by rw [← HN.out]; exact hlt)⟩
      obtain ⟨g, rfl, p0, p1, p2, p3⟩ := HD.out.get hp
      obtain ⟨z, hz⟩ : ∃ z : Int, z = (p.id : Int) := ⟨_, rfl⟩
      rw [← hz] at p0
      have HP := Hid.mk hp
      have HZ := Hid.mk hz
      clear p1 p2 p3 hp hz
      by_cases e : z = k
      · have HE : Hid (PlcE f.l k w (.returned (.int .i64 (i : Int))) (w.alloc (.cells #[.int .i64 (f.nodes : Int), .int .i64 (f.last : Int), .slice (some ⟨g, 0, none⟩) n cap] 29))) := Hid.mk ⟨HB.out, .inr ⟨i, p, rfl, HP.out, by rw [← HZ.out]; exact e⟩⟩
        subst e
        go_wp2
        go_ret
        exact HE.out
      · have HA2 := Hid.mk (take_no HA.out HP.out (by rw [← HZ.out]; exact e))
        have e2 : (z == k) = false := by simpa using e
        go_wp2
        go_roundw
        case rel => exact ⟨i + 1, by omega, by go_num, HA2.out, by trivial⟩
        case measure => simp [intOf]; omega
    · have hltI : ¬ (i : Int) < (n : Int) := by omega
      have HE : Hid (PlcE f.l k w (.returned (.int .i64 (-1))) (w.alloc (.cells #[.int .i64 (f.nodes : Int), .int .i64 (f.last : Int), .slice ao n cap] 29))) := Hid.mk ⟨HB.out, .inl ⟨rfl, by have := HA.out; rw [List.take_of_length_le (by rw [← HN.out]; omega)] at this; exact this⟩⟩
      go_wp2
      go_ret
      exact HE.out
end
end Go.Proofs.Ytnkgbinogblemaa
