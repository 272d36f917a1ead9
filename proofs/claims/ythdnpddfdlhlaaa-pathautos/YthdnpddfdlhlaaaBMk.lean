/- The maker in memory; link of the program. -/
import Derived.Test.YthdnpddfdlhlaaaBMap
namespace Go.Proofs.Ythdnpddfdlhlaaa
open Go.RowKit

/-- A set has just these places. -/
def BitsOf (s : Nat) (L : List Nat) : Prop := s < 16777216 ∧ ∀ k, s.testBit k = true ↔ k ∈ L
/-- Sets have just these pairs. -/
def FolOf (F : Nat → Nat) (ps : List (Nat × Nat)) : Prop := ∀ i, i < 24 → F i < 16777216 ∧ ∀ j, (F i).testBit j = true ↔ (i, j) ∈ ps
theorem BitsOf.congr {s : Nat} {L M : List Nat} (h : BitsOf s L) (hm : ∀ k, k ∈ L ↔ k ∈ M) : BitsOf s M := ⟨h.1, fun k => (h.2 k).trans (hm k)⟩
theorem FolOf.congr {F : Nat → Nat} {ps qs : List (Nat × Nat)} (h : FolOf F ps) (hm : ∀ p, p ∈ ps ↔ p ∈ qs) : FolOf F qs := fun i hi => ⟨(h i hi).1, fun j => ((h i hi).2 j).trans (hm _)⟩
theorem BitsOf.or {s t : Nat} {L M : List Nat} (h : BitsOf s L) (g : BitsOf t M) : BitsOf (s ||| t) (L ++ M) :=
  ⟨or_lt24 h.1 g.1, fun k => by rw [Nat.testBit_or, Bool.or_eq_true, h.2, g.2, List.mem_append]⟩
theorem BitsOf.one {p : Nat} (hp : p < 24) : BitsOf (2 ^ p) [p] := ⟨pow_lt24 hp, fun k => by
  rw [Nat.testBit_two_pow, decide_eq_true_eq, List.mem_singleton]
  exact ⟨fun h => h.symm, fun h => h.symm⟩⟩
theorem BitsOf.none : BitsOf 0 [] := ⟨by omega, fun k => by simp⟩
/-- What link leaves. -/
def linkF (F : Nat → Nat) (a b : Nat) (i : Nat) : Nat := if a.testBit i = true then F i ||| b else F i
theorem FolOf.link {F : Nat → Nat} {ps : List (Nat × Nat)} {a b : Nat} {A B : List Nat} (h : FolOf F ps) (ha : BitsOf a A) (hb : BitsOf b B) : FolOf (linkF F a b) (ps ++ cross A B) := fun i hi => by
  unfold linkF
  split
  · rename_i hbit
    refine ⟨or_lt24 (h i hi).1 hb.1, fun j => ?_⟩
    rw [Nat.testBit_or, Bool.or_eq_true, (h i hi).2, hb.2, List.mem_append, mem_cross]
    simp [(ha.2 i).1 hbit]
  · rename_i hbit
    refine ⟨(h i hi).1, fun j => ?_⟩
    rw [(h i hi).2, List.mem_append, mem_cross]
    constructor
    · exact .inl
    · rintro (h1 | ⟨h1, _⟩)
      · exact h1
      · exact absurd ((ha.2 i).2 h1) hbit
theorem linkF_lt {F : Nat → Nat} {a b : Nat} (hF : ∀ i, i < 24 → F i < 16777216) (hb : b < 16777216) (i : Nat) (hi : i < 24) : linkF F a b i < 16777216 := by
  unfold linkF
  split
  · exact or_lt24 (hF i hi) hb
  · exact hF i hi
/-- What link changes: 24 cells of one block alone. -/
structure LinkE (w w' : World) (b o : Nat) : Prop where
  os : w'.os = w.os
  tape : w'.tape = w.tape
  output : w'.output = w.output
  size : w'.heap.size = w.heap.size
  block : ∀ k, k ≠ b → w'.heap[k]? = w.heap[k]?
  cell : ∀ i, (i < o ∨ o + 24 ≤ i) → w'.cell? ⟨b, i, none⟩ = w.cell? ⟨b, i, none⟩
  froz : ∀ i, w'.frozen? ⟨b, i, none⟩ = w.frozen? ⟨b, i, none⟩
theorem LinkE.refl (w : World) (b o : Nat) : LinkE w w b o := ⟨rfl, rfl, rfl, rfl, fun _ _ => rfl, fun _ _ => rfl, fun _ => rfl⟩
theorem LinkE.set {w w' : World} {b o i : Nat} (h : LinkE w w' b o) (hi : i < 24) (v : Value) : LinkE w (w'.setCell ⟨b, o + i, none⟩ v).drew b o :=
  ⟨h.os, h.tape, h.output, by simpa using h.size, fun k hk => (Below.heap_setCell w' ⟨b, o + i, none⟩ v k hk).trans (h.block k hk), fun j hj => by
    show (w'.setCell ⟨b, o + i, none⟩ v).cell? ⟨b, j, none⟩ = _
    rw [World.cell?_setCell_other _ _ _ _ (fun e => by injection e with e1 e2; omega)]
    exact h.cell j hj, fun j => by
    show (w'.setCell ⟨b, o + i, none⟩ v).frozen? ⟨b, j, none⟩ = _
    rw [World.frozen?_setCell]
    exact h.froz j⟩

set_option maxRecDepth 100000 in
set_option maxHeartbeats 1000000 in
theorem link_any {w : World} {b o : Nat} {F : Nat → Nat} (h : FolAt w b o F) (hF : ∀ i, i < 24 → F i < 16777216) (x y : Nat) (hx : x < 16777216) (hy : y < 16777216) :
    Calls Try.prog 67 #[.pointer (some ⟨b, o, none⟩), .int .u32 (x : Int), .int .u32 (y : Int)] w fun e w' => e = .returned (.tuple #[]) ∧ FolAt w' b o (linkF F x y) ∧ LinkE w w' b o := by
  have H := Hid.mk h
  have HF := Hid.mk hF
  clear h hF
  go_enter Try.func67, Try.ntmps67
  go_wp2_with fail
  go_loopw [7] (fun c wr => ∃ i : Nat, i ≤ 24 ∧ c = .int .i64 i ∧ FolAt wr b o (fun j => if j < i then linkF F x y j else F j) ∧ LinkE w wr b o) (fun c _ => 24 - (intOf c).toNat)
  case atStart => exact ⟨0, Nat.zero_le _, rfl, FolAt.congr H.out (fun j _ => by simp), LinkE.refl _ _ _⟩
  case round =>
    obtain ⟨i, hi, rfl, hfol, hlk⟩ := hrel
    have HFOL := Hid.mk hfol
    have HLK := Hid.mk hlk
    clear hfol hlk
    by_cases hlt : i < 24
    · have hltI : (i : Int) < 24 := by omega
      obtain ⟨q0, q1⟩ := HFOL.out i hlt
      simp only [Nat.lt_irrefl, if_false] at q0
      have hfl := HF.out i hlt
      have C := Hid.mk (fun wr => has_any x i wr hx hlt)
      obtain ⟨f, hf⟩ : ∃ f, f = F i := ⟨_, rfl⟩
      rw [← hf] at q0 hfl
      have HFI := Hid.mk hf
      clear hf
      cases hbit : x.testBit i with
      | true =>
        rw [hbit] at C
        have hb : bits .or .u32 (f : Int) (y : Int) = ((f ||| y : Nat) : Int) := u32_or_nat f y (by omega) (by omega)
        have HS : Hid (linkF F x y i = f ||| y) := Hid.mk (by rw [linkF, if_pos hbit, HFI.out])
        have HF2 : Hid (FolAt (wr.setCell ⟨b, o + i, none⟩ (.int .u32 ((f ||| y : Nat) : Int))).drew b o (fun j => if j < i + 1 then linkF F x y j else F j)) := Hid.mk (by
          have h1 := FolAt.set (x := f ||| y) HFOL.out hlt
          refine FolAt.congr h1 (fun j _ => ?_)
          by_cases e : j = i
          · subst e
            rw [if_pos rfl, if_pos (by omega), HS.out]
          · rw [if_neg e]
            by_cases e2 : j < i
            · rw [if_pos e2, if_pos (by omega)]
            · rw [if_neg e2, if_neg (by omega)])
        have HL2 := Hid.mk (HLK.out.set hlt (.int .u32 ((f ||| y : Nat) : Int)))
        obtain ⟨fy, hfy⟩ : ∃ k, k = f ||| y := ⟨_, rfl⟩
        rw [← hfy] at hb HF2 HL2
        clear hbit hfy HS
        go_wp2_with fail
        refine (C.out _).mono ?_
        rintro e w1 ⟨rfl, rfl⟩
        go_wp2_with fail
        go_region
        go_wp2
        go_roundw
        case rel => exact ⟨i + 1, by omega, by go_num, HF2.out, HL2.out⟩
        case measure => simp [intOf]; omega
      | false =>
        rw [hbit] at C
        have HF2 : Hid (FolAt wr b o (fun j => if j < i + 1 then linkF F x y j else F j)) := Hid.mk (by
          refine FolAt.congr HFOL.out (fun j _ => ?_)
          by_cases e : j = i
          · subst e
            rw [if_neg (by omega), if_pos (by omega), linkF, if_neg (by rw [hbit]; decide)]
          · by_cases e2 : j < i
            · rw [if_pos e2, if_pos (by omega)]
            · rw [if_neg e2, if_neg (by omega)])
        clear hbit
        go_wp2_with fail
        refine (C.out _).mono ?_
        rintro e w1 ⟨rfl, rfl⟩
        go_wp2
        go_roundw
        case rel => exact ⟨i + 1, by omega, by go_num, HF2.out, HLK.out⟩
        case measure => simp [intOf]; omega
    · have hltI : ¬ (i : Int) < 24 := by omega
      have HF2 : Hid (FolAt wr b o (linkF F x y)) := Hid.mk (FolAt.congr HFOL.out (fun j hj => by rw [if_pos (by omega)]))
      go_wp2
      go_end0
      exact ⟨rfl, HF2.out, HLK.out⟩

/-- The maker at a block: its words, its sets, its map; it owns no block of S, the map's block lies in S. -/
structure MkAt (S : Nat → Prop) (w : World) (mb kb : Nat) (ws : List Wd) (F : Nat → Nat) (wv : Value) : Prop where
  no : ¬ S mb
  sk : S kb
  lt : mb < w.heap.size
  map : w.heap[kb]? = some (.map (kindsE mb) 6)
  c0 : w.cell? ⟨mb, 0, none⟩ = some wv
  f0 : w.frozen? ⟨mb, 0, none⟩ = false
  c25 : w.cell? ⟨mb, 25, none⟩ = some (.map (some kb))
  fol : FolAt w mb 1 F
  row : w.ownsRow 0 9 1 wv ws.length (ws.flatMap csT)
  rno : ∀ g, wv.ownBlock = some g → ¬ S g ∧ g ≠ mb
theorem MkAt.keep {S : Nat → Prop} {w w' : World} {mb kb : Nat} {ws : List Wd} {F : Nat → Nat} {wv : Value} (h : MkAt S w mb kb ws F wv) (hz : w.heap.size ≤ w'.heap.size) (hb : w'.heap[mb]? = w.heap[mb]?) (hk : w'.heap[kb]? = w.heap[kb]?) (hr : ∀ g, wv.ownBlock = some g → w'.heap[g]? = w.heap[g]?) : MkAt S w' mb kb ws F wv :=
  ⟨h.no, h.sk, Nat.lt_of_lt_of_le h.lt hz, hk.trans h.map, by have := h.c0; simpa only [World.cell?, hb] using this, by have := h.f0; simpa only [World.frozen?, hb] using this, by have := h.c25; simpa only [World.cell?, hb] using this, h.fol.keep hb, owns_key h.row (fun g o hg ho => (hr g hg).trans ho), h.rno⟩
theorem MkAt.below {S : Nat → Prop} {w w' : World} {mb kb : Nat} {ws : List Wd} {F : Nat → Nat} {wv : Value} (h : MkAt S w mb kb ws F wv) (hS : Low S w) (hb : Below w.heap.size w w') : MkAt S w' mb kb ws F wv :=
  h.keep hb.size (hb.block _ h.lt) (hb.block _ (hS _ h.sk)) (fun g hg => hb.block g (h.row.lt g hg).2)
/-- A cell of a block of S is written. -/
theorem MkAt.setS {S : Nat → Prop} {w : World} {mb kb : Nat} {ws : List Wd} {F : Nat → Nat} {wv : Value} (h : MkAt S w mb kb ws F wv) {b i : Nat} (hs : S b) (hk : b ≠ kb) (v : Value) : MkAt S (w.setCell ⟨b, i, none⟩ v) mb kb ws F wv :=
  h.keep (by simp) (Below.heap_setCell _ _ _ _ (fun e => h.no (by rw [show mb = b from e]; exact hs))) (Below.heap_setCell _ _ _ _ (fun e => hk (show kb = b from e).symm)) (fun g hg => Below.heap_setCell _ _ _ _ (fun e => (h.rno g hg).1 (by rw [show g = b from e]; exact hs)))
theorem MkAt.drew {S : Nat → Prop} {w : World} {mb kb : Nat} {ws : List Wd} {F : Nat → Nat} {wv : Value} (h : MkAt S w mb kb ws F wv) : MkAt S w.drew mb kb ws F wv := h.keep (Nat.le_refl _) rfl rfl (fun _ _ => rfl)
/-- What was made since may be kept too. -/
theorem MkAt.plus {S : Nat → Prop} {w w' : World} {mb kb : Nat} {ws : List Wd} {F : Nat → Nat} {wv : Value} (h : MkAt S w mb kb ws F wv) (hS : Low S w) (hb : Below w.heap.size w w') (hi : Nat) : MkAt (Plus S w.heap.size hi) w' mb kb ws F wv := by
  have h2 := h.below hS hb
  refine ⟨?_, .inl h.sk, h2.lt, h2.map, h2.c0, h2.f0, h2.c25, h2.fol, h2.row, fun g hg => ⟨?_, (h.rno g hg).2⟩⟩
  · rintro (e | e)
    · exact h.no e
    · have := h.lt; omega
  · rintro (e | e)
    · exact (h.rno g hg).1 e
    · have := (h.row.lt g hg).2; omega
theorem MkAt.sub {S T : Nat → Prop} {w : World} {mb kb : Nat} {ws : List Wd} {F : Nat → Nat} {wv : Value} (h : MkAt S w mb kb ws F wv) (hs : ∀ k, T k → S k) (hk : T kb) : MkAt T w mb kb ws F wv :=
  ⟨fun e => h.no (hs _ e), hk, h.lt, h.map, h.c0, h.f0, h.c25, h.fol, h.row, fun g hg => ⟨fun e => (h.rno g hg).1 (hs _ e), (h.rno g hg).2⟩⟩
theorem MkAt.link {S : Nat → Prop} {w w' : World} {mb kb : Nat} {ws : List Wd} {F G : Nat → Nat} {wv : Value} (h : MkAt S w mb kb ws F wv) (hl : LinkE w w' mb 1) (hf : FolAt w' mb 1 G) : MkAt S w' mb kb ws G wv :=
  ⟨h.no, h.sk, by rw [hl.size]; exact h.lt, (hl.block kb (fun e => h.no (by rw [← e]; exact h.sk))).trans h.map, (hl.cell 0 (by omega)).trans h.c0, (hl.froz 0).trans h.f0, (hl.cell 25 (by omega)).trans h.c25, hf,
    owns_key h.row (fun g o hg ho => (hl.block g (h.rno g hg).2).trans ho), h.rno⟩
theorem Fr.link {S : Nat → Prop} {w w1 w' : World} {b o : Nat} (h : Fr S w w1) (hl : LinkE w1 w' b o) (hb : ¬ S b) : Fr S w w' :=
  ⟨hl.os.trans h.os, hl.tape.trans h.tape, hl.output.trans h.output, by rw [hl.size]; exact h.size, fun k hk => (hl.block k (fun e => hb (by rw [← e]; exact hk))).trans (h.block k hk)⟩
theorem Fr.drew {S : Nat → Prop} {w w1 : World} (h : Fr S w w1) : Fr S w w1.drew := ⟨h.os, h.tape, h.output, h.size, h.block⟩
end Go.Proofs.Ythdnpddfdlhlaaa
