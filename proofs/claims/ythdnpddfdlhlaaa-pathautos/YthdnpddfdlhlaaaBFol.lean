/- followSets, Accepts of the program. -/
import Derived.Test.YthdnpddfdlhlaaaBAcc
import Derived.Laws.ResultCell
import Derived.Deep.WholeRow
namespace Go.Proofs.Ythdnpddfdlhlaaa
open Go.RowKit

theorem FolAt.keep {w w' : World} {b o : Nat} {F : Nat → Nat} (h : FolAt w b o F) (hb : w'.heap[b]? = w.heap[b]?) : FolAt w' b o F := fun j hj => by
  have := h j hj
  simpa only [World.cell?, World.frozen?, hb] using this
theorem FolAt.set {w : World} {b o : Nat} {F : Nat → Nat} (h : FolAt w b o F) {i x : Nat} (hi : i < 24) : FolAt (w.setCell ⟨b, o + i, none⟩ (.int .u32 (x : Int))) b o (fun j => if j = i then x else F j) := fun j hj => by
  rw [World.frozen?_setCell]
  refine ⟨?_, (h j hj).2⟩
  by_cases e : j = i
  · subst e
    rw [World.cell?_setCell_same _ _ _ (h j hj).1]
    simp
  · rw [World.cell?_setCell_other _ _ _ _ (fun h => e (by injection h with h1 h2; omega)), (h j hj).1]
    simp [e]
theorem FolAt.congr {w : World} {b o : Nat} {F G : Nat → Nat} (h : FolAt w b o F) (hg : ∀ j, j < 24 → F j = G j) : FolAt w b o G := fun j hj => by rw [(h j hj).1, hg j hj]; exact ⟨rfl, (h j hj).2⟩
/-- What may follow, as sets. -/
def folF (os : List (List Int)) (j : Nat) : Nat := setN (os.getD j [])
theorem infoSets : (Try.prog.info? 85).map (fun i => (i.zero, i.size)) = some (some (.agg (Array.replicate 24 (.int .u32 0))), 24) := by kernel_rfl

set_option maxHeartbeats 2000000 in
set_option maxRecDepth 100000 in
theorem followSets_any {S : Nat → Prop} {w : World} {m : Mu} (h : UOk S w m) (hm : mayA m.au = true) :
    Calls Try.prog 39 #[encU m] w fun e w' => ∃ b, e = .returned (.pointer (some ⟨b, 0, none⟩)) ∧ FolAt w' b 0 (folF m.au.follow) ∧ w.heap.size ≤ b ∧ b < w'.heap.size ∧ Below w.heap.size w w' := by
  obtain ⟨hv, hsz⟩ := zero_of_info infoSets
  obtain ⟨wa, wc, fa, fc, la, lc, oa, oc, e1, e2, e3, e4⟩ := h.slices
  obtain ⟨G, hG⟩ : ∃ G, G = folF m.au.follow := ⟨_, rfl⟩
  rw [← hG]
  have h24 : m.os.length ≤ 24 := by have := may_len hm; simp [Mu.au] at this; omega
  have HIN : Hid (∀ l ∈ m.os, ∀ z ∈ l.2, 0 ≤ z ∧ z < 24) := Hid.mk (fun l hl z hz => by
    have h1 := may_follow hm (l := l.2) (List.mem_map_of_mem hl)
    have h2 := good_mem h1 hz
    have h3 := (may_len hm).1
    omega)
  have HLEN : Hid (∀ l ∈ m.os, l.2.length ≤ 24) := Hid.mk (fun l hl => Nat.le_trans (goodL_len (may_follow hm (l := l.2) (List.mem_map_of_mem hl))) (may_len hm).1)
  obtain ⟨wv, ws, fv, fs, lv, ls, ov, os, em⟩ := m
  dsimp only at e1 e2 e3 e4 h24 HIN HLEN
  subst e1 e2 e3 e4
  have HG : Hid (∀ j l, os[j]? = some l → G j = setN l.2) := Hid.mk (fun j l hl => by rw [hG, folF, Mu.au, List.getD]; simp [hl])
  have HG0 : Hid (∀ j, os.length ≤ j → G j = 0) := Hid.mk (fun j hj => by rw [hG, folF, Mu.au, List.getD, List.getElem?_eq_none (by simpa using hj)]; rfl)
  have HO := Hid.mk h.os
  have HOK := Hid.mk h.ok
  dsimp only at HO HOK
  clear h hm hG
  obtain ⟨no, hno⟩ : ∃ n, n = os.length := ⟨_, rfl⟩
  rw [← hno] at HO h24 HG0 ⊢
  have HNO := Hid.mk hno
  obtain ⟨o, ho⟩ : ∃ o, o = Obj.cells #[.slice wa ws.length wc, .slice fa fs.length fc, .slice la ls.length lc, .slice oa no oc, .bool em] 31 := ⟨_, rfl⟩
  obtain ⟨z, hzz⟩ : ∃ z : Array Value, z = Array.replicate 24 (.int .u32 0) := ⟨_, rfl⟩
  rw [← hzz] at hv
  have HZ : Hid (∀ j, j < 24 → z[j]? = some (.int .u32 0)) := Hid.mk (fun j hj => by rw [hzz]; simp [hj])
  have HOB := Hid.mk ho
  have HB0 : Hid (Below (w.alloc o).heap.size (w.alloc o) ((w.alloc (.cells #[.slice wa ws.length wc, .slice fa fs.length fc, .slice la ls.length lc, .slice oa no oc, .bool em] 31)).alloc (.cells z 85))) := Hid.mk (by rw [HOB.out]; exact (Below.refl _ _).alloc (Nat.le_refl _) _)
  have HC : Hid (∀ wr, Below (w.alloc o).heap.size (w.alloc o) wr → wr.cell? ⟨w.heap.size, 3, none⟩ = some (.slice oa no oc)) := Hid.mk (fun wr hb => by
    have h := box_keptQ hb
    rw [HOB.out] at h
    exact (cells5 h).2.2.2.1)
  clear hno ho hzz
  go_enter Try.func39, Try.ntmps39
  go_wp2_with fail
  go_loopw [11] (fun c wr => ∃ i : Nat, i ≤ no ∧ c = .int .i64 i ∧ FolAt wr (w.heap.size + 1) 0 (fun j => if j < i then G j else 0) ∧ w.heap.size + 1 < wr.heap.size ∧ Below (w.alloc o).heap.size (w.alloc o) wr) (fun c _ => no - (intOf c).toNat)
  case atStart =>
    refine ⟨0, Nat.zero_le _, rfl, fun j hj => ?_, by simp, HB0.out⟩
    rw [Nat.zero_add, World.cell?_alloc_at _ _ _ _ (by simp), HZ.out j hj, World.frozen?_alloc_at _ _ _ _ (by simp)]
    exact ⟨rfl, rfl⟩
  case round =>
    obtain ⟨i, hi, rfl, hfol, hsz2, hbq⟩ := hrel
    have HFOL := Hid.mk hfol
    have HBQ := Hid.mk hbq
    clear hfol hbq
    by_cases hlt : i < no
    · have hltI : (i : Int) < (no : Int) := by omega
      have hi24 : i < 24 := by omega
      have hi24I : (i : Int) < 24 := by omega
      obtain ⟨y, hy⟩ : ∃ y, os[i]? = some y := ⟨_, List.getElem?_eq_getElem (by rw [← HNO.out]; exact hlt)⟩
      have hym := List.mem_of_getElem? hy
      have HSV := Hid.mk (HG.out i y hy)
      have CI := HIN.out y hym
      have CL := HLEN.out y hym
      have CY := (HOK.out y hym).1
      obtain ⟨g, off, rfl, _, _, hcell⟩ := (HO.out.below (below_boxQ HBQ.out)).get hy
      have q0 := getW hcell
      rw [Nat.mul_one] at q0
      obtain ⟨yv, ys⟩ := y
      dsimp only at q0 CI CL CY HSV
      obtain ⟨ya, yc, rfl⟩ := CY.slice
      have C := Hid.mk (fun u (hu : Below w.heap.size w u) => setOf_any (CY.below hu) (by omega) CI)
      have hset := setN_lt (fun z hz => (CI z hz).2)
      obtain ⟨ny, hny⟩ : ∃ n, n = ys.length := ⟨_, rfl⟩
      rw [← hny] at q0 C CL
      obtain ⟨sv, hsv⟩ : ∃ n, n = setN ys := ⟨_, rfl⟩
      rw [← hsv] at C HSV hset
      obtain ⟨q1, q2⟩ := HFOL.out i hi24
      simp only [Nat.lt_irrefl, if_false] at q1
      rw [Nat.zero_add] at q1 q2
      clear hy hym hcell CI CY hny hsv
      have HB1 := Hid.mk (below_boxQ HBQ.out.drew)
      go_wp2_with fail
      go_region_law (go_simp; refine (C.out _ HB1.out).mono ?_; rintro e w3 ⟨rfl, hw3⟩; subst hw3)
      all_goals (
        have HF2 : Hid (FolAt (wr.setCell ⟨w.heap.size + 1, i, none⟩ (.int .u32 (sv : Int))).drew (w.heap.size + 1) 0 (fun j => if j < i + 1 then G j else 0)) := Hid.mk (by
          have h1 := FolAt.set (x := sv) HFOL.out hi24
          rw [Nat.zero_add] at h1
          exact FolAt.congr h1 (fun j _ => by
            by_cases e : j = i
            · subst e
              rw [if_pos rfl, if_pos (by omega), HSV.out]
            · rw [if_neg e]
              by_cases e2 : j < i
              · rw [if_pos e2, if_pos (by omega)]
              · rw [if_neg e2, if_neg (by omega)]))
        have HB2 : Hid (Below (w.alloc o).heap.size (w.alloc o) (wr.setCell ⟨w.heap.size + 1, i, none⟩ (.int .u32 (sv : Int))).drew) := Hid.mk (HBQ.out.setCell (by simp) _).drew
        go_wp2
        go_roundw
        case rel => exact ⟨i + 1, by omega, by go_num, HF2.out, by simpa using hsz2, HB2.out⟩
        case measure => simp [intOf]; omega)
    · have hltI : ¬ (i : Int) < (no : Int) := by omega
      have hin : i = no := by omega
      have HF2 : Hid (FolAt wr (w.heap.size + 1) 0 G) := Hid.mk (FolAt.congr HFOL.out (fun j _ => by
        by_cases e : j < i
        · rw [if_pos e]
        · rw [if_neg e, HG0.out j (by omega)]))
      clear hin
      go_wp2
      go_ret
      exact ⟨_, rfl, HF2.out, by omega, hsz2, below_boxQ HBQ.out⟩
end Go.Proofs.Ythdnpddfdlhlaaa
