/- Steps of a world, one by one: what is kept. -/
import Derived.Test.YtdbnbgpbbfckfaaKQuiet
namespace Go.Proofs.Ytdbnbgpbbfckfaa
open Go.RowKit

structure RunS (s : Wd) (k i : Nat) : Prop where
  inv : Inv s
  kk : s.k = k
  m : s.M ≤ 1 + 2 * i
  wk : ∀ j, s.work j ≤ 4 + 3 * i
theorem lim_of {s : Wd} (h : Inv s) (hm : s.M ≤ 900000) (hw : ∀ j, s.work j ≤ 900000) : Lim s :=
  have h1 : s.tells.length ≤ s.M := by unfold Wd.M; omega
  have h2 : s.under.length ≤ s.M := by unfold Wd.M; omega
  ⟨h.k1, h.k6, fun i hi => by have := h.bound hi; omega, by omega, by omega, h.parL, fun i _ => by have := hw i; omega⟩
theorem upd_le {f : Nat → Nat} {i x n : Nat} (h : ∀ j, f j ≤ n) (hx : x ≤ n) : ∀ j, upd f i x j ≤ n := fun j => by unfold upd; split; exact hx; exact h j
def REnd (B : Nat) (w : World) (wb k i : Nat) (e : Ending) (w' : World) : Prop := e = .returned (.tuple #[]) ∧ Below B w w' ∧ ∃ s', WOk B w' wb s' ∧ RunS s' k (i + 1)
section
variable {B : Nat} {w : World} {wb : Nat} {s : Wd} {k i : Nat}
theorem RunS.lim (h : RunS s k i) (hi : i ≤ 4000) : Lim s := lim_of h.inv (by have := h.m; omega) (fun j => by have := h.wk j; omega)
theorem RunS.next (h : RunS s k i) : RunS s k (i + 1) := ⟨h.inv, h.kk, by have := h.m; omega, fun j => by have := h.wk j; omega⟩
theorem run_rests (hW : WOk B w wb s) (h : RunS s k i) (hi : i ≤ 4000) {a : Nat} (ha : a < k) :
    Calls Try.prog 11 #[.pointer (some ⟨wb, 0, none⟩), .int .i64 (a : Int)] w (REnd B w wb k i) := by
  have ha' : a < s.k := by rw [h.kk]; exact ha
  refine (rests_any hW (h.lim hi) ha').mono ?_
  rintro e w' ⟨rfl, h1, h2⟩
  exact ⟨rfl, h2, _, h1, rests_inv h.inv ha', by rw [rests_k]; exact h.kk, by have := rests_M h.inv ha'; have := h.m; omega, fun j => by rw [rests_work]; have := h.wk j; omega⟩
theorem run_sends (hW : WOk B w wb s) (h : RunS s k i) (hi : i ≤ 4000) {a b : Nat} (ha : a < k) (hb : b < k) :
    Calls Try.prog 8 #[.pointer (some ⟨wb, 0, none⟩), .int .i64 (a : Int), .int .i64 (b : Int)] w (REnd B w wb k i) := by
  have ha' : a < s.k := by rw [h.kk]; exact ha
  have hb' : b < s.k := by rw [h.kk]; exact hb
  have hm := h.m
  have hM : ∀ t, (s.send1 a t).M ≤ s.M + 2 := fun t => by unfold Wd.M Wd.send1; simp only [List.length_append, List.length_singleton]; omega
  have hwk : ∀ j, (s.send1 a b).work j ≤ 4 + 3 * i := upd_le h.wk (by have := h.wk a; omega)
  refine (sends_any hW (h.lim hi) ha' (fun hw => lim_of (send1_inv h.inv ha' hb' hw) (by have := hM b; omega) (fun j => by have := hwk j; omega))).mono ?_
  rintro e w' ⟨rfl, h1, h2⟩
  refine ⟨rfl, h2, _, h1, sends_inv h.inv ha' hb', by rw [sends_k]; exact h.kk, by have := sends_M s a b; omega, fun j => ?_⟩
  unfold Wd.sends
  split
  · have := h.wk j; omega
  · have := hwk j; omega
theorem run_told (hW : WOk B w wb s) (h : RunS s k i) (hi : i ≤ 4000) (z : Int) :
    Calls Try.prog 10 #[.pointer (some ⟨wb, 0, none⟩), .int .i64 z] w (REnd B w wb k i) := by
  have hm := h.m
  refine (wtold_any hW (h.lim hi) (fun j t ht => ?_) z).mono ?_
  · obtain ⟨a, b, _⟩ := h.inv.owed ht
    have hlen := rm_len (List.getElem?_eq_some_iff.1 ht).1
    refine ⟨a, b, lim_of (told1_inv h.inv ht) ?_ (fun j => by have := h.wk j; show s.work j ≤ _; omega)⟩
    have : (s.told1 j t).M ≤ s.M := by unfold Wd.M Wd.told1; simp only; omega
    omega
  · rintro e w' ⟨rfl, h2, s', hp, h1⟩
    refine ⟨rfl, h2, s', h1, ?_⟩
    rcases hp with ⟨_, rfl⟩ | ⟨j, t, ht, rfl⟩
    · exact h.next
    · obtain ⟨a, b, c⟩ := told_inv h.inv ht
      exact ⟨a, by rw [c]; exact h.kk, by omega, fun x => by rw [Wd.told, rests_work]; have := h.wk x; show s.work x ≤ _; omega⟩
theorem come1_work (s : Wd) (j more : Nat) (m : Nat × Nat) {n : Nat} (h : ∀ x, s.work x ≤ n) (hmore : more ≤ 3) : ∀ x, (s.come1 j more m).work x ≤ n + 3 := fun x => by
  have : upd s.work m.2 (s.work m.2 + more) x ≤ n + 3 := by
    refine upd_le (fun j => ?_) ?_ x
    · have := h j; omega
    · have := h m.2; omega
  unfold Wd.come1
  split <;> exact this
theorem run_comes (hW : WOk B w wb s) (h : RunS s k i) (hi : i ≤ 4000) (z : Int) (more : Nat) (hmore : more ≤ 3) :
    Calls Try.prog 9 #[.pointer (some ⟨wb, 0, none⟩), .int .i64 z, .int .i64 (more : Int)] w (REnd B w wb k i) := by
  have hm := h.m
  refine (wcome_any hW (h.lim hi) more hmore (fun j m ht => ?_) z).mono ?_
  · have hin := h.inv.un m (List.mem_of_getElem? ht)
    refine ⟨hin.1, hin.2, h.inv.to_ ht, lim_of (come1_inv h.inv ht) ?_ (fun x => by have := come1_work s j more m h.wk hmore x; omega)⟩
    have := come1_M (more := more) ht
    omega
  · rintro e w' ⟨rfl, h2, s', hp, h1⟩
    refine ⟨rfl, h2, s', h1, ?_⟩
    rcases hp with ⟨_, rfl⟩ | ⟨j, m, ht, rfl⟩
    · exact h.next
    · obtain ⟨a, b, c⟩ := comes_inv (more := more) h.inv ht
      exact ⟨a, by rw [c]; exact h.kk, by omega, fun x => by rw [Wd.comes, rests_work]; have := come1_work s j more m h.wk hmore x; omega⟩
end
theorem begW_run {k n : Nat} (h1 : 1 ≤ k) (h6 : k ≤ 6) (hn : n ≤ 4) : RunS (begW k n) k 0 :=
  ⟨begW_inv h1 h6, rfl, Nat.le_refl _, upd_le (fun _ => Nat.zero_le _) hn⟩
end Go.Proofs.Ytdbnbgpbbfckfaa
