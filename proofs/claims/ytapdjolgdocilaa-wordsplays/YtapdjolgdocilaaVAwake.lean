/- awake of the statements; a dictionary that nobody made. -/
import Derived.Test.YtapdjolgdocilaaVSort
namespace Go.Proofs.Ytapdjolgdocilaa
open Go.RowKit

def bobB : List UInt8 := [98, 111, 98]
def annB : List UInt8 := [97, 110, 110]
theorem put_bob {ws' : List (List UInt8)} {k er : Nat} (h : PutR [] bobB ws' k er) : ws' = [bobB] ∧ k = 0 ∧ er = 0 := by
  rcases h with ⟨h, _⟩ | ⟨_, h, _⟩ | ⟨_, _, h1, h2, h3⟩
  · exact absurd h (by decide)
  · simp at h
  · exact ⟨h1, h2, h3⟩
theorem put_ann {ws' : List (List UInt8)} {k er : Nat} (h : PutR [bobB] annB ws' k er) : ws' = [bobB, annB] ∧ k = 1 ∧ er = 0 := by
  rcases h with ⟨h, _⟩ | ⟨_, h, _⟩ | ⟨_, _, h1, h2, h3⟩
  · exact absurd h (by decide)
  · have := List.mem_of_getElem? h
    exact absurd this (by decide)
  · exact ⟨h1, h2, h3⟩
theorem sorts_both : Sorts [bobB, annB] [1, 0] := ⟨by decide, by decide⟩
theorem once_both : Once [bobB, annB] := (once_nil.snoc (t := bobB) (by simp)).snoc (t := annB) (by decide)

set_option maxRecDepth 100000 in
set_option maxHeartbeats 2000000 in
theorem awake_any (w : World) :
    Calls Try.prog 20 #[] w fun e w' => e = .returned (.bool true) ∧ Below w.heap.size w w' := by
  have HS : Hid (Low (fun k => k < w.heap.size) w) := Hid.mk (fun k hk => hk)
  have C := Hid.mk (new_any (fun k => k < w.heap.size) w HS.out)
  go_enter Try.func20, Try.ntmps20
  go_wp2_with fail
  refine C.out.mono ?_
  rintro e w1 ⟨rfl, hv1, hb1⟩
  have F1 := Hid.mk (fr_below HS.out hb1)
  obtain ⟨d, hd⟩ : ∃ d, d = w.heap.size + 1 := ⟨_, rfl⟩
  rw [← hd] at hv1 ⊢
  have V1 := Hid.mk hv1
  clear hv1 hb1 hd C
  go_wp2_with fail
  refine (put_any V1.out (HS.out.fr F1.out) bobB (by decide) (by decide)).mono ?_
  rintro e w2 ⟨ws2, k2, e2, rfl, hp2, hv2, hf2⟩
  obtain ⟨rfl, rfl, rfl⟩ := put_bob hp2
  have F2 := Hid.mk (F1.out.trans hf2)
  have V2 := Hid.mk hv2
  clear hv2 hf2 hp2 F1 V1
  go_wp2_with fail
  refine (put_any V2.out (HS.out.fr F2.out) annB (by decide) (by decide)).mono ?_
  rintro e w3 ⟨ws3, k3, e3, rfl, hp3, hv3, hf3⟩
  obtain ⟨rfl, rfl, rfl⟩ := put_ann hp3
  have F3 := Hid.mk (F2.out.trans hf3)
  have V3 := Hid.mk hv3
  clear hv3 hf3 hp3 F2 V2
  go_wp2_with fail
  refine (sorted_any V3.out (by decide)).mono ?_
  rintro e w4 ⟨g, cap, is, rfl, hrow, _, hsorts, hb4⟩
  obtain rfl := hsorts.one once_both sorts_both
  have F4 := Hid.mk (F3.out.next HS.out hb4)
  have c0 := (hrow.2 0 1 rfl).1
  have c1 := (hrow.2 1 0 rfl).1
  clear hsorts hb4 hrow F3 V3
  go_wp2
  go_ret
  exact ⟨rfl, F4.out.below (fun k hk => hk)⟩
end Go.Proofs.Ytapdjolgdocilaa
