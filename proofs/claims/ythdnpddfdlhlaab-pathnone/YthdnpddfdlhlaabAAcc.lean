/- Accepts of the document. -/
import Derived.Test.YthdnpddfdlhlaabACross
namespace Go.Proofs.Ythdnpddfdlhlaab
open Go.RowKit Go.Shelf

/-- 'append(v, list...)' at a step of a region that draws its order. -/
theorem step_append_many {w : World} {ops : Array Oper} {o : Oper} {a : Act} {K : Act → World → Prop} {Q : Exit → Act → World → Prop} {E : Prop} (hgd : o.guard = none) (sl x : Operand) {t : TypeId}
    (ho : o.op = .call { callee := .builtin .append, args := #[sl, x], argTypes := #[t, t] })
    {B n k : Nat} {v : Value} {xs : List Value} {e : TypeId} {i0 : TypeInfo} {z : Value} {bytes : Nat} (ht : Try.prog.underlying t = some (.slice e)) (hi : Try.prog.info? e = some i0) (hz0 : i0.zero = some z) (hz1 : i0.size = k) (hz2 : i0.bytes = bytes) (hz3 : z.cells.size = k) (hk : 0 < k)
    (hs : a.eval sl = v) (hown : w.ownsRow B e k v n xs) (ao : Option Addr) (us : List Value) (m cap : Nat) (hx : a.eval x = .slice ao m cap) (hm : us.length = m * k) (hnone : ao = none → m = 0 ∧ cap = 0) (hc : ∀ ad, ao = some ad → ∀ j u, us[j]? = some u → w.cell? (ad.add j) = some u) (h1 : ∀ u ∈ us, u.oneCell' = true)
    (h63 : n + m ≤ maxLen) (hb : (n + m) * bytes ≤ 140737488355328) (hB : B ≤ w.heap.size)
    (h : ∀ v' w', w'.ownsRow B e k v' (n + m) (xs ++ us) → w.grownBy w' v.ownBlock → K (a.put o.dst v') w') :
    if Region.wanted o (yielded ops a.tmps) = true then Oper.wp Try.prog o a w K Q else E := by
  have hw : Region.wanted o (yielded ops a.tmps) = true := by simp [Region.wanted, hgd]
  rw [if_pos hw]
  obtain ⟨v', w', hr, h2, h3⟩ := run_append_many ht hi hz0 hz1 hz2 hz3 hk hown ao us m cap hm hnone hc h1 h63 hb hB o.type
  unfold Oper.wp execOp
  simp only [ho, resolve, invoke, builtin, Sem.run_bind, Sem.run_pure, Result.andThen_ok, List.map_toArray, List.map_cons, List.map_nil, hs, hx, hr]
  exact h v' w' h2 h3
theorem setA_snoc {a : Au} (u : Wd) : ∀ (l : List Wd) (S : List Int), setA a S (l ++ [u]) = riseI a.words.length ((setA a S l).flatMap fun s => nextA a s u)
  | [], _ => rfl
  | w :: l, S => by
    rw [List.cons_append, setA, setA_snoc u l]
    rfl
theorem next_len (a : Au) (s : Int) (u : Wd) : (nextA a s u).length ≤ a.words.length := by
  unfold nextA
  split
  · rename_i h
    refine Nat.le_trans (List.length_filter_le _ _) ?_
    unfold outA
    split
    · exact goodL_len (may_first h.1)
    · rw [List.getD]
      cases hg : a.follow[s.toNat]? with
      | none => simp
      | some l => exact goodL_len (may_follow h.1 (List.mem_of_getElem? hg))
  · simp
theorem set_len {a : Au} (l : List Wd) (h : a.words.length ≤ 24) : (setA a [-1] l).length ≤ 24 := by
  rcases List.eq_nil_or_concat l with rfl | ⟨l', u, rfl⟩
  · simp [setA]
  · rw [List.concat_eq_append, setA_snoc]
    exact Nat.le_trans (riseI_len _ _) h
theorem flat_le {f : Int → List Int} (h : ∀ s, (f s).length ≤ 24) : ∀ l : List Int, (l.flatMap f).length ≤ l.length * 24
  | [] => by simp
  | x :: l => by
    rw [List.flatMap_cons, List.length_append, List.length_cons, Nat.succ_mul]
    have := flat_le h l
    have := h x
    omega
end Go.Proofs.Ythdnpddfdlhlaab
