/- MMath. -/
import Derived.Test.YtkbgmcmcpbegjaaGreatDoorMG6
set_option maxRecDepth 100000
namespace Go.Proofs.YtkbgmcmcpbegjaaGreatDoor
open Go.RowKit
section
variable {α:Type} {lt:α->α->Bool}
end
section
variable {α:Type} [DecidableEq α] {lt:α->α->Bool}
theorem putL_at:∀ {l:List α} {t:α} {k:Nat},k<=l.length->(∀(i:Nat) x,i<k->l[i]?=some x->lt x t=true)->(∀x,l[k]?=some x->lt x t=false)->
 putL lt l t=if l[k]?=some t then l else l.take k++[t]++l.drop k
 |[],t,k,hk,_,_=>by
  obtain rfl:k=0:=by simpa using hk
  simp[putL]
 |a::l,t,0,_,_,h2=>by
  have:=h2 a (by simp);unfold putL;rw[if_neg (by rw[this];simp)];by_cases e:a=t
  . rw[if_pos e,if_pos (by simp[e])]
  . rw[if_neg e,if_neg (by simpa using e)];simp
 |a::l,t,k+1,hk,h1,h2=>by
  have h0:=h1 0 a (by omega) (by simp);unfold putL;rw[if_pos h0,putL_at (k:=k) (by simpa using hk) (fun i x hi hx=>h1 (i+1) x (by omega) (by simpa using hx)) (fun x hx=>h2 x (by simpa using hx))];simp only[List.getElem?_cons_succ,List.take_succ_cons,List.drop_succ_cons];split<;>simp
end
theorem verts_snoc(fs:List Fa)(f:Fa):vertsL (fs++[f])=putL less (putL less (vertsL fs) f.1) f.2.2:=by simp[vertsL]
end Go.Proofs.YtkbgmcmcpbegjaaGreatDoor
