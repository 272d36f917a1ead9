/-
  NARROWER THAN 'FOR EVERY INPUT', by the rows' own cells (each row's printed sentence says how): PathAutos: loops · PathWill: loops · PathJoins: loops · PathOften: loops · PathTurns: loops.
  DERIVED. THE GIVEN ROWS OF THIS SEAT. 6 by the template 'for every input the law returns true; each argument reads behind the call as it read before'; 0 by the template 'total and deterministic' (their statements: YthdnpddfdlhlaaaTotals.lean).
  GIVEN WITH THE SEED: the statements are not yours to turn. If you find one false, say at which input.
  Laid BY PROGRAM, IN A SANDBOX (cutbox-rows.mjs): the forced cells as the released guide's own fill.sh prints them over the translation deb2551e3aae35d5… (all of the seat's roots in one cut). By AI agents, Wed Nov 11 2026. No macro, syntax, notation, axiom, sorry.
-/
import Derived.Test.YthdnpddfdlhlaaaChecked
import GoSem.Claim
import GoSem.ClaimJoined
import GoSem.ClaimMapViews
import Derived.JoinedTies
import Derived.KernelRfl
namespace Go.Proofs.Ythdnpddfdlhlaaa
/- THE CELL 'sum', in the pinned program and in every row, IS THE sha256 OF THE DUMP (.gsa) THAT YthdnpddfdlhlaaaProg.lean LOADS. Nothing in Lean hashes anything: it is a label: what it is worth is what the hold of that sum in a sandbox is worth. -/
noncomputable def Try.pinned : Pinned := { name := "ythdnpddfdlhlaaa", sum := "deb2551e3aae35d57075f293efa42b1da52dc8214170e57ab1d772109ee2856b", checked := Try.checked }
namespace Rows
def none {H : Type} : Left H := { results := [], args := [] }

/-- 'sinewlaw10.PathAutos': WHATEVER THE INPUT: true; the input reads as it did. -/
def pathAutosSpec : ChangeSpec := { name := "pathAutos", fn := fun _ => fun
  | [d] => { results := [.lit (.bool true)], args := [d] }
  | _ => none }
def pathAutosRow : OpenClaim := { program := "ythdnpddfdlhlaaa", sum := "deb2551e3aae35d57075f293efa42b1da52dc8214170e57ab1d772109ee2856b", func := "sinew/sinewlaw10.PathAutos", spec := "pathAutos", unfollowed := true, recurses := true, loops := true, apart := false }
def PathAutosSaid : Prop := pathAutosRow.holds Try.pinned (OpenSpec.ofChange pathAutosSpec)

/-- ITS FALSE NEIGHBOUR: 'it returns false'. Refute it at one input. -/
def pathAutosWrong : ChangeSpec := { name := "pathAutos", fn := fun _ => fun
  | [d] => { results := [.lit (.bool false)], args := [d] }
  | _ => none }
def PathAutosWrongFalsely : Prop := pathAutosRow.holds Try.pinned (OpenSpec.ofChange pathAutosWrong)

/-- 'sinewlaw10.PathSteps': WHATEVER THE INPUT: true; the input reads as it did. -/
def pathStepsSpec : ChangeSpec := { name := "pathSteps", fn := fun _ => fun
  | [d1, d2, d3] => { results := [.lit (.bool true)], args := [d1, d2, d3] }
  | _ => none }
def pathStepsRow : OpenClaim := { program := "ythdnpddfdlhlaaa", sum := "deb2551e3aae35d57075f293efa42b1da52dc8214170e57ab1d772109ee2856b", func := "sinew/sinewlaw10.PathSteps", spec := "pathSteps", unfollowed := true, recurses := true, apart := false }
def PathStepsSaid : Prop := pathStepsRow.holds Try.pinned (OpenSpec.ofChange pathStepsSpec)

/-- ITS FALSE NEIGHBOUR: 'it returns false'. Refute it at one input. -/
def pathStepsWrong : ChangeSpec := { name := "pathSteps", fn := fun _ => fun
  | [d1, d2, d3] => { results := [.lit (.bool false)], args := [d1, d2, d3] }
  | _ => none }
def PathStepsWrongFalsely : Prop := pathStepsRow.holds Try.pinned (OpenSpec.ofChange pathStepsWrong)

/-- 'sinewlaw10.PathWill': WHATEVER THE INPUT: true; the input reads as it did. -/
def pathWillSpec : ChangeSpec := { name := "pathWill", fn := fun _ => fun
  | [d1, d2] => { results := [.lit (.bool true)], args := [d1, d2] }
  | _ => none }
def pathWillRow : OpenClaim := { program := "ythdnpddfdlhlaaa", sum := "deb2551e3aae35d57075f293efa42b1da52dc8214170e57ab1d772109ee2856b", func := "sinew/sinewlaw10.PathWill", spec := "pathWill", unfollowed := true, recurses := true, loops := true, apart := false }
def PathWillSaid : Prop := pathWillRow.holds Try.pinned (OpenSpec.ofChange pathWillSpec)

/-- ITS FALSE NEIGHBOUR: 'it returns false'. Refute it at one input. -/
def pathWillWrong : ChangeSpec := { name := "pathWill", fn := fun _ => fun
  | [d1, d2] => { results := [.lit (.bool false)], args := [d1, d2] }
  | _ => none }
def PathWillWrongFalsely : Prop := pathWillRow.holds Try.pinned (OpenSpec.ofChange pathWillWrong)

/-- 'sinewlaw10.PathJoins': WHATEVER THE INPUT: true; the input reads as it did. -/
def pathJoinsSpec : ChangeSpec := { name := "pathJoins", fn := fun _ => fun
  | [d1, d2, d3] => { results := [.lit (.bool true)], args := [d1, d2, d3] }
  | _ => none }
def pathJoinsRow : OpenClaim := { program := "ythdnpddfdlhlaaa", sum := "deb2551e3aae35d57075f293efa42b1da52dc8214170e57ab1d772109ee2856b", func := "sinew/sinewlaw10.PathJoins", spec := "pathJoins", unfollowed := true, recurses := true, loops := true, apart := false }
def PathJoinsSaid : Prop := pathJoinsRow.holds Try.pinned (OpenSpec.ofChange pathJoinsSpec)

/-- ITS FALSE NEIGHBOUR: 'it returns false'. Refute it at one input. -/
def pathJoinsWrong : ChangeSpec := { name := "pathJoins", fn := fun _ => fun
  | [d1, d2, d3] => { results := [.lit (.bool false)], args := [d1, d2, d3] }
  | _ => none }
def PathJoinsWrongFalsely : Prop := pathJoinsRow.holds Try.pinned (OpenSpec.ofChange pathJoinsWrong)

/-- 'sinewlaw10.PathOften': WHATEVER THE INPUT: true; the input reads as it did. -/
def pathOftenSpec : ChangeSpec := { name := "pathOften", fn := fun _ => fun
  | [d1, d2] => { results := [.lit (.bool true)], args := [d1, d2] }
  | _ => none }
def pathOftenRow : OpenClaim := { program := "ythdnpddfdlhlaaa", sum := "deb2551e3aae35d57075f293efa42b1da52dc8214170e57ab1d772109ee2856b", func := "sinew/sinewlaw10.PathOften", spec := "pathOften", unfollowed := true, recurses := true, loops := true, apart := false }
def PathOftenSaid : Prop := pathOftenRow.holds Try.pinned (OpenSpec.ofChange pathOftenSpec)

/-- ITS FALSE NEIGHBOUR: 'it returns false'. Refute it at one input. -/
def pathOftenWrong : ChangeSpec := { name := "pathOften", fn := fun _ => fun
  | [d1, d2] => { results := [.lit (.bool false)], args := [d1, d2] }
  | _ => none }
def PathOftenWrongFalsely : Prop := pathOftenRow.holds Try.pinned (OpenSpec.ofChange pathOftenWrong)

/-- 'sinewlaw10.PathTurns': WHATEVER THE INPUT: true; the input reads as it did. -/
def pathTurnsSpec : ChangeSpec := { name := "pathTurns", fn := fun _ => fun
  | [d1, d2, d3] => { results := [.lit (.bool true)], args := [d1, d2, d3] }
  | _ => none }
def pathTurnsRow : OpenClaim := { program := "ythdnpddfdlhlaaa", sum := "deb2551e3aae35d57075f293efa42b1da52dc8214170e57ab1d772109ee2856b", func := "sinew/sinewlaw10.PathTurns", spec := "pathTurns", unfollowed := true, recurses := true, loops := true, apart := false }
def PathTurnsSaid : Prop := pathTurnsRow.holds Try.pinned (OpenSpec.ofChange pathTurnsSpec)

/-- ITS FALSE NEIGHBOUR: 'it returns false'. Refute it at one input. -/
def pathTurnsWrong : ChangeSpec := { name := "pathTurns", fn := fun _ => fun
  | [d1, d2, d3] => { results := [.lit (.bool false)], args := [d1, d2, d3] }
  | _ => none }
def PathTurnsWrongFalsely : Prop := pathTurnsRow.holds Try.pinned (OpenSpec.ofChange pathTurnsWrong)

/- THE SECOND FORM. 'bulk': how many values and letters a reading holds, each counted each time it is reached (what is shared counts as often as it is met; a slice's spare places count too). A statement '..UptoSaid' is the law's where the arguments, and the package variables that the reading takes, are together of bulk at most 1048576: NARROWER than '..Said'. Prove '..Said' where nothing that the law and all that it calls make is longer than what came in: it says more and counts as full. Else prove '..UptoSaid'. A law counts once. -/
mutual
def uptoBulk {H : Type} : DataW H → Nat
  | .lit (.string bytes) => bytes.length + 1
  | .lit _ => 1
  | .nil => 1
  | .ptr d => uptoBulk d + 1
  | .slice elems spare => uptoBulkAll elems + uptoBulkAll spare + 1
  | .agg parts => uptoBulkAll parts + 1
  | .iface _ d => uptoBulk d + 1
  | .map entries => uptoBulkEntries entries + 1
  | .held _ => 1
def uptoBulkAll {H : Type} : List (DataW H) → Nat
  | [] => 0
  | d :: r => uptoBulk d + uptoBulkAll r
def uptoBulkEntries {H : Type} : List (Lit × DataW H) → Nat
  | [] => 0
  | x :: r => uptoBulkEntry x + uptoBulkEntries r
def uptoBulkEntry {H : Type} : Lit × DataW H → Nat
  | (.string bytes, d) => bytes.length + uptoBulk d + 1
  | (_, d) => uptoBulk d + 1
 end
def uptoSmall : (H : Type) → List (DataW H) → Bool := fun _ ds => decide (uptoBulkAll ds ≤ 1048576)
def OpenSpec.upto (s : _root_.Go.ChangeSpec) : _root_.Go.OpenSpec := { _root_.Go.OpenSpec.ofChange s with cond := some uptoSmall }

/-- 'sinewlaw10.PathAutos', WHERE WHAT IT READS IS OF BULK AT MOST 1048576: true; the input reads as it did. -/
def pathAutosUptoRow : OpenClaim := { program := "ythdnpddfdlhlaaa", sum := "deb2551e3aae35d57075f293efa42b1da52dc8214170e57ab1d772109ee2856b", func := "sinew/sinewlaw10.PathAutos", spec := "pathAutos", unfollowed := true, recurses := true, loops := true, apart := false, narrowed := true }
def PathAutosUptoSaid : Prop := pathAutosUptoRow.holds Try.pinned (OpenSpec.upto pathAutosSpec)

/-- 'sinewlaw10.PathSteps', WHERE WHAT IT READS IS OF BULK AT MOST 1048576: true; the input reads as it did. -/
def pathStepsUptoRow : OpenClaim := { program := "ythdnpddfdlhlaaa", sum := "deb2551e3aae35d57075f293efa42b1da52dc8214170e57ab1d772109ee2856b", func := "sinew/sinewlaw10.PathSteps", spec := "pathSteps", unfollowed := true, recurses := true, apart := false, narrowed := true }
def PathStepsUptoSaid : Prop := pathStepsUptoRow.holds Try.pinned (OpenSpec.upto pathStepsSpec)

/-- 'sinewlaw10.PathWill', WHERE WHAT IT READS IS OF BULK AT MOST 1048576: true; the input reads as it did. -/
def pathWillUptoRow : OpenClaim := { program := "ythdnpddfdlhlaaa", sum := "deb2551e3aae35d57075f293efa42b1da52dc8214170e57ab1d772109ee2856b", func := "sinew/sinewlaw10.PathWill", spec := "pathWill", unfollowed := true, recurses := true, loops := true, apart := false, narrowed := true }
def PathWillUptoSaid : Prop := pathWillUptoRow.holds Try.pinned (OpenSpec.upto pathWillSpec)

/-- 'sinewlaw10.PathJoins', WHERE WHAT IT READS IS OF BULK AT MOST 1048576: true; the input reads as it did. -/
def pathJoinsUptoRow : OpenClaim := { program := "ythdnpddfdlhlaaa", sum := "deb2551e3aae35d57075f293efa42b1da52dc8214170e57ab1d772109ee2856b", func := "sinew/sinewlaw10.PathJoins", spec := "pathJoins", unfollowed := true, recurses := true, loops := true, apart := false, narrowed := true }
def PathJoinsUptoSaid : Prop := pathJoinsUptoRow.holds Try.pinned (OpenSpec.upto pathJoinsSpec)

/-- 'sinewlaw10.PathOften', WHERE WHAT IT READS IS OF BULK AT MOST 1048576: true; the input reads as it did. -/
def pathOftenUptoRow : OpenClaim := { program := "ythdnpddfdlhlaaa", sum := "deb2551e3aae35d57075f293efa42b1da52dc8214170e57ab1d772109ee2856b", func := "sinew/sinewlaw10.PathOften", spec := "pathOften", unfollowed := true, recurses := true, loops := true, apart := false, narrowed := true }
def PathOftenUptoSaid : Prop := pathOftenUptoRow.holds Try.pinned (OpenSpec.upto pathOftenSpec)

/-- 'sinewlaw10.PathTurns', WHERE WHAT IT READS IS OF BULK AT MOST 1048576: true; the input reads as it did. -/
def pathTurnsUptoRow : OpenClaim := { program := "ythdnpddfdlhlaaa", sum := "deb2551e3aae35d57075f293efa42b1da52dc8214170e57ab1d772109ee2856b", func := "sinew/sinewlaw10.PathTurns", spec := "pathTurns", unfollowed := true, recurses := true, loops := true, apart := false, narrowed := true }
def PathTurnsUptoSaid : Prop := pathTurnsUptoRow.holds Try.pinned (OpenSpec.upto pathTurnsSpec)

end Rows
end Go.Proofs.Ythdnpddfdlhlaaa
