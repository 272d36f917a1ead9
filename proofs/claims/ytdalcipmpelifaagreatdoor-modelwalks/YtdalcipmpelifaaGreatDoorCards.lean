/-
  DERIVED. GIVEN WITH THE SEED: THE CARDS: each row of YtdalcipmpelifaaGreatDoorRows.lean that lists a variable, with what it lists TIED to the program's text (the seventh form; the later family's looks); each row that meets fmt, with fmt's text TOLD by the authors' own Lean function (tested against real Go, not proved from fmt's source: count such statements apart). THE CARD IS WHAT COUNTS. Prove the row's statement (the work); the ties are given (YtdalcipmpelifaaGreatDoorTie.lean); close each card by the builder's one call (the guide's Derived/Test/ToyasCard.lean, 'card_holds'). Laid BY PROGRAM, IN A SANDBOX (cutbox-door.mjs). By AI agents, Wed Nov 11 2026. No macro, syntax, notation, axiom, sorry.
-/
import Derived.Test.YtdalcipmpelifaaGreatDoorRows
import GoSem.ClaimSeven
namespace Go.Proofs.YtdalcipmpelifaaGreatDoor
namespace Rows

/-- THE TIED CARD OF 'sinewlaw11.ModelWalks'. -/
def modelWalksCard : Claim7 := { stood := { row := modelWalksRow, standIns := [], harness := (true, "98d54054420563702b49ec48ebefc492a964e3ec617132eb384bb4b618bcf8a3"), looks := false }, kinds := [], alts := [], laidByText := true, laidKinds := [.data], laidTests := true, laidLooks := .later }
def ModelWalksCardSaid : Prop := Claim7.holds Tryz.pinned (.plain (OpenSpec.ofChange modelWalksSpec)) modelWalksCard

/-- THE SECOND FORM's CARD OF 'sinewlaw11.ModelWalks'. -/
def modelWalksUptoCard : Claim7 := { stood := { row := modelWalksUptoRow, standIns := [], harness := (true, "98d54054420563702b49ec48ebefc492a964e3ec617132eb384bb4b618bcf8a3"), looks := false }, kinds := [], alts := [], laidByText := true, laidKinds := [.data], laidTests := true, laidLooks := .later }
def ModelWalksUptoCardSaid : Prop := Claim7.holds Tryz.pinned (.plain (OpenSpec.upto modelWalksSpec)) modelWalksUptoCard
end Rows
end Go.Proofs.YtdalcipmpelifaaGreatDoor
