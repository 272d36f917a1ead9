/-
  DERIVED. GIVEN WITH THE SEED: THE CARDS: each row of YtkbgmcmcpbegjaaGreatDoorRows.lean that lists a variable, with what it lists TIED to the program's text (the seventh form; the later family's looks); each row that meets fmt, with fmt's text TOLD by the authors' own Lean function (tested against real Go, not proved from fmt's source: count such statements apart). THE CARD IS WHAT COUNTS. Prove the row's statement (the work); the ties are given (YtkbgmcmcpbegjaaGreatDoorTie.lean); close each card by the builder's one call (the guide's Derived/Test/ToyasCard.lean, 'card_holds'). Laid BY PROGRAM, IN A SANDBOX (cutbox-door.mjs). By AI agents, Wed Nov 11 2026. No macro, syntax, notation, axiom, sorry.
-/
import Derived.Test.YtkbgmcmcpbegjaaGreatDoorRows
import GoSem.ClaimSeven
namespace Go.Proofs.YtkbgmcmcpbegjaaGreatDoor
namespace Rows

/-- THE TIED CARD OF 'sinewlaw11.ModelPairs'. -/
def modelPairsCard : Claim7 := { stood := { row := modelPairsRow, standIns := [], harness := (true, "0dfdb4add8861ea2eb43a2bb08e577296c9dd2cbda60b64289dda3e2955d2cf7"), looks := false }, kinds := [], alts := [], laidByText := true, laidKinds := [.data], laidTests := true, laidLooks := .later }
def ModelPairsCardSaid : Prop := Claim7.holds Tryz.pinned (.plain (OpenSpec.ofChange modelPairsSpec)) modelPairsCard

/-- THE TIED CARD OF 'sinewlaw11.ModelRows'. -/
def modelRowsCard : Claim7 := { stood := { row := modelRowsRow, standIns := [], harness := (true, "0dfdb4add8861ea2eb43a2bb08e577296c9dd2cbda60b64289dda3e2955d2cf7"), looks := false }, kinds := [], alts := [], laidByText := true, laidKinds := [.data], laidTests := true, laidLooks := .later }
def ModelRowsCardSaid : Prop := Claim7.holds Tryz.pinned (.plain (OpenSpec.ofChange modelRowsSpec)) modelRowsCard

/-- THE TIED CARD OF 'sinewlaw11.ModelWalks'. -/
def modelWalksCard : Claim7 := { stood := { row := modelWalksRow, standIns := [], harness := (true, "0dfdb4add8861ea2eb43a2bb08e577296c9dd2cbda60b64289dda3e2955d2cf7"), looks := false }, kinds := [], alts := [], laidByText := true, laidKinds := [.data], laidTests := true, laidLooks := .later }
def ModelWalksCardSaid : Prop := Claim7.holds Tryz.pinned (.plain (OpenSpec.ofChange modelWalksSpec)) modelWalksCard

/-- THE TIED CARD OF 'sinewlaw11.ModelMore'. -/
def modelMoreCard : Claim7 := { stood := { row := modelMoreRow, standIns := [], harness := (true, "0dfdb4add8861ea2eb43a2bb08e577296c9dd2cbda60b64289dda3e2955d2cf7"), looks := false }, kinds := [], alts := [], laidByText := true, laidKinds := [.data], laidTests := true, laidLooks := .later }
def ModelMoreCardSaid : Prop := Claim7.holds Tryz.pinned (.plain (OpenSpec.ofChange modelMoreSpec)) modelMoreCard

/-- THE TIED CARD OF 'sinewlaw11.ModelTurns'. -/
def modelTurnsCard : Claim7 := { stood := { row := modelTurnsRow, standIns := [], harness := (true, "0dfdb4add8861ea2eb43a2bb08e577296c9dd2cbda60b64289dda3e2955d2cf7"), looks := false }, kinds := [], alts := [], laidByText := true, laidKinds := [.data], laidTests := true, laidLooks := .later }
def ModelTurnsCardSaid : Prop := Claim7.holds Tryz.pinned (.plain (OpenSpec.ofChange modelTurnsSpec)) modelTurnsCard

/-- THE TIED CARD OF 'sinewlaw11.ModelNames'. -/
def modelNamesCard : Claim7 := { stood := { row := modelNamesRow, standIns := [], harness := (true, "0dfdb4add8861ea2eb43a2bb08e577296c9dd2cbda60b64289dda3e2955d2cf7"), looks := false }, kinds := [], alts := [], laidByText := true, laidKinds := [.data], laidTests := true, laidLooks := .later }
def ModelNamesCardSaid : Prop := Claim7.holds Tryz.pinned (.plain (OpenSpec.ofChange modelNamesSpec)) modelNamesCard

/-- THE SECOND FORM's CARD OF 'sinewlaw11.ModelPairs'. -/
def modelPairsUptoCard : Claim7 := { stood := { row := modelPairsUptoRow, standIns := [], harness := (true, "0dfdb4add8861ea2eb43a2bb08e577296c9dd2cbda60b64289dda3e2955d2cf7"), looks := false }, kinds := [], alts := [], laidByText := true, laidKinds := [.data], laidTests := true, laidLooks := .later }
def ModelPairsUptoCardSaid : Prop := Claim7.holds Tryz.pinned (.plain (OpenSpec.upto modelPairsSpec)) modelPairsUptoCard

/-- THE SECOND FORM's CARD OF 'sinewlaw11.ModelRows'. -/
def modelRowsUptoCard : Claim7 := { stood := { row := modelRowsUptoRow, standIns := [], harness := (true, "0dfdb4add8861ea2eb43a2bb08e577296c9dd2cbda60b64289dda3e2955d2cf7"), looks := false }, kinds := [], alts := [], laidByText := true, laidKinds := [.data], laidTests := true, laidLooks := .later }
def ModelRowsUptoCardSaid : Prop := Claim7.holds Tryz.pinned (.plain (OpenSpec.upto modelRowsSpec)) modelRowsUptoCard

/-- THE SECOND FORM's CARD OF 'sinewlaw11.ModelWalks'. -/
def modelWalksUptoCard : Claim7 := { stood := { row := modelWalksUptoRow, standIns := [], harness := (true, "0dfdb4add8861ea2eb43a2bb08e577296c9dd2cbda60b64289dda3e2955d2cf7"), looks := false }, kinds := [], alts := [], laidByText := true, laidKinds := [.data], laidTests := true, laidLooks := .later }
def ModelWalksUptoCardSaid : Prop := Claim7.holds Tryz.pinned (.plain (OpenSpec.upto modelWalksSpec)) modelWalksUptoCard

/-- THE SECOND FORM's CARD OF 'sinewlaw11.ModelMore'. -/
def modelMoreUptoCard : Claim7 := { stood := { row := modelMoreUptoRow, standIns := [], harness := (true, "0dfdb4add8861ea2eb43a2bb08e577296c9dd2cbda60b64289dda3e2955d2cf7"), looks := false }, kinds := [], alts := [], laidByText := true, laidKinds := [.data], laidTests := true, laidLooks := .later }
def ModelMoreUptoCardSaid : Prop := Claim7.holds Tryz.pinned (.plain (OpenSpec.upto modelMoreSpec)) modelMoreUptoCard

/-- THE SECOND FORM's CARD OF 'sinewlaw11.ModelTurns'. -/
def modelTurnsUptoCard : Claim7 := { stood := { row := modelTurnsUptoRow, standIns := [], harness := (true, "0dfdb4add8861ea2eb43a2bb08e577296c9dd2cbda60b64289dda3e2955d2cf7"), looks := false }, kinds := [], alts := [], laidByText := true, laidKinds := [.data], laidTests := true, laidLooks := .later }
def ModelTurnsUptoCardSaid : Prop := Claim7.holds Tryz.pinned (.plain (OpenSpec.upto modelTurnsSpec)) modelTurnsUptoCard

/-- THE SECOND FORM's CARD OF 'sinewlaw11.ModelNames'. -/
def modelNamesUptoCard : Claim7 := { stood := { row := modelNamesUptoRow, standIns := [], harness := (true, "0dfdb4add8861ea2eb43a2bb08e577296c9dd2cbda60b64289dda3e2955d2cf7"), looks := false }, kinds := [], alts := [], laidByText := true, laidKinds := [.data], laidTests := true, laidLooks := .later }
def ModelNamesUptoCardSaid : Prop := Claim7.holds Tryz.pinned (.plain (OpenSpec.upto modelNamesSpec)) modelNamesUptoCard
end Rows
end Go.Proofs.YtkbgmcmcpbegjaaGreatDoor
