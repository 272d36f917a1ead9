/-
  DERIVED. GIVEN WITH THE SEED: THE CARDS: each row of YtkbgmcmcpbegjabGreatDoorRows.lean that lists a variable, with what it lists TIED to the program's text (the seventh form; the later family's looks); each row that meets fmt, with fmt's text TOLD by the authors' own Lean function (tested against real Go, not proved from fmt's source: count such statements apart). THE CARD IS WHAT COUNTS. Prove the row's statement (the work); the ties are given (YtkbgmcmcpbegjabGreatDoorTie.lean); close each card by the builder's one call (the guide's Derived/Test/ToyasCard.lean, 'card_holds'). Laid BY PROGRAM, IN A SANDBOX (cutbox-door.mjs). By AI agents, Wed Nov 11 2026. No macro, syntax, notation, axiom, sorry.
-/
import Derived.Test.YtkbgmcmcpbegjabGreatDoorRows
import GoSem.ClaimSeven
namespace Go.Proofs.YtkbgmcmcpbegjabGreatDoor
namespace Rows

/-- THE TIED CARD OF 'sinewlaw11.ModelMany'. -/
def modelManyCard : Claim7 := { stood := { row := modelManyRow, standIns := [], harness := (true, "b8f01c45fb9175d874f9f7de61c35ce968d7badc66a3607088f1d0a2510e3af8"), looks := false }, kinds := [], alts := [], laidByText := true, laidKinds := [.data], laidTests := true, laidLooks := .later }
def ModelManyCardSaid : Prop := Claim7.holds Tryz.pinned (.plain (OpenSpec.ofChange modelManySpec)) modelManyCard

/-- THE TIED CARD OF 'sinewlaw11.ModelJoins'. -/
def modelJoinsCard : Claim7 := { stood := { row := modelJoinsRow, standIns := [], harness := (true, "b8f01c45fb9175d874f9f7de61c35ce968d7badc66a3607088f1d0a2510e3af8"), looks := false }, kinds := [], alts := [], laidByText := true, laidKinds := [.data], laidTests := true, laidLooks := .later }
def ModelJoinsCardSaid : Prop := Claim7.holds Tryz.pinned (.plain (OpenSpec.ofChange modelJoinsSpec)) modelJoinsCard

/-- THE TIED CARD OF 'sinewlaw11.ModelOften'. -/
def modelOftenCard : Claim7 := { stood := { row := modelOftenRow, standIns := [], harness := (true, "b8f01c45fb9175d874f9f7de61c35ce968d7badc66a3607088f1d0a2510e3af8"), looks := false }, kinds := [], alts := [], laidByText := true, laidKinds := [.data], laidTests := true, laidLooks := .later }
def ModelOftenCardSaid : Prop := Claim7.holds Tryz.pinned (.plain (OpenSpec.ofChange modelOftenSpec)) modelOftenCard

/-- THE TIED CARD OF 'sinewlaw11.ModelWords'. -/
def modelWordsCard : Claim7 := { stood := { row := modelWordsRow, standIns := [], harness := (true, "b8f01c45fb9175d874f9f7de61c35ce968d7badc66a3607088f1d0a2510e3af8"), looks := false }, kinds := [], alts := [], laidByText := true, laidKinds := [.data], laidTests := true, laidLooks := .later }
def ModelWordsCardSaid : Prop := Claim7.holds Tryz.pinned (.plain (OpenSpec.ofChange modelWordsSpec)) modelWordsCard

/-- THE SECOND FORM's CARD OF 'sinewlaw11.ModelMany'. -/
def modelManyUptoCard : Claim7 := { stood := { row := modelManyUptoRow, standIns := [], harness := (true, "b8f01c45fb9175d874f9f7de61c35ce968d7badc66a3607088f1d0a2510e3af8"), looks := false }, kinds := [], alts := [], laidByText := true, laidKinds := [.data], laidTests := true, laidLooks := .later }
def ModelManyUptoCardSaid : Prop := Claim7.holds Tryz.pinned (.plain (OpenSpec.upto modelManySpec)) modelManyUptoCard

/-- THE SECOND FORM's CARD OF 'sinewlaw11.ModelJoins'. -/
def modelJoinsUptoCard : Claim7 := { stood := { row := modelJoinsUptoRow, standIns := [], harness := (true, "b8f01c45fb9175d874f9f7de61c35ce968d7badc66a3607088f1d0a2510e3af8"), looks := false }, kinds := [], alts := [], laidByText := true, laidKinds := [.data], laidTests := true, laidLooks := .later }
def ModelJoinsUptoCardSaid : Prop := Claim7.holds Tryz.pinned (.plain (OpenSpec.upto modelJoinsSpec)) modelJoinsUptoCard

/-- THE SECOND FORM's CARD OF 'sinewlaw11.ModelOften'. -/
def modelOftenUptoCard : Claim7 := { stood := { row := modelOftenUptoRow, standIns := [], harness := (true, "b8f01c45fb9175d874f9f7de61c35ce968d7badc66a3607088f1d0a2510e3af8"), looks := false }, kinds := [], alts := [], laidByText := true, laidKinds := [.data], laidTests := true, laidLooks := .later }
def ModelOftenUptoCardSaid : Prop := Claim7.holds Tryz.pinned (.plain (OpenSpec.upto modelOftenSpec)) modelOftenUptoCard

/-- THE SECOND FORM's CARD OF 'sinewlaw11.ModelWords'. -/
def modelWordsUptoCard : Claim7 := { stood := { row := modelWordsUptoRow, standIns := [], harness := (true, "b8f01c45fb9175d874f9f7de61c35ce968d7badc66a3607088f1d0a2510e3af8"), looks := false }, kinds := [], alts := [], laidByText := true, laidKinds := [.data], laidTests := true, laidLooks := .later }
def ModelWordsUptoCardSaid : Prop := Claim7.holds Tryz.pinned (.plain (OpenSpec.upto modelWordsSpec)) modelWordsUptoCard
end Rows
end Go.Proofs.YtkbgmcmcpbegjabGreatDoor
