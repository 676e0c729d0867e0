/-
  DERIVED. GIVEN WITH THE SEED: THE CARDS: each row of YtfloiekaiiapnaaGreatDoorRows.lean that lists a variable, with what it lists TIED to the program's text (the seventh form; the later family's looks); each row that meets fmt, with fmt's text TOLD by the authors' own Lean function (tested against real Go, not proved from fmt's source: count such statements apart). THE CARD IS WHAT COUNTS. Prove the row's statement (the work); the ties are given (YtfloiekaiiapnaaGreatDoorTie.lean); close each card by the builder's one call (the guide's Derived/Test/ToyasCard.lean, 'card_holds'). Laid BY PROGRAM, IN A SANDBOX (cutbox-door.mjs). By AI agents, Wed Nov 11 2026. No macro, syntax, notation, axiom, sorry.
-/
import Derived.Test.YtfloiekaiiapnaaGreatDoorRows
import GoSem.ClaimSeven
namespace Go.Proofs.YtfloiekaiiapnaaGreatDoor
namespace Rows

/-- THE TIED CARD OF 'postilionlaw16.SeipdSeals'. -/
def seipdSealsCard : Claim7 := { stood := { row := seipdSealsRow, standIns := [], harness := (true, "9429a8f60216b57a3e98ac7204c6d1d6e27b9ad10c8bb0fe9a81c521c99cfe6a"), looks := false }, kinds := [], alts := [], laidByText := true, laidKinds := [.data, .data, .data, .data, .data], laidTests := true, laidLooks := .later }
def SeipdSealsCardSaid : Prop := Claim7.holds Tryz.pinned (.plain (OpenSpec.ofChange seipdSealsSpec)) seipdSealsCard

/-- THE TIED CARD OF 'postilionlaw16.SeipdOpens'. -/
def seipdOpensCard : Claim7 := { stood := { row := seipdOpensRow, standIns := [], harness := (true, "9429a8f60216b57a3e98ac7204c6d1d6e27b9ad10c8bb0fe9a81c521c99cfe6a"), looks := false }, kinds := [], alts := [], laidByText := true, laidKinds := [.data, .data, .data, .data, .data], laidTests := true, laidLooks := .later }
def SeipdOpensCardSaid : Prop := Claim7.holds Tryz.pinned (.plain (OpenSpec.ofChange seipdOpensSpec)) seipdOpensCard

/-- THE TIED CARD OF 'postilionlaw16.SeipdTurned'. -/
def seipdTurnedCard : Claim7 := { stood := { row := seipdTurnedRow, standIns := [], harness := (true, "9429a8f60216b57a3e98ac7204c6d1d6e27b9ad10c8bb0fe9a81c521c99cfe6a"), looks := false }, kinds := [], alts := [], laidByText := true, laidKinds := [.data, .data, .data, .data, .data], laidTests := true, laidLooks := .later }
def SeipdTurnedCardSaid : Prop := Claim7.holds Tryz.pinned (.plain (OpenSpec.ofChange seipdTurnedSpec)) seipdTurnedCard

/-- THE SECOND FORM's CARD OF 'postilionlaw16.SeipdSeals'. -/
def seipdSealsUptoCard : Claim7 := { stood := { row := seipdSealsUptoRow, standIns := [], harness := (true, "9429a8f60216b57a3e98ac7204c6d1d6e27b9ad10c8bb0fe9a81c521c99cfe6a"), looks := false }, kinds := [], alts := [], laidByText := true, laidKinds := [.data, .data, .data, .data, .data], laidTests := true, laidLooks := .later }
def SeipdSealsUptoCardSaid : Prop := Claim7.holds Tryz.pinned (.plain (OpenSpec.upto seipdSealsSpec)) seipdSealsUptoCard

/-- THE SECOND FORM's CARD OF 'postilionlaw16.SeipdOpens'. -/
def seipdOpensUptoCard : Claim7 := { stood := { row := seipdOpensUptoRow, standIns := [], harness := (true, "9429a8f60216b57a3e98ac7204c6d1d6e27b9ad10c8bb0fe9a81c521c99cfe6a"), looks := false }, kinds := [], alts := [], laidByText := true, laidKinds := [.data, .data, .data, .data, .data], laidTests := true, laidLooks := .later }
def SeipdOpensUptoCardSaid : Prop := Claim7.holds Tryz.pinned (.plain (OpenSpec.upto seipdOpensSpec)) seipdOpensUptoCard

/-- THE SECOND FORM's CARD OF 'postilionlaw16.SeipdTurned'. -/
def seipdTurnedUptoCard : Claim7 := { stood := { row := seipdTurnedUptoRow, standIns := [], harness := (true, "9429a8f60216b57a3e98ac7204c6d1d6e27b9ad10c8bb0fe9a81c521c99cfe6a"), looks := false }, kinds := [], alts := [], laidByText := true, laidKinds := [.data, .data, .data, .data, .data], laidTests := true, laidLooks := .later }
def SeipdTurnedUptoCardSaid : Prop := Claim7.holds Tryz.pinned (.plain (OpenSpec.upto seipdTurnedSpec)) seipdTurnedUptoCard
end Rows
end Go.Proofs.YtfloiekaiiapnaaGreatDoor
