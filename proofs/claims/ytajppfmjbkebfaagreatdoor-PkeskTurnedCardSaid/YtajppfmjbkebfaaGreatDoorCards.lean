/-
  DERIVED. GIVEN WITH THE SEED: THE CARDS: each row of YtajppfmjbkebfaaGreatDoorRows.lean that lists a variable, with what it lists TIED to the program's text (the seventh form; the later family's looks); each row that meets fmt, with fmt's text TOLD by the authors' own Lean function (tested against real Go, not proved from fmt's source: count such statements apart). THE CARD IS WHAT COUNTS. Prove the row's statement (the work); the ties are given (YtajppfmjbkebfaaGreatDoorTie.lean); close each card by the builder's one call (the guide's Derived/Test/ToyasCard.lean, 'card_holds'). Laid BY PROGRAM, IN A SANDBOX (cutbox-door.mjs). By AI agents, Wed Nov 11 2026. No macro, syntax, notation, axiom, sorry.
-/
import Derived.Test.YtajppfmjbkebfaaGreatDoorRows
import GoSem.ClaimSeven
namespace Go.Proofs.YtajppfmjbkebfaaGreatDoor
namespace Rows

/-- THE TIED CARD OF 'postilionlaw15.PkeskSeals'. -/
def pkeskSealsCard : Claim7 := { stood := { row := pkeskSealsRow, standIns := [], harness := (true, "39e6f610d31ae4f6169b237ee7966079609b689a832e32ece22028d41c2eb44b"), looks := false }, kinds := [], alts := [], laidByText := true, laidKinds := [.data, .data, .data, .data, .data], laidTests := true, laidLooks := .later }
def PkeskSealsCardSaid : Prop := Claim7.holds Tryz.pinned (.plain (OpenSpec.ofChange pkeskSealsSpec)) pkeskSealsCard

/-- THE TIED CARD OF 'postilionlaw15.PkeskAny'. -/
def pkeskAnyCard : Claim7 := { stood := { row := pkeskAnyRow, standIns := [], harness := (true, "39e6f610d31ae4f6169b237ee7966079609b689a832e32ece22028d41c2eb44b"), looks := false }, kinds := [], alts := [], laidByText := true, laidKinds := [.data, .data, .data, .data, .data], laidTests := true, laidLooks := .later }
def PkeskAnyCardSaid : Prop := Claim7.holds Tryz.pinned (.plain (OpenSpec.ofChange pkeskAnySpec)) pkeskAnyCard

/-- THE TIED CARD OF 'postilionlaw15.PkeskTurned'. -/
def pkeskTurnedCard : Claim7 := { stood := { row := pkeskTurnedRow, standIns := [], harness := (true, "39e6f610d31ae4f6169b237ee7966079609b689a832e32ece22028d41c2eb44b"), looks := false }, kinds := [], alts := [], laidByText := true, laidKinds := [.data, .data, .data, .data, .data], laidTests := true, laidLooks := .later }
def PkeskTurnedCardSaid : Prop := Claim7.holds Tryz.pinned (.plain (OpenSpec.ofChange pkeskTurnedSpec)) pkeskTurnedCard

/-- THE SECOND FORM's CARD OF 'postilionlaw15.PkeskSeals'. -/
def pkeskSealsUptoCard : Claim7 := { stood := { row := pkeskSealsUptoRow, standIns := [], harness := (true, "39e6f610d31ae4f6169b237ee7966079609b689a832e32ece22028d41c2eb44b"), looks := false }, kinds := [], alts := [], laidByText := true, laidKinds := [.data, .data, .data, .data, .data], laidTests := true, laidLooks := .later }
def PkeskSealsUptoCardSaid : Prop := Claim7.holds Tryz.pinned (.plain (OpenSpec.upto pkeskSealsSpec)) pkeskSealsUptoCard

/-- THE SECOND FORM's CARD OF 'postilionlaw15.PkeskAny'. -/
def pkeskAnyUptoCard : Claim7 := { stood := { row := pkeskAnyUptoRow, standIns := [], harness := (true, "39e6f610d31ae4f6169b237ee7966079609b689a832e32ece22028d41c2eb44b"), looks := false }, kinds := [], alts := [], laidByText := true, laidKinds := [.data, .data, .data, .data, .data], laidTests := true, laidLooks := .later }
def PkeskAnyUptoCardSaid : Prop := Claim7.holds Tryz.pinned (.plain (OpenSpec.upto pkeskAnySpec)) pkeskAnyUptoCard

/-- THE SECOND FORM's CARD OF 'postilionlaw15.PkeskTurned'. -/
def pkeskTurnedUptoCard : Claim7 := { stood := { row := pkeskTurnedUptoRow, standIns := [], harness := (true, "39e6f610d31ae4f6169b237ee7966079609b689a832e32ece22028d41c2eb44b"), looks := false }, kinds := [], alts := [], laidByText := true, laidKinds := [.data, .data, .data, .data, .data], laidTests := true, laidLooks := .later }
def PkeskTurnedUptoCardSaid : Prop := Claim7.holds Tryz.pinned (.plain (OpenSpec.upto pkeskTurnedSpec)) pkeskTurnedUptoCard
end Rows
end Go.Proofs.YtajppfmjbkebfaaGreatDoor
