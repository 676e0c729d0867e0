/-
  DERIVED. GIVEN WITH THE SEED: THE CARDS: each row of YtadbpmcmdcnlfaaDoorRows.lean that lists a variable, with what it lists TIED to the program's text (the seventh form; the later family's looks); each row that meets fmt, with fmt's text TOLD by the authors' own Lean function (tested against real Go, not proved from fmt's source: count such statements apart). THE CARD IS WHAT COUNTS. Prove the row's statement (the work); the ties are given (YtadbpmcmdcnlfaaDoorTie.lean); close each card by the builder's one call (the guide's Derived/Test/ToyasCard.lean, 'card_holds'). Laid BY PROGRAM, IN A SANDBOX (cutbox-door.mjs). By AI agents, Wed Nov 11 2026. No macro, syntax, notation, axiom, sorry.
-/
import Derived.Test.YtadbpmcmdcnlfaaDoorRows
import GoSem.ClaimSeven
namespace Go.Proofs.YtadbpmcmdcnlfaaDoor
namespace Rows

/-- THE TIED CARD OF 'postilionlaw12.ArmorEncodes'. -/
def armorEncodesCard : Claim7 := { stood := { row := armorEncodesRow, standIns := [], harness := (true, "fa160c9dc446a6a60bdbd9908b9ca66c8beedd825a28fdc74a80386f1b76d486"), looks := false }, kinds := [], alts := [], laidByText := true, laidKinds := [.data, .pinned], laidTests := true, laidLooks := .later }
def ArmorEncodesCardSaid : Prop := Claim7.holds Tryd.pinned (.plain (OpenSpec.ofChange armorEncodesSpec)) armorEncodesCard

/-- THE TIED CARD OF 'postilionlaw12.ArmorDecodes'. -/
def armorDecodesCard : Claim7 := { stood := { row := armorDecodesRow, standIns := [], harness := (true, "fa160c9dc446a6a60bdbd9908b9ca66c8beedd825a28fdc74a80386f1b76d486"), looks := false }, kinds := [], alts := [], laidByText := true, laidKinds := [.data, .pinned], laidTests := true, laidLooks := .later }
def ArmorDecodesCardSaid : Prop := Claim7.holds Tryd.pinned (.plain (OpenSpec.ofChange armorDecodesSpec)) armorDecodesCard

/-- THE TIED CARD OF 'postilionlaw12.ArmorLines'. -/
def armorLinesCard : Claim7 := { stood := { row := armorLinesRow, standIns := [], harness := (true, "fa160c9dc446a6a60bdbd9908b9ca66c8beedd825a28fdc74a80386f1b76d486"), looks := false }, kinds := [], alts := [], laidByText := true, laidKinds := [.data, .pinned], laidTests := true, laidLooks := .later }
def ArmorLinesCardSaid : Prop := Claim7.holds Tryd.pinned (.plain (OpenSpec.ofChange armorLinesSpec)) armorLinesCard

/-- THE TIED CARD OF 'postilionlaw12.ArmorTurned'. -/
def armorTurnedCard : Claim7 := { stood := { row := armorTurnedRow, standIns := [], harness := (true, "fa160c9dc446a6a60bdbd9908b9ca66c8beedd825a28fdc74a80386f1b76d486"), looks := false }, kinds := [], alts := [], laidByText := true, laidKinds := [.data, .pinned], laidTests := true, laidLooks := .later }
def ArmorTurnedCardSaid : Prop := Claim7.holds Tryd.pinned (.plain (OpenSpec.ofChange armorTurnedSpec)) armorTurnedCard

/-- THE SECOND FORM's CARD OF 'postilionlaw12.ArmorEncodes'. -/
def armorEncodesUptoCard : Claim7 := { stood := { row := armorEncodesUptoRow, standIns := [], harness := (true, "fa160c9dc446a6a60bdbd9908b9ca66c8beedd825a28fdc74a80386f1b76d486"), looks := false }, kinds := [], alts := [], laidByText := true, laidKinds := [.data, .pinned], laidTests := true, laidLooks := .later }
def ArmorEncodesUptoCardSaid : Prop := Claim7.holds Tryd.pinned (.plain (OpenSpec.upto armorEncodesSpec)) armorEncodesUptoCard

/-- THE SECOND FORM's CARD OF 'postilionlaw12.ArmorDecodes'. -/
def armorDecodesUptoCard : Claim7 := { stood := { row := armorDecodesUptoRow, standIns := [], harness := (true, "fa160c9dc446a6a60bdbd9908b9ca66c8beedd825a28fdc74a80386f1b76d486"), looks := false }, kinds := [], alts := [], laidByText := true, laidKinds := [.data, .pinned], laidTests := true, laidLooks := .later }
def ArmorDecodesUptoCardSaid : Prop := Claim7.holds Tryd.pinned (.plain (OpenSpec.upto armorDecodesSpec)) armorDecodesUptoCard

/-- THE SECOND FORM's CARD OF 'postilionlaw12.ArmorLines'. -/
def armorLinesUptoCard : Claim7 := { stood := { row := armorLinesUptoRow, standIns := [], harness := (true, "fa160c9dc446a6a60bdbd9908b9ca66c8beedd825a28fdc74a80386f1b76d486"), looks := false }, kinds := [], alts := [], laidByText := true, laidKinds := [.data, .pinned], laidTests := true, laidLooks := .later }
def ArmorLinesUptoCardSaid : Prop := Claim7.holds Tryd.pinned (.plain (OpenSpec.upto armorLinesSpec)) armorLinesUptoCard

/-- THE SECOND FORM's CARD OF 'postilionlaw12.ArmorTurned'. -/
def armorTurnedUptoCard : Claim7 := { stood := { row := armorTurnedUptoRow, standIns := [], harness := (true, "fa160c9dc446a6a60bdbd9908b9ca66c8beedd825a28fdc74a80386f1b76d486"), looks := false }, kinds := [], alts := [], laidByText := true, laidKinds := [.data, .pinned], laidTests := true, laidLooks := .later }
def ArmorTurnedUptoCardSaid : Prop := Claim7.holds Tryd.pinned (.plain (OpenSpec.upto armorTurnedSpec)) armorTurnedUptoCard
end Rows
end Go.Proofs.YtadbpmcmdcnlfaaDoor
