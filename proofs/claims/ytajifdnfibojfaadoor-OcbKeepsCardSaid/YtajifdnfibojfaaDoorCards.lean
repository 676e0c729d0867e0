/-
  DERIVED. GIVEN WITH THE SEED: THE CARDS: each row of YtajifdnfibojfaaDoorRows.lean that lists a variable, with what it lists TIED to the program's text (the seventh form; the later family's looks); each row that meets fmt, with fmt's text TOLD by the authors' own Lean function (tested against real Go, not proved from fmt's source: count such statements apart). THE CARD IS WHAT COUNTS. Prove the row's statement (the work); the ties are given (YtajifdnfibojfaaDoorTie.lean); close each card by the builder's one call (the guide's Derived/Test/ToyasCard.lean, 'card_holds'). Laid BY PROGRAM, IN A SANDBOX (cutbox-door.mjs). By AI agents, Wed Nov 11 2026. No macro, syntax, notation, axiom, sorry.
-/
import Derived.Test.YtajifdnfibojfaaDoorRows
import GoSem.ClaimSeven
namespace Go.Proofs.YtajifdnfibojfaaDoor
namespace Rows

/-- THE TIED CARD OF 'postilionlaw03.OcbSeals'. -/
def ocbSealsCard : Claim7 := { stood := { row := ocbSealsRow, standIns := [], harness := (true, "9d12f2b2bc794919d77fed72f72a3e5f695bf888d9fd5f752676624d47a3639a"), looks := false }, kinds := [], alts := [], laidByText := true, laidKinds := [.data, .data, .data], laidTests := true, laidLooks := .later }
def OcbSealsCardSaid : Prop := Claim7.holds Tryd.pinned (.plain (OpenSpec.ofChange ocbSealsSpec)) ocbSealsCard

/-- THE TIED CARD OF 'postilionlaw03.OcbOpens'. -/
def ocbOpensCard : Claim7 := { stood := { row := ocbOpensRow, standIns := [], harness := (true, "9d12f2b2bc794919d77fed72f72a3e5f695bf888d9fd5f752676624d47a3639a"), looks := false }, kinds := [], alts := [], laidByText := true, laidKinds := [.data, .data, .data], laidTests := true, laidLooks := .later }
def OcbOpensCardSaid : Prop := Claim7.holds Tryd.pinned (.plain (OpenSpec.ofChange ocbOpensSpec)) ocbOpensCard

/-- THE TIED CARD OF 'postilionlaw03.OcbBack'. -/
def ocbBackCard : Claim7 := { stood := { row := ocbBackRow, standIns := [], harness := (true, "9d12f2b2bc794919d77fed72f72a3e5f695bf888d9fd5f752676624d47a3639a"), looks := false }, kinds := [], alts := [], laidByText := true, laidKinds := [.data, .data, .data], laidTests := true, laidLooks := .later }
def OcbBackCardSaid : Prop := Claim7.holds Tryd.pinned (.plain (OpenSpec.ofChange ocbBackSpec)) ocbBackCard

/-- THE TIED CARD OF 'postilionlaw03.OcbKeeps'. -/
def ocbKeepsCard : Claim7 := { stood := { row := ocbKeepsRow, standIns := [], harness := (true, "9d12f2b2bc794919d77fed72f72a3e5f695bf888d9fd5f752676624d47a3639a"), looks := false }, kinds := [], alts := [], laidByText := true, laidKinds := [.data, .data, .data], laidTests := true, laidLooks := .later }
def OcbKeepsCardSaid : Prop := Claim7.holds Tryd.pinned (.plain (OpenSpec.ofChange ocbKeepsSpec)) ocbKeepsCard

/-- THE SECOND FORM's CARD OF 'postilionlaw03.OcbSeals'. -/
def ocbSealsUptoCard : Claim7 := { stood := { row := ocbSealsUptoRow, standIns := [], harness := (true, "9d12f2b2bc794919d77fed72f72a3e5f695bf888d9fd5f752676624d47a3639a"), looks := false }, kinds := [], alts := [], laidByText := true, laidKinds := [.data, .data, .data], laidTests := true, laidLooks := .later }
def OcbSealsUptoCardSaid : Prop := Claim7.holds Tryd.pinned (.plain (OpenSpec.upto ocbSealsSpec)) ocbSealsUptoCard

/-- THE SECOND FORM's CARD OF 'postilionlaw03.OcbOpens'. -/
def ocbOpensUptoCard : Claim7 := { stood := { row := ocbOpensUptoRow, standIns := [], harness := (true, "9d12f2b2bc794919d77fed72f72a3e5f695bf888d9fd5f752676624d47a3639a"), looks := false }, kinds := [], alts := [], laidByText := true, laidKinds := [.data, .data, .data], laidTests := true, laidLooks := .later }
def OcbOpensUptoCardSaid : Prop := Claim7.holds Tryd.pinned (.plain (OpenSpec.upto ocbOpensSpec)) ocbOpensUptoCard

/-- THE SECOND FORM's CARD OF 'postilionlaw03.OcbBack'. -/
def ocbBackUptoCard : Claim7 := { stood := { row := ocbBackUptoRow, standIns := [], harness := (true, "9d12f2b2bc794919d77fed72f72a3e5f695bf888d9fd5f752676624d47a3639a"), looks := false }, kinds := [], alts := [], laidByText := true, laidKinds := [.data, .data, .data], laidTests := true, laidLooks := .later }
def OcbBackUptoCardSaid : Prop := Claim7.holds Tryd.pinned (.plain (OpenSpec.upto ocbBackSpec)) ocbBackUptoCard

/-- THE SECOND FORM's CARD OF 'postilionlaw03.OcbKeeps'. -/
def ocbKeepsUptoCard : Claim7 := { stood := { row := ocbKeepsUptoRow, standIns := [], harness := (true, "9d12f2b2bc794919d77fed72f72a3e5f695bf888d9fd5f752676624d47a3639a"), looks := false }, kinds := [], alts := [], laidByText := true, laidKinds := [.data, .data, .data], laidTests := true, laidLooks := .later }
def OcbKeepsUptoCardSaid : Prop := Claim7.holds Tryd.pinned (.plain (OpenSpec.upto ocbKeepsSpec)) ocbKeepsUptoCard
end Rows
end Go.Proofs.YtajifdnfibojfaaDoor
