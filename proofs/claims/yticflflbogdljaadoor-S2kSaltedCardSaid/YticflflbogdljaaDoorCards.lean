/-
  DERIVED. GIVEN WITH THE SEED: THE CARDS: each row of YticflflbogdljaaDoorRows.lean that lists a variable, with what it lists TIED to the program's text (the seventh form; the later family's looks); each row that meets fmt, with fmt's text TOLD by the authors' own Lean function (tested against real Go, not proved from fmt's source: count such statements apart). THE CARD IS WHAT COUNTS. Prove the row's statement (the work); the ties are given (YticflflbogdljaaDoorTie.lean); close each card by the builder's one call (the guide's Derived/Test/ToyasCard.lean, 'card_holds'). Laid BY PROGRAM, IN A SANDBOX (cutbox-door.mjs). By AI agents, Wed Nov 11 2026. No macro, syntax, notation, axiom, sorry.
-/
import Derived.Test.YticflflbogdljaaDoorRows
import GoSem.ClaimSeven
namespace Go.Proofs.YticflflbogdljaaDoor
namespace Rows

/-- THE TIED CARD OF 'postilionlaw13.S2kDerives'. -/
def s2kDerivesCard : Claim7 := { stood := { row := s2kDerivesRow, standIns := [], harness := (true, "f343bbc5c8875b326849b20eb50843e821d21402494e6fbcaefe07412cbba8ad"), looks := false }, kinds := [], alts := [], laidByText := true, laidKinds := [.data, .data], laidTests := true, laidLooks := .later }
def S2kDerivesCardSaid : Prop := Claim7.holds Tryd.pinned (.plain (OpenSpec.ofChange s2kDerivesSpec)) s2kDerivesCard

/-- THE TIED CARD OF 'postilionlaw13.S2kSalted'. -/
def s2kSaltedCard : Claim7 := { stood := { row := s2kSaltedRow, standIns := [], harness := (true, "f343bbc5c8875b326849b20eb50843e821d21402494e6fbcaefe07412cbba8ad"), looks := false }, kinds := [], alts := [], laidByText := true, laidKinds := [.data, .data], laidTests := true, laidLooks := .later }
def S2kSaltedCardSaid : Prop := Claim7.holds Tryd.pinned (.plain (OpenSpec.ofChange s2kSaltedSpec)) s2kSaltedCard

/-- THE TIED CARD OF 'postilionlaw13.S2kCounts'. -/
def s2kCountsCard : Claim7 := { stood := { row := s2kCountsRow, standIns := [], harness := (true, "f343bbc5c8875b326849b20eb50843e821d21402494e6fbcaefe07412cbba8ad"), looks := false }, kinds := [], alts := [], laidByText := true, laidKinds := [.data, .data], laidTests := true, laidLooks := .later }
def S2kCountsCardSaid : Prop := Claim7.holds Tryd.pinned (.plain (OpenSpec.ofChange s2kCountsSpec)) s2kCountsCard

/-- THE SECOND FORM's CARD OF 'postilionlaw13.S2kDerives'. -/
def s2kDerivesUptoCard : Claim7 := { stood := { row := s2kDerivesUptoRow, standIns := [], harness := (true, "f343bbc5c8875b326849b20eb50843e821d21402494e6fbcaefe07412cbba8ad"), looks := false }, kinds := [], alts := [], laidByText := true, laidKinds := [.data, .data], laidTests := true, laidLooks := .later }
def S2kDerivesUptoCardSaid : Prop := Claim7.holds Tryd.pinned (.plain (OpenSpec.upto s2kDerivesSpec)) s2kDerivesUptoCard

/-- THE SECOND FORM's CARD OF 'postilionlaw13.S2kSalted'. -/
def s2kSaltedUptoCard : Claim7 := { stood := { row := s2kSaltedUptoRow, standIns := [], harness := (true, "f343bbc5c8875b326849b20eb50843e821d21402494e6fbcaefe07412cbba8ad"), looks := false }, kinds := [], alts := [], laidByText := true, laidKinds := [.data, .data], laidTests := true, laidLooks := .later }
def S2kSaltedUptoCardSaid : Prop := Claim7.holds Tryd.pinned (.plain (OpenSpec.upto s2kSaltedSpec)) s2kSaltedUptoCard

/-- THE SECOND FORM's CARD OF 'postilionlaw13.S2kCounts'. -/
def s2kCountsUptoCard : Claim7 := { stood := { row := s2kCountsUptoRow, standIns := [], harness := (true, "f343bbc5c8875b326849b20eb50843e821d21402494e6fbcaefe07412cbba8ad"), looks := false }, kinds := [], alts := [], laidByText := true, laidKinds := [.data, .data], laidTests := true, laidLooks := .later }
def S2kCountsUptoCardSaid : Prop := Claim7.holds Tryd.pinned (.plain (OpenSpec.upto s2kCountsSpec)) s2kCountsUptoCard
end Rows
end Go.Proofs.YticflflbogdljaaDoor
