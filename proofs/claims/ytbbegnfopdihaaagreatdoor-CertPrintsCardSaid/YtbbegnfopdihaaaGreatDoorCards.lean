/-
  DERIVED. GIVEN WITH THE SEED: THE CARDS: each row of YtbbegnfopdihaaaGreatDoorRows.lean that lists a variable, with what it lists TIED to the program's text (the seventh form; the later family's looks); each row that meets fmt, with fmt's text TOLD by the authors' own Lean function (tested against real Go, not proved from fmt's source: count such statements apart). THE CARD IS WHAT COUNTS. Prove the row's statement (the work); the ties are given (YtbbegnfopdihaaaGreatDoorTie.lean); close each card by the builder's one call (the guide's Derived/Test/ToyasCard.lean, 'card_holds'). Laid BY PROGRAM, IN A SANDBOX (cutbox-door.mjs). By AI agents, Wed Nov 11 2026. No macro, syntax, notation, axiom, sorry.
-/
import Derived.Test.YtbbegnfopdihaaaGreatDoorRows
import GoSem.ClaimSeven
namespace Go.Proofs.YtbbegnfopdihaaaGreatDoor
namespace Rows

/-- THE TIED CARD OF 'postilionlaw14.CertPrints'. -/
def certPrintsCard : Claim7 := { stood := { row := certPrintsRow, standIns := [], harness := (true, "84460b976284c8b7f68570faf7a5cccbc65887598ef040dd203c240acf9ed0ad"), looks := false }, kinds := [], alts := [], laidByText := true, laidKinds := [.data, .data, .data, .data], laidTests := true, laidLooks := .later }
def CertPrintsCardSaid : Prop := Claim7.holds Tryz.pinned (.plain (OpenSpec.ofChange certPrintsSpec)) certPrintsCard

/-- THE SECOND FORM's CARD OF 'postilionlaw14.CertPrints'. -/
def certPrintsUptoCard : Claim7 := { stood := { row := certPrintsUptoRow, standIns := [], harness := (true, "84460b976284c8b7f68570faf7a5cccbc65887598ef040dd203c240acf9ed0ad"), looks := false }, kinds := [], alts := [], laidByText := true, laidKinds := [.data, .data, .data, .data], laidTests := true, laidLooks := .later }
def CertPrintsUptoCardSaid : Prop := Claim7.holds Tryz.pinned (.plain (OpenSpec.upto certPrintsSpec)) certPrintsUptoCard
end Rows
end Go.Proofs.YtbbegnfopdihaaaGreatDoor
