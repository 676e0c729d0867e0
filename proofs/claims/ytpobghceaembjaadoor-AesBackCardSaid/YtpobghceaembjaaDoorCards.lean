/-
  DERIVED. GIVEN WITH THE SEED: THE CARDS: each row of YtpobghceaembjaaDoorRows.lean that lists a variable, with what it lists TIED to the program's text (the seventh form; the later family's looks); each row that meets fmt, with fmt's text TOLD by the authors' own Lean function (tested against real Go, not proved from fmt's source: count such statements apart). THE CARD IS WHAT COUNTS. Prove the row's statement (the work); the ties are given (YtpobghceaembjaaDoorTie.lean); close each card by the builder's one call (the guide's Derived/Test/ToyasCard.lean, 'card_holds'). Laid BY PROGRAM, IN A SANDBOX (cutbox-door.mjs). By AI agents, Wed Nov 11 2026. No macro, syntax, notation, axiom, sorry.
-/
import Derived.Test.YtpobghceaembjaaDoorRows
import GoSem.ClaimSeven
namespace Go.Proofs.YtpobghceaembjaaDoor
namespace Rows

/-- THE TIED CARD OF 'postilionlaw02.AesBlocks'. -/
def aesBlocksCard : Claim7 := { stood := { row := aesBlocksRow, standIns := [], harness := (true, "9a8ccf7748c278e97f07189905c605a9ddb19ba480b7ffa0b2f314cf2d687590"), looks := false }, kinds := [], alts := [], laidByText := true, laidKinds := [.data], laidTests := true, laidLooks := .later }
def AesBlocksCardSaid : Prop := Claim7.holds Tryd.pinned (.plain (OpenSpec.ofChange aesBlocksSpec)) aesBlocksCard

/-- THE TIED CARD OF 'postilionlaw02.AesBack'. -/
def aesBackCard : Claim7 := { stood := { row := aesBackRow, standIns := [], harness := (true, "9a8ccf7748c278e97f07189905c605a9ddb19ba480b7ffa0b2f314cf2d687590"), looks := false }, kinds := [], alts := [], laidByText := true, laidKinds := [.data], laidTests := true, laidLooks := .later }
def AesBackCardSaid : Prop := Claim7.holds Tryd.pinned (.plain (OpenSpec.ofChange aesBackSpec)) aesBackCard

/-- THE TIED CARD OF 'postilionlaw02.AesApart'. -/
def aesApartCard : Claim7 := { stood := { row := aesApartRow, standIns := [], harness := (true, "9a8ccf7748c278e97f07189905c605a9ddb19ba480b7ffa0b2f314cf2d687590"), looks := false }, kinds := [], alts := [], laidByText := true, laidKinds := [.data], laidTests := true, laidLooks := .later }
def AesApartCardSaid : Prop := Claim7.holds Tryd.pinned (.plain (OpenSpec.ofChange aesApartSpec)) aesApartCard

/-- THE TIED CARD OF 'postilionlaw02.AesWraps'. -/
def aesWrapsCard : Claim7 := { stood := { row := aesWrapsRow, standIns := [], harness := (true, "9a8ccf7748c278e97f07189905c605a9ddb19ba480b7ffa0b2f314cf2d687590"), looks := false }, kinds := [], alts := [], laidByText := true, laidKinds := [.data], laidTests := true, laidLooks := .later }
def AesWrapsCardSaid : Prop := Claim7.holds Tryd.pinned (.plain (OpenSpec.ofChange aesWrapsSpec)) aesWrapsCard

/-- THE TIED CARD OF 'postilionlaw02.AesUnwraps'. -/
def aesUnwrapsCard : Claim7 := { stood := { row := aesUnwrapsRow, standIns := [], harness := (true, "9a8ccf7748c278e97f07189905c605a9ddb19ba480b7ffa0b2f314cf2d687590"), looks := false }, kinds := [], alts := [], laidByText := true, laidKinds := [.data], laidTests := true, laidLooks := .later }
def AesUnwrapsCardSaid : Prop := Claim7.holds Tryd.pinned (.plain (OpenSpec.ofChange aesUnwrapsSpec)) aesUnwrapsCard

/-- THE TIED CARD OF 'postilionlaw02.AesKeeps'. -/
def aesKeepsCard : Claim7 := { stood := { row := aesKeepsRow, standIns := [], harness := (true, "9a8ccf7748c278e97f07189905c605a9ddb19ba480b7ffa0b2f314cf2d687590"), looks := false }, kinds := [], alts := [], laidByText := true, laidKinds := [.data], laidTests := true, laidLooks := .later }
def AesKeepsCardSaid : Prop := Claim7.holds Tryd.pinned (.plain (OpenSpec.ofChange aesKeepsSpec)) aesKeepsCard

/-- THE SECOND FORM's CARD OF 'postilionlaw02.AesBlocks'. -/
def aesBlocksUptoCard : Claim7 := { stood := { row := aesBlocksUptoRow, standIns := [], harness := (true, "9a8ccf7748c278e97f07189905c605a9ddb19ba480b7ffa0b2f314cf2d687590"), looks := false }, kinds := [], alts := [], laidByText := true, laidKinds := [.data], laidTests := true, laidLooks := .later }
def AesBlocksUptoCardSaid : Prop := Claim7.holds Tryd.pinned (.plain (OpenSpec.upto aesBlocksSpec)) aesBlocksUptoCard

/-- THE SECOND FORM's CARD OF 'postilionlaw02.AesBack'. -/
def aesBackUptoCard : Claim7 := { stood := { row := aesBackUptoRow, standIns := [], harness := (true, "9a8ccf7748c278e97f07189905c605a9ddb19ba480b7ffa0b2f314cf2d687590"), looks := false }, kinds := [], alts := [], laidByText := true, laidKinds := [.data], laidTests := true, laidLooks := .later }
def AesBackUptoCardSaid : Prop := Claim7.holds Tryd.pinned (.plain (OpenSpec.upto aesBackSpec)) aesBackUptoCard

/-- THE SECOND FORM's CARD OF 'postilionlaw02.AesApart'. -/
def aesApartUptoCard : Claim7 := { stood := { row := aesApartUptoRow, standIns := [], harness := (true, "9a8ccf7748c278e97f07189905c605a9ddb19ba480b7ffa0b2f314cf2d687590"), looks := false }, kinds := [], alts := [], laidByText := true, laidKinds := [.data], laidTests := true, laidLooks := .later }
def AesApartUptoCardSaid : Prop := Claim7.holds Tryd.pinned (.plain (OpenSpec.upto aesApartSpec)) aesApartUptoCard

/-- THE SECOND FORM's CARD OF 'postilionlaw02.AesWraps'. -/
def aesWrapsUptoCard : Claim7 := { stood := { row := aesWrapsUptoRow, standIns := [], harness := (true, "9a8ccf7748c278e97f07189905c605a9ddb19ba480b7ffa0b2f314cf2d687590"), looks := false }, kinds := [], alts := [], laidByText := true, laidKinds := [.data], laidTests := true, laidLooks := .later }
def AesWrapsUptoCardSaid : Prop := Claim7.holds Tryd.pinned (.plain (OpenSpec.upto aesWrapsSpec)) aesWrapsUptoCard

/-- THE SECOND FORM's CARD OF 'postilionlaw02.AesUnwraps'. -/
def aesUnwrapsUptoCard : Claim7 := { stood := { row := aesUnwrapsUptoRow, standIns := [], harness := (true, "9a8ccf7748c278e97f07189905c605a9ddb19ba480b7ffa0b2f314cf2d687590"), looks := false }, kinds := [], alts := [], laidByText := true, laidKinds := [.data], laidTests := true, laidLooks := .later }
def AesUnwrapsUptoCardSaid : Prop := Claim7.holds Tryd.pinned (.plain (OpenSpec.upto aesUnwrapsSpec)) aesUnwrapsUptoCard

/-- THE SECOND FORM's CARD OF 'postilionlaw02.AesKeeps'. -/
def aesKeepsUptoCard : Claim7 := { stood := { row := aesKeepsUptoRow, standIns := [], harness := (true, "9a8ccf7748c278e97f07189905c605a9ddb19ba480b7ffa0b2f314cf2d687590"), looks := false }, kinds := [], alts := [], laidByText := true, laidKinds := [.data], laidTests := true, laidLooks := .later }
def AesKeepsUptoCardSaid : Prop := Claim7.holds Tryd.pinned (.plain (OpenSpec.upto aesKeepsSpec)) aesKeepsUptoCard
end Rows
end Go.Proofs.YtpobghceaembjaaDoor
