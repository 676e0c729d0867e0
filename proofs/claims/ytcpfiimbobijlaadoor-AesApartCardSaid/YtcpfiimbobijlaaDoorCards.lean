/-
  DERIVED. GIVEN WITH THE SEED: THE CARDS: each row of YtcpfiimbobijlaaDoorRows.lean that lists a variable, with what it lists TIED to the program's text (the seventh form; the later family's looks); each row that meets fmt, with fmt's text TOLD by the authors' own Lean function (tested against real Go, not proved from fmt's source: count such statements apart). THE CARD IS WHAT COUNTS. Prove the row's statement (the work); the ties are given (YtcpfiimbobijlaaDoorTie.lean); close each card by the builder's one call (the guide's Derived/Test/ToyasCard.lean, 'card_holds'). Laid BY PROGRAM, IN A SANDBOX (cutbox-door.mjs). By AI agents, Wed Nov 11 2026. No macro, syntax, notation, axiom, sorry.
-/
import Derived.Test.YtcpfiimbobijlaaDoorRows
import GoSem.ClaimSeven
namespace Go.Proofs.YtcpfiimbobijlaaDoor
namespace Rows

/-- THE TIED CARD OF 'postilionlaw02.AesBlocks'. -/
def aesBlocksCard : Claim7 := { stood := { row := aesBlocksRow, standIns := [], harness := (true, "8b83e5ec7fa7d06d8549e47c4fdfef26a47513fe90a4cdf14ec7d71bda9184c7"), looks := false }, kinds := [], alts := [], laidByText := true, laidKinds := [.data], laidTests := true, laidLooks := .later }
def AesBlocksCardSaid : Prop := Claim7.holds Tryd.pinned (.plain (OpenSpec.ofChange aesBlocksSpec)) aesBlocksCard

/-- THE TIED CARD OF 'postilionlaw02.AesBack'. -/
def aesBackCard : Claim7 := { stood := { row := aesBackRow, standIns := [], harness := (true, "8b83e5ec7fa7d06d8549e47c4fdfef26a47513fe90a4cdf14ec7d71bda9184c7"), looks := false }, kinds := [], alts := [], laidByText := true, laidKinds := [.data], laidTests := true, laidLooks := .later }
def AesBackCardSaid : Prop := Claim7.holds Tryd.pinned (.plain (OpenSpec.ofChange aesBackSpec)) aesBackCard

/-- THE TIED CARD OF 'postilionlaw02.AesApart'. -/
def aesApartCard : Claim7 := { stood := { row := aesApartRow, standIns := [], harness := (true, "8b83e5ec7fa7d06d8549e47c4fdfef26a47513fe90a4cdf14ec7d71bda9184c7"), looks := false }, kinds := [], alts := [], laidByText := true, laidKinds := [.data], laidTests := true, laidLooks := .later }
def AesApartCardSaid : Prop := Claim7.holds Tryd.pinned (.plain (OpenSpec.ofChange aesApartSpec)) aesApartCard

/-- THE TIED CARD OF 'postilionlaw02.AesWraps'. -/
def aesWrapsCard : Claim7 := { stood := { row := aesWrapsRow, standIns := [], harness := (true, "8b83e5ec7fa7d06d8549e47c4fdfef26a47513fe90a4cdf14ec7d71bda9184c7"), looks := false }, kinds := [], alts := [], laidByText := true, laidKinds := [.data], laidTests := true, laidLooks := .later }
def AesWrapsCardSaid : Prop := Claim7.holds Tryd.pinned (.plain (OpenSpec.ofChange aesWrapsSpec)) aesWrapsCard

/-- THE TIED CARD OF 'postilionlaw02.AesUnwraps'. -/
def aesUnwrapsCard : Claim7 := { stood := { row := aesUnwrapsRow, standIns := [], harness := (true, "8b83e5ec7fa7d06d8549e47c4fdfef26a47513fe90a4cdf14ec7d71bda9184c7"), looks := false }, kinds := [], alts := [], laidByText := true, laidKinds := [.data], laidTests := true, laidLooks := .later }
def AesUnwrapsCardSaid : Prop := Claim7.holds Tryd.pinned (.plain (OpenSpec.ofChange aesUnwrapsSpec)) aesUnwrapsCard

/-- THE TIED CARD OF 'postilionlaw02.AesKeeps'. -/
def aesKeepsCard : Claim7 := { stood := { row := aesKeepsRow, standIns := [], harness := (true, "8b83e5ec7fa7d06d8549e47c4fdfef26a47513fe90a4cdf14ec7d71bda9184c7"), looks := false }, kinds := [], alts := [], laidByText := true, laidKinds := [.data], laidTests := true, laidLooks := .later }
def AesKeepsCardSaid : Prop := Claim7.holds Tryd.pinned (.plain (OpenSpec.ofChange aesKeepsSpec)) aesKeepsCard

/-- THE TIED CARD OF 'postilionlaw03.OcbSeals'. -/
def ocbSealsCard : Claim7 := { stood := { row := ocbSealsRow, standIns := [], harness := (true, "8b83e5ec7fa7d06d8549e47c4fdfef26a47513fe90a4cdf14ec7d71bda9184c7"), looks := false }, kinds := [], alts := [], laidByText := true, laidKinds := [.data, .data, .data], laidTests := true, laidLooks := .later }
def OcbSealsCardSaid : Prop := Claim7.holds Tryd.pinned (.plain (OpenSpec.ofChange ocbSealsSpec)) ocbSealsCard

/-- THE TIED CARD OF 'postilionlaw03.OcbOpens'. -/
def ocbOpensCard : Claim7 := { stood := { row := ocbOpensRow, standIns := [], harness := (true, "8b83e5ec7fa7d06d8549e47c4fdfef26a47513fe90a4cdf14ec7d71bda9184c7"), looks := false }, kinds := [], alts := [], laidByText := true, laidKinds := [.data, .data, .data], laidTests := true, laidLooks := .later }
def OcbOpensCardSaid : Prop := Claim7.holds Tryd.pinned (.plain (OpenSpec.ofChange ocbOpensSpec)) ocbOpensCard

/-- THE TIED CARD OF 'postilionlaw03.OcbBack'. -/
def ocbBackCard : Claim7 := { stood := { row := ocbBackRow, standIns := [], harness := (true, "8b83e5ec7fa7d06d8549e47c4fdfef26a47513fe90a4cdf14ec7d71bda9184c7"), looks := false }, kinds := [], alts := [], laidByText := true, laidKinds := [.data, .data, .data], laidTests := true, laidLooks := .later }
def OcbBackCardSaid : Prop := Claim7.holds Tryd.pinned (.plain (OpenSpec.ofChange ocbBackSpec)) ocbBackCard

/-- THE TIED CARD OF 'postilionlaw03.OcbKeeps'. -/
def ocbKeepsCard : Claim7 := { stood := { row := ocbKeepsRow, standIns := [], harness := (true, "8b83e5ec7fa7d06d8549e47c4fdfef26a47513fe90a4cdf14ec7d71bda9184c7"), looks := false }, kinds := [], alts := [], laidByText := true, laidKinds := [.data, .data, .data], laidTests := true, laidLooks := .later }
def OcbKeepsCardSaid : Prop := Claim7.holds Tryd.pinned (.plain (OpenSpec.ofChange ocbKeepsSpec)) ocbKeepsCard

/-- THE SECOND FORM's CARD OF 'postilionlaw02.AesBlocks'. -/
def aesBlocksUptoCard : Claim7 := { stood := { row := aesBlocksUptoRow, standIns := [], harness := (true, "8b83e5ec7fa7d06d8549e47c4fdfef26a47513fe90a4cdf14ec7d71bda9184c7"), looks := false }, kinds := [], alts := [], laidByText := true, laidKinds := [.data], laidTests := true, laidLooks := .later }
def AesBlocksUptoCardSaid : Prop := Claim7.holds Tryd.pinned (.plain (OpenSpec.upto aesBlocksSpec)) aesBlocksUptoCard

/-- THE SECOND FORM's CARD OF 'postilionlaw02.AesBack'. -/
def aesBackUptoCard : Claim7 := { stood := { row := aesBackUptoRow, standIns := [], harness := (true, "8b83e5ec7fa7d06d8549e47c4fdfef26a47513fe90a4cdf14ec7d71bda9184c7"), looks := false }, kinds := [], alts := [], laidByText := true, laidKinds := [.data], laidTests := true, laidLooks := .later }
def AesBackUptoCardSaid : Prop := Claim7.holds Tryd.pinned (.plain (OpenSpec.upto aesBackSpec)) aesBackUptoCard

/-- THE SECOND FORM's CARD OF 'postilionlaw02.AesApart'. -/
def aesApartUptoCard : Claim7 := { stood := { row := aesApartUptoRow, standIns := [], harness := (true, "8b83e5ec7fa7d06d8549e47c4fdfef26a47513fe90a4cdf14ec7d71bda9184c7"), looks := false }, kinds := [], alts := [], laidByText := true, laidKinds := [.data], laidTests := true, laidLooks := .later }
def AesApartUptoCardSaid : Prop := Claim7.holds Tryd.pinned (.plain (OpenSpec.upto aesApartSpec)) aesApartUptoCard

/-- THE SECOND FORM's CARD OF 'postilionlaw02.AesWraps'. -/
def aesWrapsUptoCard : Claim7 := { stood := { row := aesWrapsUptoRow, standIns := [], harness := (true, "8b83e5ec7fa7d06d8549e47c4fdfef26a47513fe90a4cdf14ec7d71bda9184c7"), looks := false }, kinds := [], alts := [], laidByText := true, laidKinds := [.data], laidTests := true, laidLooks := .later }
def AesWrapsUptoCardSaid : Prop := Claim7.holds Tryd.pinned (.plain (OpenSpec.upto aesWrapsSpec)) aesWrapsUptoCard

/-- THE SECOND FORM's CARD OF 'postilionlaw02.AesUnwraps'. -/
def aesUnwrapsUptoCard : Claim7 := { stood := { row := aesUnwrapsUptoRow, standIns := [], harness := (true, "8b83e5ec7fa7d06d8549e47c4fdfef26a47513fe90a4cdf14ec7d71bda9184c7"), looks := false }, kinds := [], alts := [], laidByText := true, laidKinds := [.data], laidTests := true, laidLooks := .later }
def AesUnwrapsUptoCardSaid : Prop := Claim7.holds Tryd.pinned (.plain (OpenSpec.upto aesUnwrapsSpec)) aesUnwrapsUptoCard

/-- THE SECOND FORM's CARD OF 'postilionlaw02.AesKeeps'. -/
def aesKeepsUptoCard : Claim7 := { stood := { row := aesKeepsUptoRow, standIns := [], harness := (true, "8b83e5ec7fa7d06d8549e47c4fdfef26a47513fe90a4cdf14ec7d71bda9184c7"), looks := false }, kinds := [], alts := [], laidByText := true, laidKinds := [.data], laidTests := true, laidLooks := .later }
def AesKeepsUptoCardSaid : Prop := Claim7.holds Tryd.pinned (.plain (OpenSpec.upto aesKeepsSpec)) aesKeepsUptoCard

/-- THE SECOND FORM's CARD OF 'postilionlaw03.OcbSeals'. -/
def ocbSealsUptoCard : Claim7 := { stood := { row := ocbSealsUptoRow, standIns := [], harness := (true, "8b83e5ec7fa7d06d8549e47c4fdfef26a47513fe90a4cdf14ec7d71bda9184c7"), looks := false }, kinds := [], alts := [], laidByText := true, laidKinds := [.data, .data, .data], laidTests := true, laidLooks := .later }
def OcbSealsUptoCardSaid : Prop := Claim7.holds Tryd.pinned (.plain (OpenSpec.upto ocbSealsSpec)) ocbSealsUptoCard

/-- THE SECOND FORM's CARD OF 'postilionlaw03.OcbOpens'. -/
def ocbOpensUptoCard : Claim7 := { stood := { row := ocbOpensUptoRow, standIns := [], harness := (true, "8b83e5ec7fa7d06d8549e47c4fdfef26a47513fe90a4cdf14ec7d71bda9184c7"), looks := false }, kinds := [], alts := [], laidByText := true, laidKinds := [.data, .data, .data], laidTests := true, laidLooks := .later }
def OcbOpensUptoCardSaid : Prop := Claim7.holds Tryd.pinned (.plain (OpenSpec.upto ocbOpensSpec)) ocbOpensUptoCard

/-- THE SECOND FORM's CARD OF 'postilionlaw03.OcbBack'. -/
def ocbBackUptoCard : Claim7 := { stood := { row := ocbBackUptoRow, standIns := [], harness := (true, "8b83e5ec7fa7d06d8549e47c4fdfef26a47513fe90a4cdf14ec7d71bda9184c7"), looks := false }, kinds := [], alts := [], laidByText := true, laidKinds := [.data, .data, .data], laidTests := true, laidLooks := .later }
def OcbBackUptoCardSaid : Prop := Claim7.holds Tryd.pinned (.plain (OpenSpec.upto ocbBackSpec)) ocbBackUptoCard

/-- THE SECOND FORM's CARD OF 'postilionlaw03.OcbKeeps'. -/
def ocbKeepsUptoCard : Claim7 := { stood := { row := ocbKeepsUptoRow, standIns := [], harness := (true, "8b83e5ec7fa7d06d8549e47c4fdfef26a47513fe90a4cdf14ec7d71bda9184c7"), looks := false }, kinds := [], alts := [], laidByText := true, laidKinds := [.data, .data, .data], laidTests := true, laidLooks := .later }
def OcbKeepsUptoCardSaid : Prop := Claim7.holds Tryd.pinned (.plain (OpenSpec.upto ocbKeepsSpec)) ocbKeepsUptoCard
end Rows
end Go.Proofs.YtcpfiimbobijlaaDoor
