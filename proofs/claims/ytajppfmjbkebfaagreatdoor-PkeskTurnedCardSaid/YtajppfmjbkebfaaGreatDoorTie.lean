/-
  DERIVED. GIVEN WITH THE SEED: THE PROGRAM's TIES (one call each: nine closed facts by the kernel) AND EACH ROW's TIE, after the 31st guide's Derived/Test/Toyas{Tie, Card}.lean. No idea stands in it: it is a product of the set-up. Laid BY PROGRAM, IN A SANDBOX (cutbox-door.mjs). By AI agents, Wed Nov 11 2026. No macro, syntax, notation, axiom, sorry.
-/
import Derived.Test.YtajppfmjbkebfaaGreatDoorRows
import Derived.LaidByTextLater
import Derived.SevenTiedAt
import Derived.LaidSub
import Derived.LaidOnce
namespace Go.Proofs.YtajppfmjbkebfaaGreatDoor
open Go
set_option maxRecDepth 100000
theorem seatTie1 : Tryz.prog.laidByTextLater [("postilion/sha2.start256", Rows.laid_postilion_sha2_start256), ("postilion/sha2.rounds256", Rows.laid_postilion_sha2_rounds256), ("postilion/sha2.start512", Rows.laid_postilion_sha2_start512), ("postilion/sha2.rounds512", Rows.laid_postilion_sha2_rounds512), ("postilion/aes.box", Rows.laid_postilion_aes_box)] [.data, .data, .data, .data, .data] true :=
  Program.laidByTextLater_by_one 34 8 257 (by kernel_rfl) (by kernel_rfl) (by kernel_rfl) (by kernel_rfl) (by kernel_rfl) (by kernel_rfl) (fun _ _ => by kernel_rfl)
theorem noOwnUnsafe : Tryz.pinned.checked.prog.headLifts.contains "ownunsafe" = false := by kernel_rfl
theorem tie : Tryz.prog.laidByTextLater [("postilion/sha2.start256", Rows.laid_postilion_sha2_start256), ("postilion/sha2.rounds256", Rows.laid_postilion_sha2_rounds256), ("postilion/sha2.start512", Rows.laid_postilion_sha2_start512), ("postilion/sha2.rounds512", Rows.laid_postilion_sha2_rounds512), ("postilion/aes.box", Rows.laid_postilion_aes_box)] [.data, .data, .data, .data, .data] true :=
  Program.laidByTextLater.sub seatTie1 ["postilion/sha2.start256", "postilion/sha2.rounds256", "postilion/sha2.start512", "postilion/sha2.rounds512", "postilion/aes.box"] (by kernel_rfl) (by kernel_rfl)
theorem pkeskSeals_row_tie : Rows.pkeskSealsRow.laidByTextAt .later Tryz.pinned [.data, .data, .data, .data, .data] true :=
  OpenClaim.laidByTextAt_later rfl rfl tie noOwnUnsafe
theorem pkeskAny_row_tie : Rows.pkeskAnyRow.laidByTextAt .later Tryz.pinned [.data, .data, .data, .data, .data] true :=
  OpenClaim.laidByTextAt_later rfl rfl tie noOwnUnsafe
theorem pkeskTurned_row_tie : Rows.pkeskTurnedRow.laidByTextAt .later Tryz.pinned [.data, .data, .data, .data, .data] true :=
  OpenClaim.laidByTextAt_later rfl rfl tie noOwnUnsafe
theorem pkeskSealsUpto_row_tie : Rows.pkeskSealsUptoRow.laidByTextAt .later Tryz.pinned [.data, .data, .data, .data, .data] true :=
  OpenClaim.laidByTextAt_later rfl rfl tie noOwnUnsafe
theorem pkeskAnyUpto_row_tie : Rows.pkeskAnyUptoRow.laidByTextAt .later Tryz.pinned [.data, .data, .data, .data, .data] true :=
  OpenClaim.laidByTextAt_later rfl rfl tie noOwnUnsafe
theorem pkeskTurnedUpto_row_tie : Rows.pkeskTurnedUptoRow.laidByTextAt .later Tryz.pinned [.data, .data, .data, .data, .data] true :=
  OpenClaim.laidByTextAt_later rfl rfl tie noOwnUnsafe
end Go.Proofs.YtajppfmjbkebfaaGreatDoor
