/- Facts of the program's plain types. -/
import Derived.Test.YtadbpmcmdcnlfaaProg
import Derived.Test.YtadbpmcmdcnlfaaKit
import Derived.ProofKit
import Derived.OpenShut
import Derived.ChangeSlices
namespace Go.Proofs.Ytadbpmcmdcnlfaa
open Go Go.RowKit Go.ChangeShapes Go.WideShapes Go.ChangeAt
set_option maxRecDepth 100000

theorem mixedOrders : Try.prog.follows .mixedOrders = true := by kernel_rfl
theorem und8 : Try.prog.underlying 5 = some (.int .u8) := by kernel_rfl
theorem size8 : (Try.prog.info? 5).map (·.size) = some 1 := by kernel_rfl
theorem undB : Try.prog.underlying 22 = some (.slice 5) := by kernel_rfl
theorem own : ownKnob Try.prog.godebug = none := by kernel_rfl
theorem cells8 : Try.prog.cellsOf 5 = 1 := by kernel_rfl
theorem laidOut : laidOutB Try.prog = true := by kernel_rfl
theorem readB : Try.prog.readableRec 22 = true := by kernel_rfl
theorem rowB : 22 < Try.prog.types.size := of_decide_eq_true (by kernel_rfl)
theorem undBool : Try.prog.underlying 4 = some .bool := by kernel_rfl
end Go.Proofs.Ytadbpmcmdcnlfaa
