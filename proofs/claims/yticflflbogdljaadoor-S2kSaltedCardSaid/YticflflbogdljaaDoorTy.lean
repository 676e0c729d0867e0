/- Facts of the program's plain types. -/
import Derived.Test.YticflflbogdljaaDoorProg
import Derived.Test.YticflflbogdljaaDoorKit
import Derived.ProofKit
import Derived.OpenShut
import Derived.ChangeSlices
namespace Go.Proofs.YticflflbogdljaaDoor
open Go Go.RowKit Go.ChangeShapes Go.WideShapes Go.ChangeAt
set_option maxRecDepth 100000

theorem mixedOrders : Tryd.prog.follows .mixedOrders = true := by kernel_rfl
theorem und8 : Tryd.prog.underlying 5 = some (.int .u8) := by kernel_rfl
theorem size8 : (Tryd.prog.info? 5).map (·.size) = some 1 := by kernel_rfl
theorem undB : Tryd.prog.underlying 22 = some (.slice 5) := by kernel_rfl
theorem own : ownKnob Tryd.prog.godebug = none := by kernel_rfl
theorem cells8 : Tryd.prog.cellsOf 5 = 1 := by kernel_rfl
theorem laidOut : laidOutB Tryd.prog = true := by kernel_rfl
theorem readB : Tryd.prog.readableRec 22 = true := by kernel_rfl
theorem rowB : 22 < Tryd.prog.types.size := of_decide_eq_true (by kernel_rfl)
theorem undBool : Tryd.prog.underlying 4 = some .bool := by kernel_rfl
end Go.Proofs.YticflflbogdljaaDoor
