/- Package field's calls, as numbers modulo p; xdh's square and factor. -/
import Derived.Test.YtchojbhmfjibmaaBridge
import Derived.Test.YtchojbhmfjibmaaFApi
import Derived.Test.YtchojbhmfjibmaaHold
namespace Go.Proofs.Ytchojbhmfjibmaa
open Go Go.RowKit
set_option maxRecDepth 100000

/-- The canonical bytes of a number modulo p; the number that 32 bytes are. -/
def bF (x : Fin pF) : Nat → UInt8 := byteN x.val
def nF (b : Nat → UInt8) : Fin pF := toF (lv b 32)
theorem bF_toF (v : Nat) : bF (toF v) = byteN (v % pN) := rfl
theorem nF_bF (x : Fin pF) : nF (bF x) = x := by
  have h : x.val = x.val % pN := (Nat.mod_eq_of_lt x.isLt).symm
  unfold nF bF
  rw [h, toF_bytes]
  exact Fin.ext (by rw [toF_val, ← h])
theorem lv_bF (x : Fin pF) : lv (bF x) 32 = x.val := by
  have h : x.val = x.val % pN := (Nat.mod_eq_of_lt x.isLt).symm
  unfold bF
  rw [h, lv_bytes, ← h]
abbrev vB (f : Nat → UInt8) : Value := .agg (row 32 f)

theorem addF_c (a b : Nat → UInt8) (w : World) : Calls Try.prog 42 #[vB a, vB b] w fun e w' => e = .returned (vB (bF (nF a + nF b))) ∧ Below w.heap.size w w' := by
  have h := add_c a b w
  rw [← bF_toF, toF_fv, toF_add] at h
  exact h
theorem subF_c (a b : Nat → UInt8) (w : World) : Calls Try.prog 43 #[vB a, vB b] w fun e w' => e = .returned (vB (bF (nF a - nF b))) ∧ Below w.heap.size w w' := by
  have h := sub_c a b w
  rw [← bF_toF, toF_mi _ _ (lv_lt32 a) (lv_lt32 b)] at h
  exact h
theorem mulF_c (a b : Nat → UInt8) (w : World) : Calls Try.prog 33 #[vB a, vB b] w fun e w' => e = .returned (vB (bF (nF a * nF b))) ∧ Below w.heap.size w w' := by
  have h := mul_c a b w
  rw [← bF_toF, toF_tm] at h
  exact h
theorem invF_c (a : Nat → UInt8) (w : World) : Calls Try.prog 34 #[vB a] w fun e w' => e = .returned (vB (bF (ivF (nF a)))) ∧ Below w.heap.size w w' := by
  have h := inv_c a w
  rw [← bF_toF, toF_iv] at h
  exact h

theorem isRowB : (Try.prog.underlying 22).map (·.isRow) = some true := by kernel_rfl
theorem sizeRow (f : Nat → UInt8) : (Try.prog.info? 22).map (·.size) = some (row 32 f).size := by rw [row_size]; exact size32B
theorem sizeEq (f g : Nat → UInt8) : (row 32 f).size = (row 32 g).size := by rw [row_size, row_size]

def facB : Nat → UInt8 := fun i => if i = 0 then 65 else if i = 1 then 219 else if i = 2 then 1 else 0
theorem nF_fac : nF facB = aF := by decide +kernel
theorem built_fac : Try.prog.built 22 [(0, .int .u8 65), (1, .int .u8 219), (2, .int .u8 1)] = some (row 32 facB) := by kernel_rfl
/-! ### Places -/
def cat (x z : Nat → UInt8) : Nat → UInt8 := fun i => if i < 32 then x i else z (i - 32)
theorem cat_x {x z : Nat → UInt8} (j : Nat) (hj : j < (row 32 x).size) : (row 64 (cat x z))[0 + j]? = (row 32 x)[j]? := by
  rw [row_size] at hj
  rw [Nat.zero_add, row_get _ _ _ hj, row_get _ _ _ (by omega)]
  unfold cat; rw [if_pos hj]
theorem cat_z {x z : Nat → UInt8} (j : Nat) (hj : j < (row 32 z).size) : (row 64 (cat x z))[32 + j]? = (row 32 z)[j]? := by
  rw [row_size] at hj
  rw [row_get _ _ _ hj, row_get _ _ _ (by omega)]
  unfold cat; rw [if_neg (by omega), Nat.add_sub_cancel_left]
theorem isRowP : (Try.prog.underlying 45).map (·.isRow) = some true := by kernel_rfl
theorem sizeP0 : (Try.prog.info? 45).map (·.size) = some 64 := by kernel_rfl
theorem sizeP (f : Nat → UInt8) : (Try.prog.info? 45).map (·.size) = some (row 64 f).size := by rw [row_size]; exact sizeP0
theorem sizeEqP (f g : Nat → UInt8) : (row 64 f).size = (row 64 g).size := by rw [row_size, row_size]
theorem zeroP : (Try.prog.info? 45).bind (·.zero) = some (.agg (row 64 (cat (fun _ => 0) fun _ => 0))) := by kernel_rfl
theorem built_place (a b : Nat → UInt8) : Try.prog.built 45 [(0, .agg (row 32 a)), (1, .agg (row 32 b))] = some (row 64 (cat a b)) := by kernel_rfl
end Go.Proofs.Ytchojbhmfjibmaa
