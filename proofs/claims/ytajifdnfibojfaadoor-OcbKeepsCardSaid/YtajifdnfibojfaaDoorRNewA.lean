/- The document's New: a key's Cipher. -/
import Derived.Test.YtajifdnfibojfaaDoorRLeaf
import Derived.Test.YtajifdnfibojfaaDoorRCi
import Derived.Test.YtajifdnfibojfaaDoorKeys
import Derived.Deep.DeepCutAuto
namespace Go.Proofs.YtajifdnfibojfaaDoor
open Go Go.RowKit
set_option maxRecDepth 100000

theorem infoCi : Tryd.prog.built 80 [(3, .int .i64 10)] = some (ciRow (fun _ => 0) 10) := by kernel_rfl
theorem infoCi14 : Tryd.prog.built 80 [(3, .int .i64 14)] = some (ciRow (fun _ => 0) 14) := by kernel_rfl

/-- While the boxes are made: the first m places of both. -/
def ciA (m : Nat) : Nat → UInt8 := fun j => if j < 256 then (if j < m then boxF j else 0) else if j < 512 then bk boxF m (j - 256) else 0
/-- The boxes, and m bytes of the keys. -/
def ciF (W : Nat → UInt8) (m : Nat) : Nat → UInt8 := fun j => if j < 256 then boxF j else if j < 512 then bk boxF 256 (j - 256) else if j - 512 < m then W (j - 512) else 0
theorem ciF_s (W : Nat → UInt8) (m i : Nat) (h : i < 256) : ciF W m i = boxF i := if_pos h
theorem ciF_back (W : Nat → UInt8) (m i : Nat) (h : i < 256) : ciF W m (256 + i) = bk boxF 256 i := by
  unfold ciF
  rw [if_neg (by omega), if_pos (by omega), Nat.add_sub_cancel_left]
theorem ciF_w (W : Nat → UInt8) (m i : Nat) (h : i < m) : ciF W m (512 + i) = W i := by
  unfold ciF
  rw [if_neg (by omega), if_neg (by omega), Nat.add_sub_cancel_left, if_pos h]
theorem ciF_put (W : Nat → UInt8) (m : Nat) (v : UInt8) (hv : v = W m) : (fun j => if j = 512 + m then v else ciF W m j) = ciF W (m + 1) := by
  subst hv
  funext j
  unfold ciF
  by_cases h1 : j = 512 + m
  · rw [if_pos h1, if_neg (by omega), if_neg (by omega), if_pos (by omega), show j - 512 = m by omega]
  · rw [if_neg h1]
    by_cases h2 : j < 256
    · rw [if_pos h2, if_pos h2]
    · rw [if_neg h2, if_neg h2]
      by_cases h3 : j < 512
      · rw [if_pos h3, if_pos h3]
      · rw [if_neg h3, if_neg h3]
        by_cases h4 : j - 512 < m
        · rw [if_pos h4, if_pos (by omega)]
        · rw [if_neg h4, if_neg (by omega)]
theorem ciA_zero : ciA 0 = fun _ => 0 := by
  funext j
  unfold ciA
  by_cases h1 : j < 256
  · rw [if_pos h1, if_neg (by omega)]
  · rw [if_neg h1]
    by_cases h2 : j < 512
    · rw [if_pos h2]; rfl
    · rw [if_neg h2]
theorem ciA_all (W : Nat → UInt8) : ciA 256 = ciF W 0 := by
  funext j
  unfold ciA ciF
  by_cases h1 : j < 256
  · rw [if_pos h1, if_pos h1, if_pos h1]
  · rw [if_neg h1, if_neg h1]
    by_cases h2 : j < 512
    · rw [if_pos h2, if_pos h2]
    · rw [if_neg h2, if_neg h2, if_neg (by omega)]
/-- Place m written, of both boxes. -/
def ciA1 (m : Nat) : Nat → UInt8 := fun j => if j = m then boxF m else ciA m j
theorem ciA1_at (m : Nat) : ciA1 m m = boxF m := if_pos rfl
theorem ciA_succ (m : Nat) (hm : m < 256) : (fun j => if j = 256 + (boxF m).toNat then UInt8.ofNat m else ciA1 m j) = ciA (m + 1) := by
  have hb := (boxF m).toNat_lt
  funext j
  unfold ciA1 ciA
  by_cases h1 : j < 256
  · rw [if_neg (by omega), if_pos h1, if_pos h1]
    by_cases h2 : j = m
    · subst h2; rw [if_pos rfl, if_pos (by omega)]
    · rw [if_neg h2]
      by_cases h3 : j < m
      · rw [if_pos h3, if_pos (by omega)]
      · rw [if_neg h3, if_neg (by omega)]
  · rw [if_neg h1, if_neg h1, if_neg (show ¬ j = m by omega)]
    by_cases h2 : j < 512
    · rw [if_pos h2, if_pos h2]
      show _ = (if j - 256 = (boxF m).toNat then UInt8.ofNat m else bk boxF m (j - 256))
      by_cases h3 : j = 256 + (boxF m).toNat
      · rw [if_pos h3, if_pos (by omega)]
      · rw [if_neg h3, if_neg (by omega)]
    · rw [if_neg (by omega), if_neg h2, if_neg h2]

/-- What New leaves. -/
def Made (nk : Nat) (W : Nat → UInt8) (w : World) (e : Ending) (w' : World) : Prop :=
  ∃ g, e = .returned (.tuple #[.pointer (some ⟨g, 0, none⟩), .bool true]) ∧ w.heap.size ≤ g ∧ Ci w' g 80 (ciF W (4 * (4 * nk + 28))) ((nk : Int) + 6) ∧ Below w.heap.size w w'

theorem New_no (A : Option Addr) (n c : Nat) (w : World) (h1 : n ≠ 16) (h2 : n ≠ 32) :
    Calls Tryd.prog 31 #[.slice A n c] w fun e w' => e = .returned (.tuple #[.pointer none, .bool false]) ∧ w' = w := by
  have h1' : ((n : Int) != 16) = true := by simpa using (show ¬ (n : Int) = 16 by omega)
  have h2' : ((n : Int) != 32) = true := by simpa using (show ¬ (n : Int) = 32 by omega)
  clear h1 h2
  go_enter Tryd.func31, Tryd.ntmps31
  go_wp2
  go_ret2
  exact ⟨rfl, rfl⟩

end Go.Proofs.YtajifdnfibojfaaDoor
