/- math/bits: Add64 and Sub64 (the model stands in for them), Mul64 (the library's own text, walked); over words of numbers. -/
import Derived.Test.YtchojbhmfjibmaaProg
import Derived.Test.YtchojbhmfjibmaaNm
import Derived.Test.YtchojbhmfjibmaaTy
import Derived.Shelf.Spec.BitsCarry
import Derived.Shelf.Bits.Mul64
namespace Go.Proofs.Ytchojbhmfjibmaa
open Go Go.RowKit
set_option maxRecDepth 100000

theorem add64_n (x y c : Nat) (hc : c ≤ 1) (w : World) : (callFunc 35 #[.int .u64 (x : Int), .int .u64 (y : Int), .int .u64 (c : Int)]).run Try.prog w =
    .ok (.value (.tuple #[.int .u64 (((x + y + c) % 18446744073709551616 : Nat) : Int), .int .u64 (((x + y + c) / 18446744073709551616 : Nat) : Int)])) w := by
  rw [run_callFunc_extern Try.func35 (by kernel_rfl) (by kernel_rfl) (by kernel_rfl) (e := add64Entry) (by kernel_rfl), run_add64 _ _ _ (by omega) (by omega) (by omega) (by omega)]
  rfl

theorem sub64_n (x y b : Nat) (hb : b ≤ 1) (w : World) : (callFunc 49 #[.int .u64 (x : Int), .int .u64 (y : Int), .int .u64 (b : Int)]).run Try.prog w =
    .ok (.value (.tuple #[.int .u64 (((x + 18446744073709551616 - y - b) % 18446744073709551616 : Nat) : Int), .int .u64 ((if x < y + b then 1 else 0 : Nat) : Int)])) w := by
  rw [run_callFunc_extern Try.func49 (by kernel_rfl) (by kernel_rfl) (by kernel_rfl) (e := sub64Entry) (by kernel_rfl), run_sub64 x y b hb]
  rfl

/-- The words of a sum and of a difference, one by one, as the calls tell them. -/
theorem add64_w (a b m : Nat) (w : World) : (callFunc 35 #[.int .u64 (wd a m : Int), .int .u64 (wd b m : Int), .int .u64 (cry a b m : Int)]).run Try.prog w =
    .ok (.value (.tuple #[.int .u64 (wd (a + b) m : Int), .int .u64 (cry a b (m + 1) : Int)])) w := by
  rw [add64_n _ _ _ (cry_le a b m), sum_word, sum_carry]
theorem sub64_w (a b m : Nat) (hba : b ≤ a) (w : World) : (callFunc 49 #[.int .u64 (wd a m : Int), .int .u64 (wd b m : Int), .int .u64 (brw a b m : Int)]).run Try.prog w =
    .ok (.value (.tuple #[.int .u64 (wd (a - b) m : Int), .int .u64 (brw a b (m + 1) : Int)])) w := by
  rw [sub64_n _ _ _ (brw_le a b m), dif_word a b m hba, brw_next]

set_option maxHeartbeats 1000000 in
theorem mul64_c (x y : Nat) (hx : x < 18446744073709551616) (hy : y < 18446744073709551616) (w : World) :
    Calls Try.prog 39 #[.int .u64 x, .int .u64 y] w fun e w' => e = .returned (.tuple #[.int .u64 ((x * y / 18446744073709551616 : Nat) : Int), .int .u64 ((x * y % 18446744073709551616 : Nat) : Int)]) ∧ w' = w := by
  obtain ⟨p0, p1, p2, top⟩ := Lib.mul64_hi x y hx hy
  have le : ∀ a b : Nat, a < 4294967296 → b < 4294967296 → a * b < 18446744073709551616 := fun a b ha hb =>
    Nat.lt_of_le_of_lt (Lib.half_mul_le (by omega) (by omega)) (by decide)
  have q1 := le (x / 4294967296) (y % 4294967296) (by omega) (by omega)
  have q2 := le (x % 4294967296) (y / 4294967296) (by omega) (by omega)
  have q3 := le (x / 4294967296) (y / 4294967296) (by omega) (by omega)
  have whole : x * y / 18446744073709551616 < 18446744073709551616 := by
    have : x * y ≤ 18446744073709551615 * 18446744073709551615 := Nat.mul_le_mul (by omega) (by omega)
    omega
  have q4 := Nat.lt_of_le_of_lt (Nat.le_add_right _ _) (top ▸ whole)
  go_enter Try.func39, Try.ntmps39
  go_wp2
  simp only [Mul64.maskN x hx, Mul64.maskN y hy, Mul64.maskN _ p1, Mul64.divN, Mul64.mulN, Mul64.addN, Mul64.wrapN _ p0, Mul64.wrapN _ p1, Mul64.wrapN _ p2, Mul64.wrapN _ q1, Mul64.wrapN _ q2, Mul64.wrapN _ q3, Mul64.wrapN _ q4, Mul64.wrapN _ (top ▸ whole), Mul64.wrapM]
  rw [top]
  go_ret2
  exact ⟨rfl, rfl⟩
end Go.Proofs.Ytchojbhmfjibmaa
