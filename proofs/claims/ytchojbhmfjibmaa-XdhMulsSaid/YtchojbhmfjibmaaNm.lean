/- Numbers below 2^256 as four words: what additions with carries, rows of products, foldings make of them. Plain mathematics, no program. -/
import Derived.Test.YtchojbhmfjibmaaKit64
namespace Go.Proofs.Ytchojbhmfjibmaa
open Go Go.RowKit

/-- Word i of a number. -/
def wd (v i : Nat) : Nat := v / 2 ^ (64 * i) % 18446744073709551616
theorem wd_lt (v i : Nat) : wd v i < 18446744073709551616 := Nat.mod_lt _ (by decide)
def words (v : Nat) : Nat → UInt64 := fun i => UInt64.ofNat (wd v i)
theorem words_nat (v i : Nat) : (words v i).toNat = wd v i := by
  unfold words
  rw [UInt64.toNat_ofNat']
  exact Nat.mod_eq_of_lt (wd_lt v i)
theorem words_int (v i : Nat) : ((words v i).toNat : Int) = (wd v i : Int) := by rw [words_nat]
/-- A number of four words as a value; of eight. -/
def num (v : Nat) : Value := .agg (row64 4 (words v))

theorem pow64_succ (i : Nat) : 2 ^ (64 * (i + 1)) = 2 ^ (64 * i) * 18446744073709551616 := by
  rw [show 64 * (i + 1) = 64 * i + 64 by omega, Nat.pow_add]
theorem pow64_pos (i : Nat) : 0 < 2 ^ (64 * i) := Nat.two_pow_pos _
/-- The lower i + 1 words are the lower i, and one. -/
theorem low_succ (v i : Nat) : v % 2 ^ (64 * (i + 1)) = v % 2 ^ (64 * i) + wd v i * 2 ^ (64 * i) := by
  rw [pow64_succ, Nat.mod_mul, Nat.mul_comm (2 ^ (64 * i))]; rfl
theorem low_lt (v i : Nat) : v % 2 ^ (64 * i) < 2 ^ (64 * i) := Nat.mod_lt _ (pow64_pos i)
theorem wd_small {v i : Nat} (h : v < 2 ^ (64 * i)) : wd v i = 0 := by
  unfold wd
  rw [Nat.div_eq_of_lt h]
theorem wd_low (v i n : Nat) (h : i < n) : wd (v % 2 ^ (64 * n)) i = wd v i := by
  unfold wd
  have e : 2 ^ (64 * n) = 2 ^ (64 * i) * (18446744073709551616 * 2 ^ (64 * (n - i - 1))) := by
    rw [show (18446744073709551616 : Nat) = 2 ^ 64 from rfl, ← Nat.pow_add, ← Nat.pow_add]
    congr 1; omega
  rw [e, Nat.mod_mul_right_div_self, Nat.mod_mul_right_mod]
theorem words_mod (v n : Nat) (i : Nat) (h : i < n) : words (v % 2 ^ (64 * n)) i = words v i := by
  unfold words; rw [wd_low v i n h]
theorem num_mod (v : Nat) : num (v % 2 ^ 256) = num v := by
  unfold num
  congr 1
  exact row64_congr fun i hi => words_mod v 4 i hi

/-! ### Sums -/
/-- What is carried into word m. -/
def cry (a b m : Nat) : Nat := (a % 2 ^ (64 * m) + b % 2 ^ (64 * m)) / 2 ^ (64 * m)
theorem cry_zero (a b : Nat) : cry a b 0 = 0 := by unfold cry; simp [Nat.mod_one]
theorem cry_le (a b m : Nat) : cry a b m ≤ 1 := by
  unfold cry
  have h1 := low_lt a m
  have h2 := low_lt b m
  have : a % 2 ^ (64 * m) + b % 2 ^ (64 * m) < 2 ^ (64 * m) * 2 := by omega
  have := (Nat.div_lt_iff_lt_mul (pow64_pos m)).mpr (show a % 2 ^ (64 * m) + b % 2 ^ (64 * m) < 2 * 2 ^ (64 * m) by omega)
  omega
theorem add_split (a b m : Nat) : a + b = (a / 2 ^ (64 * m) + b / 2 ^ (64 * m) + cry a b m) * 2 ^ (64 * m) + (a % 2 ^ (64 * m) + b % 2 ^ (64 * m)) % 2 ^ (64 * m) := by
  unfold cry
  have h1 := Nat.div_add_mod a (2 ^ (64 * m))
  have h2 := Nat.div_add_mod b (2 ^ (64 * m))
  have h3 := Nat.div_add_mod (a % 2 ^ (64 * m) + b % 2 ^ (64 * m)) (2 ^ (64 * m))
  generalize (a % 2 ^ (64 * m) + b % 2 ^ (64 * m)) / 2 ^ (64 * m) = c at *
  generalize a % 2 ^ (64 * m) = p at *
  generalize b % 2 ^ (64 * m) = q at *
  generalize (p + q) % 2 ^ (64 * m) = r at *
  generalize 2 ^ (64 * m) = K at *
  generalize a / K = x at *
  generalize b / K = y at *
  rw [← h1, ← h2, Nat.add_mul, Nat.add_mul, Nat.mul_comm x, Nat.mul_comm y, Nat.mul_comm c]
  omega
theorem add_div (a b m : Nat) : (a + b) / 2 ^ (64 * m) = a / 2 ^ (64 * m) + b / 2 ^ (64 * m) + cry a b m := by
  have h := add_split a b m
  have hr : (a % 2 ^ (64 * m) + b % 2 ^ (64 * m)) % 2 ^ (64 * m) < 2 ^ (64 * m) := Nat.mod_lt _ (pow64_pos m)
  rw [h, Nat.mul_comm, Nat.mul_add_div (pow64_pos m), Nat.div_eq_of_lt hr, Nat.add_zero]
theorem sum_word (a b m : Nat) : (wd a m + wd b m + cry a b m) % 18446744073709551616 = wd (a + b) m := by
  unfold wd
  rw [add_div]
  omega
theorem sum_carry (a b m : Nat) : (wd a m + wd b m + cry a b m) / 18446744073709551616 = cry a b (m + 1) := by
  have h1 := add_div a b m
  have h2 := add_div a b (m + 1)
  rw [pow64_succ, ← Nat.div_div_eq_div_mul, ← Nat.div_div_eq_div_mul, ← Nat.div_div_eq_div_mul, h1] at h2
  unfold wd
  omega
theorem cry_top (a b n : Nat) (ha : a < 2 ^ (64 * n)) (hb : b < 2 ^ (64 * n)) : cry a b n = (a + b) / 2 ^ (64 * n) := by
  unfold cry
  rw [Nat.mod_eq_of_lt ha, Nat.mod_eq_of_lt hb]

/-! ### Differences -/
def brw (a b m : Nat) : Nat := if a % 2 ^ (64 * m) < b % 2 ^ (64 * m) then 1 else 0
theorem brw_zero (a b : Nat) : brw a b 0 = 0 := by unfold brw; simp [Nat.mod_one]
theorem brw_le (a b m : Nat) : brw a b m ≤ 1 := by unfold brw; split <;> omega
/-- The difference of the lower words, with what is borrowed. -/
theorem dif_split (a b m : Nat) : ∃ r, r < 2 ^ (64 * m) ∧ a % 2 ^ (64 * m) + brw a b m * 2 ^ (64 * m) = b % 2 ^ (64 * m) + r := by
  have h1 := low_lt a m
  have h2 := low_lt b m
  unfold brw
  split
  · exact ⟨a % 2 ^ (64 * m) + 2 ^ (64 * m) - b % 2 ^ (64 * m), by omega, by omega⟩
  · exact ⟨a % 2 ^ (64 * m) - b % 2 ^ (64 * m), by omega, by omega⟩
theorem brw_next (a b m : Nat) : (if wd a m < wd b m + brw a b m then 1 else 0) = brw a b (m + 1) := by
  unfold brw
  rw [low_succ a m, low_succ b m]
  have h1 := low_lt a m
  have h2 := low_lt b m
  generalize wd a m = x
  generalize wd b m = y
  generalize a % 2 ^ (64 * m) = p at *
  generalize b % 2 ^ (64 * m) = q at *
  generalize 2 ^ (64 * m) = K at *
  rcases Nat.lt_trichotomy x y with h | h | h
  · have : x * K + K ≤ y * K := by rw [← Nat.succ_mul]; exact Nat.mul_le_mul_right K h
    rw [if_pos (by split <;> omega), if_pos (by omega)]
  · subst h
    by_cases hpq : p < q
    · simp [hpq]
    · simp [hpq]
  · have : y * K + K ≤ x * K := by rw [← Nat.succ_mul]; exact Nat.mul_le_mul_right K h
    rw [if_neg (by split <;> omega), if_neg (by omega)]
/-- A word of the difference a - b, b being at most a. -/
theorem dif_word (a b m : Nat) (hba : b ≤ a) : (wd a m + 18446744073709551616 - wd b m - brw a b m) % 18446744073709551616 = wd (a - b) m := by
  have hw := sum_word (a - b) b m
  have hc : cry (a - b) b m = brw a b m := by
    obtain ⟨r, hr, he⟩ := dif_split a b m
    have h1 := low_lt a m
    have h2 := low_lt b m
    have h3 : (a - b) % 2 ^ (64 * m) = r := by
      have h4 : (a - b + b) % 2 ^ (64 * m) = a % 2 ^ (64 * m) := by rw [Nat.sub_add_cancel hba]
      rw [Nat.add_mod] at h4
      have h5 := low_lt (a - b) m
      generalize (a - b) % 2 ^ (64 * m) = x at *
      generalize b % 2 ^ (64 * m) = q at *
      generalize a % 2 ^ (64 * m) = p at *
      generalize 2 ^ (64 * m) = K at *
      have h6 := brw_le a b m
      generalize brw a b m = t at *
      rcases Nat.lt_or_ge (x + q) K with h | h
      · rw [Nat.mod_eq_of_lt h] at h4
        have : t = 0 ∨ t = 1 := by omega
        rcases this with rfl | rfl <;> omega
      · rw [Nat.mod_eq_sub_mod h, Nat.mod_eq_of_lt (by omega)] at h4
        have : t = 0 ∨ t = 1 := by omega
        rcases this with rfl | rfl <;> omega
    unfold cry
    rw [h3]
    rw [show r + b % 2 ^ (64 * m) = a % 2 ^ (64 * m) + brw a b m * 2 ^ (64 * m) by omega, Nat.add_mul_div_right _ _ (pow64_pos m), Nat.div_eq_of_lt h1, Nat.zero_add]
  rw [hc, Nat.sub_add_cancel hba] at hw
  have h1 := wd_lt a m
  have h2 := wd_lt b m
  have h3 := wd_lt (a - b) m
  have h4 := brw_le a b m
  omega

/-! ### Folding: 2^256 is 38 -/
def f1 (v : Nat) : Nat := v % 2 ^ 256 + 38 * (v / 2 ^ 256)
def fv (v : Nat) : Nat := f1 (f1 v)
theorem f1_small {v : Nat} (h : v < 2 ^ 256) : f1 v = v := by
  unfold f1
  rw [Nat.mod_eq_of_lt h, Nat.div_eq_of_lt h, Nat.mul_zero, Nat.add_zero]
theorem f1_lt {v : Nat} (h : v < 2 ^ 320) : f1 v < 2 ^ 256 + 38 * 2 ^ 64 := by
  unfold f1
  have h1 : v / 2 ^ 256 < 2 ^ 64 := by omega
  have h2 : v % 2 ^ 256 < 2 ^ 256 := Nat.mod_lt _ (by decide)
  omega
theorem fv_lt {v : Nat} (h : v < 2 ^ 320) : fv v < 2 ^ 256 := by
  have h1 := f1_lt h
  unfold fv
  generalize f1 v = u at *
  unfold f1
  omega
theorem fv_small {v : Nat} (h : v < 2 ^ 256) : fv v = v := by unfold fv; rw [f1_small h, f1_small h]
/-- Modulo p nothing changes. -/
def pN : Nat := 57896044618658097711785492504343953926634992332820282019728792003956564819949
theorem pN_is : pN = 2 ^ 255 - 19 := by decide
theorem f1_mod (v : Nat) : f1 v % pN = v % pN := by
  unfold f1
  have h : v = v % 2 ^ 256 + (38 + 2 * pN) * (v / 2 ^ 256) := by
    have := Nat.div_add_mod v (2 ^ 256)
    have e : 38 + 2 * pN = 2 ^ 256 := by decide
    rw [e]; omega
  conv => rhs; rw [h]
  rw [Nat.add_mul, ← Nat.add_assoc, Nat.mul_comm 2 pN, Nat.mul_assoc, Nat.add_mul_mod_self_left]
theorem fv_mod (v : Nat) : fv v % pN = v % pN := by unfold fv; rw [f1_mod, f1_mod]
end Go.Proofs.Ytchojbhmfjibmaa
