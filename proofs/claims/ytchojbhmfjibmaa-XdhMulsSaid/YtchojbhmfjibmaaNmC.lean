/- Products by rows of words, and their folding. Plain mathematics, no program. -/
import Derived.Test.YtchojbhmfjibmaaNm
namespace Go.Proofs.Ytchojbhmfjibmaa
open Go Go.RowKit

/-- What adding a multiple of word m's weight leaves of the lower words. -/
theorem wd_add_far (v x m k : Nat) (h : k < m) : wd (v + x * 2 ^ (64 * m)) k = wd v k := by
  unfold wd
  have e : 2 ^ (64 * m) = 2 ^ (64 * k) * (18446744073709551616 * 2 ^ (64 * (m - k - 1))) := by
    rw [show (18446744073709551616 : Nat) = 2 ^ 64 from rfl, ← Nat.pow_add, ← Nat.pow_add]
    congr 1; omega
  rw [e, show x * (2 ^ (64 * k) * (18446744073709551616 * 2 ^ (64 * (m - k - 1)))) = 2 ^ (64 * k) * (18446744073709551616 * (x * 2 ^ (64 * (m - k - 1)))) by ac_rfl,
    Nat.add_mul_div_left _ _ (pow64_pos k), Nat.add_mul_mod_self_left]
/-- The product as far as it is reckoned: the lower i words of a by b, and word i of a by the lower j words of b. -/
def pX (a b i j : Nat) : Nat := a % 2 ^ (64 * i) * b + wd a i * (b % 2 ^ (64 * j)) * 2 ^ (64 * i)
theorem pX_zero (a b i : Nat) : pX a b i 0 = a % 2 ^ (64 * i) * b := by unfold pX; simp [Nat.mod_one]
theorem pX_succ (a b i j : Nat) : pX a b i (j + 1) = pX a b i j + wd a i * wd b j * 2 ^ (64 * (i + j)) := by
  unfold pX
  rw [low_succ b j, Nat.mul_add, Nat.add_mul, show 64 * (i + j) = 64 * j + 64 * i by omega, Nat.pow_add]
  rw [show wd a i * (wd b j * 2 ^ (64 * j)) * 2 ^ (64 * i) = wd a i * wd b j * (2 ^ (64 * j) * 2 ^ (64 * i)) by ac_rfl]
  omega
theorem pX_four (a b i : Nat) (hb : b < 2 ^ 256) : pX a b i 4 = pX a b (i + 1) 0 := by
  rw [pX_zero]
  unfold pX
  rw [low_succ a i, Nat.mod_eq_of_lt (show b < 2 ^ (64 * 4) from hb), Nat.add_mul]
  rw [show wd a i * b * 2 ^ (64 * i) = wd a i * 2 ^ (64 * i) * b by ac_rfl]
theorem pX_mono (a b i j : Nat) : pX a b i 0 ≤ pX a b i j := by
  rw [pX_zero]; unfold pX; omega
/-- What is carried to word i + j. -/
def pC (a b i j : Nat) : Nat := pX a b i j / 2 ^ (64 * (i + j)) - pX a b i 0 / 2 ^ (64 * (i + j))
theorem pC_zero (a b i : Nat) : pC a b i 0 = 0 := by unfold pC; omega
/-- One word's product, with what stands there and what is carried: the word, and the next carry. -/
theorem pX_step (a b i j : Nat) : (wd a i * wd b j + wd (pX a b i 0) (i + j) + pC a b i j) % 18446744073709551616 = wd (pX a b i (j + 1)) (i + j) ∧
    (wd a i * wd b j + wd (pX a b i 0) (i + j) + pC a b i j) / 18446744073709551616 = pC a b i (j + 1) := by
  have hm : pX a b i 0 / 2 ^ (64 * (i + j)) ≤ pX a b i j / 2 ^ (64 * (i + j)) := Nat.div_le_div_right (pX_mono a b i j)
  have h1 : pX a b i (j + 1) / 2 ^ (64 * (i + j)) = pX a b i j / 2 ^ (64 * (i + j)) + wd a i * wd b j := by
    rw [pX_succ, Nat.mul_comm (wd a i * wd b j), Nat.add_mul_div_left _ _ (pow64_pos _)]
  unfold pC
  rw [show i + (j + 1) = (i + j) + 1 by omega, pow64_succ, ← Nat.div_div_eq_div_mul, ← Nat.div_div_eq_div_mul, h1]
  unfold wd at *
  rw [h1]
  generalize pX a b i j / 2 ^ (64 * (i + j)) = x at *
  generalize pX a b i 0 / 2 ^ (64 * (i + j)) = y at *
  generalize (a / 2 ^ (64 * i) % 18446744073709551616) * (b / 2 ^ (64 * j) % 18446744073709551616) = p at *
  constructor <;> omega
theorem wd_mul_le (a b i j : Nat) : wd a i * wd b j ≤ 18446744073709551615 * 18446744073709551615 := Nat.mul_le_mul (by have := wd_lt a i; omega) (by have := wd_lt b j; omega)
theorem pC_lt (a b i : Nat) : ∀ j, pC a b i j < 18446744073709551616
  | 0 => by rw [pC_zero]; decide
  | j + 1 => by
    have h := pC_lt a b i j
    rw [← (pX_step a b i j).2]
    have h1 := wd_mul_le a b i j
    have h2 := wd_lt (pX a b i 0) (i + j)
    omega
/-- The eight words, on the way. -/
def pW (a b i j : Nat) : Nat → UInt64 := fun k => if k < i + j then words (pX a b i j) k else words (pX a b i 0) k
theorem pW_zero (a b i : Nat) : pW a b i 0 = words (pX a b i 0) := by funext k; unfold pW; split <;> rfl
theorem pW_set (a b i j : Nat) : (fun k => if k = i + j then words (pX a b i (j + 1)) (i + j) else pW a b i j k) = pW a b i (j + 1) := by
  funext k
  unfold pW
  by_cases h : k = i + j
  · subst h
    rw [if_pos rfl, if_pos (by omega)]
  · rw [if_neg h]
    by_cases h2 : k < i + j
    · rw [if_pos h2, if_pos (by omega)]
      unfold words
      rw [pX_succ, wd_add_far _ _ _ _ h2]
    · rw [if_neg h2, if_neg (by omega)]
theorem pX0_lt (a b i : Nat) (hb : b < 2 ^ 256) : pX a b i 0 < 2 ^ (64 * (i + 4)) := by
  rw [pX_zero, show 64 * (i + 4) = 64 * i + 256 by omega, Nat.pow_add]
  have h := low_lt a i
  rcases Nat.eq_zero_or_pos b with h0 | h0
  · subst h0; rw [Nat.mul_zero]; exact Nat.mul_pos (pow64_pos _) (by decide)
  · exact Nat.lt_of_lt_of_le (Nat.mul_lt_mul_of_pos_right h h0) (Nat.mul_le_mul_left _ (Nat.le_of_lt hb))
theorem pW_top (a b i k : Nat) (hb : b < 2 ^ 256) : (if k = i + 4 then UInt64.ofNat (pC a b i 4) else pW a b i 4 k) = words (pX a b (i + 1) 0) k := by
  have h0 := pX0_lt a b i hb
  have h1 := pX0_lt a b (i + 1) hb
  have hc := pC_lt a b i 4
  unfold pW
  by_cases h : k = i + 4
  · subst h
    rw [if_pos rfl]
    unfold words
    congr 1
    unfold pC at *
    rw [Nat.div_eq_of_lt h0, pX_four a b i hb, Nat.sub_zero] at *
    unfold wd
    rw [Nat.mod_eq_of_lt hc]
  · rw [if_neg h, pX_four a b i hb]
    by_cases h2 : k < i + 4
    · rw [if_pos h2]
    · rw [if_neg h2]
      unfold words
      have e : 2 ^ (64 * (i + 4)) ≤ 2 ^ (64 * k) := Nat.pow_le_pow_right (by omega) (by omega)
      have e1 : 2 ^ (64 * (i + 1 + 4)) ≤ 2 ^ (64 * k) := Nat.pow_le_pow_right (by omega) (by omega)
      rw [wd_small (Nat.lt_of_lt_of_le h0 e), wd_small (Nat.lt_of_lt_of_le h1 e1)]
theorem pX_all (a b : Nat) (ha : a < 2 ^ 256) : pX a b 4 0 = a * b := by rw [pX_zero, Nat.mod_eq_of_lt (show a < 2 ^ (64 * 4) from ha)]
theorem pX_none (a b : Nat) : pX a b 0 0 = 0 := by rw [pX_zero]; simp [Nat.mod_one]

/-! ### The upper half by 38 -/
def hC (H i : Nat) : Nat := 38 * (H % 2 ^ (64 * i)) / 2 ^ (64 * i)
theorem hC_zero (H : Nat) : hC H 0 = 0 := by unfold hC; simp [Nat.mod_one]
theorem hC_le (H i : Nat) : hC H i < 38 := by
  unfold hC
  have h := low_lt H i
  exact (Nat.div_lt_iff_lt_mul (pow64_pos i)).mpr (by omega)
theorem hC_step (H i : Nat) : (wd H i * 38 + hC H i) % 18446744073709551616 = wd (38 * H) i ∧ (wd H i * 38 + hC H i) / 18446744073709551616 = hC H (i + 1) := by
  have h1 : 38 * (H % 2 ^ (64 * (i + 1))) / 2 ^ (64 * i) = wd H i * 38 + hC H i := by
    unfold hC
    rw [low_succ, Nat.mul_add, show 38 * (wd H i * 2 ^ (64 * i)) = 2 ^ (64 * i) * (wd H i * 38) by ac_rfl, Nat.add_mul_div_left _ _ (pow64_pos i)]
    omega
  constructor
  · rw [← h1]
    have h2 : wd (38 * (H % 2 ^ (64 * (i + 1)))) i = wd (38 * H) i := by
      rw [← wd_low (38 * H) i (i + 1) (by omega), ← wd_low (38 * (H % 2 ^ (64 * (i + 1)))) i (i + 1) (by omega), Nat.mul_mod_mod]
    exact h2
  · rw [← h1, Nat.div_div_eq_div_mul, ← pow64_succ]
    rfl
theorem wd_up (L i : Nat) : wd L (i + 4) = wd (L / 2 ^ 256) i := by
  unfold wd
  rw [Nat.div_div_eq_div_mul, ← Nat.pow_add, show 256 + 64 * i = 64 * (i + 4) by omega]
/-- The product modulo 2^256, folded. -/
def tm (a b : Nat) : Nat := fv (f1 (a * b))
theorem prod_lt {a b : Nat} (ha : a < 2 ^ 256) (hb : b < 2 ^ 256) : a * b < 2 ^ 256 * 2 ^ 256 := by
  rcases Nat.eq_zero_or_pos b with h0 | h0
  · subst h0; rw [Nat.mul_zero]; decide
  · have h1 : a * b < 2 ^ 256 * b := Nat.mul_lt_mul_of_pos_right ha h0
    have h2 : 2 ^ 256 * b ≤ 2 ^ 256 * 2 ^ 256 := Nat.mul_le_mul_left _ (Nat.le_of_lt hb)
    exact Nat.lt_of_lt_of_le h1 h2
theorem f1_prod {L : Nat} (h : L < 2 ^ 256 * 2 ^ 256) : f1 L < 2 ^ 320 := by
  unfold f1
  have h2 : L / 2 ^ 256 < 2 ^ 256 := by omega
  have h3 : L % 2 ^ 256 < 2 ^ 256 := Nat.mod_lt _ (by decide)
  omega
theorem tm_lt {a b : Nat} (ha : a < 2 ^ 256) (hb : b < 2 ^ 256) : tm a b < 2 ^ 256 := fv_lt (f1_prod (prod_lt ha hb))
theorem tm_mod (a b : Nat) : tm a b % pN = a * b % pN := by unfold tm; rw [fv_mod, f1_mod]
theorem tm_end (L : Nat) (hL : L < 2 ^ 256 * 2 ^ 256) : (L + 38 * (L / 2 ^ 256)) % 2 ^ 256 + 2 ^ 256 * (hC (L / 2 ^ 256) 4 + cry L (38 * (L / 2 ^ 256)) 4) = f1 L := by
  have hH : L / 2 ^ 256 < 2 ^ 256 := by omega
  unfold hC cry f1
  rw [show 64 * 4 = 256 from rfl, Nat.mod_eq_of_lt hH]
  generalize hHd : L / 2 ^ 256 = H at *
  generalize hl : L % 2 ^ 256 = l at *
  have e : L = 2 ^ 256 * H + l := by rw [← hHd, ← hl]; omega
  have hll : l < 2 ^ 256 := by rw [← hl]; exact Nat.mod_lt _ (by decide)
  rw [e]
  omega
end Go.Proofs.Ytchojbhmfjibmaa
