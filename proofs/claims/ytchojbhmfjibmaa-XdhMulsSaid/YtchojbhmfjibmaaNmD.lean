/- A word by four words, and a number beside: as the program reckons it. Plain mathematics, no program. -/
import Derived.Test.YtchojbhmfjibmaaNmC
namespace Go.Proofs.Ytchojbhmfjibmaa
open Go Go.RowKit

/-- The lower words and the upper ones of the four products. -/
def lowP (x b : Nat) : Nat := wd (x * wd b 0) 0 + wd (x * wd b 1) 0 * 2 ^ 64 + wd (x * wd b 2) 0 * 2 ^ 128 + wd (x * wd b 3) 0 * 2 ^ 192
def highP (x b : Nat) : Nat := wd (x * wd b 0) 1 * 2 ^ 64 + wd (x * wd b 1) 1 * 2 ^ 128 + wd (x * wd b 2) 1 * 2 ^ 192 + wd (x * wd b 3) 1 * 2 ^ 256
theorem lowP_wd (x b : Nat) : wd (lowP x b) 0 = wd (x * wd b 0) 0 ∧ wd (lowP x b) 1 = wd (x * wd b 1) 0 ∧ wd (lowP x b) 2 = wd (x * wd b 2) 0 ∧ wd (lowP x b) 3 = wd (x * wd b 3) 0 ∧ lowP x b < 2 ^ 256 := by
  have h0 := wd_lt (x * wd b 0) 0
  have h1 := wd_lt (x * wd b 1) 0
  have h2 := wd_lt (x * wd b 2) 0
  have h3 := wd_lt (x * wd b 3) 0
  unfold lowP
  generalize wd (x * wd b 0) 0 = p0 at *
  generalize wd (x * wd b 1) 0 = p1 at *
  generalize wd (x * wd b 2) 0 = p2 at *
  generalize wd (x * wd b 3) 0 = p3 at *
  unfold wd
  refine ⟨by omega, by omega, by omega, by omega, by omega⟩
theorem highP_wd (x b : Nat) : wd (highP x b) 0 = 0 ∧ wd (highP x b) 1 = wd (x * wd b 0) 1 ∧ wd (highP x b) 2 = wd (x * wd b 1) 1 ∧ wd (highP x b) 3 = wd (x * wd b 2) 1 ∧ highP x b / 2 ^ 256 = wd (x * wd b 3) 1 := by
  have h0 := wd_lt (x * wd b 0) 1
  have h1 := wd_lt (x * wd b 1) 1
  have h2 := wd_lt (x * wd b 2) 1
  have h3 := wd_lt (x * wd b 3) 1
  unfold highP
  generalize wd (x * wd b 0) 1 = p0 at *
  generalize wd (x * wd b 1) 1 = p1 at *
  generalize wd (x * wd b 2) 1 = p2 at *
  generalize wd (x * wd b 3) 1 = p3 at *
  unfold wd
  refine ⟨by omega, by omega, by omega, by omega, by omega⟩
theorem two_words {P : Nat} (h : P ≤ 18446744073709551615 * 18446744073709551615) : P = wd P 0 + wd P 1 * 2 ^ 64 := by
  unfold wd; omega
theorem wd_all {v : Nat} (h : v < 2 ^ 256) : wd v 0 + wd v 1 * 2 ^ 64 + wd v 2 * 2 ^ 128 + wd v 3 * 2 ^ 192 = v := by
  unfold wd; omega
theorem lowhigh (x b : Nat) (hx : x < 18446744073709551616) (hb : b < 2 ^ 256) : lowP x b + highP x b = x * b := by
  have hs := wd_all hb
  have k : ∀ i, x * wd b i ≤ 18446744073709551615 * 18446744073709551615 := fun i => Nat.mul_le_mul (by omega) (by have := wd_lt b i; omega)
  have t0 := two_words (k 0)
  have t1 := two_words (k 1)
  have t2 := two_words (k 2)
  have t3 := two_words (k 3)
  have e : x * b = x * wd b 0 + x * wd b 1 * 2 ^ 64 + x * wd b 2 * 2 ^ 128 + x * wd b 3 * 2 ^ 192 := by
    conv => lhs; rw [← hs]
    rw [Nat.mul_add, Nat.mul_add, Nat.mul_add, ← Nat.mul_assoc, ← Nat.mul_assoc, ← Nat.mul_assoc]
  rw [e]
  unfold lowP highP
  generalize x * wd b 0 = q0 at *
  generalize x * wd b 1 = q1 at *
  generalize x * wd b 2 = q2 at *
  generalize x * wd b 3 = q3 at *
  generalize wd q0 0 = l0 at *
  generalize wd q1 0 = l1 at *
  generalize wd q2 0 = l2 at *
  generalize wd q3 0 = l3 at *
  generalize wd q0 1 = u0 at *
  generalize wd q1 1 = u1 at *
  generalize wd q2 1 = u2 at *
  generalize wd q3 1 = u3 at *
  omega

theorem row_lt (x b S : Nat) (hx : x < 18446744073709551616) (hb : b < 2 ^ 256) (hS : S < 2 ^ 256) : S + x * b < 2 ^ 320 := by
  have : x * b ≤ 18446744073709551615 * (2 ^ 256 - 1) := Nat.mul_le_mul (by omega) (by omega)
  omega
/-- The top word, behind the first sums and behind the second ones. -/
theorem row_top1 (x b : Nat) (hx : x < 18446744073709551616) (hb : b < 2 ^ 256) : cry (lowP x b) (highP x b) 1 = 0 ∧ wd (x * wd b 3) 1 + cry (lowP x b) (highP x b) 4 = wd (x * b) 4 ∧ wd (x * b) 0 = wd (lowP x b) 0 := by
  obtain ⟨a0, a1, a2, a3, a4⟩ := lowP_wd x b
  obtain ⟨b0, b1, b2, b3, b4⟩ := highP_wd x b
  have hm := lowhigh x b hx hb
  have hl := row_lt x b 0 hx hb (by decide)
  have hd := add_div (lowP x b) (highP x b) 4
  rw [show (2 : Nat) ^ (64 * 4) = 2 ^ 256 from rfl, hm, b4, Nat.div_eq_of_lt a4] at hd
  refine ⟨?_, ?_, ?_⟩
  · unfold cry
    have e : highP x b % 2 ^ (64 * 1) = 0 := by
      have := b0
      unfold wd at this
      rw [show (2 : Nat) ^ (64 * 0) = 1 from rfl, Nat.div_one] at this
      rw [show (2 : Nat) ^ (64 * 1) = 18446744073709551616 by decide]
      exact this
    rw [e, Nat.add_zero]
    exact Nat.div_eq_of_lt (low_lt (lowP x b) 1)
  · have : wd (x * b) 4 = x * b / 2 ^ 256 := by
      unfold wd
      rw [show (2 : Nat) ^ (64 * 4) = 2 ^ 256 from rfl]
      clear hd hm a0 a1 a2 a3 a4 b0 b1 b2 b3 b4
      generalize x * b = m at *
      omega
    rw [this, hd, Nat.zero_add]
  · have h1 := sum_word (lowP x b) (highP x b) 0
    rw [hm, b0, cry_zero] at h1
    have h2 := wd_lt (lowP x b) 0
    clear hd hm a0 a1 a2 a3 a4 b0 b1 b2 b3 b4 hl
    rw [← h1]
    clear h1
    generalize wd (lowP x b) 0 = v at *
    omega
theorem row_top2 (x b S : Nat) (hx : x < 18446744073709551616) (hb : b < 2 ^ 256) (hS : S < 2 ^ 256) : wd (x * b) 4 + cry (x * b) S 4 = wd (x * b + S) 4 := by
  have hl := row_lt x b S hx hb hS
  have hd := add_div (x * b) S 4
  rw [show (2 : Nat) ^ (64 * 4) = 2 ^ 256 from rfl, Nat.div_eq_of_lt hS] at hd
  unfold wd
  rw [show (2 : Nat) ^ (64 * 4) = 2 ^ 256 from rfl]
  generalize cry (x * b) S 4 = c at *
  generalize x * b = m at *
  omega
theorem wd_shift (V i : Nat) : wd (V / 18446744073709551616) i = wd V (i + 1) := by
  unfold wd
  rw [pow64_succ, Nat.div_div_eq_div_mul, Nat.mul_comm (2 ^ (64 * i))]

/-! ### The product by rows, each row's lowest word laid down -/
theorem row_next (a b i : Nat) : (a % 2 ^ (64 * i) * b / 2 ^ (64 * i) + wd a i * b) = a % 2 ^ (64 * (i + 1)) * b / 2 ^ (64 * i) := by
  rw [low_succ, Nat.add_mul, show wd a i * 2 ^ (64 * i) * b = 2 ^ (64 * i) * (wd a i * b) by ac_rfl, Nat.add_mul_div_left _ _ (pow64_pos i)]
theorem row_low (a b i : Nat) : wd (a % 2 ^ (64 * (i + 1)) * b / 2 ^ (64 * i)) 0 = wd (a * b) i := by
  have h : a * b = a % 2 ^ (64 * (i + 1)) * b + a / 2 ^ (64 * (i + 1)) * b * 2 ^ (64 * (i + 1)) := by
    have hd := Nat.div_add_mod a (2 ^ (64 * (i + 1)))
    generalize 2 ^ (64 * (i + 1)) = K at *
    generalize a / K = q at *
    generalize a % K = r at *
    rw [← hd, Nat.add_mul, Nat.add_comm, show K * q * b = q * b * K by ac_rfl]
  rw [h, wd_add_far (a % 2 ^ (64 * (i + 1)) * b) (a / 2 ^ (64 * (i + 1)) * b) (i + 1) i (by omega)]
  unfold wd
  rw [show (2 : Nat) ^ (64 * 0) = 1 from rfl, Nat.div_one]
theorem row_high (a b i : Nat) : a % 2 ^ (64 * (i + 1)) * b / 2 ^ (64 * i) / 18446744073709551616 = a % 2 ^ (64 * (i + 1)) * b / 2 ^ (64 * (i + 1)) := by
  rw [Nat.div_div_eq_div_mul, ← pow64_succ]
theorem row_high_lt (a b i : Nat) (hb : b < 2 ^ 256) : a % 2 ^ (64 * i) * b / 2 ^ (64 * i) < 2 ^ 256 := by
  have h := low_lt a i
  apply (Nat.div_lt_iff_lt_mul (pow64_pos i)).mpr
  rcases Nat.eq_zero_or_pos b with h0 | h0
  · subst h0; rw [Nat.mul_zero]; exact Nat.mul_pos (by decide) (pow64_pos i)
  · rw [Nat.mul_comm (2 ^ 256)]
    exact Nat.lt_of_lt_of_le (Nat.mul_lt_mul_of_pos_right h h0) (Nat.mul_le_mul_left _ (Nat.le_of_lt hb))
end Go.Proofs.Ytchojbhmfjibmaa
