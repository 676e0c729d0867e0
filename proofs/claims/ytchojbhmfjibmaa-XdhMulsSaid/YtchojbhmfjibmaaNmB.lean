/- Bytes and words of a number. Plain mathematics, no program. -/
import Derived.Test.YtchojbhmfjibmaaNm
namespace Go.Proofs.Ytchojbhmfjibmaa
open Go Go.RowKit

/-- The number that the first m bytes are, the lowest first. -/
def lv (b : Nat → UInt8) : Nat → Nat
  | 0 => 0
  | m + 1 => lv b m + (b m).toNat * 256 ^ m
theorem lv_lt (b : Nat → UInt8) : ∀ m, lv b m < 256 ^ m
  | 0 => by simp [lv]
  | m + 1 => by
    have h := lv_lt b m
    have h2 := (b m).toNat_lt
    have h3 : (b m).toNat * 256 ^ m ≤ 255 * 256 ^ m := Nat.mul_le_mul_right _ (by omega)
    show lv b m + (b m).toNat * 256 ^ m < 256 ^ (m + 1)
    rw [Nat.pow_succ]
    omega
theorem lv_lt32 (b : Nat → UInt8) : lv b 32 < 2 ^ 256 := lv_lt b 32
theorem pow256 (m : Nat) : 256 ^ m = 2 ^ (64 * (m / 8)) * 2 ^ (8 * (m % 8)) := by
  rw [show (256 : Nat) = 2 ^ 8 from rfl, ← Nat.pow_mul, ← Nat.pow_add]
  congr 1; omega
/-- One byte more changes its word alone. -/
theorem lv_word_far (b : Nat → UInt8) (m i : Nat) (h : i ≠ m / 8) : wd (lv b (m + 1)) i = wd (lv b m) i := by
  have hl := lv_lt b m
  show wd (lv b m + (b m).toNat * 256 ^ m) i = _
  rcases Nat.lt_or_ge i (m / 8) with hi | hi
  · unfold wd
    have e : 256 ^ m = 2 ^ (64 * i) * (18446744073709551616 * 2 ^ (8 * m - 64 * i - 64)) := by
      rw [show (256 : Nat) = 2 ^ 8 from rfl, show (18446744073709551616 : Nat) = 2 ^ 64 from rfl, ← Nat.pow_mul, ← Nat.pow_add, ← Nat.pow_add]
      congr 1; omega
    rw [e, show (b m).toNat * (2 ^ (64 * i) * (18446744073709551616 * 2 ^ (8 * m - 64 * i - 64))) = 2 ^ (64 * i) * (18446744073709551616 * ((b m).toNat * 2 ^ (8 * m - 64 * i - 64))) by ac_rfl,
      Nat.add_mul_div_left _ _ (pow64_pos i), Nat.add_mul_mod_self_left]
  · have hi : m / 8 < i := by omega
    have h1 := lv_lt b (m + 1)
    have h2 : 256 ^ (m + 1) ≤ 2 ^ (64 * i) := by
      rw [show (256 : Nat) = 2 ^ 8 from rfl, ← Nat.pow_mul]
      exact Nat.pow_le_pow_right (by omega) (by omega)
    have h3 : lv b m + (b m).toNat * 256 ^ m < 2 ^ (64 * i) := Nat.lt_of_lt_of_le h1 h2
    rw [wd_small h3, wd_small (by omega)]
theorem lv_word_at (b : Nat → UInt8) (m : Nat) : wd (lv b (m + 1)) (m / 8) = wd (lv b m) (m / 8) + (b m).toNat * 2 ^ (8 * (m % 8)) ∧ wd (lv b m) (m / 8) < 2 ^ (8 * (m % 8)) := by
  have hl := lv_lt b m
  have hb := (b m).toNat_lt
  have hr : m % 8 < 8 := Nat.mod_lt _ (by decide)
  rw [pow256] at hl
  have h0 : lv b m / 2 ^ (64 * (m / 8)) < 2 ^ (8 * (m % 8)) := (Nat.div_lt_iff_lt_mul (pow64_pos _)).mpr (by rw [Nat.mul_comm]; exact hl)
  have h1 : (2 : Nat) ^ (8 * (m % 8)) ≤ 2 ^ 56 := Nat.pow_le_pow_right (by omega) (by omega)
  have h2 : (lv b m + (b m).toNat * 256 ^ m) / 2 ^ (64 * (m / 8)) = lv b m / 2 ^ (64 * (m / 8)) + (b m).toNat * 2 ^ (8 * (m % 8)) := by
    rw [pow256, show (b m).toNat * (2 ^ (64 * (m / 8)) * 2 ^ (8 * (m % 8))) = 2 ^ (64 * (m / 8)) * ((b m).toNat * 2 ^ (8 * (m % 8))) by ac_rfl, Nat.add_mul_div_left _ _ (pow64_pos _)]
  have h3 : (b m).toNat * 2 ^ (8 * (m % 8)) ≤ 255 * 2 ^ 56 := Nat.mul_le_mul (by omega) h1
  unfold wd
  show (lv b m + (b m).toNat * 256 ^ m) / 2 ^ (64 * (m / 8)) % 18446744073709551616 = _ ∧ _
  rw [h2]
  generalize lv b m / 2 ^ (64 * (m / 8)) = x at *
  generalize (b m).toNat * 2 ^ (8 * (m % 8)) = y at *
  generalize (2 : Nat) ^ (8 * (m % 8)) = K at *
  exact ⟨by rw [Nat.mod_eq_of_lt (a := x) (by omega), Nat.mod_eq_of_lt (by omega)], by rw [Nat.mod_eq_of_lt (by omega)]; exact h0⟩
/-- The byte put beside what its word has. -/
theorem lv_or (b : Nat → UInt8) (m : Nat) : wd (lv b m) (m / 8) ||| (b m).toNat * 2 ^ (8 * (m % 8)) = wd (lv b (m + 1)) (m / 8) := by
  obtain ⟨h1, h2⟩ := lv_word_at b m
  rw [h1]
  have h := Nat.shiftLeft_add_eq_or_of_lt h2 (b m).toNat
  rw [Nat.shiftLeft_eq] at h
  rw [Nat.or_comm, ← h, Nat.add_comm]
/-- Byte i of a number. -/
def byteN (v : Nat) : Nat → UInt8 := fun i => UInt8.ofNat (v / 256 ^ i % 256)
theorem byteN_nat (v i : Nat) : (byteN v i).toNat = v / 256 ^ i % 256 := by
  unfold byteN
  rw [UInt8.toNat_ofNat']
  omega
theorem byte_of_word (v i : Nat) : wd v (i / 8) / 2 ^ (8 * (i % 8)) % 256 = v / 256 ^ i % 256 := by
  unfold wd
  have hr : i % 8 < 8 := Nat.mod_lt _ (by decide)
  have e : (18446744073709551616 : Nat) = 2 ^ (8 * (i % 8)) * (256 * 2 ^ (56 - 8 * (i % 8))) := by
    rw [show (256 : Nat) = 2 ^ 8 from rfl, ← Nat.pow_add, ← Nat.pow_add, show 8 * (i % 8) + (8 + (56 - 8 * (i % 8))) = 64 by omega]
  rw [e, Nat.mod_mul_right_div_self, Nat.mod_mul_right_mod, Nat.div_div_eq_div_mul, pow256]
theorem lv_byteN (v m : Nat) : lv (byteN v) m = v % 256 ^ m := by
  induction m with
  | zero => simp [lv, Nat.mod_one]
  | succ m ih =>
    show lv (byteN v) m + (byteN v m).toNat * 256 ^ m = _
    rw [ih, byteN_nat, Nat.pow_succ, Nat.mod_mul, Nat.mul_comm (256 ^ m)]
theorem lv_congr {b c : Nat → UInt8} {m : Nat} (h : ∀ i, i < m → b i = c i) : lv b m = lv c m := by
  induction m with
  | zero => rfl
  | succ m ih =>
    show lv b m + (b m).toNat * 256 ^ m = lv c m + (c m).toNat * 256 ^ m
    rw [ih fun i hi => h i (by omega), h m (by omega)]
/-- Bytes are what their number's bytes are. -/
theorem byteN_lv (b : Nat → UInt8) : ∀ (m i : Nat), i < m → byteN (lv b m) i = b i := by
  intro m
  induction m with
  | zero => intro i h; omega
  | succ m ih =>
    intro i hi
    have hb := (b m).toNat_lt
    apply UInt8.toNat_inj.1
    rw [byteN_nat]
    show (lv b m + (b m).toNat * 256 ^ m) / 256 ^ i % 256 = _
    rcases Nat.lt_or_ge i m with h | h
    · have e : 256 ^ m = 256 ^ i * (256 * 256 ^ (m - i - 1)) := by
        rw [← Nat.pow_succ', ← Nat.pow_add]; congr 1; omega
      rw [e, show (b m).toNat * (256 ^ i * (256 * 256 ^ (m - i - 1))) = 256 ^ i * (256 * ((b m).toNat * 256 ^ (m - i - 1))) by ac_rfl, Nat.add_mul_div_left _ _ (Nat.pow_pos (by decide)), Nat.add_mul_mod_self_left]
      rw [← byteN_nat, ih i h]
    · obtain rfl : i = m := by omega
      have hl := lv_lt b i
      rw [Nat.mul_comm, Nat.add_mul_div_left _ _ (Nat.pow_pos (by decide)), Nat.div_eq_of_lt hl, Nat.zero_add, Nat.mod_eq_of_lt hb]
theorem byteN_inj {u v m : Nat} (hu : u < 256 ^ m) (hv : v < 256 ^ m) (h : ∀ i, i < m → byteN u i = byteN v i) : u = v := by
  rw [← Nat.mod_eq_of_lt hu, ← Nat.mod_eq_of_lt hv, ← lv_byteN, ← lv_byteN]
  exact lv_congr h
end Go.Proofs.Ytchojbhmfjibmaa
