/- What the walks of armor's base64 and sum lean on. No program. -/
import Derived.Test.YtadbpmcmdcnlfaaDoorAc
import Derived.Test.YtadbpmcmdcnlfaaDoorOpU
namespace Go.Proofs.YtadbpmcmdcnlfaaDoor

theorem sg_get {v : Nat} (h : v < 64) : sgnL[v]? = some (sg v) := by
  have hl : v < sgnL.length := by show v < 64; exact h
  unfold sg
  rw [List.getD_eq_getElem?_getD, List.getElem?_eq_getElem hl]; rfl
theorem crcBits_step {k n : Nat} (h : k < 8) : crcBits (8 - k) n = crcBits (8 - (k + 1)) (crcBit n) := by
  rw [show 8 - k = (8 - (k + 1)) + 1 by omega]; rfl
theorem crc_bit {n : Nat} : n &&& 16777216 = 0 ∨ n &&& 16777216 ≠ 0 := by omega
theorem crc_up {k n x : Nat} (hk : k < 8) (hn : n < 16777216) (h : crcBits (8 - k) n = x) : (2 * n &&& 16777216 ≠ 0 → crcBits (8 - (k + 1)) (2 * n ^^^ 25578747) = x ∧ (2 * n ^^^ 25578747) < 16777216) ∧ (¬ (2 * n &&& 16777216 ≠ 0) → crcBits (8 - (k + 1)) (2 * n) = x ∧ 2 * n < 16777216) := by
  have e := crc_prog hn
  have l := crcBit_lt hn
  rw [crcBits_step hk] at h
  constructor
  · intro h1
    rw [if_pos h1] at e
    rw [← e] at h l
    exact ⟨h, l⟩
  · intro h1
    rw [if_neg h1] at e
    rw [← e] at h l
    exact ⟨h, l⟩
theorem crc_upD {k n x : Nat} (hk : k < 8) (hn : n < 16777216) (h : crcBits (8 - k) n = x) : (2 * n / 2 ^ 24 = 1 → crcBits (8 - (k + 1)) ((2 * n &&& 16777215) ^^^ 8801531) = x ∧ ((2 * n &&& 16777215) ^^^ 8801531) < 16777216) ∧ (¬ 2 * n / 2 ^ 24 = 1 → crcBits (8 - (k + 1)) (2 * n) = x ∧ 2 * n < 16777216) := by
  have e := crc_doc hn
  have l := crcBit_lt hn
  rw [crcBits_step hk] at h
  constructor
  · intro h1
    rw [if_pos h1] at e
    rw [← e] at h l
    exact ⟨h, l⟩
  · intro h1
    rw [if_neg h1] at e
    rw [← e] at h l
    exact ⟨h, l⟩
/-! ### Bits -/
theorem mod_mod_le {n a b : Nat} (h : b ≤ a) : n % 2 ^ a % 2 ^ b = n % 2 ^ b := Nat.mod_mod_of_dvd n (Nat.pow_dvd_pow 2 h)
/-- A byte pushed in at the right. -/
theorem push_bits {bits left k x : Nat} (hk : left + k ≤ 32) (hx : x < 2 ^ k) : ((bits * 2 ^ k) % 4294967296 ||| x) % 2 ^ (left + k) = (bits % 2 ^ left) * 2 ^ k + x ∧ ((bits * 2 ^ k) % 4294967296 ||| x) < 4294967296 := by
  have e32 : (4294967296 : Nat) = 2 ^ 32 := by decide
  have h1 : (bits * 2 ^ k) % 2 ^ 32 = (bits % 2 ^ (32 - k)) * 2 ^ k := by
    rw [show (2 : Nat) ^ 32 = 2 ^ (32 - k) * 2 ^ k by rw [← Nat.pow_add]; congr 1; omega, Nat.mul_mod_mul_right]
  have h2 : (bits % 2 ^ (32 - k)) * 2 ^ k ||| x = (bits % 2 ^ (32 - k)) * 2 ^ k + x := by
    have := Nat.shiftLeft_add_eq_or_of_lt hx (bits % 2 ^ (32 - k))
    rw [Nat.shiftLeft_eq] at this
    exact this.symm
  rw [e32, h1, h2]
  constructor
  · rw [Nat.pow_add, Nat.mul_comm (2 ^ left), Nat.mod_mul, Nat.mul_comm (bits % 2 ^ (32 - k)), Nat.mul_add_mod, Nat.mod_eq_of_lt hx, Nat.mul_add_div (Nat.pow_pos (by decide)), Nat.div_eq_of_lt hx, Nat.add_zero, mod_mod_le (by omega), Nat.mul_comm]
    omega
  · have h3 : bits % 2 ^ (32 - k) < 2 ^ (32 - k) := Nat.mod_lt _ (Nat.pow_pos (by decide))
    have h4 : (bits % 2 ^ (32 - k) + 1) * 2 ^ k ≤ 2 ^ (32 - k) * 2 ^ k := Nat.mul_le_mul_right _ h3
    rw [← Nat.pow_add, show 32 - k + k = 32 by omega, Nat.add_mul, Nat.one_mul] at h4
    omega
/-- Six bits out of the middle. -/
theorem mid_bits {bits left : Nat} (h : 6 ≤ left) : bits / 2 ^ (left - 6) &&& 63 = bits % 2 ^ left / 2 ^ (left - 6) ∧ bits % 2 ^ left / 2 ^ (left - 6) < 64 := by
  have e : (2 : Nat) ^ left = 2 ^ (left - 6) * 64 := by
    rw [show (64 : Nat) = 2 ^ 6 by decide, ← Nat.pow_add]; congr 1; omega
  have h1 : bits / 2 ^ (left - 6) &&& 63 = bits / 2 ^ (left - 6) % 64 := Nat.and_two_pow_sub_one_eq_mod _ 6
  have h2 : bits % 2 ^ left / 2 ^ (left - 6) = bits / 2 ^ (left - 6) % 64 := by rw [e, Nat.mod_mul_right_div_self]
  rw [h1, h2]
  exact ⟨rfl, Nat.mod_lt _ (by decide)⟩
theorem eb_push {bits left nb : Nat} {o c : List UInt8} {x : UInt8} {r : List UInt8} (hl : left < 6) (h : o ++ eb left (bits % 2 ^ left) (x :: r) = c) (hn : nb % 2 ^ (left + 8) = bits % 2 ^ left * 2 ^ 8 + x.toNat) : o ++ eb (left + 8) (nb % 2 ^ (left + 8)) r = c := by
  rw [eb_cons _ _ _ hl] at h
  rw [hn]; exact h
theorem eb_emit {left nb v : Nat} {o c r : List UInt8} (h6 : 6 ≤ left) (hv : nb % 2 ^ left / 2 ^ (left - 6) = v) (h : o ++ eb left (nb % 2 ^ left) r = c) : (o ++ [sg v]) ++ eb (left - 6) (nb % 2 ^ (left - 6)) r = c := by
  rw [eb_ge _ _ h6, hv, mod_mod_le (by omega)] at h
  rw [List.append_assoc, List.singleton_append]; exact h
theorem eb_last {left bits v : Nat} {o c : List UInt8} (hl : left < 6) (h0 : 0 < left) (hv : bits % 2 ^ left * 2 ^ (6 - left) = v) (h : o ++ eb left (bits % 2 ^ left) [] = c) : o ++ [sg v] = c := by
  rw [eb_nil _ hl, if_pos h0, hv] at h; exact h
theorem eb_none {left bits : Nat} {o c : List UInt8} (h0 : ¬ 0 < left) (h : o ++ eb left (bits % 2 ^ left) [] = c) : o = c := by
  rw [eb_nil _ (by omega), if_neg h0, List.append_nil] at h; exact h
theorem len_app {o r c : List UInt8} (h : o ++ r = c) : o.length ≤ c.length := by rw [← h, List.length_append]; omega
theorem core_short : ∀ l : List UInt8, (core l).length ≤ 2 * l.length
  | a :: b :: c :: r => by have := core_short r; simp only [core, List.length_cons]; omega
  | [a, b] => by simp [core]
  | [a] => by simp [core]
  | [] => by simp [core]
/-- The last bits, filled up. -/
theorem last_bits {bits left : Nat} (hl : left < 6) : (bits * 2 ^ (6 - left)) % 4294967296 &&& 63 = bits % 2 ^ left * 2 ^ (6 - left) ∧ bits % 2 ^ left * 2 ^ (6 - left) < 64 := by
  have h1 : (bits * 2 ^ (6 - left)) % 4294967296 &&& 63 = (bits * 2 ^ (6 - left)) % 4294967296 % 64 := Nat.and_two_pow_sub_one_eq_mod _ 6
  have h2 : (bits * 2 ^ (6 - left)) % 4294967296 % 64 = (bits * 2 ^ (6 - left)) % 64 := Nat.mod_mod_of_dvd _ ⟨67108864, by decide⟩
  have h3 : (bits * 2 ^ (6 - left)) % 64 = bits % 2 ^ left * 2 ^ (6 - left) := by
    rw [show (64 : Nat) = 2 ^ left * 2 ^ (6 - left) by rw [← Nat.pow_add, show left + (6 - left) = 6 by omega], Nat.mul_mod_mul_right]
  rw [h1, h2, h3]
  refine ⟨rfl, ?_⟩
  rw [← h3]; exact Nat.mod_lt _ (by decide)
theorem pad_at {n q : Nat} (hq : q ≤ padN n) (h : ¬ (n + q) % 4 ≠ 0) : q = padN n := by unfold padN at *; omega
theorem pad_go {n q : Nat} (hq : q ≤ padN n) (h : (n + q) % 4 ≠ 0) : q + 1 ≤ padN n := by unfold padN at *; omega
/-! ### Reading -/
theorem du_no {o : List UInt8} {left r : Nat} {x : UInt8} {t : List UInt8} {d : Option (List UInt8)} (hx : ¬ sgI x < 64) (h : (du left r (x :: t)).map (o ++ ·) = d) : d = none := by
  rw [du_none hx] at h; exact h.symm
theorem du_in {o : List UInt8} {left bits nb : Nat} {x : UInt8} {t : List UInt8} {d : Option (List UInt8)} (hx : sgI x < 64) (hl : left < 2) (hn : nb % 2 ^ (left + 6) = bits % 2 ^ left * 2 ^ 6 + sgI x) (h : (du left (bits % 2 ^ left) (x :: t)).map (o ++ ·) = d) : (du (left + 6) (nb % 2 ^ (left + 6)) t).map (o ++ ·) = d := by
  rw [du, if_pos hx, if_neg (by omega)] at h
  rw [hn]; exact h
theorem du_byte {o : List UInt8} {left bits nb : Nat} {x : UInt8} {t : List UInt8} {d : Option (List UInt8)} (hx : sgI x < 64) (hl : 2 ≤ left) (hn : nb % 2 ^ (left + 6) = bits % 2 ^ left * 2 ^ 6 + sgI x) (h : (du left (bits % 2 ^ left) (x :: t)).map (o ++ ·) = d) : (du (left - 2) (nb % 2 ^ (left - 2)) t).map ((o ++ [UInt8.ofNat (nb / 2 ^ (left - 2))]) ++ ·) = d := by
  rw [du, if_pos hx, if_pos hl] at h
  have e2 : (2 : Nat) ^ 6 = 64 := by decide
  rw [e2] at hn
  have e1 : (bits % 2 ^ left * 64 + sgI x) % 2 ^ (left - 2) = nb % 2 ^ (left - 2) := by rw [← hn, mod_mod_le (by omega)]
  have e3 : ob ((bits % 2 ^ left * 64 + sgI x) / 2 ^ (left - 2)) = UInt8.ofNat (nb / 2 ^ (left - 2)) := by
    apply ob_eq
    rw [UInt8.toNat_ofNat', ← hn]
    have e4 : (2 : Nat) ^ (left + 6) = 2 ^ (left - 2) * 256 := by
      rw [show (256 : Nat) = 2 ^ 8 by decide, ← Nat.pow_add]; congr 1; omega
    rw [e4, Nat.mod_mul_right_div_self, Nat.mod_mod]
  rw [e1, e3, Option.map_map] at h
  rw [← h]
  congr 1
  funext z
  simp
theorem du_end {o : List UInt8} {left r : Nat} {d : Option (List UInt8)} (h : (du left r []).map (o ++ ·) = d) : d = if r = 0 then some o else none := by
  rw [← h, du]
  split
  · simp
  · rfl
theorem mask_bits {left : Nat} (hl : left ≤ 31) : ((1 * 2 ^ left) % 4294967296) = 2 ^ left := by
  rw [Nat.one_mul]
  exact Nat.mod_eq_of_lt (Nat.lt_of_le_of_lt (Nat.pow_le_pow_right (by decide) hl) (by decide))
theorem du_start (t : List UInt8) : (du 0 (0 % 2 ^ 0) (t.drop 0)).map (([] : List UInt8) ++ ·) = du 0 0 t := by simp
theorem tr1_len (l : List UInt8) : (tr1 l).length ≤ l.length := by
  unfold tr1
  split
  · rw [List.length_dropLast]; omega
  · exact Nat.le_refl _
theorem unP_eq {s t : List UInt8} (h : ¬ s.length % 4 ≠ 0) (ht : tr1 (tr1 s) = t) : unP s = du 0 0 t := by unfold unP; rw [if_neg h, ht]
theorem unP_len {s : List UInt8} (h : s.length % 4 ≠ 0) : unP s = none := by unfold unP; rw [if_pos h]
end Go.Proofs.YtadbpmcmdcnlfaaDoor
