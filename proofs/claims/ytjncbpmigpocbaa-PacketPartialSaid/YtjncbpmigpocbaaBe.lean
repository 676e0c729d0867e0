/- Numbers in bytes, the highest first. Plain theorems, no program. -/
namespace Go.Proofs.Ytjncbpmigpocbaa

/-- A number in k bytes, the highest first; the number that bytes are. -/
def beL (k n : Nat) : List UInt8 := (List.range k).map fun j => UInt8.ofNat (n / 2 ^ (8 * (k - 1 - j)))
def beN (l : List UInt8) : Nat := l.foldl (fun n c => n * 256 + c.toNat) 0
theorem beL_len (k n : Nat) : (beL k n).length = k := by simp [beL]
theorem beL_get {k n j : Nat} (h : j < k) : (beL k n)[j]? = some (UInt8.ofNat (n / 2 ^ (8 * (k - 1 - j)))) := by simp [beL, h]
theorem beN_from : ∀ (l : List UInt8) (a : Nat), l.foldl (fun n c => n * 256 + c.toNat) a = a * 256 ^ l.length + beN l
  | [], a => by simp [beN]
  | c :: r, a => by
    show r.foldl _ (a * 256 + c.toNat) = _
    have h2 : beN (c :: r) = r.foldl (fun n c => n * 256 + c.toNat) (0 * 256 + c.toNat) := rfl
    rw [beN_from r, h2, beN_from r, List.length_cons, Nat.pow_succ, Nat.add_mul, Nat.zero_mul, Nat.zero_add, Nat.mul_assoc, Nat.mul_comm 256, Nat.add_assoc]
theorem beN_cons (c : UInt8) (r : List UInt8) : beN (c :: r) = c.toNat * 256 ^ r.length + beN r := by
  have h2 : beN (c :: r) = r.foldl (fun n c => n * 256 + c.toNat) (0 * 256 + c.toNat) := rfl
  rw [h2, beN_from r, Nat.zero_mul, Nat.zero_add]
theorem beN_snoc (l : List UInt8) (c : UInt8) : beN (l ++ [c]) = beN l * 256 + c.toNat := by simp [beN, List.foldl_append]
theorem beN_lt : ∀ (l : List UInt8), beN l < 256 ^ l.length
  | [] => by simp [beN]
  | c :: r => by
    rw [beN_cons, List.length_cons, Nat.pow_succ]
    have h1 := beN_lt r
    have h2 := c.toNat_lt
    have h3 : c.toNat * 256 ^ r.length + 256 ^ r.length ≤ 256 ^ r.length * 256 := by
      rw [Nat.mul_comm (256 ^ r.length) 256, ← Nat.succ_mul]
      exact Nat.mul_le_mul_right _ (by omega)
    omega
theorem beN_take {l : List UInt8} {i : Nat} {c : UInt8} (h : l[i]? = some c) : beN (l.take (i + 1)) = beN (l.take i) * 256 + c.toNat := by
  rw [List.take_add_one, h]
  exact beN_snoc _ _
theorem beL_succ (k n : Nat) : beL (k + 1) n = UInt8.ofNat (n / 2 ^ (8 * k)) :: beL k n := by
  unfold beL
  rw [List.range_succ_eq_map, List.map_cons, List.map_map]
  congr 1
  refine List.map_congr_left fun j hj => ?_
  show UInt8.ofNat (n / 2 ^ (8 * (k + 1 - 1 - (j + 1)))) = _
  rw [show k + 1 - 1 - (j + 1) = k - 1 - j by omega]
theorem beN_beL : ∀ (k n : Nat), beN (beL k n) = n % 256 ^ k
  | 0, n => by simp [beL, beN, Nat.mod_one]
  | k + 1, n => by
    rw [beL_succ, beN_cons, beL_len, beN_beL k n, UInt8.toNat_ofNat']
    have e : (2 : Nat) ^ (8 * k) = 256 ^ k := by rw [Nat.pow_mul]
    have h3 : n % (256 ^ k * 256) = n % 256 ^ k + 256 ^ k * (n / 256 ^ k % 256) := Nat.mod_mul
    have e2 : (2 : Nat) ^ 8 = 256 := rfl
    have h4 : (256 : Nat) ^ (k + 1) = 256 ^ k * 256 := Nat.pow_succ ..
    rw [e, h4, h3, e2, Nat.mul_comm, Nat.add_comm]
theorem beN_be {k n : Nat} (h : n < 256 ^ k) : beN (beL k n) = n := by rw [beN_beL, Nat.mod_eq_of_lt h]

end Go.Proofs.Ytjncbpmigpocbaa
