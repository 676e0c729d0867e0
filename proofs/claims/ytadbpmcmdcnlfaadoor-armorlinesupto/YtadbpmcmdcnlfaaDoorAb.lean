/- Base64 as a function of lists: written three bytes at a time, or bit by bit; read four signs at a time, or bit by bit. No program. -/
namespace Go.Proofs.YtadbpmcmdcnlfaaDoor

def letL : List UInt8 := [65, 66, 67, 68, 69, 70, 71, 72, 73, 74, 75, 76, 77, 78, 79, 80, 81, 82, 83, 84, 85, 86, 87, 88, 89, 90, 97, 98, 99, 100, 101, 102, 103, 104, 105, 106, 107, 108, 109, 110, 111, 112, 113, 114, 115, 116, 117, 118, 119, 120, 121, 122]
def sgnL : List UInt8 := [65, 66, 67, 68, 69, 70, 71, 72, 73, 74, 75, 76, 77, 78, 79, 80, 81, 82, 83, 84, 85, 86, 87, 88, 89, 90, 97, 98, 99, 100, 101, 102, 103, 104, 105, 106, 107, 108, 109, 110, 111, 112, 113, 114, 115, 116, 117, 118, 119, 120, 121, 122, 48, 49, 50, 51, 52, 53, 54, 55, 56, 57, 43, 47]
/-- The sign of six bits; the bits of a sign, 64 of what is none. -/
def sg (v : Nat) : UInt8 := sgnL.getD v 0
def sgI (c : UInt8) : Nat := sgnL.idxOf c
theorem sgI_sg : ∀ v, v < 64 → sgI (sg v) = v := by decide +kernel
theorem sg_sgI (c : UInt8) (h : sgI c < 64) : sg (sgI c) = c := by
  have key : ∀ n, n < 256 → sgI (UInt8.ofNat n) < 64 → sg (sgI (UInt8.ofNat n)) = UInt8.ofNat n := by decide +kernel
  have := key c.toNat c.toNat_lt
  rw [UInt8.ofNat_toNat] at this
  exact this h
theorem sgI_le (c : UInt8) : sgI c ≤ 64 := List.idxOf_le_length
/-- What no sign is. -/
def ends (c : UInt8) : Bool := c == 61 || c == 45 || c == 10 || c == 13
theorem sg_ends : ∀ v, v < 64 → ends (sg v) = false := by decide +kernel
theorem sg_ne {v : Nat} (h : v < 64) : sg v ≠ 61 := fun e => by have := sg_ends v h; rw [e] at this; cases this
theorem sgI_61 : ¬ sgI 61 < 64 := by decide +kernel

/-! ### Written -/
def b64 : List UInt8 → List UInt8
  | a :: b :: c :: r => sg (a.toNat / 4) :: sg (a.toNat % 4 * 16 + b.toNat / 16) :: sg (b.toNat % 16 * 4 + c.toNat / 64) :: sg (c.toNat % 64) :: b64 r
  | [a, b] => [sg (a.toNat / 4), sg (a.toNat % 4 * 16 + b.toNat / 16), sg (b.toNat % 16 * 4), 61]
  | [a] => [sg (a.toNat / 4), sg (a.toNat % 4 * 16), 61, 61]
  | [] => []
/-- The same without what fills it. -/
def core : List UInt8 → List UInt8
  | a :: b :: c :: r => sg (a.toNat / 4) :: sg (a.toNat % 4 * 16 + b.toNat / 16) :: sg (b.toNat % 16 * 4 + c.toNat / 64) :: sg (c.toNat % 64) :: core r
  | [a, b] => [sg (a.toNat / 4), sg (a.toNat % 4 * 16 + b.toNat / 16), sg (b.toNat % 16 * 4)]
  | [a] => [sg (a.toNat / 4), sg (a.toNat % 4 * 16)]
  | [] => []
def padN (n : Nat) : Nat := (4 - n % 4) % 4
theorem b64_core : ∀ b : List UInt8, b64 b = core b ++ List.replicate (padN (core b).length) 61
  | a :: b :: c :: r => by
    have ih := b64_core r
    have e : padN (core r).length = padN ((core r).length + 1 + 1 + 1 + 1) := by unfold padN; omega
    simp only [b64, core, List.cons_append, List.length_cons]
    rw [ih, e]
  | [a, b] => rfl
  | [a] => rfl
  | [] => rfl
theorem b64_len4 (b : List UInt8) : (b64 b).length % 4 = 0 := by
  rw [b64_core, List.length_append, List.length_replicate]
  unfold padN; omega
theorem core_signs : ∀ (b : List UInt8) (c : UInt8), c ∈ core b → ends c = false
  | x :: y :: z :: r, c, h => by
    have h1 := x.toNat_lt; have h2 := y.toNat_lt; have h3 := z.toNat_lt
    simp only [core, List.mem_cons] at h
    rcases h with rfl | rfl | rfl | rfl | h
    · exact sg_ends _ (by omega)
    · exact sg_ends _ (by omega)
    · exact sg_ends _ (by omega)
    · exact sg_ends _ (by omega)
    · exact core_signs r c h
  | [x, y], c, h => by
    have h1 := x.toNat_lt; have h2 := y.toNat_lt
    simp only [core, List.mem_cons, List.not_mem_nil, or_false] at h
    rcases h with rfl | rfl | rfl <;> exact sg_ends _ (by omega)
  | [x], c, h => by
    have h1 := x.toNat_lt
    simp only [core, List.mem_cons, List.not_mem_nil, or_false] at h
    rcases h with rfl | rfl <;> exact sg_ends _ (by omega)
  | [], c, h => by cases h
/-- At every fourth place stands a sign. -/
theorem b64_fourth : ∀ (b : List UInt8) (i : Nat) (c : UInt8), i % 4 = 0 → (b64 b)[i]? = some c → ends c = false
  | x :: y :: z :: r, i, c, hi, h => by
    have h1 := x.toNat_lt
    match i, hi with
    | 0, _ =>
      simp only [b64, List.getElem?_cons_zero, Option.some.injEq] at h
      rw [← h]; exact sg_ends _ (by omega)
    | j + 4, hi =>
      simp only [b64, List.getElem?_cons_succ] at h
      exact b64_fourth r j c (by omega) h
    | 1, hi => omega
    | 2, hi => omega
    | 3, hi => omega
  | [x, y], i, c, hi, h => by
    have h1 := x.toNat_lt
    match i, hi with
    | 0, _ =>
      simp only [b64, List.getElem?_cons_zero, Option.some.injEq] at h
      rw [← h]; exact sg_ends _ (by omega)
    | j + 4, hi => simp [b64] at h
    | 1, hi => omega
    | 2, hi => omega
    | 3, hi => omega
  | [x], i, c, hi, h => by
    have h1 := x.toNat_lt
    match i, hi with
    | 0, _ =>
      simp only [b64, List.getElem?_cons_zero, Option.some.injEq] at h
      rw [← h]; exact sg_ends _ (by omega)
    | j + 4, hi => simp [b64] at h
    | 1, hi => omega
    | 2, hi => omega
    | 3, hi => omega
  | [], i, c, hi, h => by simp [b64] at h
/-- Signs, and what fills: nothing else. -/
theorem b64_mem (b : List UInt8) (c : UInt8) (h : c ∈ b64 b) : ends c = false ∨ c = 61 := by
  rw [b64_core, List.mem_append] at h
  rcases h with h | h
  · exact .inl (core_signs b c h)
  · exact .inr (List.mem_replicate.1 h).2
theorem b64_split : ∀ (p r : List UInt8), p.length % 3 = 0 → b64 (p ++ r) = b64 p ++ b64 r
  | a :: b :: c :: p, r, h => by
    simp only [List.cons_append, b64]
    rw [b64_split p r (by simp only [List.length_cons] at h; omega)]
  | [a, b], r, h => by simp at h
  | [a], r, h => by simp at h
  | [], r, h => rfl
theorem b64_len3 : ∀ (p : List UInt8), p.length % 3 = 0 → (b64 p).length = p.length / 3 * 4
  | a :: b :: c :: p, h => by
    simp only [b64, List.length_cons] at h ⊢
    rw [b64_len3 p (by omega)]
    omega
  | [a, b], h => by simp at h
  | [a], h => by simp at h
  | [], h => rfl
theorem b64_len : ∀ (p : List UInt8), (b64 p).length = (p.length + 2) / 3 * 4
  | a :: b :: c :: p => by
    simp only [b64, List.length_cons]
    rw [b64_len p]
    omega
  | [a, b] => by simp [b64]
  | [a] => by simp [b64]
  | [] => rfl
theorem b64_nil {b : List UInt8} (h : b64 b = []) : b = [] := by
  cases b with
  | nil => rfl
  | cons a r =>
    have := congrArg List.length h
    rw [b64_len] at this
    simp only [List.length_cons, List.length_nil] at this
    omega

/-! ### Bit by bit: what is still written, of some bits and the bytes to come -/
def eb (left r : Nat) (l : List UInt8) : List UInt8 :=
  if 6 ≤ left then sg (r / 2 ^ (left - 6)) :: eb (left - 6) (r % 2 ^ (left - 6)) l
  else match l with
    | c :: t => eb (left + 8) (r * 256 + c.toNat) t
    | [] => if 0 < left then [sg (r * 2 ^ (6 - left))] else []
  termination_by 9 * l.length + left
  decreasing_by
    · omega
    · simp only [List.length_cons]; omega
theorem eb_ge {left : Nat} (r : Nat) (l : List UInt8) (h : 6 ≤ left) : eb left r l = sg (r / 2 ^ (left - 6)) :: eb (left - 6) (r % 2 ^ (left - 6)) l := by
  rw [eb.eq_def, if_pos h]
theorem eb_cons {left : Nat} (r : Nat) (c : UInt8) (t : List UInt8) (h : left < 6) : eb left r (c :: t) = eb (left + 8) (r * 256 + c.toNat) t := by
  rw [eb.eq_def, if_neg (by omega)]
theorem eb_nil {left : Nat} (r : Nat) (h : left < 6) : eb left r [] = if 0 < left then [sg (r * 2 ^ (6 - left))] else [] := by
  rw [eb.eq_def, if_neg (by omega)]
theorem eb_core : ∀ b : List UInt8, eb 0 0 b = core b
  | a :: b :: c :: r => by
    have h1 := a.toNat_lt; have h2 := b.toNat_lt; have h3 := c.toNat_lt
    rw [eb_cons _ _ _ (by omega), eb_ge _ _ (by omega), eb_cons _ _ _ (by omega), eb_ge _ _ (by omega), eb_cons _ _ _ (by omega), eb_ge _ _ (by omega), eb_ge _ _ (by omega)]
    simp only [core]
    simp only [Nat.zero_mul, Nat.zero_add, Nat.reduceAdd, Nat.reduceSub, Nat.reducePow, Nat.mod_one, Nat.div_one]
    rw [eb_core r]
    congr 1
    congr 1
    · congr 1; omega
    congr 1
    · congr 1; omega
    congr 1
    · congr 1; omega
  | [a, b] => by
    have h1 := a.toNat_lt; have h2 := b.toNat_lt
    rw [eb_cons _ _ _ (by omega), eb_ge _ _ (by omega), eb_cons _ _ _ (by omega), eb_ge _ _ (by omega), eb_nil _ (by omega)]
    simp only [core]
    simp only [Nat.zero_mul, Nat.zero_add, Nat.reduceAdd, Nat.reduceSub, Nat.reducePow]
    rw [if_pos (by omega)]
    congr 1
    congr 1
    · congr 1; omega
    congr 1
    · congr 1; omega
  | [a] => by
    have h1 := a.toNat_lt
    rw [eb_cons _ _ _ (by omega), eb_ge _ _ (by omega), eb_nil _ (by omega)]
    simp only [core]
    simp only [Nat.zero_mul, Nat.zero_add, Nat.reduceSub, Nat.reducePow]
    rw [if_pos (by omega)]
  | [] => by rw [eb_nil _ (by omega)]; rfl
end Go.Proofs.YtadbpmcmdcnlfaaDoor
