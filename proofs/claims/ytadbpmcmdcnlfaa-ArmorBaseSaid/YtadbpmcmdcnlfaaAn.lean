/- What the walks of the document's base64 lean on. No program. -/
import Derived.Test.YtadbpmcmdcnlfaaAm
import Derived.Test.YtadbpmcmdcnlfaaOpN
namespace Go.Proofs.Ytadbpmcmdcnlfaa

theorem orN {m c k : Nat} (h : c < 2 ^ k) : m * 2 ^ k ||| c = m * 2 ^ k + c := by
  have := Nat.shiftLeft_add_eq_or_of_lt h m
  rw [Nat.shiftLeft_eq] at this
  exact this.symm
/-- Four times six bits of three bytes. -/
def fourL (f : Nat → UInt8) : List UInt8 := [ob ((f 0).toNat / 4), ob ((f 0).toNat % 4 * 16 + (f 1).toNat / 16), ob ((f 1).toNat % 16 * 4 + (f 2).toNat / 64), ob ((f 2).toNat % 64)]
def g4 (f : Nat → UInt8) (n : Nat) : List UInt8 := [sg ((f 0).toNat / 4), sg ((f 0).toNat % 4 * 16 + (f 1).toNat / 16), if 2 ≤ n then sg ((f 1).toNat % 16 * 4 + (f 2).toNat / 64) else 61, if 3 ≤ n then sg ((f 2).toNat % 64) else 61]
theorem four_at {f : Nat → UInt8} {i : Nat} {x : UInt8} (h : (fourL f)[i]? = some x) : x.toNat < 64 := by
  have h0 := (f 0).toNat_lt; have h1 := (f 1).toNat_lt; have h2 := (f 2).toNat_lt
  have hm : x ∈ fourL f := List.mem_of_getElem? h
  simp only [fourL, List.mem_cons, List.not_mem_nil, or_false] at hm
  rcases hm with rfl | rfl | rfl | rfl <;> rw [toNat_ob] <;> omega
theorem g4_at {f : Nat → UInt8} {i n : Nat} {x : UInt8} (hn : 1 ≤ n) (h : (fourL f)[i]? = some x) : (g4 f n)[i]? = some (if i ≤ n then sg x.toNat else 61) := by
  have h0 := (f 0).toNat_lt; have h1 := (f 1).toNat_lt; have h2 := (f 2).toNat_lt
  match i, h with
  | 0, h =>
    simp only [fourL, List.getElem?_cons_zero, Option.some.injEq] at h
    subst h
    rw [if_pos (by omega), toNat_ob, Nat.mod_eq_of_lt (by omega)]; rfl
  | 1, h =>
    simp only [fourL, List.getElem?_cons_succ, List.getElem?_cons_zero, Option.some.injEq] at h
    subst h
    rw [if_pos hn, toNat_ob, Nat.mod_eq_of_lt (by omega)]; rfl
  | 2, h =>
    simp only [fourL, List.getElem?_cons_succ, List.getElem?_cons_zero, Option.some.injEq] at h
    subst h
    rw [toNat_ob, Nat.mod_eq_of_lt (by omega)]; rfl
  | 3, h =>
    simp only [fourL, List.getElem?_cons_succ, List.getElem?_cons_zero, Option.some.injEq] at h
    subst h
    rw [toNat_ob, Nat.mod_eq_of_lt (by omega)]; rfl
  | j + 4, h => simp [fourL] at h
theorem take_next {L o o2 : List UInt8} {i : Nat} {y : UInt8} (hy : L[i]? = some y) (h : o2 = o ++ L.take i) : o2 ++ [y] = o ++ L.take (i + 1) := by
  rw [h, List.take_add_one, hy, List.append_assoc]; rfl
/-- A group of the document's. -/
theorem b64_group {l : List UInt8} {k : Nat} {f : Nat → UInt8} (hl : 0 < l.length) (hk : Nat.min l.length 3 = k) (hf : ovr (l.take k) (fun _ => 0) = f) : b64 l = g4 f k ++ b64 (l.drop k) := by
  subst hf hk
  match l, hl with
  | [a], _ => simp [b64, g4, ovr]
  | [a, b], _ => simp [b64, g4, ovr]
  | a :: b :: c :: r, _ =>
    have e : Nat.min (a :: b :: c :: r).length 3 = 3 := by simp only [List.length_cons]; exact Nat.min_eq_right (by omega)
    rw [e]
    simp [b64, g4, ovr]
theorem g4_len (f : Nat → UInt8) (n : Nat) : (g4 f n).length = 4 := rfl
/-! ### Read -/
theorem ul_group {s : List UInt8} {i n p : Nat} (hi : i + 4 ≤ s.length) (h : us 0 0 ((s.drop i).take 4) = some (n, p)) : ul (s.drop i) = if 2 < p ∨ 0 < p ∧ s.drop (i + 4) ≠ [] then none else (ul (s.drop (i + 4))).map fun t => (three n).take (3 - p) ++ t := by
  have e : s.drop i = s[i] :: s[i + 1] :: s[i + 2] :: s[i + 3] :: s.drop (i + 4) := by
    rw [List.drop_eq_getElem_cons (by omega), List.drop_eq_getElem_cons (by omega), List.drop_eq_getElem_cons (by omega), List.drop_eq_getElem_cons (by omega)]
  rw [e] at h ⊢
  simp only [List.take_succ_cons, List.take_zero] at h
  rw [ul, h]
theorem ul_none {s : List UInt8} {i : Nat} (hi : i + 4 ≤ s.length) (h : us 0 0 ((s.drop i).take 4) = none) : ul (s.drop i) = none := by
  have e : s.drop i = s[i] :: s[i + 1] :: s[i + 2] :: s[i + 3] :: s.drop (i + 4) := by
    rw [List.drop_eq_getElem_cons (by omega), List.drop_eq_getElem_cons (by omega), List.drop_eq_getElem_cons (by omega), List.drop_eq_getElem_cons (by omega)]
  rw [e] at h ⊢
  simp only [List.take_succ_cons, List.take_zero] at h
  rw [ul, h]
theorem four_drop {s : List UInt8} {i k : Nat} {x : UInt8} (hk : k < 4) (hx : s[i + k]? = some x) : ((s.drop i).take 4).drop k = x :: ((s.drop i).take 4).drop (k + 1) := by
  refine drop_at ?_
  rw [List.getElem?_take, if_pos hk, List.getElem?_drop]; exact hx
theorem us_go_fill {n p : Nat} {x : UInt8} {r : List UInt8} {z : Option (Nat × Nat)} (hx : x.toNat = 61) (h : us n p (x :: r) = z) : us (n * 64) (p + 1) r = z := by
  have e : x = 61 := by rw [← UInt8.toNat_inj]; exact hx
  subst e
  rw [us_fill] at h; exact h
theorem us_no_more {n p : Nat} {x : UInt8} {r : List UInt8} {z : Option (Nat × Nat)} (hx : ¬ x.toNat = 61) (hp : p > 0) (h : us n p (x :: r) = z) : z = none := by
  have e : ¬ x = 61 := fun e => hx (by rw [e]; rfl)
  rw [us, if_neg e, if_pos hp] at h; exact h.symm
theorem us_no_sign {n p : Nat} {x : UInt8} {r : List UInt8} {z : Option (Nat × Nat)} (hx : ¬ x.toNat = 61) (hs : 64 ≤ sgI x) (h : us n p (x :: r) = z) : z = none := by
  have e : ¬ x = 61 := fun e => hx (by rw [e]; rfl)
  rw [us, if_neg e] at h
  split at h
  · exact h.symm
  · rw [if_neg (by omega)] at h; exact h.symm
theorem us_go {n p : Nat} {x : UInt8} {r : List UInt8} {z : Option (Nat × Nat)} (hx : ¬ x.toNat = 61) (hp : ¬ p > 0) (hs : sgI x < 64) (h : us n p (x :: r) = z) : us (n * 64 + sgI x) p r = z := by
  have e : ¬ x = 61 := fun e => hx (by rw [e]; rfl)
  rw [us, if_neg e, if_neg hp, if_pos hs] at h; exact h
theorem pw6 {n k v : Nat} (hk : k < 4) (hv : v < 64) (hn : n < 2 ^ (6 * k)) : n < 262144 ∧ n * 64 + v < 2 ^ (6 * (k + 1)) := by
  have h1 : 2 ^ (6 * k) ≤ 2 ^ 18 := Nat.pow_le_pow_right (by decide) (by omega)
  have h2 : (2 : Nat) ^ 18 = 262144 := by decide
  have h3 : (2 : Nat) ^ (6 * (k + 1)) = 2 ^ (6 * k) * 64 := by rw [show 6 * (k + 1) = 6 * k + 6 by omega, Nat.pow_add]
  omega
/-- The place of a sign, looked for in order. -/
def sgJ (x : UInt8) (j : Nat) : Int := if sgI x < j then ((sgI x : Nat) : Int) else -1
theorem sgJ_zero (x : UInt8) : sgJ x 0 = -1 := by unfold sgJ; rw [if_neg (by omega)]
theorem sgJ_hit {x : UInt8} {j : Nat} (hj : j < 64) (h : x.toNat = (sg j).toNat) : sgJ x (j + 1) = (j : Int) := by
  have e : x = sg j := by rw [← UInt8.toNat_inj]; exact h
  subst e
  unfold sgJ
  rw [sgI_sg j hj, if_pos (by omega)]
theorem sgJ_miss {x : UInt8} {j : Nat} (hj : j < 64) (h : ¬ x.toNat = (sg j).toNat) : sgJ x (j + 1) = sgJ x j := by
  have hne : sgI x ≠ j := fun e => h (by rw [← e, sg_sgI x (by omega)])
  unfold sgJ
  by_cases h2 : sgI x < j
  · rw [if_pos h2, if_pos (by omega)]
  · rw [if_neg h2, if_neg (by omega)]
theorem unR_len {s : List UInt8} (h : s.length % 4 ≠ 0) : unR s = none := by unfold unR; rw [if_pos h]
theorem unR_none {s : List UInt8} (h : ul s = none) : unR s = none := by
  unfold unR
  split
  · rfl
  · rw [h]
theorem unR_some {s o : List UInt8} (h0 : ¬ s.length % 4 ≠ 0) (h : ul s = some o) : unR s = if b64 o = s then some o else none := by
  unfold unR
  rw [if_neg h0, h]
theorem map_none {o : List UInt8} {a b : Option (List UInt8)} (h : a.map (o ++ ·) = b) (ha : a = none) : b = none := by rw [← h, ha]; rfl
theorem ul_go {s o : List UInt8} {i n p : Nat} {z : Option (List UInt8)} (hi : i + 4 ≤ s.length) (h : us 0 0 ((s.drop i).take 4) = some (n, p)) (hp : ¬ (2 < p ∨ 0 < p ∧ s.drop (i + 4) ≠ [])) (hz : (ul (s.drop i)).map (o ++ ·) = z) : (ul (s.drop (i + 4))).map ((o ++ (three n).take (3 - p)) ++ ·) = z := by
  rw [ul_group hi h, if_neg hp, Option.map_map] at hz
  rw [← hz]
  congr 1
  funext t
  simp
theorem ul_bad {s o : List UInt8} {i n p : Nat} {z : Option (List UInt8)} (hi : i + 4 ≤ s.length) (h : us 0 0 ((s.drop i).take 4) = some (n, p)) (hp : 2 < p ∨ 0 < p ∧ s.drop (i + 4) ≠ []) (hz : (ul (s.drop i)).map (o ++ ·) = z) : z = none := by
  rw [ul_group hi h, if_pos hp] at hz
  exact hz.symm
theorem drop_ne {s : List UInt8} {i : Nat} : s.drop i ≠ [] ↔ i < s.length := by
  rw [ne_eq, List.drop_eq_nil_iff]; omega
theorem ul_start (s : List UInt8) : (ul (s.drop 0)).map (([] : List UInt8) ++ ·) = ul s := by simp
theorem ul_end {s o : List UInt8} {z : Option (List UInt8)} (h : (ul (s.drop s.length)).map (o ++ ·) = z) : z = some o := by
  rw [← h, List.drop_length, ul]; simp
theorem us_end {s : List UInt8} {i n p : Nat} {z : Option (Nat × Nat)} (h : us n p (((s.drop i).take 4).drop 4) = z) : z = some (n, p) := by
  rw [← h, List.drop_eq_nil_of_le (by rw [List.length_take]; omega), us]
theorem min3 {n k : Nat} (h : Nat.min n 3 = k) (h0 : 0 < n) : k ≤ 3 ∧ k ≤ n ∧ 1 ≤ k := by
  have : min n 3 = k := h
  omega
end Go.Proofs.Ytadbpmcmdcnlfaa
