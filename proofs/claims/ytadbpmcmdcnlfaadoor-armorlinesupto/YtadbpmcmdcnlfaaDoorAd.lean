/- Base64 read, four signs at a time, or bit by bit: both read b64 b as b, and nothing else. No program. -/
import Derived.Test.YtadbpmcmdcnlfaaDoorAb
namespace Go.Proofs.YtadbpmcmdcnlfaaDoor

def ob (n : Nat) : UInt8 := UInt8.ofNat n
theorem ob_toNat (c : UInt8) : ob c.toNat = c := UInt8.ofNat_toNat
theorem ob_eq {n : Nat} {c : UInt8} (h : n % 256 = c.toNat) : ob n = c := by
  rw [← UInt8.toNat_inj, ob, UInt8.toNat_ofNat']; exact h
theorem toNat_ob (n : Nat) : (ob n).toNat = n % 256 := UInt8.toNat_ofNat'
/-! ### Four at a time -/
/-- Bits and how many fill, behind some signs more. -/
def us (n p : Nat) : List UInt8 → Option (Nat × Nat)
  | [] => some (n, p)
  | c :: r => if c = 61 then us (n * 64) (p + 1) r else if 0 < p then none else if sgI c < 64 then us (n * 64 + sgI c) p r else none
def three (n : Nat) : List UInt8 := [ob (n / 65536), ob (n / 256), ob n]
/-- The bytes of signs, four at a time. -/
def ul : List UInt8 → Option (List UInt8)
  | a :: b :: c :: d :: r => match us 0 0 [a, b, c, d] with
    | none => none
    | some (n, p) => if 2 < p ∨ 0 < p ∧ r ≠ [] then none else (ul r).map fun t => (three n).take (3 - p) ++ t
  | [] => some []
  | _ => none
/-- What the document's Unbase64 tells. -/
def unR (s : List UInt8) : Option (List UInt8) := if s.length % 4 ≠ 0 then none else match ul s with
  | none => none
  | some out => if b64 out = s then some out else none
theorem us_sign {n p v : Nat} {r : List UInt8} (hv : v < 64) (hp : p = 0) : us n p (sg v :: r) = us (n * 64 + v) p r := by
  rw [us, if_neg (sg_ne hv), if_neg (by omega), sgI_sg v hv, if_pos hv]
theorem us_fill {n p : Nat} {r : List UInt8} : us n p (61 :: r) = us (n * 64) (p + 1) r := by rw [us, if_pos rfl]
theorem ul_b64 : ∀ b : List UInt8, ul (b64 b) = some b
  | a :: b :: c :: r => by
    have h1 := a.toNat_lt; have h2 := b.toNat_lt; have h3 := c.toNat_lt
    have ih := ul_b64 r
    simp only [b64, ul]
    rw [us_sign (by omega) rfl, us_sign (by omega) rfl, us_sign (by omega) rfl, us_sign (by omega) rfl]
    simp only [us]
    rw [if_neg (by simp), ih]
    simp only [Option.map_some, Nat.sub_zero, three, List.take_succ_cons, List.take_zero, List.cons_append, List.nil_append, Option.some.injEq]
    rw [ob_eq (c := a) (by omega), ob_eq (c := b) (by omega), ob_eq (c := c) (by omega)]
  | [a, b] => by
    have h1 := a.toNat_lt; have h2 := b.toNat_lt
    simp only [b64, ul]
    rw [us_sign (by omega) rfl, us_sign (by omega) rfl, us_sign (by omega) rfl, us_fill]
    simp only [us]
    rw [if_neg (by simp)]
    simp only [Option.map_some, three, Nat.zero_add, Nat.reduceSub, List.take_succ_cons, List.take_zero, List.cons_append, List.nil_append, Option.some.injEq]
    rw [ob_eq (c := a) (by omega), ob_eq (c := b) (by omega)]
  | [a] => by
    have h1 := a.toNat_lt
    simp only [b64, ul]
    rw [us_sign (by omega) rfl, us_sign (by omega) rfl, us_fill, us_fill]
    simp only [us]
    rw [if_neg (by simp)]
    simp only [Option.map_some, three, Nat.zero_add, Nat.reduceAdd, Nat.reduceSub, List.take_succ_cons, List.take_zero, List.cons_append, List.nil_append, Option.some.injEq]
    rw [ob_eq (c := a) (by omega)]
  | [] => rfl
theorem unR_iff (s b : List UInt8) : unR s = some b ↔ b64 b = s := by
  constructor
  · intro h
    unfold unR at h
    split at h
    · cases h
    · split at h
      · cases h
      · split at h
        · rename_i hb
          obtain rfl := Option.some.inj h
          exact hb
        · cases h
  · rintro rfl
    unfold unR
    rw [if_neg (by rw [b64_len4]; simp), ul_b64]
    simp
/-! ### Bit by bit -/
def du (left r : Nat) : List UInt8 → Option (List UInt8)
  | [] => if r = 0 then some [] else none
  | c :: t => if sgI c < 64 then
      if 2 ≤ left then (du (left - 2) ((r * 64 + sgI c) % 2 ^ (left - 2)) t).map fun x => ob ((r * 64 + sgI c) / 2 ^ (left - 2)) :: x
      else du (left + 6) (r * 64 + sgI c) t
    else none
/-- Without one sign that fills. -/
def tr1 (s : List UInt8) : List UInt8 := if s.getLast? = some 61 then s.dropLast else s
/-- What the program's Unbase64 tells. -/
def unP (s : List UInt8) : Option (List UInt8) := if s.length % 4 ≠ 0 then none else du 0 0 (tr1 (tr1 s))
theorem du_up {left r v : Nat} {t : List UInt8} (hv : v < 64) (h : left < 2) : du left r (sg v :: t) = du (left + 6) (r * 64 + v) t := by
  rw [du, sgI_sg v hv, if_pos hv, if_neg (by omega)]
theorem du_out {left r v : Nat} {t : List UInt8} (hv : v < 64) (h : 2 ≤ left) : du left r (sg v :: t) = (du (left - 2) ((r * 64 + v) % 2 ^ (left - 2)) t).map fun x => ob ((r * 64 + v) / 2 ^ (left - 2)) :: x := by
  rw [du, sgI_sg v hv, if_pos hv, if_pos h]
theorem du_core : ∀ b : List UInt8, du 0 0 (core b) = some b
  | a :: b :: c :: r => by
    have h1 := a.toNat_lt; have h2 := b.toNat_lt; have h3 := c.toNat_lt
    have ih := du_core r
    simp only [core]
    rw [du_up (by omega) (by omega), du_out (by omega) (by omega), du_out (by omega) (by omega), du_out (by omega) (by omega)]
    simp only [Nat.zero_add, Nat.zero_mul, Nat.reduceSub, Nat.reducePow, Nat.mod_one, Nat.div_one, ih, Option.map_some, Option.some.injEq]
    rw [ob_eq (c := a) (by omega), ob_eq (c := b) (by omega), ob_eq (c := c) (by omega)]
  | [a, b] => by
    have h1 := a.toNat_lt; have h2 := b.toNat_lt
    simp only [core]
    rw [du_up (by omega) (by omega), du_out (by omega) (by omega), du_out (by omega) (by omega), du]
    simp only [Nat.zero_add, Nat.zero_mul, Nat.reduceSub, Nat.reducePow]
    rw [if_pos (by omega)]
    simp only [Option.map_some, Option.some.injEq]
    rw [ob_eq (c := a) (by omega), ob_eq (c := b) (by omega)]
  | [a] => by
    have h1 := a.toNat_lt
    simp only [core]
    rw [du_up (by omega) (by omega), du_out (by omega) (by omega), du]
    simp only [Nat.zero_add, Nat.zero_mul, Nat.reduceSub, Nat.reducePow]
    rw [if_pos (by omega)]
    simp only [Option.map_some, Option.some.injEq]
    rw [ob_eq (c := a) (by omega)]
  | [] => rfl
theorem du_none {left r : Nat} {c : UInt8} {t : List UInt8} (h : ¬ sgI c < 64) : du left r (c :: t) = none := by rw [du, if_neg h]
theorem du_sgn {left r : Nat} {c : UInt8} {t b : List UInt8} (h : du left r (c :: t) = some b) : ∃ v, v < 64 ∧ c = sg v := by
  by_cases hc : sgI c < 64
  · exact ⟨sgI c, hc, (sg_sgI c hc).symm⟩
  · rw [du_none hc] at h; cases h
theorem du_sound : ∀ (t b : List UInt8), t.length % 4 ≠ 1 → du 0 0 t = some b → core b = t
  | a :: b :: c :: d :: r, out, hl, h => by
    obtain ⟨v, hv, rfl⟩ := du_sgn h
    rw [du_up hv (by omega)] at h
    by_cases hb : sgI b < 64
    case neg => rw [du_none hb] at h; cases h
    obtain ⟨v2, hv2, rfl⟩ : ∃ v, v < 64 ∧ b = sg v := ⟨sgI b, hb, (sg_sgI b hb).symm⟩
    rw [du_out hv2 (by omega)] at h
    obtain ⟨o1, g, rfl⟩ := Option.map_eq_some_iff.1 h
    clear h
    obtain ⟨v3, hv3, rfl⟩ := du_sgn g
    rw [du_out hv3 (by omega)] at g
    obtain ⟨o2, g2, rfl⟩ := Option.map_eq_some_iff.1 g
    clear g
    obtain ⟨v4, hv4, rfl⟩ := du_sgn g2
    rw [du_out hv4 (by omega)] at g2
    obtain ⟨o3, g3, rfl⟩ := Option.map_eq_some_iff.1 g2
    clear g2
    simp only [Nat.zero_add, Nat.zero_mul, Nat.reduceSub, Nat.reducePow, Nat.mod_one, Nat.div_one] at g3 ⊢
    have ih := du_sound r o3 (by simp only [List.length_cons] at hl; omega) g3
    simp only [core, ih, toNat_ob]
    congr 1
    · congr 1; omega
    congr 1
    · congr 1; omega
    congr 1
    · congr 1; omega
    congr 1
    · congr 1; omega
  | [a, b, c], out, hl, h => by
    obtain ⟨v, hv, rfl⟩ := du_sgn h
    rw [du_up hv (by omega)] at h
    obtain ⟨v2, hv2, rfl⟩ := du_sgn h
    rw [du_out hv2 (by omega)] at h
    obtain ⟨o1, g, rfl⟩ := Option.map_eq_some_iff.1 h
    clear h
    obtain ⟨v3, hv3, rfl⟩ := du_sgn g
    rw [du_out hv3 (by omega)] at g
    obtain ⟨o2, g2, rfl⟩ := Option.map_eq_some_iff.1 g
    clear g
    rw [du] at g2
    split at g2
    · rename_i hz
      obtain rfl := Option.some.inj g2
      simp only [Nat.zero_add, Nat.zero_mul, Nat.reduceSub, Nat.reducePow] at hz ⊢
      simp only [core, toNat_ob]
      congr 1
      · congr 1; omega
      congr 1
      · congr 1; omega
      congr 1
      · congr 1; omega
    · cases g2
  | [a, b], out, hl, h => by
    obtain ⟨v, hv, rfl⟩ := du_sgn h
    rw [du_up hv (by omega)] at h
    obtain ⟨v2, hv2, rfl⟩ := du_sgn h
    rw [du_out hv2 (by omega)] at h
    obtain ⟨o1, g, rfl⟩ := Option.map_eq_some_iff.1 h
    clear h
    rw [du] at g
    split at g
    · rename_i hz
      obtain rfl := Option.some.inj g
      simp only [Nat.zero_add, Nat.zero_mul, Nat.reduceSub, Nat.reducePow] at hz ⊢
      simp only [core, toNat_ob]
      congr 1
      · congr 1; omega
      congr 1
      · congr 1; omega
    · cases g
  | [a], out, hl, h => by simp at hl
  | [], out, hl, h => by
    rw [du, if_pos rfl] at h
    obtain rfl := Option.some.inj h
    rfl
theorem tr1_fill (l : List UInt8) : tr1 (l ++ [61]) = l := by unfold tr1; simp
theorem tr1_no {l : List UInt8} (h : ∀ c ∈ l, ends c = false) : tr1 l = l := by
  unfold tr1
  rw [if_neg]
  intro e
  have := h 61 (List.mem_of_getLast? e)
  cases this
theorem tr2_fill {l : List UInt8} (h : ∀ c ∈ l, ends c = false) {n : Nat} (hn : n ≤ 2) : tr1 (tr1 (l ++ List.replicate n 61)) = l := by
  match n, hn with
  | 0, _ => simp only [List.replicate_zero, List.append_nil]; rw [tr1_no h, tr1_no h]
  | 1, _ => show tr1 (tr1 (l ++ [61])) = l; rw [tr1_fill, tr1_no h]
  | 2, _ =>
    show tr1 (tr1 (l ++ ([61] ++ [61]))) = l
    rw [← List.append_assoc, tr1_fill, tr1_fill]
theorem tr1_eq (s : List UInt8) : s = tr1 s ∨ s = tr1 s ++ [61] := by
  unfold tr1
  split
  · rename_i h
    right
    have hne : s ≠ [] := by intro e; rw [e] at h; cases h
    rw [List.getLast?_eq_some_getLast hne] at h
    have := List.dropLast_concat_getLast hne
    rw [Option.some.inj h] at this
    exact this.symm
  · left; rfl
theorem core_len (b : List UInt8) : (core b).length % 4 ≠ 1 := by
  match b with
  | a :: b :: c :: r => have := core_len r; simp only [core, List.length_cons]; omega
  | [a, b] => simp [core]
  | [a] => simp [core]
  | [] => simp [core]
theorem unP_iff (s b : List UInt8) : unP s = some b ↔ b64 b = s := by
  constructor
  · intro h
    unfold unP at h
    split at h
    · cases h
    · rename_i hl
      have e : ∃ n, n ≤ 2 ∧ s = tr1 (tr1 s) ++ List.replicate n 61 := by
        rcases tr1_eq s with e1 | e1 <;> rcases tr1_eq (tr1 s) with e2 | e2
        · exact ⟨0, by omega, by rw [← e2, ← e1]; simp⟩
        · exact ⟨1, by omega, by rw [show List.replicate 1 (61 : UInt8) = [61] from rfl, ← e2, ← e1]⟩
        · exact ⟨1, by omega, by rw [show List.replicate 1 (61 : UInt8) = [61] from rfl, ← e2, ← e1]⟩
        · exact ⟨2, by omega, by rw [show List.replicate 2 (61 : UInt8) = [61] ++ [61] from rfl, ← List.append_assoc, ← e2, ← e1]⟩
      obtain ⟨n, hn, e⟩ := e
      have hlen := congrArg List.length e
      rw [List.length_append, List.length_replicate] at hlen
      have hc := du_sound (tr1 (tr1 s)) b (by omega) h
      rw [b64_core, hc]
      have : padN (tr1 (tr1 s)).length = n := by unfold padN; omega
      rw [this]
      exact e.symm
  · rintro rfl
    unfold unP
    rw [if_neg (by rw [b64_len4]; simp)]
    have := core_len b
    rw [b64_core, tr2_fill (core_signs b) (by unfold padN; omega), du_core]
theorem un_same (s : List UInt8) : unP s = unR s := by
  cases h : unR s with
  | none =>
    cases h2 : unP s with
    | none => rfl
    | some b => rw [unP_iff, ← unR_iff, h] at h2; cases h2
  | some b => rw [unR_iff, ← unP_iff] at h; exact h
theorem un_b64 (b : List UInt8) : unP (b64 b) = some b := (unP_iff _ _).2 rfl
theorem b64_inj {a b : List UInt8} (h : b64 a = b64 b) : a = b := by
  have := un_b64 a
  rw [h, un_b64] at this
  exact (Option.some.inj this).symm
end Go.Proofs.YtadbpmcmdcnlfaaDoor
