/- CRC24, by the document and by the program; lines; armor as lists of lines. No program. -/
import Derived.Test.YtadbpmcmdcnlfaaDoorAd
namespace Go.Proofs.YtadbpmcmdcnlfaaDoor

/-! ### CRC24 -/
def crcBit (n : Nat) : Nat := if 16777216 ≤ 2 * n then (2 * n - 16777216) ^^^ 8801531 else 2 * n
def crcBits : Nat → Nat → Nat
  | 0, n => n
  | k + 1, n => crcBits k (crcBit n)
def crcByte (n : Nat) (c : UInt8) : Nat := crcBits 8 (n ^^^ (c.toNat * 65536))
def crcF (n : Nat) (b : List UInt8) : Nat := b.foldl crcByte n
def crc (b : List UInt8) : Nat := crcF 11994318 b
theorem crcBit_lt {n : Nat} (h : n < 16777216) : crcBit n < 16777216 := by
  unfold crcBit
  split
  · exact Nat.xor_lt_two_pow (n := 24) (by omega) (by omega)
  · omega
theorem crcBits_lt : ∀ (k n : Nat), n < 16777216 → crcBits k n < 16777216
  | 0, _, h => h
  | k + 1, _, h => crcBits_lt k _ (crcBit_lt h)
theorem crc_in {n : Nat} (h : n < 16777216) (c : UInt8) : n ^^^ (c.toNat * 65536) < 16777216 := Nat.xor_lt_two_pow (n := 24) (by omega) (by have := c.toNat_lt; omega)
theorem crcByte_lt {n : Nat} (h : n < 16777216) (c : UInt8) : crcByte n c < 16777216 := crcBits_lt _ _ (crc_in h c)
theorem crcF_cons (n : Nat) (c : UInt8) (r : List UInt8) : crcF n (c :: r) = crcF (crcByte n c) r := by simp only [crcF, List.foldl_cons]
theorem crcF_lt (b : List UInt8) : ∀ n : Nat, n < 16777216 → crcF n b < 16777216 := by
  induction b with
  | nil => intro n h; exact h
  | cons c r ih => intro n h; rw [crcF_cons]; exact ih _ (crcByte_lt h c)
theorem crc_lt (b : List UInt8) : crc b < 16777216 := crcF_lt b _ (by decide)
theorem crcF_snoc (n : Nat) (b : List UInt8) (c : UInt8) : crcF n (b ++ [c]) = crcByte (crcF n b) c := by simp [crcF, List.foldl_append]
theorem crcF_take {b : List UInt8} {i : Nat} {c : UInt8} (n : Nat) (h : b[i]? = some c) : crcF n (b.take (i + 1)) = crcByte (crcF n (b.take i)) c := by
  rw [List.take_add_one, h]; exact crcF_snoc _ _ _
/-- By the program: the bit that falls out is put in with the others. -/
theorem xor_top {m : Nat} (h : m < 16777216) : (16777216 + m) ^^^ 25578747 = m ^^^ 8801531 := by
  have e1 : 16777216 + m = 16777216 ^^^ m := by
    have := Nat.two_pow_add_eq_or_of_lt (i := 24) h 1
    rw [show 2 ^ 24 * 1 + m = 16777216 + m by omega] at this
    rw [this]
    apply Nat.eq_of_testBit_eq
    intro i
    rw [Nat.testBit_or, Nat.testBit_xor]
    have h1 : (2 ^ 24 * 1).testBit i = decide (24 = i) := by rw [Nat.mul_one, Nat.testBit_two_pow]
    rw [show (16777216 : Nat) = 2 ^ 24 * 1 from rfl, h1]
    by_cases hi : 24 = i
    · subst hi
      rw [Nat.testBit_lt_two_pow h]; rfl
    · simp [hi]
  rw [e1, show (25578747 : Nat) = 16777216 ^^^ 8801531 by decide]
  rw [Nat.xor_comm 16777216 m, Nat.xor_assoc, ← Nat.xor_assoc 16777216, Nat.xor_self, Nat.zero_xor]
theorem bit_and {x : Nat} (h : x < 33554432) : (x &&& 16777216 ≠ 0) ↔ 16777216 ≤ x := by
  have ht : x.testBit 24 = decide (x / 2 ^ 24 % 2 = 1) := Nat.testBit_eq_decide_div_mod_eq
  have hb : (x &&& 16777216).testBit 24 = x.testBit 24 := by
    rw [Nat.testBit_and, show (16777216 : Nat) = 2 ^ 24 from rfl, Nat.testBit_two_pow_self, Bool.and_true]
  constructor
  · intro h0
    refine Decidable.byContradiction fun hx => h0 ?_
    apply Nat.eq_of_testBit_eq
    intro i
    rw [Nat.testBit_and, show (16777216 : Nat) = 2 ^ 24 from rfl, Nat.testBit_two_pow, Nat.zero_testBit]
    by_cases hi : 24 = i
    · subst hi
      rw [Nat.testBit_lt_two_pow (show x < 2 ^ 24 by show x < 16777216; omega)]; rfl
    · simp [hi]
  · intro hx h0
    rw [h0, Nat.zero_testBit, ht] at hb
    have : x / 2 ^ 24 % 2 = 1 := by show x / 16777216 % 2 = 1; omega
    rw [this] at hb
    simp at hb
/-- What the program makes of a bit. -/
theorem crc_prog {n : Nat} (h : n < 16777216) : (if 2 * n &&& 16777216 ≠ 0 then 2 * n ^^^ 25578747 else 2 * n) = crcBit n := by
  unfold crcBit
  by_cases hh : 16777216 ≤ 2 * n
  · rw [if_pos hh, if_pos ((bit_and (by omega)).2 hh)]
    have := xor_top (m := 2 * n - 16777216) (by omega)
    rw [show 16777216 + (2 * n - 16777216) = 2 * n by omega] at this
    exact this
  · rw [if_neg hh, if_neg fun h2 => hh ((bit_and (by omega)).1 h2)]
/-- What the document makes of it. -/
theorem crc_doc {n : Nat} (h : n < 16777216) : (if 2 * n / 2 ^ 24 = 1 then (2 * n &&& 16777215) ^^^ 8801531 else 2 * n) = crcBit n := by
  unfold crcBit
  have em : 2 * n &&& 16777215 = 2 * n % 16777216 := by
    have := Nat.and_two_pow_sub_one_eq_mod (2 * n) 24
    rwa [show (2 : Nat) ^ 24 = 16777216 by decide, show 16777216 - 1 = 16777215 by decide] at this
  by_cases hh : 16777216 ≤ 2 * n
  · rw [if_pos hh, if_pos (by rw [show (2 : Nat) ^ 24 = 16777216 by decide]; omega), em, show 2 * n % 16777216 = 2 * n - 16777216 by omega]
  · rw [if_neg hh, if_neg (by rw [show (2 : Nat) ^ 24 = 16777216 by decide]; omega)]
/-- The line of a sum, and its three bytes. -/
def sumL (b : List UInt8) : List UInt8 := 61 :: b64 (three (crc b))
theorem sumL_len (b : List UInt8) : (sumL b).length = 5 := by
  have := b64_len (three (crc b))
  simp only [three, List.length_cons, List.length_nil] at this
  simp only [sumL, List.length_cons, three, this]
theorem sumL_mem (b : List UInt8) (c : UInt8) (h : c ∈ sumL b) : c ≠ 10 ∧ c ≠ 13 := by
  unfold sumL at h
  have key : ends c = false ∨ c = 61 := by
    rcases List.mem_cons.1 h with h | h
    · exact .inr h
    · exact b64_mem _ _ h
  rcases key with h | rfl
  · unfold ends at h
    constructor <;> (rintro rfl; cases h)
  · decide

/-! ### Lines -/
/-- Without a carriage return at its end. -/
def bare (l : List UInt8) : List UInt8 := if l.getLast? = some 13 then l.dropLast else l
/-- Ahead of the first line feed, behind it; whether there is one. -/
def cutN (s : List UInt8) : List UInt8 × List UInt8 × Bool :=
  match s with
  | [] => ([], [], false)
  | c :: r => if c = 10 then ([], r, true) else (c :: (cutN r).1, (cutN r).2.1, (cutN r).2.2)
/-- What a reader reads as a line; what is left. -/
def rdL (s : List UInt8) : List UInt8 := if (cutN s).2.2 then bare (cutN s).1 else (cutN s).1
def rdR (s : List UInt8) : List UInt8 := (cutN s).2.1
/-- The lines of a text; acc: what has come of the first one. -/
def lnsA (acc : List UInt8) : List UInt8 → List (List UInt8)
  | [] => if acc = [] then [] else [acc]
  | c :: r => if c = 10 then bare acc :: lnsA [] r else lnsA (acc ++ [c]) r
def lns (s : List UInt8) : List (List UInt8) := lnsA [] s
theorem lnsA_cut : ∀ (s acc : List UInt8), lnsA acc s = if (cutN s).2.2 then bare (acc ++ (cutN s).1) :: lns (rdR s) else if acc ++ s = [] then [] else [acc ++ s]
  | [], acc => by simp [lnsA, cutN]
  | c :: r, acc => by
    by_cases hc : c = 10
    · subst hc; simp only [lnsA, cutN, rdR, lns, if_true, List.append_nil]
    · have ih := lnsA_cut r (acc ++ [c])
      simp only [lnsA, if_neg hc, ih, cutN, rdR, List.append_assoc, List.cons_append, List.nil_append]
theorem cutN_no : ∀ (s : List UInt8), (cutN s).2.2 = false → (cutN s).1 = s ∧ (cutN s).2.1 = []
  | [], _ => ⟨rfl, rfl⟩
  | c :: r, h => by
    by_cases hc : c = 10
    · subst hc; simp [cutN] at h
    · simp only [cutN, if_neg hc] at h ⊢
      have := cutN_no r h
      simp [this]
theorem lns_step (s : List UInt8) : lns s = if s = [] then [] else rdL s :: lns (rdR s) := by
  have h := lnsA_cut s []
  unfold lns at h ⊢
  rw [h]
  simp only [List.nil_append]
  by_cases hf : (cutN s).2.2 = true
  · have hs : s ≠ [] := by rintro rfl; simp [cutN] at hf
    rw [if_pos hf, if_neg hs]
    unfold rdL
    rw [if_pos hf]
  · have hf' : (cutN s).2.2 = false := by simpa using hf
    obtain ⟨h1, h2⟩ := cutN_no s hf'
    rw [if_neg hf]
    by_cases hs : s = []
    · rw [if_pos hs, if_pos hs]
    · rw [if_neg hs, if_neg hs]
      unfold rdL rdR
      rw [if_neg hf, h1, h2]; rfl
theorem lns_nil {s : List UInt8} (h : lns s = []) : s = [] := by
  rw [lns_step] at h
  split at h
  · assumption
  · cases h
theorem lns_cons {s : List UInt8} {l : List UInt8} {L : List (List UInt8)} (h : lns s = l :: L) : rdL s = l ∧ lns (rdR s) = L := by
  rw [lns_step] at h
  split at h
  · cases h
  · exact ⟨(List.cons.inj h).1, (List.cons.inj h).2⟩
theorem rd_head (s : List UInt8) : rdL s = (lns s).headD [] := by
  rw [lns_step]
  split
  · rename_i h; subst h; rfl
  · rfl
theorem rd_tail (s : List UInt8) : lns (rdR s) = (lns s).drop 1 := by
  rw [lns_step s]
  split
  · rename_i h; subst h; rfl
  · rfl
theorem cutN_len : ∀ (s : List UInt8), (cutN s).1.length + (cutN s).2.1.length ≤ s.length
  | [] => by simp [cutN]
  | c :: r => by
    by_cases hc : c = 10
    · subst hc; simp [cutN]
    · simp only [cutN, if_neg hc, List.length_cons]
      have := cutN_len r
      omega
theorem cutN_len2 : ∀ (s : List UInt8), s ≠ [] → (cutN s).2.1.length < s.length
  | [], h => absurd rfl h
  | c :: r, _ => by
    by_cases hc : c = 10
    · subst hc; simp [cutN]
    · simp only [cutN, if_neg hc, List.length_cons]
      have := cutN_len r
      omega
theorem rdR_lt {s : List UInt8} (h : s ≠ []) : (rdR s).length < s.length := cutN_len2 s h
theorem rdR_le (s : List UInt8) : (rdR s).length ≤ s.length := by have := cutN_len s; unfold rdR; omega
theorem bare_len (l : List UInt8) : (bare l).length ≤ l.length := by
  unfold bare
  split
  · rw [List.length_dropLast]; omega
  · exact Nat.le_refl _
theorem rdL_le (s : List UInt8) : (rdL s).length ≤ s.length := by
  have := cutN_len s
  unfold rdL
  split
  · have := bare_len (cutN s).1; omega
  · omega
theorem rdL_nil {s : List UInt8} (h : rdL s ≠ []) : s ≠ [] := by rintro rfl; exact h rfl
/-- A line and its end. -/
theorem cutN_line : ∀ (l r : List UInt8), (10 ∉ l) → cutN (l ++ 10 :: r) = (l, r, true)
  | [], r, _ => by simp [cutN]
  | c :: l, r, h => by
    have hc : c ≠ 10 := fun e => h (by rw [e]; simp)
    have ih := cutN_line l r (fun e => h (List.mem_cons_of_mem _ e))
    simp [cutN, hc, ih]
theorem lns_line {l r : List UInt8} (h : (10 : UInt8) ∉ l) : lns (l ++ 10 :: r) = bare l :: lns r := by
  rw [lns_step, if_neg (by simp)]
  unfold rdL rdR
  rw [cutN_line l r h]; rfl
theorem cutN_last : ∀ (l : List UInt8), (10 ∉ l) → cutN l = (l, [], false)
  | [], _ => rfl
  | c :: l, h => by
    have hc : c ≠ 10 := fun e => h (by rw [e]; simp)
    have ih := cutN_last l (fun e => h (List.mem_cons_of_mem _ e))
    simp [cutN, hc, ih]
theorem lns_last {l : List UInt8} (h : (10 : UInt8) ∉ l) (h0 : l ≠ []) : lns l = [l] := by
  rw [lns_step, if_neg h0]
  unfold rdL rdR
  rw [cutN_last l h]; rfl
theorem bare_no {l : List UInt8} (h : (13 : UInt8) ∉ l) : bare l = l := by
  unfold bare
  rw [if_neg]
  intro e
  exact h (List.mem_of_getLast? e)
theorem bare_cr (l : List UInt8) : bare (l ++ [13]) = l := by unfold bare; simp
/-- A line with either end. -/
def eol (cr : Bool) : List UInt8 := if cr then [13, 10] else [10]
theorem lns_eol {l r : List UInt8} (cr : Bool) (h : (10 : UInt8) ∉ l) (h2 : (13 : UInt8) ∉ l) : lns (l ++ (eol cr ++ r)) = l :: lns r := by
  cases cr
  · show lns (l ++ 10 :: r) = _
    rw [lns_line h, bare_no h2]
  · have e : l ++ (eol true ++ r) = (l ++ [13]) ++ 10 :: r := by simp [eol]
    rw [e, lns_line (by simp [h]), bare_cr]
end Go.Proofs.YtadbpmcmdcnlfaaDoor
