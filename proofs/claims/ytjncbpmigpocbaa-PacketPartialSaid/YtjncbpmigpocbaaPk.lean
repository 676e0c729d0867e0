/- Packets, as mathematics: how they are written, and read. No program. -/
import Derived.Test.YtjncbpmigpocbaaBe
namespace Go.Proofs.Ytjncbpmigpocbaa

/-- A packet: its tag, its body. -/
abbrev Pd := Int × List UInt8
def frmP (p : Pd) : Prop := 1 ≤ p.1 ∧ p.1 ≤ 63 ∧ p.2.length ≤ 20000
instance (p : Pd) : Decidable (frmP p) := by unfold frmP; infer_instance
/-- The shortest length. -/
def lenL (n : Nat) : List UInt8 := if n < 192 then [UInt8.ofNat n] else if n ≤ 8383 then [UInt8.ofNat ((n - 192) / 256 + 192), UInt8.ofNat ((n - 192) % 256)] else 255 :: beL 4 n
def pkL (p : Pd) : List UInt8 := UInt8.ofNat (192 + p.1.toNat) :: (lenL p.2.length ++ p.2)
def wrL (D : List Pd) : List UInt8 := D.flatMap pkL
/-- A length of the new form: it, how many bytes it has (0: it is none), whether it is a part alone. -/
def tkn (b : List UInt8) : Nat × Nat × Bool :=
  if b.length = 0 then (0, 0, false)
  else if (b.getD 0 0).toNat < 192 then ((b.getD 0 0).toNat, 1, false)
  else if (b.getD 0 0).toNat < 224 then (if b.length < 2 then (0, 0, false) else (((b.getD 0 0).toNat - 192) * 256 + (b.getD 1 0).toNat + 192, 2, false))
  else if (b.getD 0 0).toNat < 255 then (2 ^ ((b.getD 0 0).toNat % 32), 1, true)
  else if b.length < 5 then (0, 0, false) else (beN ((b.drop 1).take 4), 5, false)
def mayT (tag : Nat) : Bool := tag == 8 || tag == 9 || tag == 11 || tag == 18
theorem tkn_zero {b : List UInt8} (h : (tkn b).2.1 ≠ 0) : 0 < b.length := by
  rcases Nat.eq_zero_or_pos b.length with h0 | h0
  · exfalso; apply h; unfold tkn; rw [if_pos h0]
  · exact h0
theorem getD_toNat_lt (b : List UInt8) (i : Nat) : (b.getD i 0).toNat < 256 := UInt8.toNat_lt _
theorem tkn_lt (b : List UInt8) : (tkn b).1 < 4294967296 := by
  have h0 := getD_toNat_lt b 0
  have h1 := getD_toNat_lt b 1
  unfold tkn
  repeat' split
  all_goals dsimp only
  · omega
  · omega
  · omega
  · omega
  · have h2 : 2 ^ ((b.getD 0 0).toNat % 32) < 2 ^ 32 := Nat.pow_lt_pow_right (by decide) (Nat.mod_lt _ (by decide))
    have e : (2 : Nat) ^ 32 = 4294967296 := rfl
    omega
  · omega
  · have h2 := beN_lt ((b.drop 1).take 4)
    have h3 : ((b.drop 1).take 4).length ≤ 4 := by rw [List.length_take]; omega
    have h4 : 256 ^ ((b.drop 1).take 4).length ≤ 256 ^ 4 := Nat.pow_le_pow_right (by decide) h3
    have e : (256 : Nat) ^ 4 = 4294967296 := rfl
    omega
theorem tkn_part {b : List UInt8} (h : (tkn b).2.2 = true) : 0 < (tkn b).1 ∧ (tkn b).2.1 = 1 := by
  revert h
  unfold tkn
  repeat' split
  all_goals dsimp only
  all_goals intro h
  all_goals first | (cases h; done) | exact ⟨Nat.pow_pos (by decide), rfl⟩
theorem tkn_le (b : List UInt8) : (tkn b).2.1 ≤ b.length := by
  unfold tkn
  repeat' split
  all_goals dsimp only
  all_goals omega
theorem tkn_five (b : List UInt8) : (tkn b).2.1 ≤ 5 := by
  unfold tkn
  repeat' split
  all_goals dsimp only
  all_goals omega
/-- A body of the new form, behind what was read of it: what is wrong, the body, what is left. -/
def frs (may : Bool) (body b : List UInt8) : Nat × List UInt8 × List UInt8 :=
  if (tkn b).2.1 = 0 ∨ ((tkn b).2.2 = true ∧ (may = false ∨ (body = [] ∧ (tkn b).1 < 512))) then (2, [], [])
  else if 20000 < body.length + (tkn b).1 then (6, [], [])
  else if b.length < (tkn b).2.1 + (tkn b).1 then (2, [], [])
  else if (tkn b).2.2 = true then frs may (body ++ (b.drop (tkn b).2.1).take (tkn b).1) (b.drop ((tkn b).2.1 + (tkn b).1))
  else (0, body ++ (b.drop (tkn b).2.1).take (tkn b).1, b.drop ((tkn b).2.1 + (tkn b).1))
termination_by b.length
decreasing_by
  rw [List.length_drop]
  omega
theorem frs_form {may : Bool} {body b : List UInt8} (h : (tkn b).2.1 = 0 ∨ ((tkn b).2.2 = true ∧ (may = false ∨ (body = [] ∧ (tkn b).1 < 512)))) : frs may body b = (2, [], []) := by
  rw [frs, if_pos h]
theorem frs_long {may : Bool} {body b : List UInt8} (h : ¬ ((tkn b).2.1 = 0 ∨ ((tkn b).2.2 = true ∧ (may = false ∨ (body = [] ∧ (tkn b).1 < 512))))) (h2 : 20000 < body.length + (tkn b).1) : frs may body b = (6, [], []) := by
  rw [frs, if_neg h, if_pos h2]
theorem frs_few {may : Bool} {body b : List UInt8} (h : ¬ ((tkn b).2.1 = 0 ∨ ((tkn b).2.2 = true ∧ (may = false ∨ (body = [] ∧ (tkn b).1 < 512))))) (h2 : ¬ 20000 < body.length + (tkn b).1) (h3 : b.length < (tkn b).2.1 + (tkn b).1) : frs may body b = (2, [], []) := by
  rw [frs, if_neg h, if_neg h2, if_pos h3]
theorem frs_more {may : Bool} {body b : List UInt8} (h : ¬ ((tkn b).2.1 = 0 ∨ ((tkn b).2.2 = true ∧ (may = false ∨ (body = [] ∧ (tkn b).1 < 512))))) (h2 : ¬ 20000 < body.length + (tkn b).1) (h3 : ¬ b.length < (tkn b).2.1 + (tkn b).1) (h4 : (tkn b).2.2 = true) : frs may body b = frs may (body ++ (b.drop (tkn b).2.1).take (tkn b).1) (b.drop ((tkn b).2.1 + (tkn b).1)) := by
  rw [frs, if_neg h, if_neg h2, if_neg h3, if_pos h4]
theorem frs_last {may : Bool} {body b : List UInt8} (h : ¬ ((tkn b).2.1 = 0 ∨ ((tkn b).2.2 = true ∧ (may = false ∨ (body = [] ∧ (tkn b).1 < 512))))) (h2 : ¬ 20000 < body.length + (tkn b).1) (h3 : ¬ b.length < (tkn b).2.1 + (tkn b).1) (h4 : (tkn b).2.2 = false) : frs may body b = (0, body ++ (b.drop (tkn b).2.1).take (tkn b).1, b.drop ((tkn b).2.1 + (tkn b).1)) := by
  rw [frs, if_neg h, if_neg h2, if_neg h3, if_neg (by rw [h4]; decide)]
/-- What is left is a rest; the body is not too long; what is wrong is a form, or a length. -/
theorem frs_ok (may : Bool) (body b : List UInt8) : (∃ k, k ≤ b.length ∧ (frs may body b).1 = 0 ∧ (frs may body b).2.2 = b.drop k ∧ (frs may body b).2.1.length ≤ 20000) ∨ ((frs may body b).1 ≠ 0 ∧ (frs may body b).2.1 = [] ∧ ((frs may body b).1 = 2 ∨ (frs may body b).1 = 6)) := by
  have key : ∀ (n : Nat) (body b : List UInt8), b.length ≤ n → (∃ k, k ≤ b.length ∧ (frs may body b).1 = 0 ∧ (frs may body b).2.2 = b.drop k ∧ (frs may body b).2.1.length ≤ 20000) ∨ ((frs may body b).1 ≠ 0 ∧ (frs may body b).2.1 = [] ∧ ((frs may body b).1 = 2 ∨ (frs may body b).1 = 6)) := by
    intro n
    induction n with
    | zero =>
      intro body b hb
      refine .inr ?_
      rw [frs_form (.inl ?_)]
      · exact ⟨by decide, rfl, .inl rfl⟩
      · have := tkn_le b; omega
    | succ n ih =>
      intro body b hb
      by_cases h1 : (tkn b).2.1 = 0 ∨ ((tkn b).2.2 = true ∧ (may = false ∨ (body = [] ∧ (tkn b).1 < 512)))
      · rw [frs_form h1]; exact .inr ⟨by decide, rfl, .inl rfl⟩
      by_cases h2 : 20000 < body.length + (tkn b).1
      · rw [frs_long h1 h2]; exact .inr ⟨by decide, rfl, .inr rfl⟩
      by_cases h3 : b.length < (tkn b).2.1 + (tkn b).1
      · rw [frs_few h1 h2 h3]; exact .inr ⟨by decide, rfl, .inl rfl⟩
      cases h4 : (tkn b).2.2 with
      | true =>
        rw [frs_more h1 h2 h3 h4]
        have hl : (b.drop ((tkn b).2.1 + (tkn b).1)).length = b.length - ((tkn b).2.1 + (tkn b).1) := List.length_drop
        have hp := tkn_part h4
        rcases ih (body ++ (b.drop (tkn b).2.1).take (tkn b).1) (b.drop ((tkn b).2.1 + (tkn b).1)) (by omega) with ⟨k, k1, k2, k3, k4⟩ | h5
        · refine .inl ⟨(tkn b).2.1 + (tkn b).1 + k, by omega, k2, ?_, k4⟩
          rw [k3, List.drop_drop]
        · exact .inr h5
      | false =>
        rw [frs_last h1 h2 h3 h4]
        refine .inl ⟨(tkn b).2.1 + (tkn b).1, by omega, rfl, rfl, ?_⟩
        show (body ++ _).length ≤ _
        rw [List.length_append, List.length_take]
        omega
  exact key b.length body b (Nat.le_refl _)
/-! ### Legacy bodies -/
def legK (kind : Nat) : Nat := if kind = 3 then 0 else 2 ^ kind
def legN (kind : Nat) (b : List UInt8) : Nat := if kind = 3 then b.length else beN (b.take (legK kind))
def leg (kind : Nat) (b : List UInt8) : Nat × List UInt8 × List UInt8 :=
  if b.length < legK kind then (2, [], [])
  else if 20000 < legN kind b then (6, [], [])
  else if b.length < legK kind + legN kind b then (2, [], [])
  else (0, (b.drop (legK kind)).take (legN kind b), b.drop (legK kind + legN kind b))
theorem leg_ok (kind : Nat) (b : List UInt8) : (∃ k, k ≤ b.length ∧ (leg kind b).1 = 0 ∧ (leg kind b).2.2 = b.drop k ∧ (leg kind b).2.1.length ≤ 20000) ∨ ((leg kind b).1 ≠ 0 ∧ (leg kind b).2.1 = [] ∧ ((leg kind b).1 = 2 ∨ (leg kind b).1 = 6)) := by
  unfold leg
  split
  · exact .inr ⟨by decide, rfl, .inl rfl⟩
  split
  · exact .inr ⟨by decide, rfl, .inr rfl⟩
  split
  · exact .inr ⟨by decide, rfl, .inl rfl⟩
  · refine .inl ⟨legK kind + legN kind b, by omega, rfl, rfl, ?_⟩
    show (List.take _ _).length ≤ _
    rw [List.length_take]; omega
/-! ### Packets -/
def tagB (c : Nat) : Nat := if 192 ≤ c then c % 64 else if 128 ≤ c then c / 4 % 16 else 0
theorem tagB_le (c : Nat) : tagB c ≤ 63 := by
  unfold tagB
  split
  · omega
  split <;> omega
def bdy (c : Nat) (b : List UInt8) : Nat × List UInt8 × List UInt8 := if 192 ≤ c then frs (mayT (tagB c)) [] b else leg (c % 4) b
theorem bdy_ok (c : Nat) (b : List UInt8) : (∃ k, k ≤ b.length ∧ (bdy c b).1 = 0 ∧ (bdy c b).2.2 = b.drop k ∧ (bdy c b).2.1.length ≤ 20000) ∨ ((bdy c b).1 ≠ 0 ∧ (bdy c b).2.1 = [] ∧ ((bdy c b).1 = 2 ∨ (bdy c b).1 = 6)) := by
  unfold bdy
  split
  · exact frs_ok _ _ _
  · exact leg_ok _ _
/-- The packet that bytes begin with, and what is left. -/
def one (b : List UInt8) : Nat × Pd × List UInt8 :=
  if tagB (b.getD 0 0).toNat = 0 then (2, (0, []), [])
  else ((bdy (b.getD 0 0).toNat (b.drop 1)).1, ((tagB (b.getD 0 0).toNat : Nat), (bdy (b.getD 0 0).toNat (b.drop 1)).2.1), (bdy (b.getD 0 0).toNat (b.drop 1)).2.2)
theorem one_ok {b : List UInt8} (hb : b ≠ []) : (∃ k, 0 < k ∧ k ≤ b.length ∧ (one b).1 = 0 ∧ (one b).2.2 = b.drop k ∧ frmP (one b).2.1) ∨ ((one b).1 ≠ 0 ∧ ((one b).1 = 2 ∨ (one b).1 = 6)) := by
  have hl : 0 < b.length := List.length_pos_iff.2 hb
  have h63 := tagB_le (b.getD 0 0).toNat
  unfold one
  split
  · exact .inr ⟨by dsimp only; decide, .inl rfl⟩
  · rename_i h0
    rcases bdy_ok (b.getD 0 0).toNat (b.drop 1) with ⟨k, k1, k2, k3, k4⟩ | ⟨k1, _, k2⟩
    · rw [List.length_drop] at k1
      refine .inl ⟨1 + k, by omega, by omega, k2, ?_, ?_⟩
      · show (bdy _ _).2.2 = _
        rw [k3, List.drop_drop]
      · exact ⟨by show (1 : Int) ≤ ((tagB _ : Nat) : Int); omega, by show ((tagB _ : Nat) : Int) ≤ 63; omega, k4⟩
    · exact .inr ⟨k1, k2⟩
def prs (acc : List Pd) (b : List UInt8) : Nat × List Pd :=
  if b = [] then (0, acc) else if _h : (one b).1 ≠ 0 then ((one b).1, []) else prs (acc ++ [(one b).2.1]) (one b).2.2
termination_by b.length
decreasing_by
  rename_i hb
  rcases one_ok (b := b) hb with ⟨k, k1, k2, _, k3, _⟩ | ⟨h2, _⟩
  · rw [k3, List.length_drop]; omega
  · exact absurd h2 _h
theorem prs_nil (acc : List Pd) : prs acc [] = (0, acc) := by rw [prs, if_pos rfl]
theorem prs_bad {acc : List Pd} {b : List UInt8} (hb : b ≠ []) (h : (one b).1 ≠ 0) : prs acc b = ((one b).1, []) := by rw [prs, if_neg hb, dif_pos h]
theorem prs_one {acc : List Pd} {b : List UInt8} (hb : b ≠ []) (h : (one b).1 = 0) : prs acc b = prs (acc ++ [(one b).2.1]) (one b).2.2 := by rw [prs, if_neg hb, dif_neg (by rw [h]; decide)]
/-- Induction over what is left. -/
theorem prs_ind {Q : List UInt8 → Prop} (h0 : Q []) (h1 : ∀ b, b ≠ [] → (one b).1 ≠ 0 → Q b) (h2 : ∀ b, b ≠ [] → (one b).1 = 0 → frmP (one b).2.1 → (one b).2.2.length < b.length → Q (one b).2.2 → Q b) (b : List UInt8) : Q b := by
  have key : ∀ (n : Nat) (b : List UInt8), b.length ≤ n → Q b := by
    intro n
    induction n with
    | zero =>
      intro b hb
      obtain rfl : b = [] := List.eq_nil_of_length_eq_zero (by omega)
      exact h0
    | succ n ih =>
      intro b hb
      by_cases hn : b = []
      · rw [hn]; exact h0
      rcases one_ok hn with ⟨k, k1, k2, k3, k4, k5⟩ | ⟨k1, _⟩
      · have hl : (one b).2.2.length < b.length := by rw [k4, List.length_drop]; omega
        exact h2 b hn k3 k5 hl (ih _ (by omega))
      · exact h1 b hn k1
  exact key b.length b (Nat.le_refl _)
theorem prs_acc (b : List UInt8) : ∀ acc, prs acc b = if (prs [] b).1 = 0 then (0, acc ++ (prs [] b).2) else ((prs [] b).1, []) := by
  refine prs_ind (Q := fun b => ∀ acc, prs acc b = if (prs [] b).1 = 0 then (0, acc ++ (prs [] b).2) else ((prs [] b).1, [])) ?_ ?_ ?_ b
  · intro acc; rw [prs_nil, prs_nil]; simp
  · intro b hb h acc; rw [prs_bad hb h, prs_bad hb h, if_neg h]
  · intro b hb h _ _ ih acc
    rw [prs_one hb h, prs_one (acc := []) hb h, ih (acc ++ _), ih ([] ++ _)]
    by_cases h3 : (prs [] (one b).2.2).1 = 0
    · rw [if_pos h3, if_pos h3, if_pos rfl]; simp
    · rw [if_neg h3, if_neg h3, if_neg h3]
theorem prs_err (b : List UInt8) : ((prs [] b).1 = 0 ∨ (prs [] b).1 = 2 ∨ (prs [] b).1 = 6) ∧ ((prs [] b).1 ≠ 0 → (prs [] b).2 = []) := by
  refine prs_ind (Q := fun b => ((prs [] b).1 = 0 ∨ (prs [] b).1 = 2 ∨ (prs [] b).1 = 6) ∧ ((prs [] b).1 ≠ 0 → (prs [] b).2 = [])) ?_ ?_ ?_ b
  · rw [prs_nil]; exact ⟨.inl rfl, fun h => absurd rfl h⟩
  · intro b hb h
    rw [prs_bad hb h]
    rcases one_ok hb with ⟨k, k1, k2, k3, _⟩ | ⟨k1, k2⟩
    · exact absurd k3 h
    · exact ⟨.inr k2, fun _ => rfl⟩
  · intro b hb h _ _ ih
    rw [prs_one hb h, prs_acc]
    split
    · exact ⟨.inl rfl, fun h => absurd rfl h⟩
    · exact ⟨ih.1, fun _ => rfl⟩
theorem prs_frm (b : List UInt8) : (prs [] b).2.length ≤ b.length ∧ ∀ p ∈ (prs [] b).2, frmP p := by
  refine prs_ind (Q := fun b => (prs [] b).2.length ≤ b.length ∧ ∀ p ∈ (prs [] b).2, frmP p) ?_ ?_ ?_ b
  · rw [prs_nil]; exact ⟨Nat.zero_le _, fun p h => by cases h⟩
  · intro b hb h; rw [prs_bad hb h]; exact ⟨Nat.zero_le _, fun p h => by cases h⟩
  · intro b hb h hf hl ih
    rw [prs_one hb h, prs_acc]
    split
    · refine ⟨?_, fun p hp => ?_⟩
      · show ([] ++ [_] ++ _).length ≤ _
        simp only [List.nil_append, List.length_append, List.length_cons, List.length_nil]
        omega
      · rcases List.mem_append.1 hp with hp | hp
        · obtain rfl := List.mem_singleton.1 hp; exact hf
        · exact ih.2 p hp
    · exact ⟨Nat.zero_le _, fun p h => by cases h⟩
/-! ### What was written is read -/
theorem ofNat_toNat {n : Nat} (h : n < 256) : (UInt8.ofNat n).toNat = n := by rw [UInt8.toNat_ofNat', Nat.mod_eq_of_lt h]
theorem getD_cons0 (c : UInt8) (r : List UInt8) : (c :: r).getD 0 0 = c := rfl
theorem getD_cons1 (c d : UInt8) (r : List UInt8) : (c :: d :: r).getD 1 0 = d := rfl
theorem lenL_len {n : Nat} : 1 ≤ (lenL n).length ∧ (lenL n).length ≤ 5 := by
  unfold lenL
  repeat' split
  all_goals simp [beL_len]
theorem take_be (n : Nat) (z : List UInt8) : (beL 4 n ++ z).take 4 = beL 4 n := List.take_left' (beL_len 4 n)
theorem tkn_five' {n : Nat} (hn : n < 4294967296) (z : List UInt8) : tkn (255 :: (beL 4 n ++ z)) = (n, 5, false) := by
  unfold tkn
  rw [if_neg (by simp), getD_cons0, if_neg (by decide), if_neg (by decide), if_neg (by decide), if_neg (by simp [beL_len])]
  rw [List.drop_succ_cons, List.drop_zero, take_be, beN_be (by exact hn)]
theorem tkn_lenL {n : Nat} (hn : n ≤ 20000) (z : List UInt8) : tkn (lenL n ++ z) = (n, (lenL n).length, false) := by
  unfold lenL
  split
  · rename_i h
    show tkn (UInt8.ofNat n :: z) = _
    unfold tkn
    rw [if_neg (by simp), getD_cons0, ofNat_toNat (by omega), if_pos h]
    rfl
  split
  · rename_i h1 h2
    show tkn (UInt8.ofNat _ :: UInt8.ofNat _ :: z) = _
    unfold tkn
    rw [if_neg (by simp), getD_cons0, getD_cons1, ofNat_toNat (by omega), ofNat_toNat (by omega), if_neg (by omega), if_pos (by omega), if_neg (by simp)]
    refine Prod.ext ?_ rfl
    show ((n - 192) / 256 + 192 - 192) * 256 + (n - 192) % 256 + 192 = n
    omega
  · rw [show (255 :: beL 4 n) ++ z = 255 :: (beL 4 n ++ z) from rfl, tkn_five' (by omega)]
    simp [beL_len]
/-- A last part, of whatever length that stands there. -/
theorem frs_end {may : Bool} {body F B z : List UInt8} {n : Nat} (ht : tkn (F ++ (B ++ z)) = (n, F.length, false)) (hF : F ≠ []) (hB : B.length = n) (hl : body.length + n ≤ 20000) : frs may body (F ++ (B ++ z)) = (0, body ++ B, z) := by
  have hp : 0 < F.length := List.length_pos_iff.2 hF
  have e1 : (tkn (F ++ (B ++ z))).1 = n := by rw [ht]
  have e2 : (tkn (F ++ (B ++ z))).2.1 = F.length := by rw [ht]
  have e3 : (tkn (F ++ (B ++ z))).2.2 = false := by rw [ht]
  rw [frs_last (by rw [e2, e3]; rintro (h | ⟨h, _⟩); omega; cases h) (by omega) (by rw [e1, e2]; simp; omega) e3, e1, e2]
  rw [List.drop_left' rfl, List.take_left' hB]
  congr 2
  rw [← List.append_assoc, List.drop_left' (by rw [List.length_append, hB])]
theorem frs_body {may : Bool} {body B : List UInt8} (hl : body.length + B.length ≤ 20000) (z : List UInt8) : frs may body (lenL B.length ++ (B ++ z)) = (0, body ++ B, z) :=
  frs_end (tkn_lenL (by omega) _) (List.ne_nil_of_length_pos (by have := (lenL_len (n := B.length)).1; omega)) rfl hl
/-- A part, as long as a power of two. -/
theorem tkn_pow {p : Nat} (hp : p < 14) (z : List UInt8) : tkn (UInt8.ofNat (224 + p) :: z) = (2 ^ p, 1, true) := by
  unfold tkn
  rw [if_neg (by simp), getD_cons0, ofNat_toNat (by omega), if_neg (by omega), if_neg (by omega), if_pos (by omega)]
  rw [show (224 + p) % 32 = p by omega]
theorem frs_part {body B : List UInt8} {p : Nat} (hp : p < 14) (hB : B.length = 2 ^ p) (h1 : body ≠ [] ∨ 512 ≤ 2 ^ p) (hl : body.length + B.length ≤ 20000) (z : List UInt8) : frs true body (UInt8.ofNat (224 + p) :: (B ++ z)) = frs true (body ++ B) z := by
  have ht := tkn_pow hp (B ++ z)
  have e1 : (tkn (UInt8.ofNat (224 + p) :: (B ++ z))).1 = 2 ^ p := by rw [ht]
  have e2 : (tkn (UInt8.ofNat (224 + p) :: (B ++ z))).2.1 = 1 := by rw [ht]
  have e3 : (tkn (UInt8.ofNat (224 + p) :: (B ++ z))).2.2 = true := by rw [ht]
  rw [frs_more (by rw [e1, e2, e3]; rintro (h | ⟨_, h | ⟨h, h3⟩⟩) <;> first | omega | (cases h; done) | (rcases h1 with h1 | h1; exact h1 h; omega)) (by rw [e1]; omega) (by rw [e1, e2]; simp; omega) e3, e1, e2]
  rw [List.drop_succ_cons, List.drop_zero, List.take_left' hB, Nat.add_comm 1, List.drop_succ_cons, List.drop_left' hB]
theorem frs_wrong {may : Bool} {p : Nat} (hp : p < 14) (h : may = false ∨ 2 ^ p < 512) (z : List UInt8) : frs may [] (UInt8.ofNat (224 + p) :: z) = (2, [], []) := by
  have ht := tkn_pow hp z
  refine frs_form (.inr ?_)
  rw [ht]
  rcases h with h | h
  · exact ⟨rfl, .inl h⟩
  · exact ⟨rfl, .inr ⟨rfl, h⟩⟩
/-- A packet's first byte, of the new form. -/
theorem tagB_new {t : Nat} (h : t < 64) : tagB (192 + t) = t := by unfold tagB; rw [if_pos (by omega)]; omega
theorem tagB_old {t k : Nat} (h : t < 16) (hk : k < 4) : tagB (128 + 4 * t + k) = t := by unfold tagB; rw [if_neg (by omega), if_pos (by omega)]; omega
theorem one_new {t : Nat} (h0 : 0 < t) (h : t < 64) (z : List UInt8) : one (UInt8.ofNat (192 + t) :: z) = ((frs (mayT t) [] z).1, ((t : Int), (frs (mayT t) [] z).2.1), (frs (mayT t) [] z).2.2) := by
  unfold one
  rw [getD_cons0, ofNat_toNat (by omega), tagB_new h, if_neg (by omega), List.drop_succ_cons, List.drop_zero]
  have e : bdy (192 + t) z = frs (mayT t) [] z := by unfold bdy; rw [if_pos (by omega), tagB_new h]
  rw [e]
theorem one_old {t k : Nat} (h0 : 0 < t) (h : t < 16) (hk : k < 4) (z : List UInt8) : one (UInt8.ofNat (128 + 4 * t + k) :: z) = ((leg k z).1, ((t : Int), (leg k z).2.1), (leg k z).2.2) := by
  unfold one
  rw [getD_cons0, ofNat_toNat (by omega), tagB_old h hk, if_neg (by omega), List.drop_succ_cons, List.drop_zero]
  have e : bdy (128 + 4 * t + k) z = leg k z := by unfold bdy; rw [if_neg (by omega), show (128 + 4 * t + k) % 4 = k by omega]
  rw [e]
theorem one_pk {p : Pd} (h : frmP p) (z : List UInt8) : one (pkL p ++ z) = (0, p, z) := by
  obtain ⟨h1, h2, h3⟩ := h
  unfold pkL
  rw [List.cons_append, List.append_assoc, one_new (by omega) (by omega), frs_body (by simpa using h3)]
  obtain ⟨t, b⟩ := p
  show (0, (((t.toNat : Nat) : Int), [] ++ b), z) = _
  have h1' : 1 ≤ t := h1
  rw [List.nil_append, Int.toNat_of_nonneg (by omega)]
theorem pkL_ne (p : Pd) (z : List UInt8) : pkL p ++ z ≠ [] := by unfold pkL; simp
theorem prs_wr : ∀ (D : List Pd) (acc : List Pd) (z : List UInt8), (∀ p ∈ D, frmP p) → prs acc (wrL D ++ z) = prs (acc ++ D) z
  | [], acc, z, _ => by rw [List.append_nil]; rfl
  | p :: D, acc, z, h => by
    have e : wrL (p :: D) ++ z = pkL p ++ (wrL D ++ z) := by unfold wrL; rw [List.flatMap_cons, List.append_assoc]
    have e2 := one_pk (h p (by simp)) (wrL D ++ z)
    rw [e, prs_one (pkL_ne _ _) (by rw [e2]), e2]
    show prs (acc ++ [p]) (wrL D ++ z) = _
    rw [prs_wr D _ z (fun q hq => h q (by simp [hq])), List.append_assoc]; rfl
theorem prs_back {D : List Pd} (h : ∀ p ∈ D, frmP p) : prs [] (wrL D) = (0, D) := by
  have := prs_wr D [] [] h
  rw [List.append_nil, prs_nil, List.nil_append] at this
  exact this
theorem prs_join {D M : List Pd} {b : List UInt8} (h : ∀ p ∈ D, frmP p) (hb : prs [] b = (0, M)) : prs [] (wrL D ++ b) = (0, D ++ M) := by
  rw [prs_wr D [] b h, prs_acc, hb]; rfl
theorem prs_single {b : List UInt8} {p : Pd} (hb : b ≠ []) (h : one b = (0, p, [])) : prs [] b = (0, [p]) := by
  rw [prs_one hb (by rw [h]), h, prs_nil]; rfl
theorem wrL_le : ∀ (D : List Pd), (∀ p ∈ D, frmP p) → (wrL D).length ≤ D.length * 20006
  | [], _ => Nat.zero_le _
  | p :: D, h => by
    have h1 := wrL_le D (fun q hq => h q (by simp [hq]))
    have h2 : wrL (p :: D) = pkL p ++ wrL D := by unfold wrL; rw [List.flatMap_cons]
    have h3 : (pkL p).length = (lenL p.2.length).length + p.2.length + 1 := by unfold pkL; simp
    have h4 := (lenL_len (n := p.2.length)).2
    have h5 := (h p (by simp)).2.2
    rw [h2, List.length_append, List.length_cons]
    omega
/-! ### Each form of a length -/
theorem form_new {t n : Nat} (h0 : 0 < t) (ht : t < 64) {B : List UInt8} (hB : B.length = n) (hn : n ≤ 20000) : prs [] (([UInt8.ofNat (192 + t), 255] ++ beL 4 n) ++ B) = (0, [((t : Int), B)]) := by
  subst hB
  refine prs_single (by simp) ?_
  have e : ([UInt8.ofNat (192 + t), 255] ++ beL 4 B.length) ++ B = UInt8.ofNat (192 + t) :: ((255 :: beL 4 B.length) ++ (B ++ [])) := by simp
  rw [e, one_new h0 ht, frs_end (n := B.length) (by rw [List.cons_append, tkn_five' (by omega)]; simp [beL_len]) (by simp) rfl (by simpa using hn)]
  rfl
theorem leg_be {k n : Nat} (hk : k < 3) {B : List UInt8} (hB : B.length = n) (hn : n ≤ 20000) (hf : n < 256 ^ (2 ^ k)) : leg k (beL (2 ^ k) n ++ B) = (0, B, []) := by
  subst hB
  have hK : legK k = 2 ^ k := by unfold legK; rw [if_neg (by omega)]
  have hN : legN k (beL (2 ^ k) B.length ++ B) = B.length := by
    unfold legN
    rw [if_neg (by omega), hK, List.take_left' (beL_len _ _), beN_be hf]
  have hl : (beL (2 ^ k) B.length ++ B).length = 2 ^ k + B.length := by rw [List.length_append, beL_len]
  unfold leg
  rw [hK, hN, hl, if_neg (by omega), if_neg (by omega), if_neg (by omega), List.drop_left' (beL_len _ _), List.take_of_length_le (Nat.le_refl _), List.drop_eq_nil_of_le (by rw [hl]; exact Nat.le_refl _)]
theorem form_old {t k n : Nat} (h0 : 0 < t) (ht : t < 16) (hk : k < 3) {B : List UInt8} (hB : B.length = n) (hn : n ≤ 20000) (hf : n < 256 ^ (2 ^ k)) : prs [] (([UInt8.ofNat (128 + 4 * t + k)] ++ beL (2 ^ k) n) ++ B) = (0, [((t : Int), B)]) := by
  refine prs_single (by simp) ?_
  have e : ([UInt8.ofNat (128 + 4 * t + k)] ++ beL (2 ^ k) n) ++ B = UInt8.ofNat (128 + 4 * t + k) :: (beL (2 ^ k) n ++ B) := by simp
  rw [e, one_old h0 ht (by omega), leg_be hk hB hn hf]
theorem form_end {t : Nat} (h0 : 0 < t) (ht : t < 16) {B : List UInt8} (hn : B.length ≤ 20000) : prs [] ([UInt8.ofNat (128 + 4 * t + 3)] ++ B) = (0, [((t : Int), B)]) := by
  refine prs_single (by simp) ?_
  have hK : legK 3 = 0 := rfl
  have hN : legN 3 B = B.length := rfl
  show one (UInt8.ofNat (128 + 4 * t + 3) :: B) = _
  rw [one_old h0 ht (by omega)]
  have e : leg 3 B = (0, B, []) := by
    unfold leg
    rw [hK, hN, if_neg (by omega), if_neg (by omega), if_neg (by omega), List.drop_zero, List.take_of_length_le (Nat.le_refl _), List.drop_eq_nil_of_le (by omega)]
  rw [e]
theorem beL_one (n : Nat) : [UInt8.ofNat n] = beL 1 n := by
  show _ = [UInt8.ofNat (n / 2 ^ (8 * (1 - 1 - 0)))]
  rw [show 8 * (1 - 1 - 0) = 0 from rfl, Nat.pow_zero, Nat.div_one]
/-! ### Parts -/
theorem parts_right {k : Nat} (h0 : 0 < k) (hk : k < 64) {P body : List UInt8} {m : Nat} (hP : ∀ z, frs (mayT k) [] (P ++ z) = frs (mayT k) (body.take m) z) (hb : body.length ≤ 20000) (hm : m ≤ body.length) : prs [] ([UInt8.ofNat (192 + k)] ++ P ++ lenL (body.length - m) ++ body.drop m) = (0, [((k : Int), body)]) := by
  refine prs_single (by simp) ?_
  have hl : (body.drop m).length = body.length - m := List.length_drop
  have e : [UInt8.ofNat (192 + k)] ++ P ++ lenL (body.length - m) ++ body.drop m = UInt8.ofNat (192 + k) :: (P ++ (lenL (body.drop m).length ++ (body.drop m ++ []))) := by rw [hl]; simp
  rw [e, one_new h0 hk, hP, frs_body (by rw [List.length_take]; omega), List.take_append_drop]
theorem parts_wrong {k : Nat} (h0 : 0 < k) (hk : k < 64) {P : List UInt8} (hP : ∀ z, frs (mayT k) [] (P ++ z) = (2, [], [])) (z w : List UInt8) : prs [] ([UInt8.ofNat (192 + k)] ++ P ++ z ++ w) = (2, []) := by
  have e : [UInt8.ofNat (192 + k)] ++ P ++ z ++ w = UInt8.ofNat (192 + k) :: (P ++ (z ++ w)) := by simp
  have e2 := one_new h0 hk (P ++ (z ++ w))
  rw [hP] at e2
  rw [e, prs_bad (by simp) (by rw [e2]; show (2 : Nat) ≠ 0; decide), e2]
end Go.Proofs.Ytjncbpmigpocbaa
