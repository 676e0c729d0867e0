/- What the walks of the document's lines lean on. No program. -/
import Derived.Test.YtadbpmcmdcnlfaaDoorAo
import Derived.Test.YtadbpmcmdcnlfaaDoorJn
namespace Go.Proofs.YtadbpmcmdcnlfaaDoor

theorem bare_13 {l : List UInt8} {x : UInt8} (h : l[l.length - 1]? = some x) (hx : x.toNat = 13) : bare l = l.take (l.length - 1) := by
  have e : x = (13 : UInt8) := byte_eq (by decide) hx
  subst e
  unfold bare
  rw [List.getLast?_eq_getElem?, h, if_pos rfl, List.dropLast_eq_take]
theorem bare_not {l : List UInt8} {x : UInt8} (h : l[l.length - 1]? = some x) (hx : ¬ x.toNat = 13) : bare l = l := by
  unfold bare
  rw [List.getLast?_eq_getElem?, h, if_neg]
  intro e
  exact hx (by rw [Option.some.inj e]; rfl)
theorem bare_nil {l : List UInt8} (h : ¬ l.length > 0) : bare l = l := by
  have : l = [] := List.eq_nil_of_length_eq_zero (by omega)
  subst this; rfl
theorem isLet_iff (x : UInt8) : isLet x = true ↔ (65 ≤ x.toNat ∧ x.toNat ≤ 90) ∨ (97 ≤ x.toNat ∧ x.toNat ≤ 122) := by
  simp [isLet]
theorem isLet_no (x : UInt8) : isLet x = false ↔ ¬ ((65 ≤ x.toNat ∧ x.toNat ≤ 90) ∨ (97 ≤ x.toNat ∧ x.toNat ≤ 122)) := by
  rw [← isLet_iff]; simp
theorem take_all {l : List UInt8} {n : Nat} {x : UInt8} (h : ∀ c ∈ l.take n, isLet c = true) (hx : l[n]? = some x) (h2 : isLet x = true) : ∀ c ∈ l.take (n + 1), isLet c = true := fun c hc => by
  rw [List.take_add_one, hx, List.mem_append] at hc
  rcases hc with hc | hc
  · exact h c hc
  · simp at hc; rw [hc]; exact h2
theorem nlet_at {l : List UInt8} {n : Nat} (h : ∀ c ∈ l.take n, isLet c = true) (hn : n ≤ l.length) (h2 : ∀ x, l[n]? = some x → isLet x = false) : nlet l = n := by
  unfold nlet
  rw [takeWhile_at l n h h2 hn, List.length_take]; omega
theorem lnsA_nl {acc r : List UInt8} {x : UInt8} (hx : x.toNat = 10) : lnsA acc (x :: r) = bare acc :: lnsA [] r := by
  have := byte_eq (by decide) hx
  subst this
  rfl
theorem lnsA_no {acc r : List UInt8} {x : UInt8} (hx : ¬ x.toNat = 10) : lnsA acc (x :: r) = lnsA (acc ++ [x]) r := by
  rw [lnsA, if_neg]
  intro e
  exact hx (by rw [e]; rfl)
theorem take_snoc {s : List UInt8} {i k : Nat} {x : UInt8} (h : s[i]? = some x) (hk : k ≤ i) (hi : i ≤ s.length) : ((s.take i).drop k) ++ [x] = (s.take (i + 1)).drop k := by
  rw [List.take_add_one, h, List.drop_append_of_le_length (by rw [List.length_take]; omega)]; rfl
theorem drop_take_self (s : List UInt8) (i : Nat) : (s.take i).drop i = [] := List.drop_eq_nil_of_le (by rw [List.length_take]; omega)
theorem lns_start (s : List UInt8) : ([] : List (List UInt8)) ++ lnsA ((s.take 0).drop 0) (s.drop 0) = lns s := by simp [lns]
theorem lns_end1 {s : List UInt8} {o : List (List UInt8)} {k : Nat} (h : o ++ lnsA ((s.take s.length).drop k) (s.drop s.length) = lns s) (hk : k < s.length) : o ++ [s.drop k] = lns s := by
  rw [List.take_length, List.drop_length, lnsA, if_neg] at h
  · exact h
  · rw [List.drop_eq_nil_iff]; omega
theorem lns_end0 {s : List UInt8} {o : List (List UInt8)} {k : Nat} (h : o ++ lnsA ((s.take s.length).drop k) (s.drop s.length) = lns s) (hk : ¬ k < s.length) : o = lns s := by
  rw [List.take_length, List.drop_length, lnsA, if_pos] at h
  · simpa using h
  · rw [List.drop_eq_nil_iff]; omega
theorem nl_step {s : List UInt8} {o : List (List UInt8)} {i k : Nat} {x : UInt8} (hx : s[i]? = some x) (h10 : x.toNat = 10) (h : o ++ lnsA ((s.take i).drop k) (s.drop i) = lns s) : (o ++ [bare ((s.take i).drop k)]) ++ lnsA ((s.take (i + 1)).drop (i + 1)) (s.drop (i + 1)) = lns s := by
  rw [drop_at hx, lnsA_nl h10] at h
  rw [drop_take_self, List.append_assoc]
  exact h
theorem no_step {s : List UInt8} {o : List (List UInt8)} {i k : Nat} {x : UInt8} (hx : s[i]? = some x) (h10 : ¬ x.toNat = 10) (hk : k ≤ i) (hi : i ≤ s.length) (h : o ++ lnsA ((s.take i).drop k) (s.drop i) = lns s) : o ++ lnsA ((s.take (i + 1)).drop k) (s.drop (i + 1)) = lns s := by
  rw [drop_at hx, lnsA_no h10, take_snoc hx hk hi] at h
  exact h
end Go.Proofs.YtadbpmcmdcnlfaaDoor
