/- Keys wrapped: unwrapping undoes wrapping. Mathematics alone. -/
import Derived.Test.YtcpfiimbobijlaaDoorUnwrap
namespace Go.Proofs.YtcpfiimbobijlaaDoor

theorem countF_twice (B : Nat → UInt8) (t j : Nat) : countF (countF B t) t j = B j := by
  unfold countF
  by_cases h : j = 7
  · subst h
    rw [if_pos rfl, if_pos rfl]
    show (B 7 ^^^ UInt8.ofNat t) ^^^ UInt8.ofNat t = B 7
    rw [UInt8.xor_assoc, UInt8.xor_self, UInt8.xor_zero]
  · rw [if_neg h, if_neg h]
theorem countF_congr {A B : Nat → UInt8} (h : ∀ j, j < 8 → A j = B j) (t j : Nat) (hj : j < 8) : countF A t j = countF B t j := by
  unfold countF
  rw [h 7 (by omega), h j hj]
/-- Alike: in A's eight bytes, and in the m bytes of the parts. -/
def Like (m : Nat) (S S' : (Nat → UInt8) × (Nat → UInt8)) : Prop := (∀ j, j < 8 → S.1 j = S'.1 j) ∧ ∀ j, j < m → S.2 j = S'.2 j
theorem unR_wrapR {e d : (Nat → UInt8) → Nat → UInt8} (hd : ∀ x y, E16 x y → E16 (d x) (d y)) (hde : ∀ x, E16 (d (e x)) x) (m q N : Nat) (hm : m = 8 * q) (hq : 0 < q) (A P : Nat → UInt8) :
    ∀ k, k ≤ N → Like m (unR d m N (wrapR e m A P N).1 (wrapR e m A P N).2 k) (wrapR e m A P (N - k)) := by
  intro k
  induction k with
  | zero => intro _; exact ⟨fun _ _ => rfl, fun _ _ => rfl⟩
  | succ k ih =>
    intro hk
    obtain ⟨h1, h2⟩ := ih (by omega)
    obtain ⟨t, ht⟩ : ∃ t, N - k = t + 1 := ⟨N - k - 1, by omega⟩
    rw [ht] at h1 h2
    obtain ⟨at_, hat⟩ : ∃ at_, at_ = t * 8 % m := ⟨_, rfl⟩
    have h8 : at_ + 8 ≤ m := by
      rw [hat, hm, Nat.mul_comm t 8, Nat.mul_mod_mul_left]
      have := Nat.mod_lt t hq
      omega
    obtain ⟨T, hT⟩ : ∃ T, T = wrapR e m A P t := ⟨_, rfl⟩
    obtain ⟨B, hB⟩ : ∃ B, B = e (bothF T.1 fun j => T.2 (at_ + j)) := ⟨_, rfl⟩
    have hw : wrapR e m A P (t + 1) = (countF B (t + 1), cpy at_ 8 T.2 fun j => B (8 + j)) := by
      rw [hB, hat, hT]; rfl
    rw [hw] at h1 h2
    obtain ⟨S, hS⟩ : ∃ S, S = unR d m N (wrapR e m A P N).1 (wrapR e m A P N).2 k := ⟨_, rfl⟩
    rw [← hS] at h1 h2
    have hu : unR d m N (wrapR e m A P N).1 (wrapR e m A P N).2 (k + 1) = (d (bothF (countF S.1 (t + 1)) fun j => S.2 (at_ + j)), cpy at_ 8 S.2 fun j => d (bothF (countF S.1 (t + 1)) fun j => S.2 (at_ + j)) (8 + j)) := by
      have e1 : N - k - 1 = t := by omega
      show (d (bothF (countF (unR d m N (wrapR e m A P N).1 (wrapR e m A P N).2 k).1 (N - k)) fun j => (unR d m N (wrapR e m A P N).1 (wrapR e m A P N).2 k).2 ((N - k - 1) * 8 % m + j)), cpy ((N - k - 1) * 8 % m) 8 (unR d m N (wrapR e m A P N).1 (wrapR e m A P N).2 k).2 fun j => d (bothF (countF (unR d m N (wrapR e m A P N).1 (wrapR e m A P N).2 k).1 (N - k)) fun j => (unR d m N (wrapR e m A P N).1 (wrapR e m A P N).2 k).2 ((N - k - 1) * 8 % m + j)) (8 + j)) = _
      rw [← hS, e1, ht, ← hat]
    have harg : E16 (bothF (countF S.1 (t + 1)) fun j => S.2 (at_ + j)) B := fun j hj => by
      unfold bothF
      by_cases h : j < 8
      · rw [if_pos h, countF_congr h1 (t + 1) j h]
        exact countF_twice B (t + 1) j
      · rw [if_neg h]
        show S.2 (at_ + (j - 8)) = B j
        rw [h2 (at_ + (j - 8)) (by omega)]
        show (if at_ ≤ at_ + (j - 8) ∧ at_ + (j - 8) < at_ + 8 then B (8 + (at_ + (j - 8) - at_)) else T.2 (at_ + (j - 8))) = B j
        rw [if_pos (by omega), show 8 + (at_ + (j - 8) - at_) = j by omega]
    have hres : E16 (d (bothF (countF S.1 (t + 1)) fun j => S.2 (at_ + j))) (bothF T.1 fun j => T.2 (at_ + j)) := by
      refine (hd _ _ harg).trans ?_
      rw [hB]
      exact hde _
    rw [show N - (k + 1) = t by omega, hu, ← hT]
    refine ⟨fun j hj => ?_, fun j hj => ?_⟩
    · refine (hres j (by omega)).trans ?_
      exact if_pos hj
    · show (if at_ ≤ j ∧ j < at_ + 8 then d (bothF (countF S.1 (t + 1)) fun j => S.2 (at_ + j)) (8 + (j - at_)) else S.2 j) = T.2 j
      by_cases h : at_ ≤ j ∧ j < at_ + 8
      · rw [if_pos h, hres (8 + (j - at_)) (by omega)]
        show (if 8 + (j - at_) < 8 then T.1 (8 + (j - at_)) else T.2 (at_ + (8 + (j - at_) - 8))) = T.2 j
        rw [if_neg (by omega), show at_ + (8 + (j - at_) - 8) = j by omega]
      · rw [if_neg h, h2 j hj]
        show (if at_ ≤ j ∧ j < at_ + 8 then B (8 + (j - at_)) else T.2 j) = T.2 j
        rw [if_neg h]
/-- What was wrapped comes back. -/
theorem unwrap_wrap {e d : (Nat → UInt8) → Nat → UInt8} (hd : ∀ x y, E16 x y → E16 (d x) (d y)) (hde : ∀ x, E16 (d (e x)) x) (m N : Nat) (hm : m % 8 = 0) (h0 : 0 < m) (A P : Nat → UInt8) :
    (∀ j, j < 8 → (unR d m N (wrapR e m A P N).1 (wrapR e m A P N).2 N).1 j = A j) ∧ ∀ j, j < m → (unR d m N (wrapR e m A P N).1 (wrapR e m A P N).2 N).2 j = P j := by
  have h := unR_wrapR hd hde m (m / 8) N (by omega) (by omega) A P N (Nat.le_refl _)
  rw [Nat.sub_self] at h
  exact h
end Go.Proofs.YtcpfiimbobijlaaDoor
