/- The program's disk, as mathematics: what settling does, what is written one behind the other. -/
import Derived.Test.YtglplhbhpaegeaaDkW
namespace Go.Proofs.Ytglplhbhpaegeaa
open Go Go.RowKit

def sets (U : List (Nat × Sec)) (S : List Sec) : List Sec := U.foldl (fun N c => N.set c.1 c.2) S
/-! ### Settling -/
theorem sets_len : ∀ (U : List (Nat × Sec)) (S : List Sec), (sets U S).length = S.length
  | [], _ => rfl
  | c :: r, S => by show (sets r (S.set c.1 c.2)).length = _; rw [sets_len r, List.length_set]
theorem sets_other {j : Nat} : ∀ (U : List (Nat × Sec)) (S : List Sec), (∀ c ∈ U, c.1 ≠ j) → (sets U S)[j]? = S[j]?
  | [], _, _ => rfl
  | c :: r, S, h => by
    show (sets r (S.set c.1 c.2))[j]? = _
    rw [sets_other r _ fun d hd => h d (List.mem_cons_of_mem _ hd), List.getElem?_set_ne (h c (by simp))]
theorem synced_other {j : Nat} (keep : List Bool) : ∀ (U : List (Nat × Sec)) (i : Nat) (S : List Sec), (∀ c ∈ U, c.1 ≠ j) → (synced keep i U S)[j]? = S[j]?
  | [], _, _, _ => rfl
  | c :: r, i, S, h => by
    show (synced keep (i + 1) r _)[j]? = _
    rw [synced_other keep r (i + 1) _ fun d hd => h d (List.mem_cons_of_mem _ hd)]
    split
    · rw [List.getElem?_set_ne (h c (by simp))]
    · rfl
theorem back_all (S : List Sec) : ∀ (U : List (Nat × Sec)) (N : List Sec), N.length = S.length → (∀ j, (∀ c ∈ U, c.1 ≠ j) → N[j]? = S[j]?) → back S U N = S
  | [], N, _, h => List.ext_getElem? fun j => h j (fun _ hc => by cases hc)
  | c :: r, N, hn, h => by
    show back S r (N.set c.1 (S.getD c.1 fun _ => 0)) = S
    refine back_all S r _ (by rw [List.length_set]; exact hn) fun j hj => ?_
    by_cases hc : c.1 = j
    · subst hc
      by_cases hl : c.1 < N.length
      · rw [List.getElem?_set_self hl, List.getD_eq_getElem?_getD, List.getElem?_eq_getElem (by omega)]; rfl
      · rw [List.getElem?_eq_none (by rw [List.length_set]; omega), List.getElem?_eq_none (by omega)]
    · rw [List.getElem?_set_ne hc]
      exact h j fun d hd => by
        rcases List.mem_cons.1 hd with rfl | hd
        · exact hc
        · exact hj d hd
theorem back_synced {D : Dk} (hi : D.now = sets D.uns D.syn) (keep : List Bool) : back (synced keep 0 D.uns D.syn) D.uns D.now = synced keep 0 D.uns D.syn := by
  refine back_all _ _ _ (by rw [synced_len, hi, sets_len]) fun j hj => ?_
  rw [synced_other keep _ _ _ hj, hi, sets_other _ _ hj]
theorem synced_true : ∀ (U : List (Nat × Sec)) (i : Nat) (S : List Sec), synced [true] i U S = sets U S
  | [], _, _ => rfl
  | c :: r, i, S => by
    show synced [true] (i + 1) r (if ([true] : List Bool).getD (i % 1) false then S.set c.1 c.2 else S) = sets r (S.set c.1 c.2)
    rw [Nat.mod_one]
    exact synced_true r (i + 1) _
theorem synced_false : ∀ (U : List (Nat × Sec)) (i : Nat) (S : List Sec), synced [false] i U S = S
  | [], _, _ => rfl
  | c :: r, i, S => by
    show synced [false] (i + 1) r (if ([false] : List Bool).getD (i % 1) false then S.set c.1 c.2 else S) = S
    rw [Nat.mod_one]
    exact synced_false r (i + 1) _
theorem synced_nil : ∀ (U : List (Nat × Sec)) (i : Nat) (S : List Sec), synced [] i U S = S
  | [], _, _ => rfl
  | _ :: r, i, S => synced_nil r (i + 1) S
theorem synced_keepOf (keep : List Bool) (U : List (Nat × Sec)) (S : List Sec) : synced (keepOf keep) 0 U S = synced keep 0 U S := by
  unfold keepOf
  split
  · rename_i h
    obtain rfl := List.eq_nil_of_length_eq_zero h
    rw [synced_false, synced_nil]
  · rfl
/-! ### How many sectors are unsynced -/
theorem write_uns : ∀ (l : List Sec) (D : Dk) (p : Nat), (D.write p l).2.uns.length ≤ D.uns.length + l.length ∧ (D.write p l).2.now.length = D.now.length
  | [], _, _ => ⟨Nat.le_refl _, rfl⟩
  | s :: r, D, p => by
    show ((if D.lasts.1 = true then (D.lasts.2.put p s).write (p + 1) r else (false, D.lasts.2)) : Bool × Dk).2.uns.length ≤ _ ∧ ((if D.lasts.1 = true then (D.lasts.2.put p s).write (p + 1) r else (false, D.lasts.2)) : Bool × Dk).2.now.length = _
    split
    · obtain ⟨h1, h2⟩ := write_uns r (D.lasts.2.put p s) (p + 1)
      have e1 : (D.lasts.2.put p s).uns.length = D.uns.length + 1 := by show (_ ++ [_]).length = _; rw [List.length_append, lasts_uns]; rfl
      have e2 : (D.lasts.2.put p s).now.length = D.now.length := by show (List.set _ _ _).length = _; rw [List.length_set, lasts_now]
      rw [e1] at h1
      rw [e2] at h2
      exact ⟨by simp only [List.length_cons]; omega, h2⟩
    · exact ⟨by show D.lasts.2.uns.length ≤ _; rw [lasts_uns]; omega, by show D.lasts.2.now.length = _; rw [lasts_now]⟩
theorem writes_uns (D : Dk) (at_ : Int) (b : List UInt8) : (D.writes at_ b).2.uns.length ≤ D.uns.length + b.length / 64 ∧ (D.writes at_ b).2.now.length = D.now.length := by
  unfold Dk.writes
  split
  · exact ⟨Nat.le_add_right _ _, rfl⟩
  · split
    · exact ⟨Nat.le_add_right _ _, rfl⟩
    · split
      · exact ⟨Nat.le_add_right _ _, rfl⟩
      · have := write_uns (secs b) D at_.toNat
        rw [secs_len] at this
        exact this
theorem sync_uns (D : Dk) : D.sync.2.uns.length ≤ D.uns.length ∧ D.sync.2.now.length = D.now.length := by
  unfold Dk.sync
  split
  · exact ⟨Nat.le_refl _, rfl⟩
  · split
    · exact ⟨Nat.zero_le _, by show (back _ _ _).length = _; rw [back_len, lasts_now]⟩
    · exact ⟨by show D.lasts.2.uns.length ≤ _; rw [lasts_uns]; exact Nat.le_refl _, by show D.lasts.2.now.length = _; rw [lasts_now]⟩
theorem crash_now (D : Dk) (keep : List Bool) : (D.crash keep).now.length = D.now.length := by show (back _ _ _).length = _; rw [back_len]
def en : Nat → List Sec → List (Nat × Sec)
  | _, [] => []
  | p, s :: r => (p, s) :: en (p + 1) r
theorem en_len : ∀ (l : List Sec) (p : Nat), (en p l).length = l.length
  | [], _ => rfl
  | s :: r, p => by simp [en, en_len r]
theorem write_free : ∀ (l : List Sec) (D : Dk) (p : Nat), D.fused = false → D.write p l = (true, { D with now := sets (en p l) D.now, uns := D.uns ++ en p l })
  | [], D, p, _ => by simp [Dk.write, en, sets]
  | s :: r, D, p, h => by
    have hl : D.lasts = (true, D) := by unfold Dk.lasts; rw [if_pos h]
    show (if D.lasts.1 = true then (D.lasts.2.put p s).write (p + 1) r else (false, D.lasts.2)) = _
    rw [hl, if_pos rfl, write_free r (D.put p s) (p + 1) h]
    simp [Dk.put, en, sets]
theorem sets_en : ∀ (l : List Sec) (p : Nat) (N : List Sec) (j : Nat), p + l.length ≤ N.length → (sets (en p l) N)[j]? = if p ≤ j ∧ j < p + l.length then l[j - p]? else N[j]?
  | [], p, N, j, _ => by simp [en, sets]; omega
  | s :: r, p, N, j, h => by
    have hlen : (s :: r).length = r.length + 1 := rfl
    rw [hlen] at h ⊢
    show (sets (en (p + 1) r) (N.set p s))[j]? = _
    rw [sets_en r (p + 1) (N.set p s) j (by rw [List.length_set]; omega)]
    by_cases h1 : p + 1 ≤ j ∧ j < p + 1 + r.length
    · rw [if_pos h1, if_pos (by omega), show j - p = (j - (p + 1)) + 1 by omega, List.getElem?_cons_succ]
    · rw [if_neg h1]
      by_cases h2 : j = p
      · subst h2
        rw [if_pos (by omega), List.getElem?_set_self (by omega), Nat.sub_self]; rfl
      · rw [if_neg (by omega), List.getElem?_set_ne (Ne.symm h2)]
theorem synced_en (keep : List Bool) : ∀ (l : List Sec) (i p : Nat) (S : List Sec) (j : Nat), p + l.length ≤ S.length →
    (synced keep i (en p l) S)[j]? = if p ≤ j ∧ j < p + l.length ∧ keep.getD ((i + (j - p)) % keep.length) false = true then l[j - p]? else S[j]?
  | [], i, p, S, j, _ => by
    have : ¬ (p ≤ j ∧ j < p + ([] : List Sec).length ∧ keep.getD ((i + (j - p)) % keep.length) false = true) := by simp; omega
    rw [if_neg this]; rfl
  | s :: r, i, p, S, j, h => by
    have hlen : (s :: r).length = r.length + 1 := rfl
    rw [hlen] at h ⊢
    show (synced keep (i + 1) (en (p + 1) r) (if keep.getD (i % keep.length) false then S.set p s else S))[j]? = _
    rw [synced_en keep r (i + 1) (p + 1) _ j (by split <;> (try rw [List.length_set]) <;> omega)]
    by_cases h2 : j = p
    · subst h2
      rw [if_neg (by omega), Nat.sub_self, Nat.add_zero]
      by_cases hk : keep.getD (i % keep.length) false = true
      · rw [if_pos hk, if_pos ⟨Nat.le_refl _, by omega, hk⟩, List.getElem?_set_self (by omega)]; rfl
      · rw [if_neg hk, if_neg (fun h => hk h.2.2)]
    · have e : (if keep.getD (i % keep.length) false = true then S.set p s else S)[j]? = S[j]? := by
        split
        · rw [List.getElem?_set_ne (Ne.symm h2)]
        · rfl
      rw [e]
      by_cases h1 : p + 1 ≤ j ∧ j < p + 1 + r.length
      · have e2 : i + 1 + (j - (p + 1)) = i + (j - p) := by omega
        rw [e2, show j - p = (j - (p + 1)) + 1 by omega, List.getElem?_cons_succ]
        by_cases hk : keep.getD ((i + ((j - (p + 1)) + 1)) % keep.length) false = true
        · rw [if_pos ⟨h1.1, h1.2, hk⟩, if_pos ⟨by omega, by omega, hk⟩]
        · rw [if_neg (fun h => hk h.2.2), if_neg (fun h => hk h.2.2)]
      · rw [if_neg (fun h => h1 ⟨h.1, h.2.1⟩), if_neg (fun h => h1 ⟨by omega, by omega⟩)]
theorem unsec_at : ∀ (l : List Sec) (i : Nat) (x : Sec), l[i]? = some x → ((unsec l).take (64 * i + 64)).drop (64 * i) = lst 64 x
  | [], i, x, h => by simp at h
  | a :: r, 0, x, h => by
    obtain rfl : a = x := by simpa using h
    show ((lst 64 a ++ unsec r).take 64).drop 0 = _
    rw [List.drop_zero, List.take_left' (lst_len 64 a)]
  | a :: r, i + 1, x, h => by
    have ih := unsec_at r i x (by simpa using h)
    show ((lst 64 a ++ unsec r).take (64 * (i + 1) + 64)).drop (64 * (i + 1)) = _
    rw [show 64 * (i + 1) + 64 = (lst 64 a).length + (64 * i + 64) by rw [lst_len]; omega, show 64 * (i + 1) = (lst 64 a).length + 64 * i by rw [lst_len]; omega, List.take_length_add_append, List.drop_length_add_append]
    exact ih
theorem lst_cutF {l : List UInt8} {k n : Nat} (h : k + n ≤ l.length) : (l.drop k).take n = lst n (cutF l k) := by
  apply List.ext_getElem?
  intro j
  by_cases hj : j < n
  · rw [List.getElem?_take, if_pos hj, List.getElem?_drop, lst_get hj]
    unfold cutF
    rw [List.getD_eq_getElem?_getD, List.getElem?_eq_getElem (by omega)]; rfl
  · rw [List.getElem?_eq_none (by simp; omega), List.getElem?_eq_none (by rw [lst_len]; omega)]
end Go.Proofs.Ytglplhbhpaegeaa
