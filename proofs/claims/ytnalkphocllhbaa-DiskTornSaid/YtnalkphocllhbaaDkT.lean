/- What DiskTorn's disk holds. -/
import Derived.Test.YtnalkphocllhbaaDkA
namespace Go.Proofs.Ytnalkphocllhbaa
open Go Go.RowKit

def en : Nat → List Sec → List (Nat × Sec)
  | _, [] => []
  | p, s :: r => (p, s) :: en (p + 1) r
theorem en_len : ∀ (l : List Sec) (p : Nat), (en p l).length = l.length
  | [], _ => rfl
  | s :: r, p => by simp [en, en_len r]
theorem write_free : ∀ (l : List Sec) (D : Dk) (p : Nat), D.fused = false → D.write p l = (true, { D with now := sets (en p l) D.now, uns := D.uns ++ en p l })
  | [], D, p, _ => by simp [Dk.write, en, sets]
  | s :: r, D, p, h => by
    have hl : D.lasts = (true, D) := by unfold Dk.lasts; rw [if_pos h]
    show (if D.lasts.1 = true then (D.lasts.2.put p s).write (p + 1) r else (false, D.lasts.2)) = _
    rw [hl, if_pos rfl, write_free r (D.put p s) (p + 1) h]
    simp [Dk.put, en, sets]
theorem sets_en : ∀ (l : List Sec) (p : Nat) (N : List Sec) (j : Nat), p + l.length ≤ N.length → (sets (en p l) N)[j]? = if p ≤ j ∧ j < p + l.length then l[j - p]? else N[j]?
  | [], p, N, j, _ => by simp [en, sets]; omega
  | s :: r, p, N, j, h => by
    have hlen : (s :: r).length = r.length + 1 := rfl
    rw [hlen] at h ⊢
    show (sets (en (p + 1) r) (N.set p s))[j]? = _
    rw [sets_en r (p + 1) (N.set p s) j (by rw [List.length_set]; omega)]
    by_cases h1 : p + 1 ≤ j ∧ j < p + 1 + r.length
    · rw [if_pos h1, if_pos (by omega), show j - p = (j - (p + 1)) + 1 by omega, List.getElem?_cons_succ]
    · rw [if_neg h1]
      by_cases h2 : j = p
      · subst h2
        rw [if_pos (by omega), List.getElem?_set_self (by omega), Nat.sub_self]; rfl
      · rw [if_neg (by omega), List.getElem?_set_ne (Ne.symm h2)]
theorem synced_en (keep : List Bool) : ∀ (l : List Sec) (i p : Nat) (S : List Sec) (j : Nat), p + l.length ≤ S.length →
    (synced keep i (en p l) S)[j]? = if p ≤ j ∧ j < p + l.length ∧ keep.getD ((i + (j - p)) % keep.length) false = true then l[j - p]? else S[j]?
  | [], i, p, S, j, _ => by
    have : ¬ (p ≤ j ∧ j < p + ([] : List Sec).length ∧ keep.getD ((i + (j - p)) % keep.length) false = true) := by simp; omega
    rw [if_neg this]; rfl
  | s :: r, i, p, S, j, h => by
    have hlen : (s :: r).length = r.length + 1 := rfl
    rw [hlen] at h ⊢
    show (synced keep (i + 1) (en (p + 1) r) (if keep.getD (i % keep.length) false then S.set p s else S))[j]? = _
    rw [synced_en keep r (i + 1) (p + 1) _ j (by split <;> (try rw [List.length_set]) <;> omega)]
    by_cases h2 : j = p
    · subst h2
      rw [if_neg (by omega), Nat.sub_self, Nat.add_zero]
      by_cases hk : keep.getD (i % keep.length) false = true
      · rw [if_pos hk, if_pos ⟨Nat.le_refl _, by omega, hk⟩, List.getElem?_set_self (by omega)]; rfl
      · rw [if_neg hk, if_neg (fun h => hk h.2.2)]
    · have e : (if keep.getD (i % keep.length) false = true then S.set p s else S)[j]? = S[j]? := by
        split
        · rw [List.getElem?_set_ne (Ne.symm h2)]
        · rfl
      rw [e]
      by_cases h1 : p + 1 ≤ j ∧ j < p + 1 + r.length
      · have e2 : i + 1 + (j - (p + 1)) = i + (j - p) := by omega
        rw [e2, show j - p = (j - (p + 1)) + 1 by omega, List.getElem?_cons_succ]
        by_cases hk : keep.getD ((i + ((j - (p + 1)) + 1)) % keep.length) false = true
        · rw [if_pos ⟨h1.1, h1.2, hk⟩, if_pos ⟨by omega, by omega, hk⟩]
        · rw [if_neg (fun h => hk h.2.2), if_neg (fun h => hk h.2.2)]
      · rw [if_neg (fun h => h1 ⟨h.1, h.2.1⟩), if_neg (fun h => h1 ⟨by omega, by omega⟩)]
/-- k sectors of one byte. -/
abbrev fil (k : Nat) (c : UInt8) : List UInt8 := List.replicate (64 * k) c
theorem fil_len (k : Nat) (c : UInt8) : (fil k c).length = 64 * k := List.length_replicate
theorem fil_div (k : Nat) (c : UInt8) : (fil k c).length / 64 = k := by rw [fil_len]; omega
theorem fil_sec {k i : Nat} (c : UInt8) (h : i < k) : lst 64 (cutF (fil k c) (i * 64)) = List.replicate 64 c := by
  apply List.ext_getElem?
  intro j
  by_cases hj : j < 64
  · rw [lst_get hj, List.getElem?_replicate, if_pos hj]
    unfold cutF
    rw [List.getD_eq_getElem?_getD, List.getElem?_replicate, if_pos (by omega)]; rfl
  · rw [List.getElem?_eq_none (by rw [lst_len]; omega), List.getElem?_eq_none (by simp; omega)]
theorem new_len (k : Nat) : (Dk.new k).now.length = k := List.length_replicate
def T1 (k : Nat) (f : UInt8) : Dk := ((Dk.new k).writes 0 (fil k f)).2
def T2 (k : Nat) (f : UInt8) : Dk := (T1 k f).sync.2
def T3 (k : Nat) (f s : UInt8) : Dk := ((T2 k f).writes 0 (fil k s)).2
def T4 (k : Nat) (f s : UInt8) (keep : List Bool) : Dk := (T3 k f s).crash keep
theorem writes_free {D : Dk} {k : Nat} {c : UInt8} (hf : D.fused = false) (hd : D.down = false) (hk : D.now.length = k) :
    D.writes 0 (fil k c) = (0, { D with now := sets (en 0 (secs (fil k c))) D.now, uns := D.uns ++ en 0 (secs (fil k c)) }) := by
  unfold Dk.writes
  rw [if_neg (show ¬ (fil k c).length % 64 ≠ 0 by rw [fil_len]; omega), if_neg (not_not_intro (show D.has 0 _ by unfold Dk.has; rw [fil_div]; omega)), if_neg (by rw [hd]; simp), write_free _ _ _ hf]
  rfl
theorem t1 (k : Nat) (f : UInt8) : (Dk.new k).writes 0 (fil k f) = (0, T1 k f) ∧ T1 k f = { Dk.new k with now := sets (en 0 (secs (fil k f))) (Dk.new k).now, uns := en 0 (secs (fil k f)) } := by
  have h := writes_free (D := Dk.new k) (k := k) (c := f) rfl rfl (new_len k)
  unfold T1
  rw [h]
  exact ⟨rfl, rfl⟩
theorem t1_like (k : Nat) (f : UInt8) : ∃ W, Like (T1 k f) W ∧ -1 ≤ W.fuse := ⟨_, (like_writes (like_new k) (by show (-1 : Int) ≤ -1; decide) 0 (fil k f)).2, by
  unfold Dr.writes
  have hm : ∀ (l : List Sec) (W : Dr) (p : Nat), -1 ≤ W.fuse → -1 ≤ (W.write p l).2.fuse := fun l => by
    induction l with
    | nil => intro W p h; exact h
    | cons s r ih =>
      intro W p h
      show -1 ≤ ((if W.change.1 = true then (W.change.2.put p s).write (p + 1) r else (false, W.change.2)) : Bool × Dr).2.fuse
      split
      · exact ih _ _ (change_min h)
      · exact change_min h
  split
  · exact (by show (-1 : Int) ≤ -1; decide)
  · split
    · exact (by show (-1 : Int) ≤ -1; decide)
    · split
      · exact (by show (-1 : Int) ≤ -1; decide)
      · exact hm _ _ _ (by show (-1 : Int) ≤ -1; decide)⟩
theorem t1_inv (k : Nat) (f : UInt8) : (T1 k f).now = sets (T1 k f).uns (T1 k f).syn := by
  obtain ⟨W, h, _⟩ := t1_like k f
  exact h.inv
theorem t2 (k : Nat) (f : UInt8) : (T1 k f).sync = (0, T2 k f) ∧ T2 k f = { T1 k f with syn := (T1 k f).now, uns := [] } := by
  have e := (t1 k f).2
  have hd : (T1 k f).down = false := by rw [e]; rfl
  have hf : (T1 k f).fused = false := by rw [e]; rfl
  have hl : (T1 k f).lasts = (true, T1 k f) := by unfold Dk.lasts; rw [if_pos hf]
  have hs : (T1 k f).sync = (0, (T1 k f).settle [true]) := by
    unfold Dk.sync
    rw [if_neg (by rw [hd]; simp), hl, if_pos rfl]
  have h2 : T2 k f = (T1 k f).settle [true] := by unfold T2; rw [hs]
  refine ⟨by rw [hs, h2], ?_⟩
  rw [h2]
  unfold Dk.settle
  rw [back_synced (t1_inv k f), synced_true, ← t1_inv k f]
theorem t2_now (k : Nat) (f : UInt8) {j : Nat} (hj : j < k) : (T2 k f).now[j]? = some (cutF (fil k f) (j * 64)) ∧ (T2 k f).syn[j]? = some (cutF (fil k f) (j * 64)) := by
  have e : (T1 k f).now[j]? = some (cutF (fil k f) (j * 64)) := by
    rw [(t1 k f).2]
    show (sets (en 0 (secs (fil k f))) (Dk.new k).now)[j]? = _
    rw [sets_en _ _ _ _ (by rw [secs_len, fil_div, new_len]; omega), if_pos (by rw [secs_len, fil_div]; omega)]
    exact secs_get (by rw [fil_div]; exact hj)
  rw [(t2 k f).2]
  exact ⟨e, e⟩
theorem t2_len (k : Nat) (f : UInt8) : (T2 k f).now.length = k ∧ (T2 k f).syn.length = k := by
  have e : (T1 k f).now.length = k := by
    rw [(t1 k f).2]
    show (sets _ _).length = k
    rw [sets_len, new_len]
  rw [(t2 k f).2]
  exact ⟨e, e⟩
theorem t3 (k : Nat) (f s : UInt8) : (T2 k f).writes 0 (fil k s) = (0, T3 k f s) ∧ (T3 k f s).syn = (T2 k f).syn ∧ (T3 k f s).uns = en 0 (secs (fil k s)) ∧ (T3 k f s).down = false ∧ (T3 k f s).now.length = k ∧ (T3 k f s).now = sets (T3 k f s).uns (T3 k f s).syn := by
  have e := (t2 k f).2
  have e1 := (t1 k f).2
  have hd : (T2 k f).down = false := by rw [e, e1]; rfl
  have hf : (T2 k f).fused = false := by rw [e, e1]; rfl
  have h := writes_free (D := T2 k f) (k := k) (c := s) hf hd (t2_len k f).1
  have hu : (T2 k f).uns = [] := by rw [e]
  have hs : (T2 k f).syn = (T2 k f).now := by rw [e]
  have h3 : T3 k f s = { T2 k f with now := sets (en 0 (secs (fil k s))) (T2 k f).now, uns := en 0 (secs (fil k s)) } := by
    unfold T3
    rw [h, hu]; rfl
  refine ⟨by rw [h, h3, hu]; rfl, by rw [h3], by rw [h3], by rw [h3]; exact hd, by rw [h3]; show (sets _ _).length = k; rw [sets_len, (t2_len k f).1], ?_⟩
  rw [h3]
  show _ = sets (en 0 (secs (fil k s))) (T2 k f).syn
  rw [hs]
theorem t4_at (k : Nat) (f s : UInt8) (keep : List Bool) {j : Nat} (hj : j < k) : ∃ x, (T4 k f s keep).now[j]? = some x ∧ lst 64 x = List.replicate 64 (if keep.getD (j % keep.length) false then s else f) := by
  obtain ⟨_, h1, h2, _, h4, h5⟩ := t3 k f s
  have e : (T4 k f s keep).now = synced keep 0 (en 0 (secs (fil k s))) (T2 k f).syn := by
    show back (synced (keepOf keep) 0 (T3 k f s).uns (T3 k f s).syn) (T3 k f s).uns (T3 k f s).now = _
    rw [back_synced h5, synced_keepOf, h1, h2]
  rw [e, synced_en _ _ _ _ _ _ (by rw [secs_len, fil_div, (t2_len k f).2]; omega)]
  simp only [Nat.sub_zero, Nat.zero_add, Nat.zero_le, true_and, secs_len, fil_div]
  by_cases hk : keep.getD (j % keep.length) false = true
  · rw [if_pos ⟨hj, hk⟩, hk]
    exact ⟨_, secs_get (by rw [fil_div]; exact hj), by rw [if_pos rfl]; exact fil_sec s hj⟩
  · rw [if_neg (fun h => hk h.2), if_neg hk]
    exact ⟨_, (t2_now k f hj).2, fil_sec f hj⟩
theorem t4_now (k : Nat) (f s : UInt8) (keep : List Bool) : (T4 k f s keep).now.length = k := by
  show ((T3 k f s).crash keep).now.length = k
  rw [crash_now]
  exact (t3 k f s).2.2.2.2.1
theorem t4_reads (k : Nat) (f s : UInt8) (keep : List Bool) : (T4 k f s keep).reads 0 ((k : Nat) : Int) = (0, unsec (T4 k f s keep).now) := by
  have hn := t4_now k f s keep
  unfold Dk.reads
  rw [if_neg (not_not_intro (show (T4 k f s keep).has 0 _ by unfold Dk.has; rw [hn]; omega)), if_neg (show ¬ (T4 k f s keep).down = true from fun h => by cases h)]
  rw [show (0 : Int).toNat + ((k : Nat) : Int).toNat = k by omega, show (0 : Int).toNat = 0 from rfl, List.drop_zero, List.take_of_length_le (by rw [hn]; exact Nat.le_refl _)]
theorem unsec_at : ∀ (l : List Sec) (i : Nat) (x : Sec), l[i]? = some x → ((unsec l).take (64 * i + 64)).drop (64 * i) = lst 64 x
  | [], i, x, h => by simp at h
  | a :: r, 0, x, h => by
    obtain rfl : a = x := by simpa using h
    show ((lst 64 a ++ unsec r).take 64).drop 0 = _
    rw [List.drop_zero, List.take_left' (lst_len 64 a)]
  | a :: r, i + 1, x, h => by
    have ih := unsec_at r i x (by simpa using h)
    show ((lst 64 a ++ unsec r).take (64 * (i + 1) + 64)).drop (64 * (i + 1)) = _
    rw [show 64 * (i + 1) + 64 = (lst 64 a).length + (64 * i + 64) by rw [lst_len]; omega, show 64 * (i + 1) = (lst 64 a).length + 64 * i by rw [lst_len]; omega, List.take_length_add_append, List.drop_length_add_append]
    exact ih
theorem torn_at {k i : Nat} (f s : UInt8) (keep : List Bool) (hi : i < k) : ((unsec (T4 k f s keep).now).take (64 * i + 64)).drop (64 * i) = List.replicate 64 (if keep.getD (i % keep.length) false then s else f) := by
  obtain ⟨x, hx, hl⟩ := t4_at k f s keep hi
  rw [unsec_at _ _ _ hx, hl]
end Go.Proofs.Ytnalkphocllhbaa
