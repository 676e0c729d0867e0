/- The program's disk and the document's are alike. -/
import Derived.Test.YtnalkphocllhbaaDr
namespace Go.Proofs.Ytnalkphocllhbaa
open Go Go.RowKit

def sets (U : List (Nat × Sec)) (S : List Sec) : List Sec := U.foldl (fun N c => N.set c.1 c.2) S
structure Like (D : Dk) (W : Dr) : Prop where
  now : D.now = W.is
  syn : D.syn = W.kept
  uns : D.uns = W.l
  down : D.down = W.gone
  fused : D.fused = decide (0 ≤ W.fuse)
  left : D.fused = true → D.left = W.fuse
  inv : D.now = sets D.uns D.syn

theorem like_new (m : Nat) : Like (Dk.new m) (Dr.new m) := ⟨rfl, rfl, rfl, rfl, rfl, (fun h => by cases h), rfl⟩
theorem like_lasts {D : Dk} {W : Dr} (h : Like D W) (hm : -1 ≤ W.fuse) (hd : D.down = false) : D.lasts.1 = W.change.1 ∧ Like D.lasts.2 W.change.2 := by
  have hg : W.gone = false := by rw [← h.down]; exact hd
  unfold Dk.lasts Dr.change
  rw [if_neg (show ¬ W.gone = true by rw [hg]; simp)]
  by_cases hf : D.fused = false
  · rw [if_pos hf]
    have h1 : W.fuse = -1 := by
      have := h.fused
      rw [hf] at this
      have := of_decide_eq_false this.symm
      omega
    rw [if_neg (show ¬ W.fuse = 0 by omega)]
    refine ⟨rfl, h.now, h.syn, h.uns, h.down, ?_, fun h2 => ?_, h.inv⟩
    · show D.fused = decide (0 ≤ max (W.fuse - 1) (-1))
      rw [hf]; exact (decide_eq_false (by omega)).symm
    · have h3 : D.fused = true := h2
      rw [hf] at h3; cases h3
  · rw [if_neg hf]
    have hf' : D.fused = true := by simpa using hf
    have hl := h.left hf'
    have h0 : 0 ≤ W.fuse := of_decide_eq_true (by rw [← h.fused]; exact hf')
    by_cases hz : D.left = 0
    · rw [if_pos hz, if_pos (show W.fuse = 0 by omega)]
      exact ⟨rfl, h.now, h.syn, h.uns, rfl, h.fused, h.left, h.inv⟩
    · rw [if_neg hz, if_neg (show ¬ W.fuse = 0 by omega)]
      refine ⟨rfl, h.now, h.syn, h.uns, h.down, ?_, fun _ => ?_, h.inv⟩
      · show D.fused = decide (0 ≤ max (W.fuse - 1) (-1))
        rw [hf']; exact (decide_eq_true (by omega)).symm
      · show D.left - 1 = max (W.fuse - 1) (-1)
        omega
theorem like_put {D : Dk} {W : Dr} (h : Like D W) (p : Nat) (s : Sec) : Like (D.put p s) (W.put p s) := by
  refine ⟨?_, h.syn, ?_, h.down, h.fused, h.left, ?_⟩
  · show D.now.set p s = W.is.set p s
    rw [h.now]
  · show D.uns ++ [(p, s)] = W.l ++ [(p, s)]
    rw [h.uns]
  · show D.now.set p s = sets (D.uns ++ [(p, s)]) D.syn
    unfold sets
    rw [List.foldl_append, h.inv]; rfl
theorem change_min {W : Dr} (h : -1 ≤ W.fuse) : -1 ≤ W.change.2.fuse := by
  unfold Dr.change
  split
  · exact h
  · split
    · exact h
    · show -1 ≤ max (W.fuse - 1) (-1); omega
theorem like_write : ∀ (l : List Sec) {D : Dk} {W : Dr} (p : Nat), Like D W → -1 ≤ W.fuse → D.down = false → (D.write p l).1 = (W.write p l).1 ∧ Like (D.write p l).2 (W.write p l).2
  | [], _, _, _, h, _, _ => ⟨rfl, h⟩
  | s :: r, D, W, p, h, hm, hd => by
    obtain ⟨h1, h2⟩ := like_lasts h hm hd
    show ((if D.lasts.1 = true then (D.lasts.2.put p s).write (p + 1) r else (false, D.lasts.2)) : Bool × Dk).1 = ((if W.change.1 = true then (W.change.2.put p s).write (p + 1) r else (false, W.change.2)) : Bool × Dr).1 ∧ _
    show _ ∧ Like ((if D.lasts.1 = true then (D.lasts.2.put p s).write (p + 1) r else (false, D.lasts.2)) : Bool × Dk).2 ((if W.change.1 = true then (W.change.2.put p s).write (p + 1) r else (false, W.change.2)) : Bool × Dr).2
    rw [← h1]
    by_cases hb : D.lasts.1 = true
    · rw [if_pos hb, if_pos hb]
      exact like_write r (p + 1) (like_put h2 p s) (change_min hm) (by show D.lasts.2.down = false; rw [lasts_down hb]; exact hd)
    · rw [if_neg hb, if_neg hb]
      exact ⟨rfl, h2⟩
theorem like_writes {D : Dk} {W : Dr} (h : Like D W) (hm : -1 ≤ W.fuse) (at_ : Int) (b : List UInt8) : (D.writes at_ b).1 = (W.writes at_ b).1 ∧ Like (D.writes at_ b).2 (W.writes at_ b).2 := by
  unfold Dk.writes Dr.writes
  have hh : D.has at_ ((b.length / 64 : Nat) : Int) ↔ W.has at_ ((b.length / 64 : Nat) : Int) := by
    unfold Dk.has Dr.has
    rw [h.now]
  by_cases h1 : b.length % 64 ≠ 0
  · rw [if_pos h1, if_pos h1]; exact ⟨rfl, h⟩
  · rw [if_neg h1, if_neg h1]
    by_cases h2 : D.has at_ ((b.length / 64 : Nat) : Int)
    · rw [if_neg (not_not_intro h2), if_neg (not_not_intro (hh.1 h2))]
      by_cases h3 : D.down = true
      · rw [if_pos h3, if_pos (h.down ▸ h3)]; exact ⟨rfl, h⟩
      · rw [if_neg h3, if_neg (show ¬ W.gone = true by rw [← h.down]; exact h3)]
        obtain ⟨h4, h5⟩ := like_write (secs b) at_.toNat h hm (by simpa using h3)
        rw [h4]
        exact ⟨rfl, h5⟩
    · rw [if_pos h2, if_pos (fun h3 => h2 (hh.2 h3))]; exact ⟨rfl, h⟩
theorem like_reads {D : Dk} {W : Dr} (h : Like D W) (at_ n : Int) : D.reads at_ n = W.reads at_ n := by
  have hh : D.has at_ n ↔ W.has at_ n := by
    unfold Dk.has Dr.has
    rw [h.now]
  unfold Dk.reads Dr.reads
  by_cases h2 : D.has at_ n
  · rw [if_neg (not_not_intro h2), if_neg (not_not_intro (hh.1 h2)), h.down, h.now]
  · rw [if_pos h2, if_pos (fun h3 => h2 (hh.2 h3))]
/-! ### Settling -/
theorem sets_len : ∀ (U : List (Nat × Sec)) (S : List Sec), (sets U S).length = S.length
  | [], _ => rfl
  | c :: r, S => by show (sets r (S.set c.1 c.2)).length = _; rw [sets_len r, List.length_set]
theorem sets_other {j : Nat} : ∀ (U : List (Nat × Sec)) (S : List Sec), (∀ c ∈ U, c.1 ≠ j) → (sets U S)[j]? = S[j]?
  | [], _, _ => rfl
  | c :: r, S, h => by
    show (sets r (S.set c.1 c.2))[j]? = _
    rw [sets_other r _ fun d hd => h d (List.mem_cons_of_mem _ hd), List.getElem?_set_ne (h c (by simp))]
theorem synced_other {j : Nat} (keep : List Bool) : ∀ (U : List (Nat × Sec)) (i : Nat) (S : List Sec), (∀ c ∈ U, c.1 ≠ j) → (synced keep i U S)[j]? = S[j]?
  | [], _, _, _ => rfl
  | c :: r, i, S, h => by
    show (synced keep (i + 1) r _)[j]? = _
    rw [synced_other keep r (i + 1) _ fun d hd => h d (List.mem_cons_of_mem _ hd)]
    split
    · rw [List.getElem?_set_ne (h c (by simp))]
    · rfl
theorem back_all (S : List Sec) : ∀ (U : List (Nat × Sec)) (N : List Sec), N.length = S.length → (∀ j, (∀ c ∈ U, c.1 ≠ j) → N[j]? = S[j]?) → back S U N = S
  | [], N, _, h => List.ext_getElem? fun j => h j (fun _ hc => by cases hc)
  | c :: r, N, hn, h => by
    show back S r (N.set c.1 (S.getD c.1 fun _ => 0)) = S
    refine back_all S r _ (by rw [List.length_set]; exact hn) fun j hj => ?_
    by_cases hc : c.1 = j
    · subst hc
      by_cases hl : c.1 < N.length
      · rw [List.getElem?_set_self hl, List.getD_eq_getElem?_getD, List.getElem?_eq_getElem (by omega)]; rfl
      · rw [List.getElem?_eq_none (by rw [List.length_set]; omega), List.getElem?_eq_none (by omega)]
    · rw [List.getElem?_set_ne hc]
      exact h j fun d hd => by
        rcases List.mem_cons.1 hd with rfl | hd
        · exact hc
        · exact hj d hd
theorem back_synced {D : Dk} (hi : D.now = sets D.uns D.syn) (keep : List Bool) : back (synced keep 0 D.uns D.syn) D.uns D.now = synced keep 0 D.uns D.syn := by
  refine back_all _ _ _ (by rw [synced_len, hi, sets_len]) fun j hj => ?_
  rw [synced_other keep _ _ _ hj, hi, sets_other _ _ hj]
theorem synced_true : ∀ (U : List (Nat × Sec)) (i : Nat) (S : List Sec), synced [true] i U S = sets U S
  | [], _, _ => rfl
  | c :: r, i, S => by
    show synced [true] (i + 1) r (if ([true] : List Bool).getD (i % 1) false then S.set c.1 c.2 else S) = sets r (S.set c.1 c.2)
    rw [Nat.mod_one]
    exact synced_true r (i + 1) _
theorem synced_false : ∀ (U : List (Nat × Sec)) (i : Nat) (S : List Sec), synced [false] i U S = S
  | [], _, _ => rfl
  | c :: r, i, S => by
    show synced [false] (i + 1) r (if ([false] : List Bool).getD (i % 1) false then S.set c.1 c.2 else S) = S
    rw [Nat.mod_one]
    exact synced_false r (i + 1) _
theorem synced_nil : ∀ (U : List (Nat × Sec)) (i : Nat) (S : List Sec), synced [] i U S = S
  | [], _, _ => rfl
  | _ :: r, i, S => synced_nil r (i + 1) S
theorem synced_keepOf (keep : List Bool) (U : List (Nat × Sec)) (S : List Sec) : synced (keepOf keep) 0 U S = synced keep 0 U S := by
  unfold keepOf
  split
  · rename_i h
    obtain rfl := List.eq_nil_of_length_eq_zero h
    rw [synced_false, synced_nil]
  · rfl
theorem like_crash {D : Dk} {W : Dr} (h : Like D W) (keep : List Bool) : Like (D.crash keep) (W.crash keep) := by
  have e : synced (keepOf keep) 0 D.uns D.syn = synced keep 0 W.l W.kept := by rw [synced_keepOf, h.uns, h.syn]
  refine ⟨?_, e, rfl, rfl, rfl, (fun h => by cases h), ?_⟩
  · show back (synced (keepOf keep) 0 D.uns D.syn) D.uns D.now = _
    rw [back_synced h.inv]; exact e
  · show back (synced (keepOf keep) 0 D.uns D.syn) D.uns D.now = sets [] (synced (keepOf keep) 0 D.uns D.syn)
    rw [back_synced h.inv]; rfl
theorem like_sync {D : Dk} {W : Dr} (h : Like D W) (hm : -1 ≤ W.fuse) : D.sync.1 = W.sync.1 ∧ Like D.sync.2 W.sync.2 := by
  unfold Dk.sync Dr.sync
  by_cases hd : D.down = true
  · have hc : W.change = (false, W) := by unfold Dr.change; rw [if_pos (h.down ▸ hd)]
    rw [if_pos hd, hc]
    exact ⟨rfl, h⟩
  · obtain ⟨h1, h2⟩ := like_lasts h hm (by simpa using hd)
    rw [if_neg hd, ← h1]
    by_cases hb : D.lasts.1 = true
    · rw [if_pos hb, if_pos hb]
      have e : synced [true] 0 D.lasts.2.uns D.lasts.2.syn = D.lasts.2.now := by rw [synced_true, h2.inv]
      refine ⟨rfl, ?_, ?_, rfl, h2.down, h2.fused, h2.left, ?_⟩
      · show back (synced [true] 0 D.lasts.2.uns D.lasts.2.syn) D.lasts.2.uns D.lasts.2.now = W.change.2.is
        rw [back_synced h2.inv, e, h2.now]
      · show synced [true] 0 D.lasts.2.uns D.lasts.2.syn = W.change.2.is
        rw [e, h2.now]
      · show back (synced [true] 0 D.lasts.2.uns D.lasts.2.syn) D.lasts.2.uns D.lasts.2.now = sets [] (synced [true] 0 D.lasts.2.uns D.lasts.2.syn)
        rw [back_synced h2.inv]; rfl
    · rw [if_neg hb, if_neg hb]
      exact ⟨rfl, h2⟩
theorem like_fuse {D : Dk} {W : Dr} (h : Like D W) (n : Int) : Like { D with fused := decide (0 ≤ n), left := n } { W with fuse := max n (-1) } := by
  refine ⟨h.now, h.syn, h.uns, h.down, ?_, fun h2 => ?_, h.inv⟩
  · show decide (0 ≤ n) = decide (0 ≤ max n (-1))
    exact dc (by omega)
  · show n = max n (-1)
    have : 0 ≤ n := of_decide_eq_true h2
    omega
/-! ### How many sectors are unsynced -/
theorem write_uns : ∀ (l : List Sec) (D : Dk) (p : Nat), (D.write p l).2.uns.length ≤ D.uns.length + l.length ∧ (D.write p l).2.now.length = D.now.length
  | [], _, _ => ⟨Nat.le_refl _, rfl⟩
  | s :: r, D, p => by
    show ((if D.lasts.1 = true then (D.lasts.2.put p s).write (p + 1) r else (false, D.lasts.2)) : Bool × Dk).2.uns.length ≤ _ ∧ ((if D.lasts.1 = true then (D.lasts.2.put p s).write (p + 1) r else (false, D.lasts.2)) : Bool × Dk).2.now.length = _
    split
    · obtain ⟨h1, h2⟩ := write_uns r (D.lasts.2.put p s) (p + 1)
      have e1 : (D.lasts.2.put p s).uns.length = D.uns.length + 1 := by show (_ ++ [_]).length = _; rw [List.length_append, lasts_uns]; rfl
      have e2 : (D.lasts.2.put p s).now.length = D.now.length := by show (List.set _ _ _).length = _; rw [List.length_set, lasts_now]
      rw [e1] at h1
      rw [e2] at h2
      exact ⟨by simp only [List.length_cons]; omega, h2⟩
    · exact ⟨by show D.lasts.2.uns.length ≤ _; rw [lasts_uns]; omega, by show D.lasts.2.now.length = _; rw [lasts_now]⟩
theorem writes_uns (D : Dk) (at_ : Int) (b : List UInt8) : (D.writes at_ b).2.uns.length ≤ D.uns.length + b.length / 64 ∧ (D.writes at_ b).2.now.length = D.now.length := by
  unfold Dk.writes
  split
  · exact ⟨Nat.le_add_right _ _, rfl⟩
  · split
    · exact ⟨Nat.le_add_right _ _, rfl⟩
    · split
      · exact ⟨Nat.le_add_right _ _, rfl⟩
      · have := write_uns (secs b) D at_.toNat
        rw [secs_len] at this
        exact this
theorem sync_uns (D : Dk) : D.sync.2.uns.length ≤ D.uns.length ∧ D.sync.2.now.length = D.now.length := by
  unfold Dk.sync
  split
  · exact ⟨Nat.le_refl _, rfl⟩
  · split
    · exact ⟨Nat.zero_le _, by show (back _ _ _).length = _; rw [back_len, lasts_now]⟩
    · exact ⟨by show D.lasts.2.uns.length ≤ _; rw [lasts_uns]; exact Nat.le_refl _, by show D.lasts.2.now.length = _; rw [lasts_now]⟩
theorem crash_now (D : Dk) (keep : List Bool) : (D.crash keep).now.length = D.now.length := by show (back _ _ _).length = _; rw [back_len]
end Go.Proofs.Ytnalkphocllhbaa
