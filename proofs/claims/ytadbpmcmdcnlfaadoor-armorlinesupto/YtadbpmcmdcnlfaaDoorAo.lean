/- What the walks of the program's Decode lean on. No program. -/
import Derived.Test.YtadbpmcmdcnlfaaDoorAl
import Derived.Lib.SlTrimSet
import Derived.Lib.IndexMore
namespace Go.Proofs.YtadbpmcmdcnlfaaDoor

/-! ### Headers -/
theorem let_mem (c : UInt8) : letL.contains c = isLet c := by
  have key : ∀ n, n < 256 → letL.contains (UInt8.ofNat n) = isLet (UInt8.ofNat n) := by decide +kernel
  have := key c.toNat c.toNat_lt
  rwa [UInt8.ofNat_toNat] at this
theorem dropWhile_nil {α : Type} (p : α → Bool) : ∀ l : List α, l.dropWhile p = [] ↔ ∀ x ∈ l, p x = true
  | [] => by simp
  | a :: l => by
    by_cases h : p a = true
    · rw [List.dropWhile_cons_of_pos h, dropWhile_nil p l]
      simp [h]
    · rw [List.dropWhile_cons_of_neg h]
      simp [h]
theorem trimS_nil (l : List UInt8) : Lib.trimS l letL = [] ↔ ∀ c ∈ l, isLet c = true := by
  unfold Lib.trimS Lib.trimLeftS Lib.trimRightS
  constructor
  · intro h c hc
    rw [dropWhile_nil] at h
    refine Decidable.byContradiction fun hn => ?_
    -- c stands in what is left from the right
    have h2 : ∀ x ∈ (l.reverse.dropWhile (letL.contains ·)).reverse, isLet x = true := fun x hx => by rw [← let_mem]; exact h x hx
    have h3 : l.reverse.dropWhile (letL.contains ·) = [] := by
      cases hd : l.reverse.dropWhile (letL.contains ·) with
      | nil => rfl
      | cons a r =>
        have ha : a ∈ (l.reverse.dropWhile (letL.contains ·)).reverse := by rw [hd]; simp
        have h4 := h2 a ha
        have h5 := List.head?_dropWhile_not (letL.contains ·) l.reverse
        rw [hd] at h5
        have h6 : letL.contains a = false := h5
        rw [let_mem, h4] at h6
        cases h6
    rw [dropWhile_nil] at h3
    have := h3 c (List.mem_reverse.2 hc)
    rw [let_mem] at this
    exact hn this
  · intro h
    have h3 : l.reverse.dropWhile (letL.contains ·) = [] := by
      rw [dropWhile_nil]
      intro x hx
      rw [let_mem]; exact h x (List.mem_reverse.1 hx)
    rw [h3]; rfl
theorem takeWhile_at {p : UInt8 → Bool} : ∀ (l : List UInt8) (i : Nat), (∀ c ∈ l.take i, p c = true) → (∀ c, l[i]? = some c → p c = false) → i ≤ l.length → l.takeWhile p = l.take i
  | [], i, _, _, _ => by simp
  | a :: l, 0, _, h, _ => by
    have := h a rfl
    rw [List.takeWhile_cons_of_neg (by rw [this]; simp)]; rfl
  | a :: l, i + 1, h1, h2, h3 => by
    rw [List.takeWhile_cons_of_pos (h1 a (by simp)), takeWhile_at l i (fun c hc => h1 c (by simp [hc])) (fun c hc => h2 c (by simpa using hc)) (by simpa using h3)]
    rfl
theorem occ_get {l : List UInt8} {i : Nat} (h : Lib.occAt l [58, 32] i = true) : l[i]? = some 58 ∧ (l.drop i).take 2 = [58, 32] ∧ i + 2 ≤ l.length := by
  unfold Lib.occAt at h
  obtain ⟨t, ht⟩ := List.isPrefixOf_iff_prefix.1 h
  have hl := congrArg List.length ht
  simp only [List.length_append, List.length_cons, List.length_nil, List.length_drop] at hl
  refine ⟨?_, ?_, by omega⟩
  · have := congrArg (fun x => x[0]?) ht
    simp at this
    exact this.symm
  · rw [← ht]; simp
theorem occ_of {l : List UInt8} {i : Nat} (h : (l.drop i).take 2 = [58, 32]) : Lib.occAt l [58, 32] i = true := by
  unfold Lib.occAt
  refine List.isPrefixOf_iff_prefix.2 ⟨(l.drop i).drop 2, ?_⟩
  rw [← h, List.take_append_drop]
theorem head_let : isLet 58 = false := by decide
/-- What the program asks of a line. -/
theorem hdr_prog (l : List UInt8) : ((Lib.cut l [58, 32]).2.2 && (decide ((Lib.cut l [58, 32]).1 ≠ []) && decide (Lib.trimS (Lib.cut l [58, 32]).1 letL = []))) = hdr l := by
  unfold Lib.cut
  rcases Lib.index_spec l [58, 32] with ⟨h1, h2⟩ | ⟨i, h1, hi, h2, h3⟩
  · rw [h1, if_neg (by decide)]
    simp only [Bool.false_and]
    symm
    refine Bool.eq_false_iff.2 fun hh => ?_
    unfold hdr at hh
    simp only [Bool.and_eq_true, decide_eq_true_eq] at hh
    have := h2 (nlet l) (by omega)
    rw [occ_of hh.2.2] at this
    cases this
  · obtain ⟨g1, g2, g3⟩ := occ_get h2
    have e0 : (0 : Int) ≤ (i : Int) := by omega
    rw [h1, if_pos e0]
    simp only [Int.toNat_natCast, Bool.true_and]
    rw [Bool.eq_iff_iff, Bool.and_eq_true, decide_eq_true_eq, decide_eq_true_eq, trimS_nil]
    constructor
    · rintro ⟨ha, hb⟩
      have htw : l.takeWhile isLet = l.take i := takeWhile_at l i hb (fun c hc => by rw [g1] at hc; obtain rfl := Option.some.inj hc; exact head_let) hi
      have hn : nlet l = i := by unfold nlet; rw [htw, List.length_take]; omega
      unfold hdr
      rw [hn]
      have hi0 : 0 < i := by
        rcases Nat.eq_zero_or_pos i with h0 | h0
        · subst h0; simp at ha
        · exact h0
      simp [hi0, g2, g3]
    · intro hh
      unfold hdr at hh
      simp only [Bool.and_eq_true, decide_eq_true_eq] at hh
      obtain ⟨k1, k2, k3⟩ := hh
      have hall : ∀ c ∈ l.take (nlet l), isLet c = true := fun c hc => by
        have e : l.take (nlet l) = l.takeWhile isLet := by
          have hp : l.takeWhile isLet <+: l := List.takeWhile_prefix _
          exact (List.prefix_iff_eq_take.1 hp).symm
        rw [e] at hc
        exact List.all_eq_true.1 List.all_takeWhile c hc
      have hle : i = nlet l := by
        rcases Nat.lt_trichotomy i (nlet l) with h | h | h
        · exfalso
          have hm : (58 : UInt8) ∈ l.take (nlet l) := by
            refine List.mem_of_getElem? (i := i) ?_
            rw [List.getElem?_take, if_pos h, g1]
          have := hall 58 hm
          rw [head_let] at this; cases this
        · exact h
        · have := h3 (nlet l) h
          rw [occ_of k3] at this; cases this
      rw [hle]
      refine ⟨?_, hall⟩
      intro e
      have := congrArg List.length e
      rw [List.length_take, List.length_nil] at this
      omega
/-! ### To the empty line -/
theorem te_empty {q : List UInt8} (h : rdL q = []) : teL (lns q) = some (lns (rdR q)) := by
  by_cases hq : q = []
  · subst hq; rfl
  · rw [lns_step q, if_neg hq, teL, if_pos h]
theorem te_bad {q : List UInt8} (h : rdL q ≠ []) (h2 : hdr (rdL q) = false) : teL (lns q) = none := by
  rw [lns_step q, if_neg (rdL_nil h), teL, if_neg h, if_pos h2]
theorem te_go {q : List UInt8} (h : rdL q ≠ []) (h2 : hdr (rdL q) = true) : teL (lns q) = teL (lns (rdR q)) := by
  rw [lns_step q, if_neg (rdL_nil h), teL, if_neg h, if_neg (by rw [h2]; simp)]
/-! ### The lines of bytes -/
theorem rd_len (q : List UInt8) : (rdL q).length + (rdR q).length ≤ q.length := by
  have := cutN_len q
  unfold rdL rdR
  split
  · have := bare_len (cutN q).1; omega
  · omega
theorem bd_stop {q acc : List UInt8} (h : stopL (rdL q) = true) : bdL acc (lns q) = some (acc, rdL q, lns (rdR q)) := by
  by_cases hq : q = []
  · subst hq; rfl
  · rw [lns_step q, if_neg hq, bdL, if_pos h]
theorem bd_bad {q acc : List UInt8} (h : stopL (rdL q) = false) (h2 : badL (rdL q) = true) : bdL acc (lns q) = none := by
  have hq : q ≠ [] := by rintro rfl; cases h
  rw [lns_step q, if_neg hq, bdL, if_neg (by rw [h]; simp), if_pos h2]
theorem bd_go {q acc : List UInt8} (h : stopL (rdL q) = false) (h2 : badL (rdL q) = false) : bdL acc (lns q) = bdL (acc ++ rdL q) (lns (rdR q)) := by
  have hq : q ≠ [] := by rintro rfl; cases h
  rw [lns_step q, if_neg hq, bdL, if_neg (by rw [h]; simp), if_neg (by rw [h2]; simp)]
theorem stop_nil {l : List UInt8} (h : l = []) : stopL l = true := by subst h; rfl
theorem byte_eq {x : UInt8} {n : Nat} (hn : n < 256) (h : x.toNat = n) : x = UInt8.ofNat n := by
  rw [← UInt8.toNat_inj, UInt8.toNat_ofNat', Nat.mod_eq_of_lt hn]; exact h
theorem head_at {l : List UInt8} {x : UInt8} (h : l[0]? = some x) : l.head? = some x := by rw [List.head?_eq_getElem?]; exact h
theorem stop_61 {l : List UInt8} {x : UInt8} (h : l[0]? = some x) (hx : x.toNat = 61) : stopL l = true := by
  have := byte_eq (by decide) hx
  subst this
  simp only [stopL, head_at h]
  cases l == [] <;> rfl
theorem stop_45 {l : List UInt8} {x : UInt8} (h : l[0]? = some x) (hx : x.toNat = 45) : stopL l = true := by
  have := byte_eq (by decide) hx
  subst this
  simp only [stopL, head_at h]
  cases l == [] <;> rfl
theorem stop_no {l : List UInt8} {x : UInt8} (h : l[0]? = some x) (h1 : ¬ x.toNat = 61) (h2 : ¬ x.toNat = 45) : stopL l = false := by
  have e1 : x ≠ 61 := fun e => h1 (by rw [e]; rfl)
  have e2 : x ≠ 45 := fun e => h2 (by rw [e]; rfl)
  have e3 : l ≠ [] := by rintro rfl; cases h
  simp [stopL, head_at h, e1, e2, e3]
theorem bad_len {l : List UInt8} (h : l.length > 76) : badL l = true := by simp [badL]; omega
theorem bad_mod {l : List UInt8} (h : l.length % 4 ≠ 0) : badL l = true := by simp [badL]; omega
theorem bad_no {l : List UInt8} (h : ¬ l.length > 76) (h2 : ¬ l.length % 4 ≠ 0) : badL l = false := by simp [badL]; omega
/-! ### What body answers -/
abbrev BdR := Option (List UInt8 × List UInt8 × List (List UInt8))
def bA : BdR → List UInt8
  | none => []
  | some (a, _, _) => (unP a).getD []
def bl' : BdR → List UInt8
  | none => []
  | some (_, l, _) => l
def bok : BdR → Bool
  | none => false
  | some (a, _, _) => (unP a).isSome
def bLs : BdR → List (List UInt8)
  | none => []
  | some (_, _, L) => L
theorem acc_1 {s : List UInt8} (h : kindF (rdL s) = []) : accP (lns s) = none := by
  unfold accP
  rw [← rd_head, if_pos h]
theorem acc_2 {s : List UInt8} (h : ¬ kindF (rdL s) = []) (h2 : teL (lns (rdR s)) = none) : accP (lns s) = none := by
  unfold accP
  rw [← rd_head, if_neg h, ← rd_tail, h2]
theorem acc_3 {s : List UInt8} {L2 : List (List UInt8)} (h : ¬ kindF (rdL s) = []) (h2 : teL (lns (rdR s)) = some L2) : accP (lns s) = if bok (bdL [] L2) = true then endP (kindF (rdL s)) (bA (bdL [] L2)) (bl' (bdL [] L2)) (bLs (bdL [] L2)) else none := by
  unfold accP
  rw [← rd_head, if_neg h, ← rd_tail, h2]
  simp only
  cases hb : bdL [] L2 with
  | none => simp [bok]
  | some x =>
    obtain ⟨a, l, L3⟩ := x
    simp only [bok, bA, bl', bLs]
    obtain hu | ⟨b, hu⟩ : unP a = none ∨ ∃ b, unP a = some b := by cases unP a <;> simp
    · simp [hu]
    · simp [hu]
theorem endP_sum {k b l s2 : List UInt8} {L : List (List UInt8)} (hs : lns s2 = L) (h : l.head? = some 61) : endP k b l L = if l = sumL b ∧ rdL s2 = footK k ∧ rdR s2 = [] then some (k, b) else none := by
  unfold endP
  rw [if_pos h]
  have e1 : rdL s2 = L.headD [] := by rw [rd_head, hs]
  have e2 : rdR s2 = [] ↔ L.drop 1 = [] := by
    rw [← hs, ← rd_tail]
    exact ⟨fun e => by rw [e]; rfl, lns_nil⟩
  by_cases hc : l = sumL b ∧ L.headD [] = footK k ∧ L.drop 1 = []
  · rw [if_pos hc, if_pos ⟨hc.1, e1.trans hc.2.1, e2.2 hc.2.2⟩]
  · rw [if_neg hc, if_neg fun h3 => hc ⟨h3.1, e1.symm.trans h3.2.1, e2.1 h3.2.2⟩]
theorem endP_no {k b l s2 : List UInt8} {L : List (List UInt8)} (hs : lns s2 = L) (h : ¬ l.head? = some 61) : endP k b l L = if l = footK k ∧ s2 = [] then some (k, b) else none := by
  unfold endP
  rw [if_neg h]
  have e2 : s2 = [] ↔ L = [] := by
    rw [← hs]
    exact ⟨fun e => by rw [e]; rfl, lns_nil⟩
  by_cases hc : l = footK k ∧ L = []
  · rw [if_pos hc, if_pos ⟨hc.1, e2.2 hc.2⟩]
  · rw [if_neg hc, if_neg fun h3 => hc ⟨h3.1, e2.1 h3.2⟩]
theorem unP_le (a : List UInt8) : ((unP a).getD []).length ≤ a.length := by
  obtain hu | ⟨b, hu⟩ : unP a = none ∨ ∃ b, unP a = some b := by cases unP a <;> simp
  · rw [hu]; exact Nat.zero_le _
  · rw [hu]
    have := (unP_iff a b).1 hu
    rw [← this, b64_len]
    simp only [Option.getD_some]
    omega
/-! ### What Decode answers -/
abbrev DcR := Option (List UInt8 × List UInt8)
def dE : DcR → Nat
  | none => 2
  | some (_, b) => if 20000 < b.length then 6 else 0
def dK : DcR → List UInt8
  | none => []
  | some (k, b) => if 20000 < b.length then [] else k
def dB : DcR → List UInt8
  | none => []
  | some (_, b) => if 20000 < b.length then [] else b
end Go.Proofs.YtadbpmcmdcnlfaaDoor
