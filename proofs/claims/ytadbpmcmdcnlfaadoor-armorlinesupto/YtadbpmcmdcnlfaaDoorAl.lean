/- Armor, as a list of lines: what the program reads, what the document reads, what armor is. No program. -/
import Derived.Test.YtadbpmcmdcnlfaaDoorAc
namespace Go.Proofs.YtadbpmcmdcnlfaaDoor

def begL : List UInt8 := [45, 45, 45, 45, 45, 66, 69, 71, 73, 78, 32, 80, 71, 80, 32]
def endL : List UInt8 := [45, 45, 45, 45, 45, 69, 78, 68, 32, 80, 71, 80, 32]
def dasL : List UInt8 := [45, 45, 45, 45, 45]
def mesL : List UInt8 := [77, 69, 83, 83, 65, 71, 69]
def pubL : List UInt8 := [80, 85, 66, 76, 73, 67, 32, 75, 69, 89, 32, 66, 76, 79, 67, 75]
def sigL : List UInt8 := [83, 73, 71, 78, 65, 84, 85, 82, 69]
def isK (k : List UInt8) : Prop := k = mesL ∨ k = pubL ∨ k = sigL
instance (k : List UInt8) : Decidable (isK k) := by unfold isK; exact inferInstance
def headK (k : List UInt8) : List UInt8 := begL ++ k ++ dasL
def footK (k : List UInt8) : List UInt8 := endL ++ k ++ dasL
/-- The kind that a first line tells. -/
def kindF (f : List UInt8) : List UInt8 := if f = headK mesL then mesL else if f = headK pubL then pubL else if f = headK sigL then sigL else []
theorem kindF_some {f k : List UInt8} (h : kindF f = k) (h0 : k ≠ []) : isK k ∧ f = headK k := by
  unfold kindF at h
  split at h
  · subst h; exact ⟨.inl rfl, by assumption⟩
  · split at h
    · subst h; exact ⟨.inr (.inl rfl), by assumption⟩
    · split at h
      · subst h; exact ⟨.inr (.inr rfl), by assumption⟩
      · exact absurd h.symm h0
theorem kindF_head {k : List UInt8} (h : isK k) : kindF (headK k) = k := by
  rcases h with rfl | rfl | rfl <;> decide
theorem headK_inj {j k : List UInt8} (h : headK j = headK k) : j = k := List.append_cancel_left (List.append_cancel_right h)
theorem kindF_eq (k : List UInt8) : kindF (headK k) = if isK k then k else [] := by
  by_cases h : isK k
  · rw [if_pos h, kindF_head h]
  · rw [if_neg h]
    unfold kindF
    rw [if_neg fun e => h (.inl (headK_inj e)), if_neg fun e => h (.inr (.inl (headK_inj e))), if_neg fun e => h (.inr (.inr (headK_inj e)))]
theorem isK_ne {k : List UInt8} (h : isK k) : k ≠ [] := by rintro rfl; revert h; decide
theorem headK_kind {k : List UInt8} (h : isK k) : (10 : UInt8) ∉ headK k ∧ (13 : UInt8) ∉ headK k ∧ (10 : UInt8) ∉ footK k ∧ (13 : UInt8) ∉ footK k := by
  rcases h with rfl | rfl | rfl <;> decide
/-! ### Lines of headers -/
def isLet (c : UInt8) : Bool := (decide (65 ≤ c.toNat) && decide (c.toNat ≤ 90)) || (decide (97 ≤ c.toNat) && decide (c.toNat ≤ 122))
def nlet (l : List UInt8) : Nat := (l.takeWhile isLet).length
def hdr (l : List UInt8) : Bool := decide (0 < nlet l) && (decide (nlet l + 2 ≤ l.length) && decide ((l.drop (nlet l)).take 2 = [58, 32]))
theorem hdr_ne {l : List UInt8} (h : hdr l = true) : l ≠ [] := by rintro rfl; cases h
theorem hdr_name {n r : List UInt8} (h0 : n ≠ []) (h : ∀ c ∈ n, isLet c = true) : hdr (n ++ (58 :: 32 :: r)) = true := by
  have e : nlet (n ++ (58 :: 32 :: r)) = n.length := by
    unfold nlet
    rw [List.takeWhile_append_of_pos h]
    have : isLet 58 = false := by decide
    rw [List.takeWhile_cons_of_neg (by simp [this])]
    simp
  have hn : 0 < n.length := by
    cases n with
    | nil => exact absurd rfl h0
    | cons a r => simp
  unfold hdr
  rw [e]
  simp [hn]
/-! ### What the program reads -/
def teL : List (List UInt8) → Option (List (List UInt8))
  | [] => some []
  | l :: r => if l = [] then some r else if hdr l = false then none else teL r
def stopL (l : List UInt8) : Bool := l == [] || (l.head? == some 61 || l.head? == some 45)
def badL (l : List UInt8) : Bool := decide (76 < l.length) || decide (l.length % 4 ≠ 0)
def bdL (acc : List UInt8) : List (List UInt8) → Option (List UInt8 × List UInt8 × List (List UInt8))
  | [] => some (acc, [], [])
  | l :: r => if stopL l = true then some (acc, l, r) else if badL l = true then none else bdL (acc ++ l) r
def endP (k b l : List UInt8) (L : List (List UInt8)) : Option (List UInt8 × List UInt8) :=
  if l.head? = some 61 then (if l = sumL b ∧ L.headD [] = footK k ∧ L.drop 1 = [] then some (k, b) else none)
  else if l = footK k ∧ L = [] then some (k, b) else none
def accP (L : List (List UInt8)) : Option (List UInt8 × List UInt8) :=
  if kindF (L.headD []) = [] then none else
  match teL (L.drop 1) with
  | none => none
  | some L2 => match bdL [] L2 with
    | none => none
    | some (a, l, L3) => match unP a with
      | none => none
      | some b => endP (kindF (L.headD [])) b l L3
/-! ### What armor is -/
def gdL (l : List UInt8) : Prop := stopL l = false ∧ badL l = false
def Arm (L : List (List UInt8)) (k b : List UInt8) : Prop := ∃ (hs bs so : List (List UInt8)), isK k ∧ L = headK k :: (hs ++ [] :: (bs ++ (so ++ [footK k]))) ∧ (∀ h ∈ hs, hdr h = true) ∧ (∀ l ∈ bs, gdL l) ∧ unP bs.flatten = some b ∧ (so = [] ∨ so = [sumL b])
theorem teL_hdrs : ∀ (hs : List (List UInt8)) (r : List (List UInt8)), (∀ h ∈ hs, hdr h = true) → teL (hs ++ [] :: r) = some r
  | [], r, _ => by simp [teL]
  | h :: hs, r, hh => by
    have h1 := hh h (by simp)
    rw [List.cons_append, teL, if_neg (hdr_ne h1), if_neg (by rw [h1]; simp)]
    exact teL_hdrs hs r fun x hx => hh x (List.mem_cons_of_mem _ hx)
theorem teL_sound : ∀ (L r : List (List UInt8)), teL L = some r → (∃ hs, (∀ h ∈ hs, hdr h = true) ∧ L = hs ++ [] :: r) ∨ (r = [] ∧ ∀ h ∈ L, hdr h = true)
  | [], r, h => by
    obtain rfl := Option.some.inj h
    exact .inr ⟨rfl, fun _ h => by cases h⟩
  | l :: L, r, h => by
    rw [teL] at h
    split at h
    · rename_i hl
      subst hl
      obtain rfl := Option.some.inj h
      exact .inl ⟨[], (fun _ h => by cases h), rfl⟩
    · split at h
      · cases h
      · rename_i h2
        have h3 : hdr l = true := by simpa using h2
        rcases teL_sound L r h with ⟨hs, h4, rfl⟩ | ⟨h4, h5⟩
        · exact .inl ⟨l :: hs, fun x hx => by
            rcases List.mem_cons.1 hx with rfl | hx
            · exact h3
            · exact h4 x hx, rfl⟩
        · exact .inr ⟨h4, fun x hx => by
            rcases List.mem_cons.1 hx with rfl | hx
            · exact h3
            · exact h5 x hx⟩
theorem bdL_good : ∀ (bs : List (List UInt8)) (acc l : List UInt8) (r : List (List UInt8)), (∀ x ∈ bs, gdL x) → stopL l = true → bdL acc (bs ++ l :: r) = some (acc ++ bs.flatten, l, r)
  | [], acc, l, r, _, hl => by rw [List.nil_append, bdL, if_pos hl]; simp
  | x :: bs, acc, l, r, hg, hl => by
    have h1 := hg x (by simp)
    rw [List.cons_append, bdL, if_neg (by rw [h1.1]; simp), if_neg (by rw [h1.2]; simp), bdL_good bs _ l r (fun y hy => hg y (List.mem_cons_of_mem _ hy)) hl]
    simp
theorem bdL_sound : ∀ (L : List (List UInt8)) (acc a l : List UInt8) (r : List (List UInt8)), bdL acc L = some (a, l, r) → ∃ bs, (∀ x ∈ bs, gdL x) ∧ a = acc ++ bs.flatten ∧ ((L = bs ++ l :: r ∧ stopL l = true) ∨ (l = [] ∧ r = []))
  | [], acc, a, l, r, h => by
    simp only [bdL, Option.some.injEq, Prod.mk.injEq] at h
    obtain ⟨rfl, rfl, rfl⟩ := h
    exact ⟨[], (fun _ h => by cases h), by simp, .inr ⟨rfl, rfl⟩⟩
  | x :: L, acc, a, l, r, h => by
    rw [bdL] at h
    split at h
    · rename_i hs
      simp only [Option.some.injEq, Prod.mk.injEq] at h
      obtain ⟨rfl, rfl, rfl⟩ := h
      exact ⟨[], (fun _ h => by cases h), by simp, .inl ⟨rfl, hs⟩⟩
    · split at h
      · cases h
      · rename_i h1 h2
        obtain ⟨bs, h3, rfl, h4⟩ := bdL_sound L _ a l r h
        refine ⟨x :: bs, fun y hy => ?_, by simp, ?_⟩
        · rcases List.mem_cons.1 hy with rfl | hy
          · exact ⟨by simpa using h1, by simpa using h2⟩
          · exact h3 y hy
        · rcases h4 with ⟨rfl, h5⟩ | h5
          · exact .inl ⟨rfl, h5⟩
          · exact .inr h5
theorem footK_stop (k : List UInt8) : stopL (footK k) = true ∧ (footK k).head? = some 45 := ⟨rfl, rfl⟩
theorem footK_ne (k : List UInt8) : footK k ≠ [] := by intro h; cases h
theorem accP_iff (L : List (List UInt8)) (k b : List UInt8) : accP L = some (k, b) ↔ Arm L k b := by
  constructor
  · intro h
    unfold accP at h
    split at h
    · cases h
    rename_i hk
    split at h
    · cases h
    rename_i L2 hte
    split at h
    · cases h
    rename_i a l L3 hbd
    split at h
    · cases h
    rename_i b' hun
    obtain ⟨hK, hf⟩ := kindF_some rfl hk
    obtain ⟨bs, hg, rfl, hL2⟩ := bdL_sound _ _ _ _ _ hbd
    have hL : L = L.headD [] :: L.drop 1 := by
      cases L with
      | nil => exact absurd rfl hk
      | cons f r => rfl
    unfold endP at h
    -- the line behind the bytes is there, and so is the empty one
    have hdrs : l ≠ [] → ∃ hs, (∀ h ∈ hs, hdr h = true) ∧ L.drop 1 = hs ++ [] :: L2 := fun hl => by
      rcases teL_sound _ _ hte with h1 | ⟨h1, _⟩
      · exact h1
      · subst h1
        simp only [bdL, Option.some.injEq, Prod.mk.injEq] at hbd
        exact absurd hbd.2.1.symm hl
    split at h
    · rename_i h61
      split at h
      · rename_i hh
        obtain ⟨rfl, h1, h2⟩ := hh
        simp only [Option.some.injEq, Prod.mk.injEq] at h
        obtain ⟨hkk, rfl⟩ := h
        have hl0 : sumL b' ≠ [] := by intro e; cases e
        obtain ⟨hs, hh, hL1⟩ := hdrs hl0
        rcases hL2 with ⟨rfl, _⟩ | ⟨h3, _⟩
        · have hL3 : L3 = [footK (kindF (L.headD []))] := by
            cases L3 with
            | nil => exact absurd h1.symm (footK_ne _)
            | cons x r =>
              simp only [List.headD_cons, List.drop_succ_cons, List.drop_zero] at h1 h2
              rw [h1, h2]
          rw [← hkk]
          refine ⟨hs, bs, [sumL b'], hK, ?_, hh, hg, by simpa using hun, .inr rfl⟩
          rw [← hf, ← hL3]
          rw [hL1] at hL
          exact hL
        · exact absurd h3 hl0
      · cases h
    · split at h
      · rename_i hh
        obtain ⟨rfl, rfl⟩ := hh
        simp only [Option.some.injEq, Prod.mk.injEq] at h
        obtain ⟨hkk, rfl⟩ := h
        obtain ⟨hs, hh, hL1⟩ := hdrs (footK_ne _)
        rcases hL2 with ⟨rfl, _⟩ | ⟨h3, _⟩
        · rw [← hkk]
          refine ⟨hs, bs, [], hK, ?_, hh, hg, by simpa using hun, .inl rfl⟩
          rw [← hf, List.nil_append]
          rw [hL1] at hL
          exact hL
        · exact absurd h3 (footK_ne _)
      · cases h
  · rintro ⟨hs, bs, so, hK, rfl, hh, hg, hun, hso⟩
    unfold accP
    simp only [List.headD_cons, List.drop_succ_cons, List.drop_zero, kindF_head hK]
    rw [if_neg (isK_ne hK), teL_hdrs hs _ hh]
    rcases hso with rfl | rfl
    · simp only [List.nil_append]
      rw [bdL_good bs [] _ _ hg (footK_stop k).1]
      simp only [List.nil_append, hun, endP]
      rw [if_neg (by rw [(footK_stop k).2]; decide)]
      simp
    · simp only [List.cons_append, List.nil_append]
      rw [bdL_good bs [] (sumL b) [footK k] hg rfl]
      simp only [List.nil_append, hun, endP]
      rw [if_pos (show (sumL b).head? = some 61 from rfl)]
      simp
/-! ### What the document reads -/
def lokL : List (List UInt8) → Bool
  | [] => true
  | l :: r => decide (l ≠ []) && (decide (l.length ≤ 76) && (decide (r = []) || decide (l.length % 4 = 0)) && lokL r)
def lastD (L : List (List UInt8)) : List UInt8 := L.getLast?.getD []
/-- The sum, and the lines of bytes. -/
def partR (M : List (List UInt8)) : List UInt8 × List (List UInt8) :=
  if 0 < M.length ∧ (lastD M).length = 5 ∧ (lastD M).head? = some 61 then ((lastD M).drop 1, M.dropLast) else ([], M)
def sumR (k : List UInt8) (s : List UInt8) (M : List (List UInt8)) : Option (List UInt8 × List UInt8) :=
  if lokL M = false then none else match unR M.flatten with
  | none => none
  | some b => if s ≠ [] ∧ s ≠ b64 (three (crc b)) then none else some (k, b)
def bodyR (k : List UInt8) (M : List (List UInt8)) : Option (List UInt8 × List UInt8) :=
  match M.dropWhile hdr with
  | [] => none
  | e :: M2 => if e ≠ [] then none else sumR k (partR M2).1 (partR M2).2
def kR (f : List UInt8) : List UInt8 := (f.take (f.length - 5)).drop 15
def accR (L : List (List UInt8)) : Option (List UInt8 × List UInt8) :=
  if L.length < 3 ∨ (L.headD []).length < 20 ∨ (L.headD []).take 15 ≠ begL ∨ (L.headD []).drop ((L.headD []).length - 5) ≠ dasL then none
  else if ¬ isK (kR (L.headD [])) ∨ lastD L ≠ footK (kR (L.headD [])) then none
  else bodyR (kR (L.headD [])) ((L.take (L.length - 1)).drop 1)
theorem lok_of_good : ∀ bs : List (List UInt8), (∀ l ∈ bs, gdL l) → lokL bs = true
  | [], _ => rfl
  | l :: r, h => by
    obtain ⟨h1, h2⟩ := h l (by simp)
    have ih := lok_of_good r fun x hx => h x (List.mem_cons_of_mem _ hx)
    simp only [stopL, badL, Bool.or_eq_false_iff, decide_eq_false_iff_not, beq_eq_false_iff_ne] at h1 h2
    simp only [lokL, ih, Bool.and_true, Bool.and_eq_true, Bool.or_eq_true, decide_eq_true_eq]
    exact ⟨h1.1, by omega, .inr (by omega)⟩
theorem good_of_lok : ∀ (bs : List (List UInt8)) (pre b : List UInt8), lokL bs = true → pre.length % 4 = 0 → pre ++ bs.flatten = b64 b → ∀ l ∈ bs, gdL l
  | [], _, _, _, _, _, l, h => by cases h
  | x :: r, pre, b, hl, hp, he, l, hm => by
    simp only [lokL, Bool.and_eq_true, Bool.or_eq_true, decide_eq_true_eq] at hl
    obtain ⟨h0, ⟨h76, h4⟩, hr⟩ := hl
    rw [List.flatten_cons] at he
    have hlen := congrArg List.length he
    have hb4 := b64_len4 b
    have hx4 : x.length % 4 = 0 := by
      rcases h4 with rfl | h4
      · simp only [List.flatten_nil, List.append_nil, List.length_append] at hlen
        omega
      · exact h4
    rcases List.mem_cons.1 hm with rfl | hm
    · obtain ⟨c, t, rfl⟩ : ∃ c t, l = c :: t := by
        cases l with
        | nil => exact absurd rfl h0
        | cons c t => exact ⟨c, t, rfl⟩
      have hc : (b64 b)[pre.length]? = some c := by
        rw [← he, List.getElem?_append_right (Nat.le_refl _)]
        simp
      have hend := b64_fourth b _ c hp hc
      simp only [ends, Bool.or_eq_false_iff, beq_eq_false_iff_ne] at hend
      refine ⟨?_, ?_⟩
      · simp [stopL, hend.1.1.1, hend.1.1.2]
      · simp only [badL, Bool.or_eq_false_iff, decide_eq_false_iff_not]
        omega
    · exact good_of_lok r (pre ++ x) b hr (by rw [List.length_append]; omega) (by rw [List.append_assoc]; exact he) l hm
theorem lastD_append (A : List (List UInt8)) (x : List UInt8) : lastD (A ++ [x]) = x := by unfold lastD; simp
theorem good_head {l : List UInt8} (h : gdL l) : l.head? ≠ some 61 := by
  intro e
  have := h.1
  simp [stopL, e] at this
theorem dropWhile_hdr : ∀ (hs r : List (List UInt8)), (∀ h ∈ hs, hdr h = true) → (hs ++ [] :: r).dropWhile hdr = [] :: r
  | [], r, _ => by
    rw [List.nil_append, List.dropWhile_cons_of_neg]
    decide
  | x :: hs, r, h => by
    rw [List.cons_append, List.dropWhile_cons_of_pos (h x (by simp))]
    exact dropWhile_hdr hs r fun y hy => h y (List.mem_cons_of_mem _ hy)
theorem accR_iff (L : List (List UInt8)) (k b : List UInt8) : accR L = some (k, b) ↔ Arm L k b := by
  constructor
  · intro h
    unfold accR at h
    split at h
    · cases h
    rename_i h1
    split at h
    · cases h
    rename_i h2
    simp only [not_or, Nat.not_lt, Decidable.not_not, ne_eq] at h1 h2
    obtain ⟨hlen, h20, hbeg, hdas⟩ := h1
    obtain ⟨hK, hlast⟩ := h2
    obtain ⟨f, M, x, rfl⟩ : ∃ f M x, L = f :: (M ++ [x]) := by
      match L, hlen with
      | f :: r, hlen =>
        have hr : r ≠ [] := by rintro rfl; simp at hlen
        exact ⟨f, r.dropLast, r.getLast hr, by rw [List.dropLast_concat_getLast]⟩
    simp only [List.headD_cons] at h hbeg hdas h20 hK hlast
    have hx : lastD (f :: (M ++ [x])) = x := by
      have := lastD_append (f :: M) x
      simpa using this
    rw [hx] at hlast
    have hM : ((f :: (M ++ [x])).take ((f :: (M ++ [x])).length - 1)).drop 1 = M := by simp
    rw [hM] at h
    obtain ⟨kk, hkk⟩ : ∃ kk, kk = kR f := ⟨_, rfl⟩
    rw [← hkk] at h hK hlast
    have hf : f = headK kk := by
      have e1 : f = f.take (f.length - 5) ++ f.drop (f.length - 5) := (List.take_append_drop _ _).symm
      have e2 : f.take (f.length - 5) = (f.take (f.length - 5)).take 15 ++ (f.take (f.length - 5)).drop 15 := (List.take_append_drop _ _).symm
      unfold kR at hkk
      rw [List.take_take, Nat.min_eq_left (by omega), hbeg, ← hkk] at e2
      rw [e2, hdas] at e1
      exact e1
    unfold bodyR at h
    split at h
    · cases h
    rename_i e M2 hdw
    split at h
    · cases h
    rename_i he
    have he : e = [] := by simpa using he
    subst he
    have hMs : M = M.takeWhile hdr ++ [] :: M2 := by rw [← hdw, List.takeWhile_append_dropWhile]
    have hth : ∀ y ∈ M.takeWhile hdr, hdr y = true := fun y hy => List.all_eq_true.1 List.all_takeWhile y hy
    unfold sumR at h
    split at h
    · cases h
    rename_i hlok
    have hlok : lokL (partR M2).2 = true := by simpa using hlok
    split at h
    · cases h
    rename_i b' hun
    split at h
    · cases h
    rename_i hs
    simp only [Option.some.injEq, Prod.mk.injEq] at h
    obtain ⟨rfl, rfl⟩ := h
    have hgood := good_of_lok _ [] b' hlok rfl (by rw [List.nil_append]; exact ((unR_iff _ _).1 hun).symm)
    rw [← un_same] at hun
    generalize M.takeWhile hdr = T at hMs hth
    refine ⟨T, (partR M2).2, if (partR M2).1 = [] then [] else [sumL b'], hK, ?_, hth, hgood, hun, ?_⟩
    · rw [hf]
      congr 1
      rw [hlast]
      have hp : M2 = (partR M2).2 ++ if (partR M2).1 = [] then [] else [sumL b'] := by
        unfold partR at hs ⊢
        split
        · rename_i hc
          rw [if_pos hc] at hs
          obtain ⟨hc1, hc2, hc3⟩ := hc
          have hne : M2 ≠ [] := by rintro rfl; simp at hc1
          have hld : lastD M2 = M2.getLast hne := by unfold lastD; rw [List.getLast?_eq_some_getLast hne]; rfl
          obtain ⟨c, t, hct⟩ : ∃ c t, lastD M2 = c :: t := by
            cases hl : lastD M2 with
            | nil => rw [hl] at hc2; cases hc2
            | cons c t => exact ⟨c, t, rfl⟩
          rw [hct] at hc2 hc3 hs
          simp only [List.head?_cons, Option.some.injEq] at hc3
          subst hc3
          simp only [List.drop_succ_cons, List.drop_zero, List.length_cons] at hs hc2
          have ht : t ≠ [] := by rintro rfl; simp at hc2
          have ht2 : t = b64 (three (crc b')) := Decidable.byContradiction fun hn => hs ⟨ht, hn⟩
          simp only [hct, List.drop_succ_cons, List.drop_zero]
          rw [if_neg ht]
          have := List.dropLast_concat_getLast hne
          rw [← hld, hct, ht2] at this
          exact this.symm
        · simp
      have e2 : M2 ++ [footK kk] = (partR M2).2 ++ ((if (partR M2).1 = [] then [] else [sumL b']) ++ [footK kk]) := by
        rw [← List.append_assoc, ← hp]
      rw [← e2, hMs]
      simp
    · split
      · exact .inl rfl
      · exact .inr rfl
  · rintro ⟨hs, bs, so, hK, rfl, hh, hg, hun, hso⟩
    have hM : ∀ Y : List (List UInt8), ((headK k :: (Y ++ [footK k])).take ((headK k :: (Y ++ [footK k])).length - 1)).drop 1 = Y := fun Y => by simp
    have hY : hs ++ [] :: (bs ++ (so ++ [footK k])) = (hs ++ [] :: (bs ++ so)) ++ [footK k] := by simp
    have hl : lastD (headK k :: ((hs ++ [] :: (bs ++ so)) ++ [footK k])) = footK k := by
      have := lastD_append (headK k :: (hs ++ [] :: (bs ++ so))) (footK k)
      simpa using this
    rw [hY]
    have hk1 : ¬ (headK k).length < 20 ∧ (headK k).take 15 = begL ∧ (headK k).drop ((headK k).length - 5) = dasL ∧ kR (headK k) = k := by
      rcases hK with rfl | rfl | rfl <;> decide
    obtain ⟨k1, k2, k3, k4⟩ := hk1
    unfold accR
    rw [if_neg, if_neg]
    rotate_left
    · show ¬ (¬ isK (kR (headK k)) ∨ lastD _ ≠ footK (kR (headK k)))
      rw [k4, hl]
      rintro (h | h)
      · exact h hK
      · exact h rfl
    · show ¬ (_ ∨ (headK k).length < 20 ∨ (headK k).take 15 ≠ begL ∨ (headK k).drop ((headK k).length - 5) ≠ dasL)
      rintro (h | h | h | h)
      · simp at h; omega
      · exact k1 h
      · exact h k2
      · exact h k3
    show bodyR (kR (headK k)) _ = _
    rw [k4, hM]
    unfold bodyR
    rw [dropWhile_hdr hs _ hh]
    have hp : partR (bs ++ so) = (if so = [] then [] else b64 (three (crc b)), bs) := by
      unfold partR
      rcases hso with rfl | rfl
      · rw [List.append_nil, if_neg, if_pos rfl]
        rintro ⟨h1, h2, h3⟩
        have hne : bs ≠ [] := by rintro rfl; simp at h1
        have hld : lastD bs = bs.getLast hne := by unfold lastD; rw [List.getLast?_eq_some_getLast hne]; rfl
        rw [hld] at h3
        exact good_head (hg _ (List.getLast_mem hne)) h3
      · rw [lastD_append, if_pos, if_neg (by simp)]
        · simp [sumL]
        · exact ⟨by simp, sumL_len b, rfl⟩
    simp only [ne_eq, not_true_eq_false, if_false, hp]
    unfold sumR
    rw [if_neg (by rw [lok_of_good bs hg]; simp), ← un_same, hun]
    simp only
    rw [if_neg]
    rintro ⟨h1, h2⟩
    split at h2
    · rename_i h3; rw [if_pos h3] at h1; exact h1 rfl
    · exact h2 rfl
theorem acc_same (L : List (List UInt8)) : accP L = accR L := by
  cases h : accR L with
  | none =>
    cases h2 : accP L with
    | none => rfl
    | some x =>
      obtain ⟨k, b⟩ := x
      rw [accP_iff, ← accR_iff, h] at h2; cases h2
  | some x =>
    obtain ⟨k, b⟩ := x
    rw [accR_iff, ← accP_iff] at h; exact h
end Go.Proofs.YtadbpmcmdcnlfaaDoor
