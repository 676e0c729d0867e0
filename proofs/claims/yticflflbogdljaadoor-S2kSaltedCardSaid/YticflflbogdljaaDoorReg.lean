/- A region that draws its order, each of whose operations but the last has, in every world of one kind, one value and keeps to that kind: it may be walked in the order of its text. Plain theorems, over any program. -/
import Derived.OrdersHeld
import Derived.Laws.World
namespace Go.Proofs.YticflflbogdljaaDoor
open Go

section
variable {P : Program} {ops : Array Oper} {Q : Exit → Act → World → Prop} {md : Region.Mode} {S : World → Prop}

def SureR (P : Program) (S : World → Prop) (v : Value) : Result Next → Prop
  | .ok (.value u) w => u = v ∧ S w
  | .ok .skip w => undef = v ∧ S w
  | .ok (.enter f args) w => Calls P f args w fun e w' => e = .returned v ∧ S w'
  | _ => False

def Sure (P : Program) (ops : Array Oper) (S : World → Prop) (o : Oper) (v : Value) (a : Act) : Prop :=
  (Region.wanted o (yielded ops a.tmps) = true ∧ ∀ w, S w → SureR P S v ((execOp a.eval o).run P w)) ∨ (Region.wanted o (yielded ops a.tmps) = false ∧ v = undef)

theorem Sure.of_same {o : Oper} {v : Value} {a a' : Act} (h : Sure P ops S o v a) (he : execOp a'.eval o = execOp a.eval o)
    (hw : Region.wanted o (yielded ops a'.tmps) = Region.wanted o (yielded ops a.tmps)) : Sure P ops S o v a' := by
  unfold Sure at *
  rw [he, hw]
  exact h

theorem Sure.wpOp {i : Nat} {o : Oper} {v : Value} {a : Act} (hi : ops[i]? = some o) (h : Sure P ops S o v a) {K : Act → World → Prop} {w : World} (hS : S w)
    (hK : ∀ w', S w' → K (a.put o.dst v) w') : wpOp P ops Q i K a w := by
  unfold Go.wpOp
  rcases h with h | ⟨h, rfl⟩
  case inr => simp only [hi, h, Bool.false_eq_true, if_false]; exact hK w hS
  simp only [hi, h.1, if_true]
  have h2 := h.2 w hS
  left
  unfold Oper.wp
  revert h2
  generalize (execOp a.eval o).run P w = r
  intro h2
  cases r with
  | ok n w' =>
    cases n with
    | value u => obtain ⟨rfl, hS'⟩ := h2; exact hK _ hS'
    | skip => obtain ⟨rfl, hS'⟩ := h2; exact hK _ hS'
    | enter f args =>
      refine Calls.mono h2 ?_
      rintro e w'' ⟨rfl, hS'⟩
      exact hK _ hS'
    | _ => exact h2.elim
  | halt x w' => exact h2.elim

/-- Operation j waits for operation k, at most f steps away. -/
def waitsFor (md : Region.Mode) (ops : Array Oper) : Nat → Nat → Nat → Bool
  | 0, _, _ => false
  | f + 1, j, k => match ops[j]? with
    | none => false
    | some o => o.after.any (fun e => Region.binds md e && e.on == k) || o.after.any (fun e => Region.binds md e && waitsFor md ops f e.on k)
/-- The last operation waits for each of the others. -/
def lastWaits (md : Region.Mode) (ops : Array Oper) : Bool :=
  (List.range (ops.size - 1)).all fun k => waitsFor md ops 6 (ops.size - 1) k || waitsFor md ops 12 (ops.size - 1) k

/-- What is listed stands behind what it waits for. -/
def Closed (md : Region.Mode) (ops : Array Oper) (L : Array Bool) : Prop :=
  ∀ j o, ops[j]? = some o → L.getD j true = true → ∀ e ∈ o.after, Region.binds md e = true → L.getD e.on false = true

theorem getD_up {L : Array Bool} {m : Nat} (h : L.getD m false = true) : L.getD m true = true := by
  rcases Nat.lt_or_ge m L.size with h' | h'
  · simp [Array.getD, h'] at h ⊢; exact h
  · simp [Array.getD, Nat.not_lt.2 h']
theorem getD_down {L : Array Bool} {m : Nat} (h : L.getD m true = false) : L.getD m false = false := by
  rcases Nat.lt_or_ge m L.size with h' | h'
  · simp [Array.getD, h'] at h ⊢; exact h
  · simp [Array.getD, Nat.not_lt.2 h']

theorem waitsFor_spec {L : Array Bool} (hc : Closed md ops L) (k : Nat) : ∀ f j, waitsFor md ops f j k = true → (∀ o, ops[j]? = some o → ∀ e ∈ o.after, Region.binds md e = true → L.getD e.on false = true) → L.getD k false = true := by
  intro f
  induction f with
  | zero => intro j h; cases h
  | succ f ih =>
    intro j h hall
    unfold waitsFor at h
    cases hj : ops[j]? with
    | none => rw [hj] at h; cases h
    | some o =>
      rw [hj] at h
      simp only [Bool.or_eq_true, Array.any_eq_true', Bool.and_eq_true, beq_iff_eq] at h
      rcases h with ⟨e, he, hb, rfl⟩ | ⟨e, he, hb, hw⟩
      · exact hall o hj e he hb
      · exact ih e.on hw fun o' ho' e' he' hb' => hc e.on o' ho' (getD_up (hall o hj e he hb)) e' he' hb'

theorem Closed.set {L : Array Bool} (hc : Closed md ops L) {i : Nat} (hi : i ∈ Region.ready md ops L) : Closed md ops (L.setIfInBounds i true) := by
  intro j o hj hL e he hb
  obtain ⟨_, oi, hoi, hall⟩ := mem_ready.1 hi
  have up : ∀ m, L.getD m false = true → (L.setIfInBounds i true).getD m false = true := fun m hm => by
    by_cases h : i = m
    · subst h
      rcases Nat.lt_or_ge i L.size with h' | h'
      · simp [Array.getD, h']
      · simp [Array.getD, Nat.not_lt.2 h'] at hm
    · rw [getD_set_ne false h]; exact hm
  by_cases hij : i = j
  · subst hij
    rw [hoi] at hj
    obtain rfl := Option.some.inj hj
    exact up _ (hall e he hb)
  · rw [getD_set_ne true hij] at hL
    exact up _ (hc j o hj hL e he hb)
theorem Closed.none (md : Region.Mode) (ops : Array Oper) : Closed md ops (Array.replicate ops.size false) := by
  intro j o hj hL
  have hlt : j < ops.size := (Array.getElem?_eq_some_iff.1 hj).1
  simp [Array.getD, hlt] at hL

theorem lastWaits_spec (h : lastWaits md ops = true) {L : Array Bool} (hc : Closed md ops L) {k : Nat} (hk : k + 1 < ops.size) (hL : L.getD k true = false) :
    ops.size - 1 ∉ Region.ready md ops L := by
  intro hr
  have h1 := List.all_eq_true.1 h k (List.mem_range.2 (by omega))
  obtain ⟨_, o, ho, hall⟩ := mem_ready.1 hr
  rcases (Bool.or_eq_true _ _).mp h1 with h1 | h1
  · have h2 := waitsFor_spec hc k 6 _ h1 (fun o' ho' => by rw [ho] at ho'; obtain rfl := Option.some.inj ho'; exact hall)
    rw [getD_down hL] at h2
    cases h2
  · have h2 := waitsFor_spec hc k 12 _ h1 (fun o' ho' => by rw [ho] at ho'; obtain rfl := Option.some.inj ho'; exact hall)
    rw [getD_down hL] at h2
    cases h2

def Det (P : Program) (md : Region.Mode) (ops : Array Oper) (Q : Exit → Act → World → Prop) (S : World → Prop) : Nat → Array Bool → Act → Prop
  | 0, L, a => Region.ready md ops L = [] ∧ ∀ w, S w → Q .normal a w
  | n + 1, L, a => (Region.ready md ops L = [] → ∀ w, S w → Q .normal a w) ∧ ∀ i ∈ Region.ready md ops L,
      (∃ o v, ops[i]? = some o ∧ Sure P ops S o v a ∧ Det P md ops Q S n (L.setIfInBounds i true) (a.put o.dst v)) ∨
      (i + 1 = ops.size ∧ ∃ o, ops[i]? = some o ∧ Region.wanted o (yielded ops a.tmps) = true ∧ ∀ w, S w → o.wp P a w (fun a' w' => Q .normal a' w') Q)

theorem ready_full {L : Array Bool} (_ : L.size = ops.size) (h : ∀ k, k < ops.size → L.getD k true = true) : Region.ready md ops L = [] := by
  rw [List.eq_nil_iff_forall_not_mem]
  intro j hj
  obtain ⟨h0, o, ho, _⟩ := mem_ready.1 hj
  have hj' : j < ops.size := (Array.getElem?_eq_some_iff.1 ho).1
  rw [h j hj'] at h0; cases h0

theorem Det.sound (hl : lastWaits md ops = true) : ∀ (n : Nat) (L : Array Bool) (a : Act), L.size = ops.size → Closed md ops L → Det P md ops Q S n L a → ∀ w, S w → wpAny P md ops Q n L a w := by
  intro n
  induction n with
  | zero => intro L a _ _ h w hw; exact ⟨h.1, h.2 w hw⟩
  | succ n ih =>
    intro L a hsz hc h w hw
    refine ⟨fun h0 => h.1 h0 w hw, fun i hi => ?_⟩
    rcases h.2 i hi with ⟨o, v, ho, hs, hd⟩ | ⟨hi1, ol, hol, hwl, hlast⟩
    · exact hs.wpOp ho hw fun w' hw' => ih _ _ (by simpa using hsz) (hc.set hi) hd w' hw'
    · refine wpOp_mono (K := fun a' w' => Q .normal a' w') (fun a' w' hQ => ?_) (by unfold wpOp; simp only [hol, hwl, if_true]; exact .inl (hlast w hw))
      have hready : Region.ready md ops (L.setIfInBounds i true) = [] := by
        refine ready_full (by simpa using hsz) fun k hk => ?_
        by_cases hki : i = k
        · subst hki
          have : i < L.size := by omega
          simp [Array.getD, this]
        · rw [getD_set_ne true hki]
          have hh : ¬ L.getD k true = false := fun hL => lastWaits_spec hl hc (k := k) (by omega) hL (by
            have : ops.size - 1 = i := by omega
            rw [this]; exact hi)
          simpa using hh
      cases n with
      | zero => exact ⟨hready, hQ⟩
      | succ n => exact ⟨fun _ => hQ, by rw [hready]; simp⟩

theorem Det.take (hl : lastWaits md ops = true) {i : Nat} {oi : Oper} {v : Value} (hi : ops[i]? = some oi) (hsel : ∀ (j : Nat) (o : Oper) cs b, ops[j]? = some o → o.op ≠ .select cs b) (hil : i + 1 < ops.size) :
    ∀ (n : Nat) (L : Array Bool) (a : Act), L.size = ops.size → Closed md ops L →
      (∀ j oj, ops[j]? = some oj → j ≠ i → L.getD j true = false → (∀ e ∈ oj.after, Region.binds md e = true → e.on ≠ i) → oi.apart ops oj = true) →
      i ∈ Region.ready md ops L → Sure P ops S oi v a → Det P md ops Q S n (L.setIfInBounds i true) (a.put oi.dst v) → Det P md ops Q S (n + 1) L a := by
  intro n
  induction n with
  | zero =>
    intro L a _ _ _ hr hs H
    refine ⟨fun h => (by rw [h] at hr; cases hr), fun j hj => ?_⟩
    by_cases hji : j = i
    · subst hji; exact .inl ⟨oi, v, hi, hs, H⟩
    · have := ready_mono hj hji
      rw [H.1] at this
      cases this
  | succ n ih =>
    intro L a hsz hc hfree hr hs H
    refine ⟨fun h => (by rw [h] at hr; cases hr), fun j hj => ?_⟩
    by_cases hji : j = i
    · subst hji; exact .inl ⟨oi, v, hi, hs, H⟩
    · obtain ⟨hjun, oj, hoj, hall⟩ := mem_ready.1 hj
      have hnot : ∀ e ∈ oj.after, Region.binds md e = true → e.on ≠ i := fun e he hb heq => by
        have h1 := hall e he hb
        have h0 := (mem_ready.1 hr).1
        rw [heq] at h1
        rcases Nat.lt_or_ge i L.size with h' | h'
        · simp [h'] at h0 h1; rw [h0] at h1; cases h1
        · simp [Array.getElem?_eq_none h'] at h1
      have hap := hfree j oj hoj hji hjun hnot
      obtain ⟨h1, h2, h3⟩ := Oper.apart_spec hap
      rcases H.2 j (ready_mono hj hji) with ⟨o, u, ho, hsu, hd⟩ | ⟨hj1, _⟩
      · rw [hoj] at ho
        obtain rfl := Option.some.inj ho
        left
        refine ⟨oj, u, hoj, ?_, ?_⟩
        · exact hsu.of_same (execOp_put oj (fun cs b => hsel j oj cs b hoj) a oi.dst v h1).symm (wanted_put oj a oi.dst v h1).symm
        · have hfree' : ∀ k ok, ops[k]? = some ok → k ≠ i → (L.setIfInBounds j true).getD k true = false →
              (∀ e ∈ ok.after, Region.binds md e = true → e.on ≠ i) → oi.apart ops ok = true := fun k ok hk hki hun hno => by
            refine hfree k ok hk hki ?_ hno
            by_cases hjk : j = k
            · subst hjk; exact hjun
            · rw [getD_set_ne true hjk] at hun; exact hun
          refine ih (L.setIfInBounds j true) _ (by simpa using hsz) (hc.set hj) hfree' (ready_mono hr (Ne.symm hji)) ?_ ?_
          · exact hs.of_same (execOp_put oi (fun cs b => hsel i oi cs b hi) a oj.dst u h3) (wanted_put oi a oj.dst u h3)
          · rw [Array.setIfInBounds_comm _ _ hji, ← Act.put_comm a v u h2]
            exact hd
      · exfalso
        have hL : L.getD i true = false := (mem_ready.1 hr).1
        exact lastWaits_spec hl hc hil hL (by
          have : ops.size - 1 = j := by omega
          rw [this]; exact hj)

/-- Walked in the order of the text: each operation but the last has its one value; the last runs to the post. -/
def Seq (P : Program) (ops : Array Oper) (Q : Exit → Act → World → Prop) (S : World → Prop) : List Oper → Act → Prop
  | [], _ => False
  | [o], a => Region.wanted o (yielded ops a.tmps) = true ∧ ∀ w, S w → o.wp P a w (fun a' w' => Q .normal a' w') Q
  | o :: rest, a => ∃ v, Sure P ops S o v a ∧ Seq P ops Q S rest (a.put o.dst v)

def pre (n k : Nat) : Array Bool := ((List.range n).map fun j => decide (j < k)).toArray

theorem pre_size (n k : Nat) : (pre n k).size = n := by simp [pre]
theorem pre_zero (n : Nat) : pre n 0 = Array.replicate n false := by
  apply Array.ext <;> simp [pre]
theorem pre_succ (n k : Nat) : (pre n k).setIfInBounds k true = pre n (k + 1) := by
  apply Array.ext
  · simp [pre]
  · intro i h1 h2
    simp only [pre, List.getElem_toArray, List.getElem_map, List.getElem_range]
    by_cases h : k = i
    · simp [h]
    · have : (i < k + 1) = (i < k) := by apply propext; omega
      simp [h, this]

/-- The text's own order is one that the edges allow, and each operation is apart from those that do not wait for it. -/
def textOk (md : Region.Mode) (ops : Array Oper) : Bool :=
  Region.noSelect ops && lastWaits md ops && (List.range (ops.size - 1)).all (fun k => (Region.ready md ops (pre ops.size k)).contains k && Region.free md ops (pre ops.size k) k) && (Region.ready md ops (pre ops.size (ops.size - 1)) == [ops.size - 1])

theorem Det.of_seq (hok : textOk md ops = true) : ∀ (n k : Nat) (a : Act), k + n = ops.size → 0 < n → Closed md ops (pre ops.size k) → Seq P ops Q S (ops.toList.drop k) a → Det P md ops Q S n (pre ops.size k) a := by
  simp only [textOk, Bool.and_eq_true, List.all_eq_true, List.mem_range, beq_iff_eq] at hok
  obtain ⟨⟨⟨hsel, hl⟩, hall⟩, hlast⟩ := hok
  intro n
  induction n with
  | zero => intro k a _ h; omega
  | succ n ih =>
    intro k a hk _ hc hs
    have hkl : k < ops.size := by omega
    have hko : ops[k]? = some ops[k] := Array.getElem?_eq_getElem hkl
    rw [List.drop_eq_getElem_cons (by simpa using hkl)] at hs
    cases n with
    | zero =>
      have e : ops.toList.drop (k + 1) = [] := List.drop_eq_nil_of_le (by simp; omega)
      rw [e] at hs
      have hk1 : ops.size - 1 = k := by omega
      rw [hk1] at hlast
      refine ⟨fun h => (by rw [hlast] at h; cases h), fun i hi => ?_⟩
      rw [hlast] at hi
      obtain rfl : i = k := by simpa using hi
      obtain ⟨hwant, hrun⟩ := hs
      simp only [Array.getElem_toList] at hwant hrun
      exact .inr ⟨by omega, _, hko, hwant, hrun⟩
    | succ n =>
      have hne : ∃ o rest, ops.toList.drop (k + 1) = o :: rest := by
        rw [List.drop_eq_getElem_cons (by simp; omega)]
        exact ⟨_, _, rfl⟩
      obtain ⟨o', rest', e⟩ := hne
      rw [e] at hs
      obtain ⟨v, hsure, hrest⟩ := hs
      rw [← e] at hrest
      simp only [Array.getElem_toList] at hsure hrest
      obtain ⟨hr, hf⟩ := hall k (by omega)
      refine Det.take hl hko (Region.noSelect_spec hsel) (by omega) (n + 1) _ a (pre_size _ _) hc (Region.free_spec hko hf) (by simpa using hr) hsure ?_
      have hc' := hc.set (i := k) (by simpa using hr)
      rw [pre_succ] at hc' ⊢
      exact ih (k + 1) _ (by omega) (by omega) hc' hrest

theorem region_seq (S : World → Prop) {id : Nat} {l : List Oper} {a : Act} {w : World} (hm : P.follows .mixedOrders = true) (hok : textOk .any l.toArray = true) (hn : l ≠ [])
    (hS : S w.drew) (h : Seq P l.toArray Q S l a) : (Code.region id l.toArray true).wp P Q a w := by
  refine wp_region_any hm ?_
  have hlen : 0 < l.toArray.size := by
    cases l with
    | nil => exact absurd rfl hn
    | cons x xs => simp
  have hd := Det.of_seq (md := .any) hok l.toArray.size 0 a (by omega) hlen (by rw [pre_zero]; exact Closed.none _ _) (by simpa using h)
  rw [pre_zero] at hd
  have hl : lastWaits .any l.toArray = true := by
    simp only [textOk, Bool.and_eq_true] at hok
    exact hok.1.1.2
  exact Det.sound hl _ _ a (by simp) (Closed.none _ _) hd _ hS

theorem Seq.last {o : Oper} {a : Act} (hwant : Region.wanted o (yielded ops a.tmps) = true) (h : ∀ w, S w → o.wp P a w (fun a' w' => Q .normal a' w') Q) : Seq P ops Q S [o] a := ⟨hwant, h⟩
theorem Seq.next {o o' : Oper} {rest : List Oper} {a : Act} (v : Value) (hs : Sure P ops S o v a) (h : Seq P ops Q S (o' :: rest) (a.put o.dst v)) : Seq P ops Q S (o :: o' :: rest) a := ⟨v, hs, h⟩
/-- An operation whose value hangs on no world, or on what S says of it. -/
theorem Sure.val {o : Oper} {v : Value} {a : Act} (hwant : Region.wanted o (yielded ops a.tmps) = true) (h : ∀ w, S w → (execOp a.eval o).run P w = .ok (.value v) w) : Sure P ops S o v a :=
  .inl ⟨hwant, fun w hw => by rw [h w hw]; exact ⟨rfl, hw⟩⟩
/-- A call. -/
theorem Sure.call {o : Oper} {v : Value} {a : Act} {f : FuncId} {args : Array Value} (hwant : Region.wanted o (yielded ops a.tmps) = true) (hr : ∀ w, (execOp a.eval o).run P w = .ok (.enter f args) w)
    (h : ∀ w, S w → Calls P f args w fun e w' => e = .returned v ∧ S w') : Sure P ops S o v a :=
  .inl ⟨hwant, fun w hw => by rw [hr w]; exact h w hw⟩
/-- An operation whose guard is not met. -/
theorem Sure.not {o : Oper} {a : Act} (hwant : Region.wanted o (yielded ops a.tmps) = false) : Sure P ops S o undef a := .inr ⟨hwant, rfl⟩
end
end Go.Proofs.YticflflbogdljaaDoor
