/- A region that draws its order and in which some operations, one behind the other, have values that hang on the world: walked in the order of its text, those values left open. Plain theorems, over any program. -/
import Derived.Test.YticflflbogdljaaDoorRegA
namespace Go.Proofs.YticflflbogdljaaDoor
open Go

section
variable {P : Program} {ops : Array Oper} {Q : Exit → Act → World → Prop} {md : Region.Mode} {SS : Nat → (Nat → Value) → World → Prop} {isM : Nat → Bool}

/-- The values so far, and one more. -/
def upd (π : Nat → Value) (p : Nat) (v : Value) : Nat → Value := fun q => if q = p then v else π q
theorem upd_same (π : Nat → Value) (p : Nat) (v : Value) : upd π p v p = v := if_pos rfl
theorem upd_ne (π : Nat → Value) {p q : Nat} (v : Value) (h : q ≠ p) : upd π p v q = π q := if_neg h
/-- The operation's value hangs on the world. -/
def MakesX (P : Program) (ops : Array Oper) (SS : Nat → (Nat → Value) → World → Prop) (p : Nat) (π : Nat → Value) (o : Oper) (a : Act) : Prop :=
  Region.wanted o (yielded ops a.tmps) = true ∧ ∀ w, SS p π w → ∃ v w', ((execOp a.eval o).run P w = .ok (.value v) w' ∨ (v = undef ∧ (execOp a.eval o).run P w = .ok .skip w')) ∧ SS (p + 1) (upd π p v) w'
theorem MakesX.of_same {p : Nat} {π : Nat → Value} {o : Oper} {a a' : Act} (h : MakesX P ops SS p π o a) (he : execOp a'.eval o = execOp a.eval o)
    (hw : Region.wanted o (yielded ops a'.tmps) = Region.wanted o (yielded ops a.tmps)) : MakesX P ops SS p π o a' := by
  unfold MakesX at *
  rw [he, hw]
  exact h
/-- Each of them waits for those ahead of it. -/
def chained (md : Region.Mode) (ops : Array Oper) (isM : Nat → Bool) : Bool :=
  (List.range ops.size).all fun i => (List.range ops.size).all fun j => !(isM i && isM j && decide (i < j)) || (match ops[j]? with | none => true | some o => o.after.any fun e => Region.binds md e && e.on == i)
theorem chained_spec (h : chained md ops isM = true) {i j : Nat} (hi : isM i = true) (hj : isM j = true) (hij : i < j) {o : Oper} (ho : ops[j]? = some o) : ∃ e ∈ o.after, Region.binds md e = true ∧ e.on = i := by
  have hj' : j < ops.size := (Array.getElem?_eq_some_iff.1 ho).1
  have h1 := List.all_eq_true.1 (List.all_eq_true.1 h i (List.mem_range.2 (by omega))) j (List.mem_range.2 hj')
  rw [ho] at h1
  simp only [hi, hj, decide_eq_true hij, Bool.and_self, Bool.not_true, Bool.false_or, Array.any_eq_true', Bool.and_eq_true, beq_iff_eq] at h1
  obtain ⟨e, he, hb, hon⟩ := h1
  exact ⟨e, he, hb, hon⟩

def DetP (P : Program) (md : Region.Mode) (ops : Array Oper) (Q : Exit → Act → World → Prop) (SS : Nat → (Nat → Value) → World → Prop) (isM : Nat → Bool) : Nat → Array Bool → ((Nat → Value) → Act) → Nat → Prop
  | 0, L, A, p => Region.ready md ops L = [] ∧ ∀ π w, SS p π w → Q .normal (A π) w
  | n + 1, L, A, p => (Region.ready md ops L = [] → ∀ π w, SS p π w → Q .normal (A π) w) ∧ ∀ i ∈ Region.ready md ops L,
      (∃ o v, ops[i]? = some o ∧ (∀ π q, Sure P ops (SS q π) o v (A π)) ∧ DetP P md ops Q SS isM n (L.setIfInBounds i true) (fun π => (A π).put o.dst v) p) ∨
      (∃ o, ops[i]? = some o ∧ isM i = true ∧ (∀ π, MakesX P ops SS p π o (A π)) ∧ DetP P md ops Q SS isM n (L.setIfInBounds i true) (fun π => (A π).put o.dst (π p)) (p + 1)) ∨
      (i + 1 = ops.size ∧ ∃ o, ops[i]? = some o ∧ (∀ π, Region.wanted o (yielded ops (A π).tmps) = true) ∧ ∀ π w, SS p π w → o.wp P (A π) w (fun a' w' => Q .normal a' w') Q)

/-- The frame hangs on the first p values alone. -/
def Upto (A : (Nat → Value) → Act) (p : Nat) : Prop := ∀ π π', (∀ q, q < p → π q = π' q) → A π = A π'
theorem Upto.put {A : (Nat → Value) → Act} {p : Nat} (h : Upto A p) (d : Option Tmp) (v : Value) : Upto (fun π => (A π).put d v) p := fun π π' hq => by show (A π).put _ _ = (A π').put _ _; rw [h π π' hq]
theorem Upto.made {A : (Nat → Value) → Act} {p : Nat} (h : Upto A p) (d : Option Tmp) : Upto (fun π => (A π).put d (π p)) (p + 1) := fun π π' hq => by
  show (A π).put _ _ = (A π').put _ _
  rw [h π π' fun q hq' => hq q (by omega), hq p (by omega)]

theorem DetP.sound (hl : lastWaits md ops = true) : ∀ (n : Nat) (L : Array Bool) (A : (Nat → Value) → Act) (p : Nat), Upto A p → L.size = ops.size → Closed md ops L → DetP P md ops Q SS isM n L A p →
    ∀ π w, SS p π w → wpAny P md ops Q n L (A π) w := by
  intro n
  induction n with
  | zero => intro L A p _ _ _ h π w hw; exact ⟨h.1, h.2 π w hw⟩
  | succ n ih =>
    intro L A p hA hsz hc h π w hw
    refine ⟨fun h0 => h.1 h0 π w hw, fun i hi => ?_⟩
    rcases h.2 i hi with ⟨o, v, ho, hs, hd⟩ | ⟨o, ho, _, hm, hd⟩ | ⟨hi1, ol, hol, hwl, hlast⟩
    · exact (hs π p).wpOp ho hw fun w' hw' => ih _ (fun π => (A π).put o.dst v) p (hA.put _ _) (by simpa using hsz) (hc.set hi) hd π w' hw'
    · obtain ⟨hwant, hrun⟩ := hm π
      obtain ⟨v, w', he, hS'⟩ := hrun w hw
      unfold wpOp
      simp only [ho, hwant, if_true]
      left
      unfold Oper.wp
      have h2 := ih _ (fun π => (A π).put o.dst (π p)) (p + 1) (hA.made _) (by simpa using hsz) (hc.set hi) hd (upd π p v) w' hS'
      have e : (A (upd π p v)).put o.dst (upd π p v p) = (A π).put o.dst v := by rw [upd_same, hA (upd π p v) π fun q hq => upd_ne π v (by omega)]
      rw [e] at h2
      rcases he with he | ⟨rfl, he⟩
      · rw [he]
        exact h2
      · rw [he]
        exact h2
    · refine wpOp_mono (K := fun a' w' => Q .normal a' w') (fun a' w' hQ => ?_) (by unfold wpOp; simp only [hol, hwl π, if_true]; exact .inl (hlast π w hw))
      have hready : Region.ready md ops (L.setIfInBounds i true) = [] := by
        refine ready_full (by simpa using hsz) fun k hk => ?_
        by_cases hki : i = k
        · subst hki
          have : i < L.size := by omega
          simp [Array.getD, this]
        · rw [getD_set_ne true hki]
          have hh : ¬ L.getD k true = false := fun hL => lastWaits_spec hl hc (k := k) (by omega) hL (by
            have : ops.size - 1 = i := by omega
            rw [this]; exact hi)
          simpa using hh
      cases n with
      | zero => exact ⟨hready, hQ⟩
      | succ n => exact ⟨fun _ => hQ, by rw [hready]; simp⟩

/-- What is taken first may be a sure operation, or one that makes. -/
def StepP (P : Program) (ops : Array Oper) (SS : Nat → (Nat → Value) → World → Prop) (isM : Nat → Bool) (i : Nat) (o : Oper) (V : (Nat → Value) → Value) (A : (Nat → Value) → Act) (p p' : Nat) : Prop :=
  (p' = p ∧ ∃ v, (∀ π, V π = v) ∧ ∀ π q, Sure P ops (SS q π) o v (A π)) ∨ (p' = p + 1 ∧ isM i = true ∧ (∀ π, V π = π p) ∧ ∀ π, MakesX P ops SS p π o (A π))

theorem DetP.of_step {n : Nat} {L : Array Bool} {A : (Nat → Value) → Act} {p p' : Nat} {i : Nat} {o : Oper} {V : (Nat → Value) → Value} (ho : ops[i]? = some o) (h : StepP P ops SS isM i o V A p p') (hd : DetP P md ops Q SS isM n (L.setIfInBounds i true) (fun π => (A π).put o.dst (V π)) p') :
    (∃ o v, ops[i]? = some o ∧ (∀ π q, Sure P ops (SS q π) o v (A π)) ∧ DetP P md ops Q SS isM n (L.setIfInBounds i true) (fun π => (A π).put o.dst v) p) ∨
      (∃ o, ops[i]? = some o ∧ isM i = true ∧ (∀ π, MakesX P ops SS p π o (A π)) ∧ DetP P md ops Q SS isM n (L.setIfInBounds i true) (fun π => (A π).put o.dst (π p)) (p + 1)) ∨
      (i + 1 = ops.size ∧ ∃ o, ops[i]? = some o ∧ (∀ π, Region.wanted o (yielded ops (A π).tmps) = true) ∧ ∀ π w, SS p π w → o.wp P (A π) w (fun a' w' => Q .normal a' w') Q) := by
  rcases h with ⟨rfl, v, h2, h3⟩ | ⟨rfl, hM, h3, h4⟩
  · obtain rfl : V = fun _ => v := funext h2
    exact .inl ⟨o, v, ho, h3, hd⟩
  · obtain rfl : V = fun π => π p := funext h3
    exact .inr (.inl ⟨o, ho, hM, h4, hd⟩)

theorem DetP.take (hl : lastWaits md ops = true) (hch : chained md ops isM = true) {i : Nat} {oi : Oper} {V : (Nat → Value) → Value} (hi : ops[i]? = some oi) (hsel : ∀ (j : Nat) (o : Oper) cs b, ops[j]? = some o → o.op ≠ .select cs b) (hil : i + 1 < ops.size) :
    ∀ (n : Nat) (L : Array Bool) (A : (Nat → Value) → Act) (p p' : Nat), L.size = ops.size → Closed md ops L →
      (∀ j oj, ops[j]? = some oj → j ≠ i → L.getD j true = false → (∀ e ∈ oj.after, Region.binds md e = true → e.on ≠ i) → oi.apart ops oj = true) →
      i ∈ Region.ready md ops L → StepP P ops SS isM i oi V A p p' → DetP P md ops Q SS isM n (L.setIfInBounds i true) (fun π => (A π).put oi.dst (V π)) p' → DetP P md ops Q SS isM (n + 1) L A p := by
  intro n
  induction n with
  | zero =>
    intro L A p p' _ _ _ hr hs H
    refine ⟨fun h => (by rw [h] at hr; cases hr), fun j hj => ?_⟩
    by_cases hji : j = i
    · subst hji; exact DetP.of_step hi hs H
    · have := ready_mono hj hji
      rw [H.1] at this
      cases this
  | succ n ih =>
    intro L A p p' hsz hc hfree hr hs H
    refine ⟨fun h => (by rw [h] at hr; cases hr), fun j hj => ?_⟩
    by_cases hji : j = i
    · subst hji; exact DetP.of_step hi hs H
    · obtain ⟨hjun, oj, hoj, hall⟩ := mem_ready.1 hj
      have hunl : ∀ {x : Nat}, L.getD x true = false → ¬ L.getD x false = true := fun {x} h0 h1 => by
        rcases Nat.lt_or_ge x L.size with h' | h'
        · simp [h'] at h0 h1; rw [h0] at h1; cases h1
        · simp [Array.getElem?_eq_none h'] at h1
      have hnot : ∀ e ∈ oj.after, Region.binds md e = true → e.on ≠ i := fun e he hb heq => by
        have h1 := hall e he hb
        rw [heq] at h1
        exact hunl (mem_ready.1 hr).1 h1
      have hap := hfree j oj hoj hji hjun hnot
      obtain ⟨h1, h2, h3⟩ := Oper.apart_spec hap
      have hfree' : ∀ k ok, ops[k]? = some ok → k ≠ i → (L.setIfInBounds j true).getD k true = false →
          (∀ e ∈ ok.after, Region.binds md e = true → e.on ≠ i) → oi.apart ops ok = true := fun k ok hk hki hun hno => by
        refine hfree k ok hk hki ?_ hno
        by_cases hjk : j = k
        · subst hjk; exact hjun
        · rw [getD_set_ne true hjk] at hun; exact hun
      have hsame : ∀ (a : Act) (v : Value), execOp (a.put oi.dst v).eval oj = execOp a.eval oj := fun a v => execOp_put oj (fun cs b => hsel j oj cs b hoj) a oi.dst v h1
      have hsameW : ∀ (a : Act) (v : Value), Region.wanted oj (yielded ops (a.put oi.dst v).tmps) = Region.wanted oj (yielded ops a.tmps) := fun a v => wanted_put oj a oi.dst v h1
      have he : ∀ (U : (Nat → Value) → Value) (π : Nat → Value), execOp ((A π).put oj.dst (U π)).eval oi = execOp (A π).eval oi := fun U π => execOp_put oi (fun cs b => hsel i oi cs b hi) (A π) oj.dst (U π) h3
      have hw : ∀ (U : (Nat → Value) → Value) (π : Nat → Value), Region.wanted oi (yielded ops ((A π).put oj.dst (U π)).tmps) = Region.wanted oi (yielded ops (A π).tmps) := fun U π => wanted_put oi (A π) oj.dst (U π) h3
      have hcomm : ∀ (U : (Nat → Value) → Value) (p2 : Nat), DetP P md ops Q SS isM n ((L.setIfInBounds i true).setIfInBounds j true) (fun π => ((A π).put oi.dst (V π)).put oj.dst (U π)) p2 → DetP P md ops Q SS isM n ((L.setIfInBounds j true).setIfInBounds i true) (fun π => ((A π).put oj.dst (U π)).put oi.dst (V π)) p2 := fun U p2 hd => by
        rw [Array.setIfInBounds_comm _ _ hji]
        have e : (fun π => ((A π).put oj.dst (U π)).put oi.dst (V π)) = fun π => ((A π).put oi.dst (V π)).put oj.dst (U π) := funext fun π => (Act.put_comm (A π) (V π) (U π) h2).symm
        rw [e]
        exact hd
      rcases H.2 j (ready_mono hj hji) with ⟨o, u, ho, hsu, hd⟩ | ⟨o, ho, hM, hm, hd⟩ | ⟨hj1, _⟩
      · rw [hoj] at ho
        obtain rfl := Option.some.inj ho
        have hs' : StepP P ops SS isM i oi V (fun π => (A π).put oj.dst u) p p' := by
          rcases hs with ⟨a1, v, a2, a3⟩ | ⟨a1, a2, a3, a4⟩
          · exact .inl ⟨a1, v, a2, fun π q => (a3 π q).of_same (he (fun _ => u) π) (hw (fun _ => u) π)⟩
          · exact .inr ⟨a1, a2, a3, fun π => (a4 π).of_same (he (fun _ => u) π) (hw (fun _ => u) π)⟩
        exact .inl ⟨oj, u, hoj, fun π q => (hsu π q).of_same (hsame _ _).symm (hsameW _ _).symm,
          ih (L.setIfInBounds j true) _ p p' (by simpa using hsz) (hc.set hj) hfree' (ready_mono hr (Ne.symm hji)) hs' (hcomm (fun _ => u) p' hd)⟩
      · rw [hoj] at ho
        obtain rfl := Option.some.inj ho
        rcases hs with ⟨rfl, v, a2, a3⟩ | ⟨rfl, hMi, _, _⟩
        · have hs' : StepP P ops SS isM i oi V (fun π => (A π).put oj.dst (π p')) (p' + 1) (p' + 1) := .inl ⟨rfl, v, a2, fun π q => (a3 π q).of_same (he (fun π => π p') π) (hw (fun π => π p') π)⟩
          exact .inr (.inl ⟨oj, hoj, hM, fun π => (hm π).of_same (hsame _ _).symm (hsameW _ _).symm,
            ih (L.setIfInBounds j true) _ (p' + 1) (p' + 1) (by simpa using hsz) (hc.set hj) hfree' (ready_mono hr (Ne.symm hji)) hs' (hcomm (fun π => π p') (p' + 1) hd)⟩)
        · exfalso
          rcases Nat.lt_or_ge i j with hij | hij
          · obtain ⟨e, he', hb, hon⟩ := chained_spec hch hMi hM hij hoj
            exact hnot e he' hb hon
          · obtain ⟨e, he', hb, hon⟩ := chained_spec hch hM hMi (by omega) hi
            obtain ⟨_, oi', hoi', hall'⟩ := mem_ready.1 hr
            rw [hi] at hoi'
            obtain rfl := Option.some.inj hoi'
            have h5 := hall' e he' hb
            rw [hon] at h5
            exact hunl hjun h5
      · exfalso
        have hL : L.getD i true = false := (mem_ready.1 hr).1
        exact lastWaits_spec hl hc hil hL (by
          have : ops.size - 1 = j := by omega
          rw [this]; exact hj)

def SeqP (P : Program) (ops : Array Oper) (Q : Exit → Act → World → Prop) (SS : Nat → (Nat → Value) → World → Prop) (isM : Nat → Bool) : Nat → List Oper → ((Nat → Value) → Act) → Nat → Prop
  | _, [], _, _ => False
  | _, [o], A, p => (∀ π, Region.wanted o (yielded ops (A π).tmps) = true) ∧ ∀ π w, SS p π w → o.wp P (A π) w (fun a' w' => Q .normal a' w') Q
  | k, o :: rest, A, p => ∃ V p', StepP P ops SS isM k o V A p p' ∧ SeqP P ops Q SS isM (k + 1) rest (fun π => (A π).put o.dst (V π)) p'

theorem DetP.of_seq (hok : textOk md ops = true) (hch : chained md ops isM = true) : ∀ (n k : Nat) (A : (Nat → Value) → Act) (p : Nat), k + n = ops.size → 0 < n → Closed md ops (pre ops.size k) → SeqP P ops Q SS isM k (ops.toList.drop k) A p → DetP P md ops Q SS isM n (pre ops.size k) A p := by
  simp only [textOk, Bool.and_eq_true, List.all_eq_true, List.mem_range, beq_iff_eq] at hok
  obtain ⟨⟨⟨hsel, hl⟩, hall⟩, hlast⟩ := hok
  intro n
  induction n with
  | zero => intro k A p _ h; omega
  | succ n ih =>
    intro k A p hk _ hc hs
    have hkl : k < ops.size := by omega
    have hko : ops[k]? = some ops[k] := Array.getElem?_eq_getElem hkl
    rw [List.drop_eq_getElem_cons (by simpa using hkl)] at hs
    cases n with
    | zero =>
      have e : ops.toList.drop (k + 1) = [] := List.drop_eq_nil_of_le (by simp; omega)
      rw [e] at hs
      have hk1 : ops.size - 1 = k := by omega
      rw [hk1] at hlast
      refine ⟨fun h => (by rw [hlast] at h; cases h), fun i hi => ?_⟩
      rw [hlast] at hi
      obtain rfl : i = k := by simpa using hi
      obtain ⟨hwant, hrun⟩ := hs
      simp only [Array.getElem_toList] at hwant hrun
      exact .inr (.inr ⟨by omega, _, hko, hwant, hrun⟩)
    | succ n =>
      have hne : ∃ o rest, ops.toList.drop (k + 1) = o :: rest := by
        rw [List.drop_eq_getElem_cons (by simp; omega)]
        exact ⟨_, _, rfl⟩
      obtain ⟨o', rest', e⟩ := hne
      rw [e] at hs
      obtain ⟨V, p', hstep, hrest⟩ := hs
      rw [← e] at hrest
      simp only [Array.getElem_toList] at hstep hrest
      obtain ⟨hr, hf⟩ := hall k (by omega)
      refine DetP.take hl hch hko (Region.noSelect_spec hsel) (by omega) (n + 1) _ A p p' (pre_size _ _) hc (Region.free_spec hko hf) (by simpa using hr) hstep ?_
      have hc' := hc.set (i := k) (by simpa using hr)
      rw [pre_succ] at hc' ⊢
      exact ih (k + 1) _ p' (by omega) (by omega) hc' hrest

/-- A region in which the operations isM make, one behind the other. -/
theorem region_chain (SS : Nat → (Nat → Value) → World → Prop) (isM : Nat → Bool) {id : Nat} {ls : List Oper} {a : Act} {w : World} (hm : P.follows .mixedOrders = true) (hok : textOk .any ls.toArray = true) (hch : chained .any ls.toArray isM = true) (hn : ls ≠ [])
    (hS : SS 0 (fun _ => undef) w.drew) (h : SeqP P ls.toArray Q SS isM 0 ls (fun _ => a) 0) : (Code.region id ls.toArray true).wp P Q a w := by
  refine wp_region_any hm ?_
  have hlen : 0 < ls.toArray.size := by
    cases ls with
    | nil => exact absurd rfl hn
    | cons x xs => simp
  have hd := DetP.of_seq (md := .any) hok hch ls.toArray.size 0 (fun _ => a) 0 (by omega) hlen (by rw [pre_zero]; exact Closed.none _ _) (by simpa using h)
  rw [pre_zero] at hd
  have hl : lastWaits .any ls.toArray = true := by
    simp only [textOk, Bool.and_eq_true] at hok
    exact hok.1.1.2
  exact DetP.sound hl _ _ (fun _ => a) 0 (fun _ _ _ => rfl) (by simp) (Closed.none _ _) hd _ _ hS

theorem SeqP.last {k p : Nat} {o : Oper} {A : (Nat → Value) → Act} (hwant : ∀ π, Region.wanted o (yielded ops (A π).tmps) = true) (h : ∀ π w, SS p π w → o.wp P (A π) w (fun a' w' => Q .normal a' w') Q) : SeqP P ops Q SS isM k [o] A p := ⟨hwant, h⟩
theorem SeqP.next {k p : Nat} {o o' : Oper} {rest : List Oper} {A : (Nat → Value) → Act} (v : Value) (hs : ∀ π q, Sure P ops (SS q π) o v (A π)) (h : SeqP P ops Q SS isM (k + 1) (o' :: rest) (fun π => (A π).put o.dst v) p) : SeqP P ops Q SS isM k (o :: o' :: rest) A p :=
  ⟨fun _ => v, p, .inl ⟨rfl, v, fun _ => rfl, hs⟩, h⟩
/-- The operation's value hangs on the world. -/
def MakesP (P : Program) (ops : Array Oper) (SS : Nat → (Nat → Value) → World → Prop) (p : Nat) (π : Nat → Value) (o : Oper) (a : Act) : Prop :=
  Region.wanted o (yielded ops a.tmps) = true ∧ ∀ w, SS p π w → ∃ v w', (execOp a.eval o).run P w = .ok (.value v) w' ∧ SS (p + 1) (upd π p v) w'
theorem SeqP.make {k p : Nat} {o o' : Oper} {rest : List Oper} {A : (Nat → Value) → Act} (hM : isM k = true) (hs : ∀ π, MakesP P ops SS p π o (A π)) (h : SeqP P ops Q SS isM (k + 1) (o' :: rest) (fun π => (A π).put o.dst (π p)) (p + 1)) : SeqP P ops Q SS isM k (o :: o' :: rest) A p :=
  ⟨fun π => π p, p + 1, .inr ⟨rfl, hM, fun _ => rfl, fun π => ⟨(hs π).1, fun w hw => by obtain ⟨v, w', he, h2⟩ := (hs π).2 w hw; exact ⟨v, w', .inl he, h2⟩⟩⟩, h⟩
/-- A store, ahead of the last operation. -/
theorem SeqP.store {k p : Nat} {o o' : Oper} {rest : List Oper} {A : (Nat → Value) → Act} (hM : isM k = true) (hwant : ∀ π, Region.wanted o (yielded ops (A π).tmps) = true) (hs : ∀ π w, SS p π w → ∃ w', (execOp (A π).eval o).run P w = .ok .skip w' ∧ SS (p + 1) (upd π p undef) w') (h : SeqP P ops Q SS isM (k + 1) (o' :: rest) (fun π => (A π).put o.dst (π p)) (p + 1)) : SeqP P ops Q SS isM k (o :: o' :: rest) A p :=
  ⟨fun π => π p, p + 1, .inr ⟨rfl, hM, fun _ => rfl, fun π => ⟨hwant π, fun w hw => by obtain ⟨w', he, h2⟩ := hs π w hw; exact ⟨undef, w', .inr ⟨rfl, he⟩, h2⟩⟩⟩, h⟩
end
end Go.Proofs.YticflflbogdljaaDoor
