/- A region that draws its order, walked in the order of its text, phase by phase: a phase ends with an operation that waits for all ahead of it (a store, say): behind it the world is told anew. In a phase some operations may have values that hang on the world (a new variable), in no order among themselves. Plain theorems, over any program. -/
import Derived.Test.YticflflbogdljaaDoorRegQ
namespace Go.Proofs.YticflflbogdljaaDoor
open Go

section
variable {P : Program} {ops : Array Oper} {Q : Exit → Act → World → Prop} {md : Region.Mode} {SS : (Nat → Bool) → (Nat → Value) → World → Prop} {isM : Nat → Bool}

/-- What is left of the region, behind its first k operations. -/
def Rest (P : Program) (md : Region.Mode) (ops : Array Oper) (Q : Exit → Act → World → Prop) (k : Nat) (a : Act) (w : World) : Prop := wpAny P md ops Q (ops.size - k) (pre ops.size k) a w

/-- The gate at g waits for each operation from k0 on. -/
def gateWaits (md : Region.Mode) (ops : Array Oper) (k0 g : Nat) : Bool :=
  (List.range g).all fun k => decide (k < k0) || waitsFor md ops 6 g k || waitsFor md ops 12 g k
theorem gateWaits_spec {k0 g : Nat} (h : gateWaits md ops k0 g = true) {L : Array Bool} (hc : Closed md ops L) {k : Nat} (hk0 : k0 ≤ k) (hk : k < g) (hL : L.getD k true = false) : g ∉ Region.ready md ops L := by
  intro hr
  have h1 := List.all_eq_true.1 h k (List.mem_range.2 hk)
  obtain ⟨_, o, ho, hall⟩ := mem_ready.1 hr
  have go : ∀ f, waitsFor md ops f g k = true → False := fun f h1 => by
    have h2 := waitsFor_spec hc k f _ h1 (fun o' ho' => by rw [ho] at ho'; obtain rfl := Option.some.inj ho'; exact hall)
    rw [getD_down hL] at h2
    cases h2
  rcases (Bool.or_eq_true _ _).mp h1 with h1 | h1
  · rcases (Bool.or_eq_true _ _).mp h1 with h1 | h1
    · have := of_decide_eq_true h1; omega
    · exact go _ h1
  · exact go _ h1

/-- What an operation waits for has been done; what waits for it has not. -/
def MetH (md : Region.Mode) (ops : Array Oper) (isM : Nat → Bool) (i : Nat) (D : Nat → Bool) : Prop := (∀ k, isM k = true → waitsFor md ops 6 i k = true → D k = true) ∧ ∀ k, isM k = true → waitsFor md ops 6 k i = true → D k = false
def SureM (P : Program) (md : Region.Mode) (ops : Array Oper) (SS : (Nat → Bool) → (Nat → Value) → World → Prop) (isM : Nat → Bool) (i : Nat) (o : Oper) (π : Nat → Value) (v : Value) (a : Act) : Prop := ∀ D, MetH md ops isM i D → Sure P ops (SS D π) o v a
def MakesM (P : Program) (md : Region.Mode) (ops : Array Oper) (SS : (Nat → Bool) → (Nat → Value) → World → Prop) (isM : Nat → Bool) (i : Nat) (o : Oper) (π : Nat → Value) (a : Act) : Prop :=
  Region.wanted o (yielded ops a.tmps) = true ∧ ∀ D w, MetH md ops isM i D → D i = false → SS D π w → MadeR P SS D i π ((execOp a.eval o).run P w)
theorem MakesM.of_same {i : Nat} {π : Nat → Value} {o : Oper} {a a' : Act} (h : MakesM P md ops SS isM i o π a) (he : execOp a'.eval o = execOp a.eval o)
    (hw : Region.wanted o (yielded ops a'.tmps) = Region.wanted o (yielded ops a.tmps)) : MakesM P md ops SS isM i o π a' := by
  unfold MakesM at *
  rw [he, hw]
  exact h
theorem SureM.of_same {i : Nat} {π : Nat → Value} {v : Value} {o : Oper} {a a' : Act} (h : SureM P md ops SS isM i o π v a) (he : execOp a'.eval o = execOp a.eval o)
    (hw : Region.wanted o (yielded ops a'.tmps) = Region.wanted o (yielded ops a.tmps)) : SureM P md ops SS isM i o π v a' := fun D hD => (h D hD).of_same he hw
theorem ready_metH {L : Array Bool} (hc : Closed md ops L) {i : Nat} (hi : i ∈ Region.ready md ops L) : MetH md ops isM i (dn isM L) := by
  refine ⟨fun k hk hwk => by unfold dn; rw [hk, ready_met hc hi hwk]; rfl, fun k hk hwk => ?_⟩
  unfold dn
  rw [hk, Bool.true_and]
  cases hL : L.getD k false
  · rfl
  · exfalso
    have h1 := waitsFor_spec hc i 6 k hwk (fun o ho e he hb => hc k o ho (getD_up hL) e he hb)
    have h0 := getD_down (mem_ready.1 hi).1
    rw [h0] at h1; cases h1
def DetH (P : Program) (md : Region.Mode) (ops : Array Oper) (Q : Exit → Act → World → Prop) (SS : (Nat → Bool) → (Nat → Value) → World → Prop) (isM : Nat → Bool) (g : Nat) : Nat → Array Bool → ((Nat → Value) → Act) → Prop
  | 0, _, _ => False
  | n + 1, L, A => Region.ready md ops L ≠ [] ∧ ∀ i ∈ Region.ready md ops L,
      (∃ o V, ops[i]? = some o ∧ isM i = false ∧ HangQ md ops isM i V ∧ (∀ π, SureM P md ops SS isM i o π (V π) (A π)) ∧ DetH P md ops Q SS isM g n (L.setIfInBounds i true) (fun π => (A π).put o.dst (V π))) ∨
      (∃ o, ops[i]? = some o ∧ isM i = true ∧ (∀ π, MakesM P md ops SS isM i o π (A π)) ∧ DetH P md ops Q SS isM g n (L.setIfInBounds i true) (fun π => (A π).put o.dst (π i))) ∨
      (i = g ∧ ∃ o, ops[i]? = some o ∧ (∀ π, Region.wanted o (yielded ops (A π).tmps) = true) ∧ ∀ π w, SS (dn isM L) π w → o.wp P (A π) w (fun a' w' => wpAny P md ops Q n (L.setIfInBounds i true) a' w') Q)

theorem DetH.sound {g : Nat} : ∀ (n : Nat) (L : Array Bool) (A : (Nat → Value) → Act), UptoQ isM L A → L.size = ops.size → Closed md ops L → DetH P md ops Q SS isM g n L A →
    ∀ π w, SS (dn isM L) π w → wpAny P md ops Q n L (A π) w := by
  intro n
  induction n with
  | zero => intro L A _ _ _ h; exact h.elim
  | succ n ih =>
    intro L A hA hsz hc h π w hw
    refine ⟨fun h0 => absurd h0 h.1, fun i hi => ?_⟩
    have hmet : MetH md ops isM i (dn isM L) := ready_metH hc hi
    have hiL := ready_lt hsz hi
    have hiun : L.getD i false = false := getD_down (mem_ready.1 hi).1
    rcases h.2 i hi with ⟨o, V, ho, hMi, hV, hs, hd⟩ | ⟨o, ho, hMi, hm, hd⟩ | ⟨_, ol, hol, hwl, hlast⟩
    · refine (hs π _ hmet).wpOp ho hw fun w' hw' => ih _ (fun π => (A π).put o.dst (V π)) (fun π1 π2 h12 => ?_) (by simpa using hsz) (hc.set hi) hd π w' (by rw [dn_sure hMi]; exact hw')
      show (A π1).put o.dst (V π1) = (A π2).put o.dst (V π2)
      rw [hA π1 π2 fun k hk hL => h12 k hk (set_up hL), hV π1 π2 fun k hk hwk => h12 k hk (set_up (ready_met hc hi hwk))]
    · obtain ⟨hwant, hrun⟩ := hm π
      have h2 := hrun _ w hmet (by unfold dn; rw [hiun]; simp) hw
      have hU : UptoQ isM (L.setIfInBounds i true) (fun π => (A π).put o.dst (π i)) := fun π1 π2 h12 => by
        show (A π1).put o.dst (π1 i) = (A π2).put o.dst (π2 i)
        rw [hA π1 π2 fun k hk hL => h12 k hk (set_up hL), h12 i hMi (set_at hiL)]
      have hgo : ∀ v w', SS (upb (dn isM L) i) (upd π i v) w' → wpAny P md ops Q n (L.setIfInBounds i true) ((A π).put o.dst v) w' := fun v w' hS' => by
        have h3 := ih _ (fun π => (A π).put o.dst (π i)) hU (by simpa using hsz) (hc.set hi) hd (upd π i v) w' (by rw [dn_made hMi hiL]; exact hS')
        have e : (A (upd π i v)).put o.dst (upd π i v i) = (A π).put o.dst v := by
          rw [upd_same, hA (upd π i v) π fun k hk hL => upd_ne π v (fun e => by subst e; rw [hiun] at hL; cases hL)]
        rw [e] at h3
        exact h3
      unfold wpOp
      simp only [ho, hwant, if_true]
      left
      unfold Oper.wp
      revert h2
      generalize (execOp (A π).eval o).run P w = r
      intro h2
      cases r with
      | ok x w' =>
        cases x with
        | value u => exact hgo _ _ h2
        | skip => exact hgo _ _ h2
        | enter f args =>
          refine Calls.mono h2 ?_
          rintro e w'' ⟨v, rfl, hS'⟩
          exact hgo _ _ hS'
        | _ => exact h2.elim
      | halt x w' => exact h2.elim
    · unfold wpOp
      simp only [hol, hwl π, if_true]
      exact .inl (hlast π w hw)

/-- What is taken first: a sure operation, or one that makes. -/
def StepH (P : Program) (md : Region.Mode) (ops : Array Oper) (SS : (Nat → Bool) → (Nat → Value) → World → Prop) (isM : Nat → Bool) (i : Nat) (o : Oper) (V : (Nat → Value) → Value) (A : (Nat → Value) → Act) : Prop :=
  (isM i = false ∧ HangQ md ops isM i V ∧ ∀ π, SureM P md ops SS isM i o π (V π) (A π)) ∨ (isM i = true ∧ (∀ π, V π = π i) ∧ ∀ π, MakesM P md ops SS isM i o π (A π))
theorem DetH.of_step {g n : Nat} {L : Array Bool} {A : (Nat → Value) → Act} {i : Nat} {o : Oper} {V : (Nat → Value) → Value} (ho : ops[i]? = some o) (h : StepH P md ops SS isM i o V A) (hd : DetH P md ops Q SS isM g n (L.setIfInBounds i true) (fun π => (A π).put o.dst (V π))) :
    (∃ o V, ops[i]? = some o ∧ isM i = false ∧ HangQ md ops isM i V ∧ (∀ π, SureM P md ops SS isM i o π (V π) (A π)) ∧ DetH P md ops Q SS isM g n (L.setIfInBounds i true) (fun π => (A π).put o.dst (V π))) ∨
      (∃ o, ops[i]? = some o ∧ isM i = true ∧ (∀ π, MakesM P md ops SS isM i o π (A π)) ∧ DetH P md ops Q SS isM g n (L.setIfInBounds i true) (fun π => (A π).put o.dst (π i))) ∨
      (i = g ∧ ∃ o, ops[i]? = some o ∧ (∀ π, Region.wanted o (yielded ops (A π).tmps) = true) ∧ ∀ π w, SS (dn isM L) π w → o.wp P (A π) w (fun a' w' => wpAny P md ops Q n (L.setIfInBounds i true) a' w') Q) := by
  rcases h with ⟨hM, h2, h3⟩ | ⟨hM, h3, h4⟩
  · exact .inl ⟨o, V, ho, hM, h2, h3, hd⟩
  · obtain rfl : V = fun π => π i := funext h3
    exact .inr (.inl ⟨o, ho, hM, h4, hd⟩)

theorem DetH.take {k0 g : Nat} (hl : gateWaits md ops k0 g = true) {i : Nat} {oi : Oper} {V : (Nat → Value) → Value} (hi : ops[i]? = some oi) (hsel : ∀ (j : Nat) (o : Oper) cs b, ops[j]? = some o → o.op ≠ .select cs b) (hk0 : k0 ≤ i) (hil : i < g) :
    ∀ (n : Nat) (L : Array Bool) (A : (Nat → Value) → Act), L.size = ops.size → Closed md ops L →
      (∀ j oj, ops[j]? = some oj → j ≠ i → L.getD j true = false → (∀ e ∈ oj.after, Region.binds md e = true → e.on ≠ i) → oi.apart ops oj = true) →
      i ∈ Region.ready md ops L → StepH P md ops SS isM i oi V A → DetH P md ops Q SS isM g n (L.setIfInBounds i true) (fun π => (A π).put oi.dst (V π)) → DetH P md ops Q SS isM g (n + 1) L A := by
  intro n
  induction n with
  | zero => intro L A _ _ _ hr hs H; exact H.elim
  | succ n ih =>
    intro L A hsz hc hfree hr hs H
    refine ⟨fun h => (by rw [h] at hr; cases hr), fun j hj => ?_⟩
    by_cases hji : j = i
    · subst hji; exact DetH.of_step hi hs H
    · obtain ⟨hjun, oj, hoj, hall⟩ := mem_ready.1 hj
      have hunl : ∀ {x : Nat}, L.getD x true = false → ¬ L.getD x false = true := fun {x} h0 h1 => by
        rcases Nat.lt_or_ge x L.size with h' | h'
        · simp [h'] at h0 h1; rw [h0] at h1; cases h1
        · simp [Array.getElem?_eq_none h'] at h1
      have hnot : ∀ e ∈ oj.after, Region.binds md e = true → e.on ≠ i := fun e he hb heq => by
        have h1 := hall e he hb
        rw [heq] at h1
        exact hunl (mem_ready.1 hr).1 h1
      have hap := hfree j oj hoj hji hjun hnot
      obtain ⟨h1, h2, h3⟩ := Oper.apart_spec hap
      have hfree' : ∀ k ok, ops[k]? = some ok → k ≠ i → (L.setIfInBounds j true).getD k true = false →
          (∀ e ∈ ok.after, Region.binds md e = true → e.on ≠ i) → oi.apart ops ok = true := fun k ok hk hki hun hno => by
        refine hfree k ok hk hki ?_ hno
        by_cases hjk : j = k
        · subst hjk; exact hjun
        · rw [getD_set_ne true hjk] at hun; exact hun
      have hsame : ∀ (a : Act) (v : Value), execOp (a.put oi.dst v).eval oj = execOp a.eval oj := fun a v => execOp_put oj (fun cs b => hsel j oj cs b hoj) a oi.dst v h1
      have hsameW : ∀ (a : Act) (v : Value), Region.wanted oj (yielded ops (a.put oi.dst v).tmps) = Region.wanted oj (yielded ops a.tmps) := fun a v => wanted_put oj a oi.dst v h1
      have he : ∀ (U : (Nat → Value) → Value) (π : Nat → Value), execOp ((A π).put oj.dst (U π)).eval oi = execOp (A π).eval oi := fun U π => execOp_put oi (fun cs b => hsel i oi cs b hi) (A π) oj.dst (U π) h3
      have hw : ∀ (U : (Nat → Value) → Value) (π : Nat → Value), Region.wanted oi (yielded ops ((A π).put oj.dst (U π)).tmps) = Region.wanted oi (yielded ops (A π).tmps) := fun U π => wanted_put oi (A π) oj.dst (U π) h3
      have hcomm : ∀ (U : (Nat → Value) → Value), DetH P md ops Q SS isM g n ((L.setIfInBounds i true).setIfInBounds j true) (fun π => ((A π).put oi.dst (V π)).put oj.dst (U π)) → DetH P md ops Q SS isM g n ((L.setIfInBounds j true).setIfInBounds i true) (fun π => ((A π).put oj.dst (U π)).put oi.dst (V π)) := fun U hd => by
        rw [Array.setIfInBounds_comm _ _ hji]
        have e : (fun π => ((A π).put oj.dst (U π)).put oi.dst (V π)) = fun π => ((A π).put oi.dst (V π)).put oj.dst (U π) := funext fun π => (Act.put_comm (A π) (V π) (U π) h2).symm
        rw [e]
        exact hd
      have hs' : ∀ (U : (Nat → Value) → Value), StepH P md ops SS isM i oi V (fun π => (A π).put oj.dst (U π)) := fun U => by
        rcases hs with ⟨a1, a2, a3⟩ | ⟨a1, a2, a3⟩
        · exact .inl ⟨a1, a2, fun π => (a3 π).of_same (he U π) (hw U π)⟩
        · exact .inr ⟨a1, a2, fun π => (a3 π).of_same (he U π) (hw U π)⟩
      rcases H.2 j (ready_mono hj hji) with ⟨o, U, ho, hMj, hU, hsu, hd⟩ | ⟨o, ho, hMj, hm, hd⟩ | ⟨hjg, _⟩
      · rw [hoj] at ho
        obtain rfl := Option.some.inj ho
        exact .inl ⟨oj, U, hoj, hMj, hU, fun π => (hsu π).of_same (hsame _ _).symm (hsameW _ _).symm,
          ih (L.setIfInBounds j true) _ (by simpa using hsz) (hc.set hj) hfree' (ready_mono hr (Ne.symm hji)) (hs' U) (hcomm U hd)⟩
      · rw [hoj] at ho
        obtain rfl := Option.some.inj ho
        exact .inr (.inl ⟨oj, hoj, hMj, fun π => (hm π).of_same (hsame _ _).symm (hsameW _ _).symm,
          ih (L.setIfInBounds j true) _ (by simpa using hsz) (hc.set hj) hfree' (ready_mono hr (Ne.symm hji)) (hs' fun π => π j) (hcomm (fun π => π j) hd)⟩)
      · exfalso
        subst hjg
        exact gateWaits_spec hl hc hk0 hil (mem_ready.1 hr).1 hj

/-- Walked in the order of the text, from operation k to the gate at g. -/
def SeqH (P : Program) (md : Region.Mode) (ops : Array Oper) (Q : Exit → Act → World → Prop) (SS : (Nat → Bool) → (Nat → Value) → World → Prop) (isM : Nat → Bool) (g : Nat) : Nat → List Oper → ((Nat → Value) → Act) → Prop
  | _, [], _ => False
  | k, o :: rest, A => (k = g ∧ (∀ π, Region.wanted o (yielded ops (A π).tmps) = true) ∧ ∀ D π w, (∀ j, isM j = true → j < g → D j = true) → SS D π w → o.wp P (A π) w (fun a' w' => Rest P md ops Q (g + 1) a' w') Q) ∨
      (k ≠ g ∧ ∃ V, StepH P md ops SS isM k o V A ∧ SeqH P md ops Q SS isM g (k + 1) rest (fun π => (A π).put o.dst (V π)))

/-- From k0 to the gate at g the text's own order is one that the edges allow, each operation is apart from those that do not wait for it, and the gate waits for all. -/
def phaseOk (md : Region.Mode) (ops : Array Oper) (isM : Nat → Bool) (k0 g : Nat) : Bool :=
  Region.noSelect ops && gateWaits md ops k0 g && (List.range g).all (fun k => decide (k < k0) && !isM k || ((Region.ready md ops (pre ops.size k)).contains k && Region.free md ops (pre ops.size k) k)) && (Region.ready md ops (pre ops.size g) == [g])

theorem DetH.of_seq {k0 g : Nat} (hok : phaseOk md ops isM k0 g = true) : ∀ (n k : Nat) (A : (Nat → Value) → Act), k + n = ops.size → k0 ≤ k → Closed md ops (pre ops.size k) → SeqH P md ops Q SS isM g k (ops.toList.drop k) A → DetH P md ops Q SS isM g n (pre ops.size k) A := by
  simp only [phaseOk, Bool.and_eq_true, List.all_eq_true, List.mem_range, beq_iff_eq, Bool.or_eq_true, decide_eq_true_eq] at hok
  obtain ⟨⟨⟨hsel, hl⟩, hall⟩, hlast⟩ := hok
  intro n
  induction n with
  | zero =>
    intro k A hk _ _ hs
    rw [List.drop_eq_nil_of_le (by simp; omega)] at hs
    exact hs.elim
  | succ n ih =>
    intro k A hk hk0 hc hs
    have hkl : k < ops.size := by omega
    have hko : ops[k]? = some ops[k] := Array.getElem?_eq_getElem hkl
    rw [List.drop_eq_getElem_cons (by simpa using hkl)] at hs
    rcases hs with ⟨rfl, hwant, hrun⟩ | ⟨hkg, V, hstep, hrest⟩
    · simp only [Array.getElem_toList] at hwant hrun
      refine ⟨fun h => (by rw [hlast] at h; cases h), fun i hi => ?_⟩
      rw [hlast] at hi
      obtain rfl : i = k := by simpa using hi
      refine .inr (.inr ⟨rfl, _, hko, hwant, fun π w hw => ?_⟩)
      have h := hrun _ π w (fun j hj hji => ?_) hw
      · refine Oper.wp_mono (fun a' w' h' => ?_) h
        unfold Rest at h'
        rw [pre_succ]
        have e : ops.size - (i + 1) = n := by omega
        rw [e] at h'
        exact h'
      · unfold dn
        rw [hj]
        have hjs : j < ops.size := by omega
        simp [pre, hjs, hji]
    · simp only [Array.getElem_toList] at hstep hrest
      rcases Nat.lt_or_ge k g with hlt | hge
      · have hkk := hall k hlt
        rcases hkk with ⟨h1, _⟩ | ⟨hr, hf⟩
        · omega
        refine DetH.take hl hko (Region.noSelect_spec hsel) hk0 hlt n _ A (pre_size _ _) hc (Region.free_spec hko hf) (by simpa using hr) hstep ?_
        have hc' := hc.set (i := k) (by simpa using hr)
        rw [pre_succ] at hc' ⊢
        exact ih (k + 1) _ (by omega) (by omega) hc' hrest
      · exfalso
        -- behind the gate: no step of this phase
        have : ∀ (m j : Nat) (A : (Nat → Value) → Act) (l : List Oper), g < j → SeqH P md ops Q SS isM g j l A → l.length ≤ m → False := by
          intro m
          induction m with
          | zero => intro j A l hj hs hl; cases l with | nil => exact hs | cons o r => simp at hl
          | succ m ihm =>
            intro j A l hj hs hl
            cases l with
            | nil => exact hs
            | cons o r =>
              rcases hs with ⟨h1, _⟩ | ⟨_, V, _, h2⟩
              · omega
              · exact ihm (j + 1) _ r (by omega) h2 (by simpa using hl)
        exact this _ (k + 1) _ _ (by omega) hrest (Nat.le_refl _)

theorem Closed.pre_of {k : Nat} (h : ∀ j, j < k → ∀ o, ops[j]? = some o → ∀ e ∈ o.after, Region.binds md e = true → e.on < k) (hk : k ≤ ops.size) : Closed md ops (pre ops.size k) := by
  intro j o hj hL e he hb
  have hjs : j < ops.size := (Array.getElem?_eq_some_iff.1 hj).1
  have hjk : j < k := by
    simp [pre, hjs] at hL
    exact hL
  have h1 := h j hjk o hj e he hb
  have h2 : e.on < ops.size := by omega
  simp [pre, h2, h1]
def closedB (md : Region.Mode) (ops : Array Oper) (k : Nat) : Bool :=
  decide (k ≤ ops.size) && (List.range k).all fun j => match ops[j]? with | none => true | some o => o.after.all fun e => !Region.binds md e || decide (e.on < k)
theorem closedB_spec {k : Nat} (h : closedB md ops k = true) : Closed md ops (pre ops.size k) := by
  simp only [closedB, Bool.and_eq_true, decide_eq_true_eq, List.all_eq_true, List.mem_range] at h
  refine Closed.pre_of (fun j hj o ho e he hb => ?_) h.1
  have h1 := h.2 j hj
  rw [ho] at h1
  simp only [Array.all_eq_true_iff_forall_mem] at h1
  have h2 := h1 e he
  rw [hb] at h2
  simpa using h2

/-- One phase: from operation k0 to the gate at g. -/
theorem Rest.phase (SS : (Nat → Bool) → (Nat → Value) → World → Prop) (isM : Nat → Bool) {k0 : Nat} (g : Nat) {a : Act} {w : World} (hok : (phaseOk md ops isM k0 g && closedB md ops k0) = true) (hS : SS (fun _ => false) (fun _ => undef) w)
    (hM : (List.range k0).all (fun k => !isM k) = true) (hfar : ∀ k, ops.size ≤ k → isM k = false) (h : SeqH P md ops Q SS isM g k0 (ops.toList.drop k0) (fun _ => a)) : Rest P md ops Q k0 a w := by
  rw [Bool.and_eq_true] at hok
  have hc := closedB_spec hok.2
  have hk : k0 ≤ ops.size := by
    have := hok.2
    simp only [closedB, Bool.and_eq_true, decide_eq_true_eq] at this
    exact this.1
  have hd := DetH.of_seq (md := md) hok.1 (ops.size - k0) k0 (fun _ => a) (by omega) (Nat.le_refl _) hc h
  have h0 : dn isM (pre ops.size k0) = fun _ => false := by
    funext k
    unfold dn
    rcases Nat.lt_or_ge k k0 with hk | hk
    · have := List.all_eq_true.1 hM k (List.mem_range.2 hk)
      simp only [Bool.not_eq_true'] at this
      rw [this]; rfl
    · rcases Nat.lt_or_ge k ops.size with hks | hks
      · have : ¬ k < k0 := by omega
        simp [pre, hks, this]
      · rw [hfar k hks]; rfl
  exact DetH.sound _ _ (fun _ => a) (fun _ _ _ => rfl) (pre_size _ _) hc hd _ _ (by rw [h0]; exact hS)

/-- The same, with what is made listed. -/
theorem Rest.phaseL (SS : (Nat → Bool) → (Nat → Value) → World → Prop) (ks : List Nat) {k0 : Nat} (g : Nat) {a : Act} {w : World} (hok : (phaseOk md ops (fun k => ks.contains k) k0 g && closedB md ops k0 && ks.all (fun k => decide (k0 ≤ k) && decide (k < ops.size))) = true) (hS : SS (fun _ => false) (fun _ => undef) w)
    (h : SeqH P md ops Q SS (fun k => ks.contains k) g k0 (ops.toList.drop k0) (fun _ => a)) : Rest P md ops Q k0 a w := by
  rw [Bool.and_eq_true] at hok
  have hk : ∀ k, ks.contains k = true → k0 ≤ k ∧ k < ops.size := fun k hk => by
    have := List.all_eq_true.1 hok.2 k (by simpa using hk)
    simpa using this
  refine Rest.phase SS (fun k => ks.contains k) g hok.1 hS (List.all_eq_true.2 fun k hk' => ?_) (fun k hk' => ?_) h
  · have h1 := List.mem_range.1 hk'
    cases h2 : ks.contains k
    · rfl
    · have := (hk k h2).1; omega
  · cases h2 : ks.contains k
    · rfl
    · have := (hk k h2).2; omega
theorem Rest.done {k : Nat} {a : Act} {w : World} (hk : ops.size ≤ k) (h : Q .normal a w) : Rest P md ops Q k a w := by
  unfold Rest
  have e : ops.size - k = 0 := by omega
  rw [e]
  refine ⟨ready_full (pre_size _ _) fun j hj => ?_, h⟩
  have : j < k := by omega
  simp [pre, hj, this]
/-- A region that draws its order, from its first operation on. -/
theorem region_rest {id : Nat} {ls : List Oper} {a : Act} {w : World} (hm : P.follows .mixedOrders = true) (h : Rest P .any ls.toArray Q 0 a w.drew) : (Code.region id ls.toArray true).wp P Q a w := by
  refine wp_region_any hm ?_
  unfold Rest at h
  rw [pre_zero] at h
  exact h

theorem SeqH.gate {g : Nat} {o : Oper} {rest : List Oper} {A : (Nat → Value) → Act} (hwant : ∀ π, Region.wanted o (yielded ops (A π).tmps) = true) (h : ∀ D π w, (∀ j, isM j = true → j < g → D j = true) → SS D π w → o.wp P (A π) w (fun a' w' => Rest P md ops Q (g + 1) a' w') Q) : SeqH P md ops Q SS isM g g (o :: rest) A := .inl ⟨rfl, hwant, h⟩
theorem SeqH.next {g k : Nat} {o : Oper} {rest : List Oper} {A : (Nat → Value) → Act} (v : Value) (hk : (k != g) = true) (hM : isM k = false) (hs : ∀ π D, MetH md ops isM k D → Sure P ops (SS D π) o v (A π)) (h : SeqH P md ops Q SS isM g (k + 1) rest (fun π => (A π).put o.dst v)) : SeqH P md ops Q SS isM g k (o :: rest) A :=
  .inr ⟨by simpa using hk, fun _ => v, .inl ⟨hM, fun _ _ _ => rfl, fun π D hD => hs π D hD⟩, h⟩
theorem SeqH.hang {g k : Nat} {o : Oper} {rest : List Oper} {A : (Nat → Value) → Act} (V : (Nat → Value) → Value) (hk : (k != g) = true) (hM : isM k = false) (hV : HangQ md ops isM k V) (hs : ∀ π D, MetH md ops isM k D → Sure P ops (SS D π) o (V π) (A π)) (h : SeqH P md ops Q SS isM g (k + 1) rest (fun π => (A π).put o.dst (V π))) : SeqH P md ops Q SS isM g k (o :: rest) A :=
  .inr ⟨by simpa using hk, V, .inl ⟨hM, hV, fun π D hD => hs π D hD⟩, h⟩
theorem SeqH.make {g k : Nat} {o : Oper} {rest : List Oper} {A : (Nat → Value) → Act} (hk : (k != g) = true) (hM : isM k = true) (hs : ∀ π, MakesM P md ops SS isM k o π (A π)) (h : SeqH P md ops Q SS isM g (k + 1) rest (fun π => (A π).put o.dst (π k))) : SeqH P md ops Q SS isM g k (o :: rest) A :=
  .inr ⟨by simpa using hk, fun π => π k, .inr ⟨hM, fun _ => rfl, hs⟩, h⟩
end
end Go.Proofs.YticflflbogdljaaDoor
