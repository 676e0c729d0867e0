/- A region that draws its order and in which some operations have values that hang on the world, in no order among themselves: walked in the order of its text, those values left open, each under its operation's place. Plain theorems, over any program. -/
import Derived.Test.YticflflbogdljaaDoorRegP
namespace Go.Proofs.YticflflbogdljaaDoor
open Go

section
variable {P : Program} {ops : Array Oper} {Q : Exit → Act → World → Prop} {md : Region.Mode} {SS : (Nat → Bool) → (Nat → Value) → World → Prop} {isM : Nat → Bool}

/-- What has been made, and one more. -/
def upb (D : Nat → Bool) (i : Nat) : Nat → Bool := fun k => if k = i then true else D k
def dn (isM : Nat → Bool) (L : Array Bool) : Nat → Bool := fun k => isM k && L.getD k false
/-- The value hangs on what the operation waits for. -/
def HangQ (md : Region.Mode) (ops : Array Oper) (isM : Nat → Bool) (i : Nat) (V : (Nat → Value) → Value) : Prop := ∀ π π', (∀ k, isM k = true → waitsFor md ops 6 i k = true → π k = π' k) → V π = V π'
def MetQ (md : Region.Mode) (ops : Array Oper) (isM : Nat → Bool) (i : Nat) (D : Nat → Bool) : Prop := ∀ k, isM k = true → waitsFor md ops 6 i k = true → D k = true
def SureQ (P : Program) (md : Region.Mode) (ops : Array Oper) (SS : (Nat → Bool) → (Nat → Value) → World → Prop) (isM : Nat → Bool) (i : Nat) (o : Oper) (π : Nat → Value) (v : Value) (a : Act) : Prop := ∀ D, MetQ md ops isM i D → Sure P ops (SS D π) o v a
def MadeR (P : Program) (SS : (Nat → Bool) → (Nat → Value) → World → Prop) (D : Nat → Bool) (i : Nat) (π : Nat → Value) : Result Next → Prop
  | .ok (.value v) w' => SS (upb D i) (upd π i v) w'
  | .ok .skip w' => SS (upb D i) (upd π i undef) w'
  | .ok (.enter f args) w' => Calls P f args w' fun e w'' => ∃ v, e = .returned v ∧ SS (upb D i) (upd π i v) w''
  | _ => False
def MakesQ (P : Program) (md : Region.Mode) (ops : Array Oper) (SS : (Nat → Bool) → (Nat → Value) → World → Prop) (isM : Nat → Bool) (i : Nat) (o : Oper) (π : Nat → Value) (a : Act) : Prop :=
  Region.wanted o (yielded ops a.tmps) = true ∧ ∀ D w, MetQ md ops isM i D → D i = false → SS D π w → MadeR P SS D i π ((execOp a.eval o).run P w)
theorem MakesQ.of_same {i : Nat} {π : Nat → Value} {o : Oper} {a a' : Act} (h : MakesQ P md ops SS isM i o π a) (he : execOp a'.eval o = execOp a.eval o)
    (hw : Region.wanted o (yielded ops a'.tmps) = Region.wanted o (yielded ops a.tmps)) : MakesQ P md ops SS isM i o π a' := by
  unfold MakesQ at *
  rw [he, hw]
  exact h
theorem SureQ.of_same {i : Nat} {π : Nat → Value} {v : Value} {o : Oper} {a a' : Act} (h : SureQ P md ops SS isM i o π v a) (he : execOp a'.eval o = execOp a.eval o)
    (hw : Region.wanted o (yielded ops a'.tmps) = Region.wanted o (yielded ops a.tmps)) : SureQ P md ops SS isM i o π v a' := fun D hD => (h D hD).of_same he hw

def DetQ (P : Program) (md : Region.Mode) (ops : Array Oper) (Q : Exit → Act → World → Prop) (SS : (Nat → Bool) → (Nat → Value) → World → Prop) (isM : Nat → Bool) : Nat → Array Bool → ((Nat → Value) → Act) → Prop
  | 0, L, A => Region.ready md ops L = [] ∧ ∀ π w, SS (dn isM L) π w → Q .normal (A π) w
  | n + 1, L, A => (Region.ready md ops L = [] → ∀ π w, SS (dn isM L) π w → Q .normal (A π) w) ∧ ∀ i ∈ Region.ready md ops L,
      (∃ o V, ops[i]? = some o ∧ isM i = false ∧ HangQ md ops isM i V ∧ (∀ π, SureQ P md ops SS isM i o π (V π) (A π)) ∧ DetQ P md ops Q SS isM n (L.setIfInBounds i true) (fun π => (A π).put o.dst (V π))) ∨
      (∃ o, ops[i]? = some o ∧ isM i = true ∧ (∀ π, MakesQ P md ops SS isM i o π (A π)) ∧ DetQ P md ops Q SS isM n (L.setIfInBounds i true) (fun π => (A π).put o.dst (π i))) ∨
      (i + 1 = ops.size ∧ ∃ o, ops[i]? = some o ∧ (∀ π, Region.wanted o (yielded ops (A π).tmps) = true) ∧ ∀ π w, SS (dn isM L) π w → o.wp P (A π) w (fun a' w' => Q .normal a' w') Q)

/-- The frame hangs on what has been made. -/
def UptoQ (isM : Nat → Bool) (L : Array Bool) (A : (Nat → Value) → Act) : Prop := ∀ π π', (∀ k, isM k = true → L.getD k false = true → π k = π' k) → A π = A π'
theorem set_up {L : Array Bool} {i k : Nat} (h : L.getD k false = true) : (L.setIfInBounds i true).getD k false = true := by
  by_cases e : i = k
  · subst e
    rcases Nat.lt_or_ge i L.size with h' | h'
    · simp [Array.getD, h']
    · simp [Array.getD, Nat.not_lt.2 h'] at h
  · rw [getD_set_ne false e]; exact h
theorem set_at {L : Array Bool} {i : Nat} (h : i < L.size) : (L.setIfInBounds i true).getD i false = true := by simp [Array.getD, h]
theorem dn_sure {L : Array Bool} {i : Nat} (h : isM i = false) : dn isM (L.setIfInBounds i true) = dn isM L := by
  funext k
  unfold dn
  by_cases e : i = k
  · subst e; rw [h]; rfl
  · rw [getD_set_ne false e]
theorem dn_made {L : Array Bool} {i : Nat} (h : isM i = true) (hi : i < L.size) : dn isM (L.setIfInBounds i true) = upb (dn isM L) i := by
  funext k
  unfold dn upb
  by_cases e : i = k
  · subst e; rw [set_at hi, h, if_pos rfl]; rfl
  · rw [getD_set_ne false e, if_neg (Ne.symm e)]
theorem ready_lt {L : Array Bool} {i : Nat} (hsz : L.size = ops.size) (hi : i ∈ Region.ready md ops L) : i < L.size := by
  obtain ⟨_, o, ho, _⟩ := mem_ready.1 hi
  rw [hsz]
  exact (Array.getElem?_eq_some_iff.1 ho).1
theorem ready_met {L : Array Bool} (hc : Closed md ops L) {i : Nat} (hi : i ∈ Region.ready md ops L) {k : Nat} (h : waitsFor md ops 6 i k = true) : L.getD k false = true := by
  obtain ⟨_, o, ho, hall⟩ := mem_ready.1 hi
  exact waitsFor_spec hc k 6 i h fun o' ho' => by rw [ho] at ho'; obtain rfl := Option.some.inj ho'; exact hall
theorem DetQ.sound (hl : lastWaits md ops = true) : ∀ (n : Nat) (L : Array Bool) (A : (Nat → Value) → Act), UptoQ isM L A → L.size = ops.size → Closed md ops L → DetQ P md ops Q SS isM n L A →
    ∀ π w, SS (dn isM L) π w → wpAny P md ops Q n L (A π) w := by
  intro n
  induction n with
  | zero => intro L A _ _ _ h π w hw; exact ⟨h.1, h.2 π w hw⟩
  | succ n ih =>
    intro L A hA hsz hc h π w hw
    refine ⟨fun h0 => h.1 h0 π w hw, fun i hi => ?_⟩
    have hmet : MetQ md ops isM i (dn isM L) := fun k hk hwk => by unfold dn; rw [hk, ready_met hc hi hwk]; rfl
    have hiL := ready_lt hsz hi
    have hiun : L.getD i false = false := getD_down (mem_ready.1 hi).1
    rcases h.2 i hi with ⟨o, V, ho, hMi, hV, hs, hd⟩ | ⟨o, ho, hMi, hm, hd⟩ | ⟨hi1, ol, hol, hwl, hlast⟩
    · refine (hs π _ hmet).wpOp ho hw fun w' hw' => ih _ (fun π => (A π).put o.dst (V π)) (fun π1 π2 h12 => ?_) (by simpa using hsz) (hc.set hi) hd π w' (by rw [dn_sure hMi]; exact hw')
      show (A π1).put o.dst (V π1) = (A π2).put o.dst (V π2)
      rw [hA π1 π2 fun k hk hL => h12 k hk (set_up hL), hV π1 π2 fun k hk hwk => h12 k hk (set_up (ready_met hc hi hwk))]
    · obtain ⟨hwant, hrun⟩ := hm π
      have h2 := hrun _ w hmet (by unfold dn; rw [hiun]; simp) hw
      have hU : UptoQ isM (L.setIfInBounds i true) (fun π => (A π).put o.dst (π i)) := fun π1 π2 h12 => by
        show (A π1).put o.dst (π1 i) = (A π2).put o.dst (π2 i)
        rw [hA π1 π2 fun k hk hL => h12 k hk (set_up hL), h12 i hMi (set_at hiL)]
      have hgo : ∀ v w', SS (upb (dn isM L) i) (upd π i v) w' → wpAny P md ops Q n (L.setIfInBounds i true) ((A π).put o.dst v) w' := fun v w' hS' => by
        have h3 := ih _ (fun π => (A π).put o.dst (π i)) hU (by simpa using hsz) (hc.set hi) hd (upd π i v) w' (by rw [dn_made hMi hiL]; exact hS')
        have e : (A (upd π i v)).put o.dst (upd π i v i) = (A π).put o.dst v := by
          rw [upd_same, hA (upd π i v) π fun k hk hL => upd_ne π v (fun e => by subst e; rw [hiun] at hL; cases hL)]
        rw [e] at h3
        exact h3
      unfold wpOp
      simp only [ho, hwant, if_true]
      left
      unfold Oper.wp
      revert h2
      generalize (execOp (A π).eval o).run P w = r
      intro h2
      cases r with
      | ok x w' =>
        cases x with
        | value u => exact hgo _ _ h2
        | skip => exact hgo _ _ h2
        | enter f args =>
          refine Calls.mono h2 ?_
          rintro e w'' ⟨v, rfl, hS'⟩
          exact hgo _ _ hS'
        | _ => exact h2.elim
      | halt x w' => exact h2.elim
    · refine wpOp_mono (K := fun a' w' => Q .normal a' w') (fun a' w' hQ => ?_) (by unfold wpOp; simp only [hol, hwl π, if_true]; exact .inl (hlast π w hw))
      have hready : Region.ready md ops (L.setIfInBounds i true) = [] := by
        refine ready_full (by simpa using hsz) fun k hk => ?_
        by_cases hki : i = k
        · subst hki
          have : i < L.size := by omega
          simp [Array.getD, this]
        · rw [getD_set_ne true hki]
          have hh : ¬ L.getD k true = false := fun hL => lastWaits_spec hl hc (k := k) (by omega) hL (by
            have : ops.size - 1 = i := by omega
            rw [this]; exact hi)
          simpa using hh
      cases n with
      | zero => exact ⟨hready, hQ⟩
      | succ n => exact ⟨fun _ => hQ, by rw [hready]; simp⟩

/-- What is taken first: a sure operation, or one that makes. -/
def StepQ (P : Program) (md : Region.Mode) (ops : Array Oper) (SS : (Nat → Bool) → (Nat → Value) → World → Prop) (isM : Nat → Bool) (i : Nat) (o : Oper) (V : (Nat → Value) → Value) (A : (Nat → Value) → Act) : Prop :=
  (isM i = false ∧ HangQ md ops isM i V ∧ ∀ π, SureQ P md ops SS isM i o π (V π) (A π)) ∨ (isM i = true ∧ (∀ π, V π = π i) ∧ ∀ π, MakesQ P md ops SS isM i o π (A π))
theorem DetQ.of_step {n : Nat} {L : Array Bool} {A : (Nat → Value) → Act} {i : Nat} {o : Oper} {V : (Nat → Value) → Value} (ho : ops[i]? = some o) (h : StepQ P md ops SS isM i o V A) (hd : DetQ P md ops Q SS isM n (L.setIfInBounds i true) (fun π => (A π).put o.dst (V π))) :
    (∃ o V, ops[i]? = some o ∧ isM i = false ∧ HangQ md ops isM i V ∧ (∀ π, SureQ P md ops SS isM i o π (V π) (A π)) ∧ DetQ P md ops Q SS isM n (L.setIfInBounds i true) (fun π => (A π).put o.dst (V π))) ∨
      (∃ o, ops[i]? = some o ∧ isM i = true ∧ (∀ π, MakesQ P md ops SS isM i o π (A π)) ∧ DetQ P md ops Q SS isM n (L.setIfInBounds i true) (fun π => (A π).put o.dst (π i))) ∨
      (i + 1 = ops.size ∧ ∃ o, ops[i]? = some o ∧ (∀ π, Region.wanted o (yielded ops (A π).tmps) = true) ∧ ∀ π w, SS (dn isM L) π w → o.wp P (A π) w (fun a' w' => Q .normal a' w') Q) := by
  rcases h with ⟨hM, h2, h3⟩ | ⟨hM, h3, h4⟩
  · exact .inl ⟨o, V, ho, hM, h2, h3, hd⟩
  · obtain rfl : V = fun π => π i := funext h3
    exact .inr (.inl ⟨o, ho, hM, h4, hd⟩)

theorem DetQ.take (hl : lastWaits md ops = true) {i : Nat} {oi : Oper} {V : (Nat → Value) → Value} (hi : ops[i]? = some oi) (hsel : ∀ (j : Nat) (o : Oper) cs b, ops[j]? = some o → o.op ≠ .select cs b) (hil : i + 1 < ops.size) :
    ∀ (n : Nat) (L : Array Bool) (A : (Nat → Value) → Act), L.size = ops.size → Closed md ops L →
      (∀ j oj, ops[j]? = some oj → j ≠ i → L.getD j true = false → (∀ e ∈ oj.after, Region.binds md e = true → e.on ≠ i) → oi.apart ops oj = true) →
      i ∈ Region.ready md ops L → StepQ P md ops SS isM i oi V A → DetQ P md ops Q SS isM n (L.setIfInBounds i true) (fun π => (A π).put oi.dst (V π)) → DetQ P md ops Q SS isM (n + 1) L A := by
  intro n
  induction n with
  | zero =>
    intro L A _ _ _ hr hs H
    refine ⟨fun h => (by rw [h] at hr; cases hr), fun j hj => ?_⟩
    by_cases hji : j = i
    · subst hji; exact DetQ.of_step hi hs H
    · have := ready_mono hj hji
      rw [H.1] at this
      cases this
  | succ n ih =>
    intro L A hsz hc hfree hr hs H
    refine ⟨fun h => (by rw [h] at hr; cases hr), fun j hj => ?_⟩
    by_cases hji : j = i
    · subst hji; exact DetQ.of_step hi hs H
    · obtain ⟨hjun, oj, hoj, hall⟩ := mem_ready.1 hj
      have hunl : ∀ {x : Nat}, L.getD x true = false → ¬ L.getD x false = true := fun {x} h0 h1 => by
        rcases Nat.lt_or_ge x L.size with h' | h'
        · simp [h'] at h0 h1; rw [h0] at h1; cases h1
        · simp [Array.getElem?_eq_none h'] at h1
      have hnot : ∀ e ∈ oj.after, Region.binds md e = true → e.on ≠ i := fun e he hb heq => by
        have h1 := hall e he hb
        rw [heq] at h1
        exact hunl (mem_ready.1 hr).1 h1
      have hap := hfree j oj hoj hji hjun hnot
      obtain ⟨h1, h2, h3⟩ := Oper.apart_spec hap
      have hfree' : ∀ k ok, ops[k]? = some ok → k ≠ i → (L.setIfInBounds j true).getD k true = false →
          (∀ e ∈ ok.after, Region.binds md e = true → e.on ≠ i) → oi.apart ops ok = true := fun k ok hk hki hun hno => by
        refine hfree k ok hk hki ?_ hno
        by_cases hjk : j = k
        · subst hjk; exact hjun
        · rw [getD_set_ne true hjk] at hun; exact hun
      have hsame : ∀ (a : Act) (v : Value), execOp (a.put oi.dst v).eval oj = execOp a.eval oj := fun a v => execOp_put oj (fun cs b => hsel j oj cs b hoj) a oi.dst v h1
      have hsameW : ∀ (a : Act) (v : Value), Region.wanted oj (yielded ops (a.put oi.dst v).tmps) = Region.wanted oj (yielded ops a.tmps) := fun a v => wanted_put oj a oi.dst v h1
      have he : ∀ (U : (Nat → Value) → Value) (π : Nat → Value), execOp ((A π).put oj.dst (U π)).eval oi = execOp (A π).eval oi := fun U π => execOp_put oi (fun cs b => hsel i oi cs b hi) (A π) oj.dst (U π) h3
      have hw : ∀ (U : (Nat → Value) → Value) (π : Nat → Value), Region.wanted oi (yielded ops ((A π).put oj.dst (U π)).tmps) = Region.wanted oi (yielded ops (A π).tmps) := fun U π => wanted_put oi (A π) oj.dst (U π) h3
      have hcomm : ∀ (U : (Nat → Value) → Value), DetQ P md ops Q SS isM n ((L.setIfInBounds i true).setIfInBounds j true) (fun π => ((A π).put oi.dst (V π)).put oj.dst (U π)) → DetQ P md ops Q SS isM n ((L.setIfInBounds j true).setIfInBounds i true) (fun π => ((A π).put oj.dst (U π)).put oi.dst (V π)) := fun U hd => by
        rw [Array.setIfInBounds_comm _ _ hji]
        have e : (fun π => ((A π).put oj.dst (U π)).put oi.dst (V π)) = fun π => ((A π).put oi.dst (V π)).put oj.dst (U π) := funext fun π => (Act.put_comm (A π) (V π) (U π) h2).symm
        rw [e]
        exact hd
      have hs' : ∀ (U : (Nat → Value) → Value), StepQ P md ops SS isM i oi V (fun π => (A π).put oj.dst (U π)) := fun U => by
        rcases hs with ⟨a1, a2, a3⟩ | ⟨a1, a2, a3⟩
        · exact .inl ⟨a1, a2, fun π => (a3 π).of_same (he U π) (hw U π)⟩
        · exact .inr ⟨a1, a2, fun π => (a3 π).of_same (he U π) (hw U π)⟩
      rcases H.2 j (ready_mono hj hji) with ⟨o, U, ho, hMj, hU, hsu, hd⟩ | ⟨o, ho, hMj, hm, hd⟩ | ⟨hj1, _⟩
      · rw [hoj] at ho
        obtain rfl := Option.some.inj ho
        exact .inl ⟨oj, U, hoj, hMj, hU, fun π => (hsu π).of_same (hsame _ _).symm (hsameW _ _).symm,
          ih (L.setIfInBounds j true) _ (by simpa using hsz) (hc.set hj) hfree' (ready_mono hr (Ne.symm hji)) (hs' U) (hcomm U hd)⟩
      · rw [hoj] at ho
        obtain rfl := Option.some.inj ho
        exact .inr (.inl ⟨oj, hoj, hMj, fun π => (hm π).of_same (hsame _ _).symm (hsameW _ _).symm,
          ih (L.setIfInBounds j true) _ (by simpa using hsz) (hc.set hj) hfree' (ready_mono hr (Ne.symm hji)) (hs' fun π => π j) (hcomm (fun π => π j) hd)⟩)
      · exfalso
        have hL : L.getD i true = false := (mem_ready.1 hr).1
        exact lastWaits_spec hl hc hil hL (by
          have : ops.size - 1 = j := by omega
          rw [this]; exact hj)

def SeqQ (P : Program) (md : Region.Mode) (ops : Array Oper) (Q : Exit → Act → World → Prop) (SS : (Nat → Bool) → (Nat → Value) → World → Prop) (isM : Nat → Bool) : Nat → List Oper → ((Nat → Value) → Act) → Prop
  | _, [], _ => False
  | k, [o], A => (∀ π, Region.wanted o (yielded ops (A π).tmps) = true) ∧ ∀ D π w, (∀ j, isM j = true → j < k → D j = true) → SS D π w → o.wp P (A π) w (fun a' w' => Q .normal a' w') Q
  | k, o :: rest, A => ∃ V, StepQ P md ops SS isM k o V A ∧ SeqQ P md ops Q SS isM (k + 1) rest (fun π => (A π).put o.dst (V π))

theorem DetQ.of_seq (hok : textOk md ops = true) : ∀ (n k : Nat) (A : (Nat → Value) → Act), k + n = ops.size → 0 < n → Closed md ops (pre ops.size k) → SeqQ P md ops Q SS isM k (ops.toList.drop k) A → DetQ P md ops Q SS isM n (pre ops.size k) A := by
  simp only [textOk, Bool.and_eq_true, List.all_eq_true, List.mem_range, beq_iff_eq] at hok
  obtain ⟨⟨⟨hsel, hl⟩, hall⟩, hlast⟩ := hok
  intro n
  induction n with
  | zero => intro k A _ h; omega
  | succ n ih =>
    intro k A hk _ hc hs
    have hkl : k < ops.size := by omega
    have hko : ops[k]? = some ops[k] := Array.getElem?_eq_getElem hkl
    rw [List.drop_eq_getElem_cons (by simpa using hkl)] at hs
    cases n with
    | zero =>
      have e : ops.toList.drop (k + 1) = [] := List.drop_eq_nil_of_le (by simp; omega)
      rw [e] at hs
      have hk1 : ops.size - 1 = k := by omega
      rw [hk1] at hlast
      refine ⟨fun h => (by rw [hlast] at h; cases h), fun i hi => ?_⟩
      rw [hlast] at hi
      obtain rfl : i = k := by simpa using hi
      obtain ⟨hwant, hrun⟩ := hs
      simp only [Array.getElem_toList] at hwant hrun
      refine .inr (.inr ⟨by omega, _, hko, hwant, fun π w hw => hrun _ π w (fun j hj hji => ?_) hw⟩)
      unfold dn
      rw [hj]
      have hjs : j < ops.size := by omega
      simp [pre, hjs, hji]
    | succ n =>
      have hne : ∃ o rest, ops.toList.drop (k + 1) = o :: rest := by
        rw [List.drop_eq_getElem_cons (by simp; omega)]
        exact ⟨_, _, rfl⟩
      obtain ⟨o', rest', e⟩ := hne
      rw [e] at hs
      obtain ⟨V, hstep, hrest⟩ := hs
      rw [← e] at hrest
      simp only [Array.getElem_toList] at hstep hrest
      obtain ⟨hr, hf⟩ := hall k (by omega)
      refine DetQ.take hl hko (Region.noSelect_spec hsel) (by omega) (n + 1) _ A (pre_size _ _) hc (Region.free_spec hko hf) (by simpa using hr) hstep ?_
      have hc' := hc.set (i := k) (by simpa using hr)
      rw [pre_succ] at hc' ⊢
      exact ih (k + 1) _ (by omega) (by omega) hc' hrest

/-- A region in which the operations isM make, in whatever order. -/
theorem region_any (SS : (Nat → Bool) → (Nat → Value) → World → Prop) (isM : Nat → Bool) {id : Nat} {ls : List Oper} {a : Act} {w : World} (hm : P.follows .mixedOrders = true) (hok : textOk .any ls.toArray = true) (hn : ls ≠ [])
    (hS : SS (fun _ => false) (fun _ => undef) w.drew) (h : SeqQ P .any ls.toArray Q SS isM 0 ls (fun _ => a)) : (Code.region id ls.toArray true).wp P Q a w := by
  refine wp_region_any hm ?_
  have hlen : 0 < ls.toArray.size := by
    cases ls with
    | nil => exact absurd rfl hn
    | cons x xs => simp
  have hd := DetQ.of_seq (md := .any) hok ls.toArray.size 0 (fun _ => a) (by omega) hlen (by rw [pre_zero]; exact Closed.none _ _) (by simpa using h)
  rw [pre_zero] at hd
  have hl : lastWaits .any ls.toArray = true := by
    simp only [textOk, Bool.and_eq_true] at hok
    exact hok.1.1.2
  have h0 : dn isM (Array.replicate ls.toArray.size false) = fun _ => false := by
    funext k
    unfold dn
    simp [Array.getD]
  exact DetQ.sound hl _ _ (fun _ => a) (fun _ _ _ => rfl) (by simp) (Closed.none _ _) hd _ _ (by rw [h0]; exact hS)

theorem SeqQ.last {k : Nat} {o : Oper} {A : (Nat → Value) → Act} (hwant : ∀ π, Region.wanted o (yielded ops (A π).tmps) = true) (h : ∀ D π w, (∀ j, isM j = true → j < k → D j = true) → SS D π w → o.wp P (A π) w (fun a' w' => Q .normal a' w') Q) : SeqQ P md ops Q SS isM k [o] A := ⟨hwant, h⟩
/-- A value that hangs on nothing made. -/
theorem SeqQ.next {k : Nat} {o o' : Oper} {rest : List Oper} {A : (Nat → Value) → Act} (v : Value) (hM : isM k = false) (hs : ∀ π D, MetQ md ops isM k D → Sure P ops (SS D π) o v (A π)) (h : SeqQ P md ops Q SS isM (k + 1) (o' :: rest) (fun π => (A π).put o.dst v)) : SeqQ P md ops Q SS isM k (o :: o' :: rest) A :=
  ⟨fun _ => v, .inl ⟨hM, fun _ _ _ => rfl, fun π D hD => hs π D hD⟩, h⟩
/-- A value that hangs on what has been made. -/
theorem SeqQ.hang {k : Nat} {o o' : Oper} {rest : List Oper} {A : (Nat → Value) → Act} (V : (Nat → Value) → Value) (hM : isM k = false) (hV : HangQ md ops isM k V) (hs : ∀ π D, MetQ md ops isM k D → Sure P ops (SS D π) o (V π) (A π)) (h : SeqQ P md ops Q SS isM (k + 1) (o' :: rest) (fun π => (A π).put o.dst (V π))) : SeqQ P md ops Q SS isM k (o :: o' :: rest) A :=
  ⟨V, .inl ⟨hM, hV, fun π D hD => hs π D hD⟩, h⟩
theorem SeqQ.make {k : Nat} {o o' : Oper} {rest : List Oper} {A : (Nat → Value) → Act} (hM : isM k = true) (hs : ∀ π, MakesQ P md ops SS isM k o π (A π)) (h : SeqQ P md ops Q SS isM (k + 1) (o' :: rest) (fun π => (A π).put o.dst (π k))) : SeqQ P md ops Q SS isM k (o :: o' :: rest) A :=
  ⟨fun π => π k, .inr ⟨hM, fun _ => rfl, hs⟩, h⟩
theorem MakesQ.call {i : Nat} {o : Oper} {π : Nat → Value} {a : Act} {f : FuncId} {args : Array Value} (hwant : Region.wanted o (yielded ops a.tmps) = true) (hr : ∀ w, (execOp a.eval o).run P w = .ok (.enter f args) w)
    (h : ∀ D w, MetQ md ops isM i D → D i = false → SS D π w → Calls P f args w fun e w'' => ∃ v, e = .returned v ∧ SS (upb D i) (upd π i v) w'') : MakesQ P md ops SS isM i o π a := ⟨hwant, fun D w hm hD hS => by rw [hr w]; exact h D w hm hD hS⟩
theorem MakesQ.value {i : Nat} {o : Oper} {π : Nat → Value} {a : Act} (hwant : Region.wanted o (yielded ops a.tmps) = true)
    (h : ∀ D w, MetQ md ops isM i D → D i = false → SS D π w → ∃ v w', (execOp a.eval o).run P w = .ok (.value v) w' ∧ SS (upb D i) (upd π i v) w') : MakesQ P md ops SS isM i o π a := ⟨hwant, fun D w hm hD hS => by obtain ⟨v, w', hr, hS'⟩ := h D w hm hD hS; rw [hr]; exact hS'⟩
theorem upb_ne {D : Nat → Bool} {i k : Nat} (h : k ≠ i) : upb D i k = D k := if_neg h
end
end Go.Proofs.YticflflbogdljaaDoor
