/- A region that draws its order and makes one variable: walked in the order of its text; where the variable comes to lie is left open. Plain theorems, over any program. -/
import Derived.Test.YticflflbogdljaaDoorRegIn
namespace Go.Proofs.YticflflbogdljaaDoor
open Go

section
variable {P : Program} {ops : Array Oper} {Q : Exit → Act → World → Prop} {md : Region.Mode} {SS : Option Nat → World → Prop}

abbrev ptrV (g : Nat) : Value := .pointer (some ⟨g, 0, none⟩)
/-- The operation lays a new block, and hands on its address. -/
def Makes (P : Program) (ops : Array Oper) (SS : Option Nat → World → Prop) (o : Oper) (a : Act) : Prop :=
  Region.wanted o (yielded ops a.tmps) = true ∧ ∀ w, SS none w → ∃ g w', (execOp a.eval o).run P w = .ok (.value (ptrV g)) w' ∧ SS (some g) w'
theorem Makes.of_same {o : Oper} {a a' : Act} (h : Makes P ops SS o a) (he : execOp a'.eval o = execOp a.eval o)
    (hw : Region.wanted o (yielded ops a'.tmps) = Region.wanted o (yielded ops a.tmps)) : Makes P ops SS o a' := by
  unfold Makes at *
  rw [he, hw]
  exact h
/-- Laid, or not yet. -/
def laidAt (al : Bool) (g : Nat) : Option Nat := if al then some g else none

def DetG (P : Program) (md : Region.Mode) (ops : Array Oper) (Q : Exit → Act → World → Prop) (SS : Option Nat → World → Prop) : Nat → Array Bool → (Nat → Act) → Bool → Prop
  | 0, L, A, al => Region.ready md ops L = [] ∧ ∀ g w, SS (laidAt al g) w → Q .normal (A g) w
  | n + 1, L, A, al => (Region.ready md ops L = [] → ∀ g w, SS (laidAt al g) w → Q .normal (A g) w) ∧ ∀ i ∈ Region.ready md ops L,
      (∃ o v, ops[i]? = some o ∧ (∀ g og, Sure P ops (SS og) o v (A g)) ∧ DetG P md ops Q SS n (L.setIfInBounds i true) (fun g => (A g).put o.dst v) al) ∨
      (∃ o, ops[i]? = some o ∧ al = false ∧ (∀ g, Makes P ops SS o (A g)) ∧ DetG P md ops Q SS n (L.setIfInBounds i true) (fun g => (A g).put o.dst (ptrV g)) true) ∨
      (i + 1 = ops.size ∧ ∃ o, ops[i]? = some o ∧ (∀ g, Region.wanted o (yielded ops (A g).tmps) = true) ∧ ∀ g w, SS (laidAt al g) w → o.wp P (A g) w (fun a' w' => Q .normal a' w') Q)

theorem DetG.sound (hl : lastWaits md ops = true) : ∀ (n : Nat) (L : Array Bool) (A : Nat → Act) (al : Bool), (al = false → ∀ g, A g = A 0) → L.size = ops.size → Closed md ops L → DetG P md ops Q SS n L A al →
    ∀ g w, SS (laidAt al g) w → wpAny P md ops Q n L (A g) w := by
  intro n
  induction n with
  | zero => intro L A al _ _ _ h g w hw; exact ⟨h.1, h.2 g w hw⟩
  | succ n ih =>
    intro L A al hA hsz hc h g w hw
    refine ⟨fun h0 => h.1 h0 g w hw, fun i hi => ?_⟩
    rcases h.2 i hi with ⟨o, v, ho, hs, hd⟩ | ⟨o, ho, hal, hm, hd⟩ | ⟨hi1, ol, hol, hwl, hlast⟩
    · exact (hs g (laidAt al g)).wpOp ho hw fun w' hw' => ih _ (fun g => (A g).put o.dst v) al (fun h g => by show (A g).put _ _ = (A 0).put _ _; rw [hA h g]) (by simpa using hsz) (hc.set hi) hd g w' hw'
    · subst hal
      obtain ⟨hwant, hrun⟩ := hm g
      obtain ⟨g', w', he, hS'⟩ := hrun w hw
      unfold wpOp
      simp only [ho, hwant, if_true]
      left
      unfold Oper.wp
      rw [he]
      have := ih _ (fun g => (A g).put o.dst (ptrV g)) true (fun h => by cases h) (by simpa using hsz) (hc.set hi) hd g' w' hS'
      show wpAny P md ops Q n _ ((A g).put o.dst (ptrV g')) w'
      rw [hA rfl g, ← hA rfl g']
      exact this
    · refine wpOp_mono (K := fun a' w' => Q .normal a' w') (fun a' w' hQ => ?_) (by unfold wpOp; simp only [hol, hwl g, if_true]; exact .inl (hlast g w hw))
      have hready : Region.ready md ops (L.setIfInBounds i true) = [] := by
        refine ready_full (by simpa using hsz) fun k hk => ?_
        by_cases hki : i = k
        · subst hki
          have : i < L.size := by omega
          simp [Array.getD, this]
        · rw [getD_set_ne true hki]
          have hh : ¬ L.getD k true = false := fun hL => lastWaits_spec hl hc (k := k) (by omega) hL (by
            have : ops.size - 1 = i := by omega
            rw [this]; exact hi)
          simpa using hh
      cases n with
      | zero => exact ⟨hready, hQ⟩
      | succ n => exact ⟨fun _ => hQ, by rw [hready]; simp⟩

theorem DetG.soundIn {m l : Nat} (hl : lastWaits md ops = true) (hnd : ops.all noDefer = true) : ∀ (n : Nat) (L : Array Bool) (A : Nat → Act) (al : Bool), (al = false → ∀ g, A g = A 0) → L.size = ops.size → Closed md ops L → DetG P md ops Q SS n L A al →
    ∀ g w, SS (laidAt al g) w → wpAnyIn (Fence.wide.inRound l) m P md ops Q n L (A g) w := by
  have hdef : ∀ {i : Nat} {o : Oper}, ops[i]? = some o → noDefer o = true := fun ho => (Array.all_eq_true_iff_forall_mem.1 hnd) _ (Array.mem_of_getElem? ho)
  intro n
  induction n with
  | zero => intro L A al _ _ _ h g w hw; exact ⟨h.1, h.2 g w hw⟩
  | succ n ih =>
    intro L A al hA hsz hc h g w hw
    refine ⟨fun h0 => h.1 h0 g w hw, fun i hi => ?_⟩
    rcases h.2 i hi with ⟨o, v, ho, hs, hd⟩ | ⟨o, ho, hal, hm, hd⟩ | ⟨hi1, ol, hol, hwl, hlast⟩
    · have hK : ∀ w', SS (laidAt al g) w' → wpAnyIn (Fence.wide.inRound l) m P md ops Q n (L.setIfInBounds i true) ((A g).put o.dst v) w' := fun w' hw' => ih _ (fun g => (A g).put o.dst v) al (fun h g => by show (A g).put _ _ = (A 0).put _ _; rw [hA h g]) (by simpa using hsz) (hc.set hi) hd g w' hw'
      unfold wpOpIn
      rcases hs g (laidAt al g) with h5 | ⟨h5, h6⟩
      · simp only [ho, h5.1, if_true]
        exact opIn_of (hdef ho) (Sure.wp h5.2 hw hK)
      · subst h6
        simp only [ho]
        rw [if_neg (by rw [h5]; decide)]
        exact ⟨fun _ _ => trivial, hK w hw⟩
    · subst hal
      obtain ⟨hwant, hrun⟩ := hm g
      obtain ⟨g', w', he, hS'⟩ := hrun w hw
      unfold wpOpIn
      simp only [ho, hwant, if_true]
      refine opIn_of (hdef ho) ?_
      unfold Oper.wp
      rw [he]
      have := ih _ (fun g => (A g).put o.dst (ptrV g)) true (fun h => by cases h) (by simpa using hsz) (hc.set hi) hd g' w' hS'
      show wpAnyIn (Fence.wide.inRound l) m P md ops Q n _ ((A g).put o.dst (ptrV g')) w'
      rw [hA rfl g, ← hA rfl g']
      exact this
    · unfold wpOpIn
      simp only [hol, hwl g, if_true]
      refine Oper.wpIn_mono (fun a' w' hQ => ?_) (opIn_of (hdef hol) (hlast g w hw))
      have hready : Region.ready md ops (L.setIfInBounds i true) = [] := by
        refine ready_full (by simpa using hsz) fun k hk => ?_
        by_cases hki : i = k
        · subst hki
          have : i < L.size := by omega
          simp [Array.getD, this]
        · rw [getD_set_ne true hki]
          have hh : ¬ L.getD k true = false := fun hL => lastWaits_spec hl hc (k := k) (by omega) hL (by
            have : ops.size - 1 = i := by omega
            rw [this]; exact hi)
          simpa using hh
      cases n with
      | zero => exact ⟨hready, hQ⟩
      | succ n => exact ⟨fun _ => hQ, by rw [hready]; simp⟩

/-- What is taken first may be a sure operation, or the one that makes. -/
def StepG (P : Program) (ops : Array Oper) (SS : Option Nat → World → Prop) (o : Oper) (V : Nat → Value) (A : Nat → Act) (al al' : Bool) : Prop :=
  (al' = al ∧ ∃ v, (∀ g, V g = v) ∧ ∀ g og, Sure P ops (SS og) o v (A g)) ∨ (al = false ∧ al' = true ∧ (∀ g, V g = ptrV g) ∧ ∀ g, Makes P ops SS o (A g))

theorem StepG.of_same {o : Oper} {V : Nat → Value} {A A' : Nat → Act} {al al' : Bool} (h : StepG P ops SS o V A al al') (he : ∀ g, execOp (A' g).eval o = execOp (A g).eval o)
    (hw : ∀ g, Region.wanted o (yielded ops (A' g).tmps) = Region.wanted o (yielded ops (A g).tmps)) : StepG P ops SS o V A' al al' := by
  rcases h with ⟨h1, v, h2, h3⟩ | ⟨h1, h2, h3, h4⟩
  · exact .inl ⟨h1, v, h2, fun g og => (h3 g og).of_same (he g) (hw g)⟩
  · exact .inr ⟨h1, h2, h3, fun g => (h4 g).of_same (he g) (hw g)⟩
theorem DetG.of_step {n : Nat} {L : Array Bool} {A : Nat → Act} {al al' : Bool} {i : Nat} {o : Oper} {V : Nat → Value} (ho : ops[i]? = some o) (h : StepG P ops SS o V A al al') (hd : DetG P md ops Q SS n (L.setIfInBounds i true) (fun g => (A g).put o.dst (V g)) al') :
    (∃ o v, ops[i]? = some o ∧ (∀ g og, Sure P ops (SS og) o v (A g)) ∧ DetG P md ops Q SS n (L.setIfInBounds i true) (fun g => (A g).put o.dst v) al) ∨
      (∃ o, ops[i]? = some o ∧ al = false ∧ (∀ g, Makes P ops SS o (A g)) ∧ DetG P md ops Q SS n (L.setIfInBounds i true) (fun g => (A g).put o.dst (ptrV g)) true) ∨
      (i + 1 = ops.size ∧ ∃ o, ops[i]? = some o ∧ (∀ g, Region.wanted o (yielded ops (A g).tmps) = true) ∧ ∀ g w, SS (laidAt al g) w → o.wp P (A g) w (fun a' w' => Q .normal a' w') Q) := by
  rcases h with ⟨rfl, v, h2, h3⟩ | ⟨rfl, rfl, h3, h4⟩
  · obtain rfl : V = fun _ => v := funext h2
    exact .inl ⟨o, v, ho, h3, hd⟩
  · obtain rfl : V = ptrV := funext h3
    exact .inr (.inl ⟨o, ho, rfl, h4, hd⟩)

theorem DetG.take (hl : lastWaits md ops = true) {i : Nat} {oi : Oper} {V : Nat → Value} (hi : ops[i]? = some oi) (hsel : ∀ (j : Nat) (o : Oper) cs b, ops[j]? = some o → o.op ≠ .select cs b) (hil : i + 1 < ops.size) :
    ∀ (n : Nat) (L : Array Bool) (A : Nat → Act) (al al' : Bool), L.size = ops.size → Closed md ops L →
      (∀ j oj, ops[j]? = some oj → j ≠ i → L.getD j true = false → (∀ e ∈ oj.after, Region.binds md e = true → e.on ≠ i) → oi.apart ops oj = true) →
      i ∈ Region.ready md ops L → StepG P ops SS oi V A al al' → DetG P md ops Q SS n (L.setIfInBounds i true) (fun g => (A g).put oi.dst (V g)) al' → DetG P md ops Q SS (n + 1) L A al := by
  intro n
  induction n with
  | zero =>
    intro L A al al' _ _ _ hr hs H
    refine ⟨fun h => (by rw [h] at hr; cases hr), fun j hj => ?_⟩
    by_cases hji : j = i
    · subst hji; exact DetG.of_step hi hs H
    · have := ready_mono hj hji
      rw [H.1] at this
      cases this
  | succ n ih =>
    intro L A al al' hsz hc hfree hr hs H
    refine ⟨fun h => (by rw [h] at hr; cases hr), fun j hj => ?_⟩
    by_cases hji : j = i
    · subst hji; exact DetG.of_step hi hs H
    · obtain ⟨hjun, oj, hoj, hall⟩ := mem_ready.1 hj
      have hnot : ∀ e ∈ oj.after, Region.binds md e = true → e.on ≠ i := fun e he hb heq => by
        have h1 := hall e he hb
        have h0 := (mem_ready.1 hr).1
        rw [heq] at h1
        rcases Nat.lt_or_ge i L.size with h' | h'
        · simp [h'] at h0 h1; rw [h0] at h1; cases h1
        · simp [Array.getElem?_eq_none h'] at h1
      have hap := hfree j oj hoj hji hjun hnot
      obtain ⟨h1, h2, h3⟩ := Oper.apart_spec hap
      have hfree' : ∀ k ok, ops[k]? = some ok → k ≠ i → (L.setIfInBounds j true).getD k true = false →
          (∀ e ∈ ok.after, Region.binds md e = true → e.on ≠ i) → oi.apart ops ok = true := fun k ok hk hki hun hno => by
        refine hfree k ok hk hki ?_ hno
        by_cases hjk : j = k
        · subst hjk; exact hjun
        · rw [getD_set_ne true hjk] at hun; exact hun
      have hsame : ∀ (a : Act) (v : Value), execOp (a.put oi.dst v).eval oj = execOp a.eval oj := fun a v => execOp_put oj (fun cs b => hsel j oj cs b hoj) a oi.dst v h1
      have hsameW : ∀ (a : Act) (v : Value), Region.wanted oj (yielded ops (a.put oi.dst v).tmps) = Region.wanted oj (yielded ops a.tmps) := fun a v => wanted_put oj a oi.dst v h1
      have hback : ∀ (U : Nat → Value), StepG P ops SS oi V (fun g => (A g).put oj.dst (U g)) al al' := fun U => hs.of_same (fun g => execOp_put oi (fun cs b => hsel i oi cs b hi) (A g) oj.dst (U g) h3) (fun g => wanted_put oi (A g) oj.dst (U g) h3)
      have hcomm : ∀ (U : Nat → Value) (al2 : Bool), DetG P md ops Q SS n ((L.setIfInBounds i true).setIfInBounds j true) (fun g => ((A g).put oi.dst (V g)).put oj.dst (U g)) al2 → DetG P md ops Q SS n ((L.setIfInBounds j true).setIfInBounds i true) (fun g => ((A g).put oj.dst (U g)).put oi.dst (V g)) al2 := fun U al2 hd => by
        rw [Array.setIfInBounds_comm _ _ hji]
        have e : (fun g => ((A g).put oj.dst (U g)).put oi.dst (V g)) = fun g => ((A g).put oi.dst (V g)).put oj.dst (U g) := funext fun g => (Act.put_comm (A g) (V g) (U g) h2).symm
        rw [e]
        exact hd
      rcases H.2 j (ready_mono hj hji) with ⟨o, u, ho, hsu, hd⟩ | ⟨o, ho, hal, hm, hd⟩ | ⟨hj1, _⟩
      · rw [hoj] at ho
        obtain rfl := Option.some.inj ho
        exact .inl ⟨oj, u, hoj, fun g og => (hsu g og).of_same (hsame _ _).symm (hsameW _ _).symm,
          ih (L.setIfInBounds j true) _ al al' (by simpa using hsz) (hc.set hj) hfree' (ready_mono hr (Ne.symm hji)) (hback fun _ => u) (hcomm (fun _ => u) al' hd)⟩
      · rw [hoj] at ho
        obtain rfl := Option.some.inj ho
        subst hal
        have hal0 : al = false := by
          rcases hs with ⟨h, _⟩ | ⟨h, _⟩
          · exact h.symm
          · exact h
        have hs' : StepG P ops SS oi V (fun g => (A g).put oj.dst (ptrV g)) true true := by
          rcases hback ptrV with ⟨_, h'⟩ | ⟨_, h', _⟩
          · exact .inl ⟨rfl, h'⟩
          · cases h'
        exact .inr (.inl ⟨oj, hoj, hal0, fun g => (hm g).of_same (hsame _ _).symm (hsameW _ _).symm,
          ih (L.setIfInBounds j true) _ true true (by simpa using hsz) (hc.set hj) hfree' (ready_mono hr (Ne.symm hji)) hs' (hcomm ptrV true hd)⟩)
      · exfalso
        have hL : L.getD i true = false := (mem_ready.1 hr).1
        exact lastWaits_spec hl hc hil hL (by
          have : ops.size - 1 = j := by omega
          rw [this]; exact hj)

def SeqG (P : Program) (ops : Array Oper) (Q : Exit → Act → World → Prop) (SS : Option Nat → World → Prop) : List Oper → (Nat → Act) → Bool → Prop
  | [], _, _ => False
  | [o], A, al => (∀ g, Region.wanted o (yielded ops (A g).tmps) = true) ∧ ∀ g w, SS (laidAt al g) w → o.wp P (A g) w (fun a' w' => Q .normal a' w') Q
  | o :: rest, A, al => ∃ V al', StepG P ops SS o V A al al' ∧ SeqG P ops Q SS rest (fun g => (A g).put o.dst (V g)) al'

theorem DetG.of_seq (hok : textOk md ops = true) : ∀ (n k : Nat) (A : Nat → Act) (al : Bool), k + n = ops.size → 0 < n → Closed md ops (pre ops.size k) → SeqG P ops Q SS (ops.toList.drop k) A al → DetG P md ops Q SS n (pre ops.size k) A al := by
  simp only [textOk, Bool.and_eq_true, List.all_eq_true, List.mem_range, beq_iff_eq] at hok
  obtain ⟨⟨⟨hsel, hl⟩, hall⟩, hlast⟩ := hok
  intro n
  induction n with
  | zero => intro k A al _ h; omega
  | succ n ih =>
    intro k A al hk _ hc hs
    have hkl : k < ops.size := by omega
    have hko : ops[k]? = some ops[k] := Array.getElem?_eq_getElem hkl
    rw [List.drop_eq_getElem_cons (by simpa using hkl)] at hs
    cases n with
    | zero =>
      have e : ops.toList.drop (k + 1) = [] := List.drop_eq_nil_of_le (by simp; omega)
      rw [e] at hs
      have hk1 : ops.size - 1 = k := by omega
      rw [hk1] at hlast
      refine ⟨fun h => (by rw [hlast] at h; cases h), fun i hi => ?_⟩
      rw [hlast] at hi
      obtain rfl : i = k := by simpa using hi
      obtain ⟨hwant, hrun⟩ := hs
      simp only [Array.getElem_toList] at hwant hrun
      exact .inr (.inr ⟨by omega, _, hko, hwant, hrun⟩)
    | succ n =>
      have hne : ∃ o rest, ops.toList.drop (k + 1) = o :: rest := by
        rw [List.drop_eq_getElem_cons (by simp; omega)]
        exact ⟨_, _, rfl⟩
      obtain ⟨o', rest', e⟩ := hne
      rw [e] at hs
      obtain ⟨V, al', hstep, hrest⟩ := hs
      rw [← e] at hrest
      simp only [Array.getElem_toList] at hstep hrest
      obtain ⟨hr, hf⟩ := hall k (by omega)
      refine DetG.take hl hko (Region.noSelect_spec hsel) (by omega) (n + 1) _ A al al' (pre_size _ _) hc (Region.free_spec hko hf) (by simpa using hr) hstep ?_
      have hc' := hc.set (i := k) (by simpa using hr)
      rw [pre_succ] at hc' ⊢
      exact ih (k + 1) _ al' (by omega) (by omega) hc' hrest

theorem DetG.all {ls : List Oper} {A : Nat → Act} (hok : textOk .any ls.toArray = true) (hn : ls ≠ []) (h : SeqG P ls.toArray Q SS ls A false) :
    lastWaits .any ls.toArray = true ∧ DetG P .any ls.toArray Q SS ls.toArray.size (Array.replicate ls.toArray.size false) A false := by
  have hlen : 0 < ls.toArray.size := by
    cases ls with
    | nil => exact absurd rfl hn
    | cons x xs => simp
  have hd := DetG.of_seq (md := .any) hok ls.toArray.size 0 A false (by omega) hlen (by rw [pre_zero]; exact Closed.none _ _) (by simpa using h)
  rw [pre_zero] at hd
  refine ⟨?_, hd⟩
  simp only [textOk, Bool.and_eq_true] at hok
  exact hok.1.1.2
/-- A region that makes one variable. -/
theorem region_made (SS : Option Nat → World → Prop) {id : Nat} {ls : List Oper} {a : Act} {w : World} (hm : P.follows .mixedOrders = true) (hok : textOk .any ls.toArray = true) (hn : ls ≠ [])
    (hS : SS none w.drew) (h : SeqG P ls.toArray Q SS ls (fun _ => a) false) : (Code.region id ls.toArray true).wp P Q a w := by
  refine wp_region_any hm ?_
  obtain ⟨hl, hd⟩ := DetG.all hok hn h
  exact DetG.sound hl _ _ (fun _ => a) false (fun _ _ => rfl) (by simp) (Closed.none _ _) hd 0 _ hS
theorem region_made_in (SS : Option Nat → World → Prop) {m l id : Nat} {ls : List Oper} {a : Act} {w : World} (hm : P.follows .mixedOrders = true) (hok : textOk .any ls.toArray = true) (hnd : ls.all noDefer = true) (hn : ls ≠ [])
    (hS : SS none w.drew) (h : SeqG P ls.toArray Q SS ls (fun _ => a) false) : (Code.region id ls.toArray true).wpIn (Fence.wide.inRound l) m P Q a w := by
  refine wpIn_region_any hm ?_
  obtain ⟨hl, hd⟩ := DetG.all hok hn h
  exact DetG.soundIn hl (by simpa using hnd) _ _ (fun _ => a) false (fun _ _ => rfl) (by simp) (Closed.none _ _) hd 0 _ hS

theorem SeqG.last {o : Oper} {A : Nat → Act} {al : Bool} (hwant : ∀ g, Region.wanted o (yielded ops (A g).tmps) = true) (h : ∀ g w, SS (laidAt al g) w → o.wp P (A g) w (fun a' w' => Q .normal a' w') Q) : SeqG P ops Q SS [o] A al := ⟨hwant, h⟩
theorem SeqG.next {o o' : Oper} {rest : List Oper} {A : Nat → Act} {al : Bool} (v : Value) (hs : ∀ g og, Sure P ops (SS og) o v (A g)) (h : SeqG P ops Q SS (o' :: rest) (fun g => (A g).put o.dst v) al) : SeqG P ops Q SS (o :: o' :: rest) A al :=
  ⟨fun _ => v, al, .inl ⟨rfl, v, fun _ => rfl, hs⟩, h⟩
theorem SeqG.make {o o' : Oper} {rest : List Oper} {A : Nat → Act} (hs : ∀ g, Makes P ops SS o (A g)) (h : SeqG P ops Q SS (o' :: rest) (fun g => (A g).put o.dst (ptrV g)) true) : SeqG P ops Q SS (o :: o' :: rest) A false :=
  ⟨ptrV, true, .inr ⟨rfl, rfl, fun _ => rfl, hs⟩, h⟩
end
end Go.Proofs.YticflflbogdljaaDoor
