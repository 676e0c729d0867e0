/- Frames told by the slots that are still read; code walked by them. Plain theorems, over any program. -/
import Derived.Test.YticflflbogdljaaDoorHold
namespace Go.Proofs.YticflflbogdljaaDoor
open Go Go.RowKit

/-- How many slots a frame has, and what waits for its end. -/
structure Sz where
  n : Nat
  ds : List Deferred
/-- Of a frame of n slots: what lies in those that are still read. -/
structure Fr (n : Sz) (l : List (Nat × Value)) (a : Act) : Prop where
  size : a.tmps.size = n.n
  defers : a.defers = n.ds
  get : ∀ x ∈ l, a.tmps.getD x.1 undef = x.2

/-- What is kept of l behind a write to slot d. -/
def keysB (d : Nat) (l : List (Nat × Value)) : Bool := l.all fun x => x.1 != d
structure Kept (d : Nat) (l' l : List (Nat × Value)) : Prop where
  sub : l'.Sublist l
  ne : keysB d l' = true

section
variable {n : Sz} {l l' : List (Nat × Value)} {a : Act}
theorem Fr.ev (h : Fr n l a) (i : Nat) {k : Nat} {v : Value} (hi : l[i]? = some (k, v)) : a.eval (.tmp k) = v := h.get (k, v) (List.mem_of_getElem? hi)
theorem Fr.at (h : Fr n l a) (i : Nat) {k : Nat} {v : Value} (hi : l[i]? = some (k, v)) : a.tmps.getD k undef = v := h.get (k, v) (List.mem_of_getElem? hi)
theorem Fr.sub (h : Fr n l a) (hs : l'.Sublist l) : Fr n l' a := ⟨h.size, h.defers, fun x hx => h.get x (hs.subset hx)⟩
theorem Fr.put (h : Fr n l a) {d : Nat} (v : Value) (hk : Kept d l' l) (hd : d < n.n) : Fr n ((d, v) :: l') (a.put (some d) v) := by
  refine ⟨by simp [Act.put, h.size], by simp [Act.put, h.defers], fun x hx => ?_⟩
  have hs : d < a.tmps.size := by rw [h.size]; exact hd
  rcases List.mem_cons.1 hx with rfl | hx
  · simp [Act.put, hs]
  · have hne : x.1 ≠ d := by
      have := List.all_eq_true.1 hk.ne x hx
      simpa using this
    have h1 := h.get x (hk.sub.subset hx)
    simp only [Act.put, Array.getD_eq_getD_getElem?] at h1 ⊢
    rw [Array.getElem?_setIfInBounds_ne (Ne.symm hne)]
    exact h1
theorem Fr.none (h : Fr n l a) (v : Value) : Fr n l (a.put none v) := h
/-- The live slots in another order, or fewer. -/
theorem Fr.of (h : Fr n l a) (hs : ∀ x ∈ l', x ∈ l) : Fr n l' a := ⟨h.size, h.defers, fun x hx => h.get x (hs x hx)⟩
end

/-- The slots of a call's arguments. -/
def argsL : Nat → List Value → List (Nat × Value)
  | _, [] => []
  | k, v :: r => (k, v) :: argsL (k + 1) r
theorem argsL_mem : ∀ (vs : List Value) (k : Nat) (x : Nat × Value), x ∈ argsL k vs → ∃ i, x.1 = k + i ∧ vs[i]? = some x.2
  | [], _, _, h => by cases h
  | v :: r, k, x, h => by
    rcases List.mem_cons.1 h with rfl | h
    · exact ⟨0, rfl, rfl⟩
    · obtain ⟨i, h1, h2⟩ := argsL_mem r (k + 1) x h
      exact ⟨i + 1, by omega, by simpa using h2⟩
theorem calls_F {P : Program} {f : FuncId} {fn : Func} {c : Code} {args : Array Value} {w : World} {R : Ending → World → Prop} {n : Nat} {l : List (Nat × Value)} (hf : P.funcs[f]? = some fn) (hb : fn.body = some c) (hn : fn.ntmps = n) (hsz : args.size ≤ n) (hl : argsL 0 args.toList = l)
    (h : ∀ a, Fr ⟨n, []⟩ l a → c.wp P (bodyPost P fn R) a w) : Calls P f args w R := by
  refine calls_of_wp hf hb (h _ ⟨?_, rfl, fun x hx => ?_⟩)
  · simp [hn]; omega
  · subst hl
    obtain ⟨i, h1, h2⟩ := argsL_mem _ _ _ hx
    rw [Nat.zero_add] at h1
    have hi : i < args.size := by
      have := (List.getElem?_eq_some_iff.1 h2).1
      simpa using this
    rw [h1]
    simp only [Array.getD_eq_getD_getElem?]
    rw [Array.getElem?_append_left hi, ← Array.getElem?_toList, h2]
    rfl

section
variable {P : Program} {Q : Exit → Act → World → Prop} {a : Act} {w : World} {n : Sz} {l l' : List (Nat × Value)}
/-- A region of the text's order, none of whose operations is guarded. -/
theorem regF {id : Nat} {ls : List Oper} (h : ∀ ops, wpList P ops Q ls a w) : (Code.region id ls.toArray false).wp P Q a w := wp_region_lit (h _)
theorem seqF {x y : Code} (mid : Act → World → Prop) (h1 : x.wp P (Exit.then mid Q) a w) (h2 : ∀ a w, mid a w → y.wp P Q a w) : (Code.seq x y).wp P Q a w :=
  wp_seq_k fun K hK => wp_mono h1 fun e a w q => by
    cases e with
    | normal => exact hK _ _ (h2 _ _ q)
    | _ => exact q
theorem condT {c : Operand} {x y : Code} (hc : a.eval c = .bool true) (h : x.wp P Q a w) : (Code.cond c x y).wp P Q a w := wp_cond_true hc h
theorem condF {c : Operand} {x y : Code} (hc : a.eval c = .bool false) (h : y.wp P Q a w) : (Code.cond c x y).wp P Q a w := wp_cond_false hc h
theorem condP {c : Operand} {x y : Code} {p : Prop} [Decidable p] (hc : a.eval c = .bool (decide p)) (ht : p → x.wp P Q a w) (hf : ¬ p → y.wp P Q a w) : (Code.cond c x y).wp P Q a w := by
  by_cases h : p
  · exact wp_cond_true (by rw [hc]; simp [h]) (ht h)
  · exact wp_cond_false (by rw [hc]; simp [h]) (hf h)
theorem condB {c : Operand} {x y : Code} {b : Bool} (hc : a.eval c = .bool b) (ht : b = true → x.wp P Q a w) (hf : b = false → y.wp P Q a w) : (Code.cond c x y).wp P Q a w := wp_cond_split hc ht hf
/-- A loop whose rounds are told by what σ says. -/
theorem loopF {σ : Type} {c : Code} (I : σ → Act → World → Prop) (μ : σ → Nat) (x0 : σ) (h0 : I x0 a w)
    (round : ∀ x a w, I x a w → c.wp P (Exit.then (fun a' w' => ∃ x', I x' a' w' ∧ μ x' < μ x) Q) a w) : (Code.loop c).wp P Q a w := by
  intro b k cs
  have key : ∀ n x a w, μ x = n → I x a w →
      ∃ e a' w', Q e a' w' ∧ Arrives P (lone (b.at a (.code c :: .inLoop c :: k)) cs w) b k cs e a' w' := by
    intro n
    induction n using Nat.strongRecOn with
    | _ n ih =>
      intro x a w hn hI
      obtain ⟨e, a₁, w₁, hq, harr⟩ := round x a w hI b (.inLoop c :: k) cs
      cases e with
      | normal =>
        obtain ⟨x', hI₁, hlt⟩ := hq
        obtain ⟨e₂, a₂, w₂, hq₂, harr₂⟩ := ih (μ x') (hn ▸ hlt) x' a₁ w₁ rfl hI₁
        exact ⟨e₂, a₂, w₂, hq₂, .of_steps (Steps.trans harr (.one step_inLoop)) harr₂⟩
      | exit id => exact ⟨_, a₁, w₁, hq, .pass (x := .inLoop c) rfl (fun _ _ => .inl (by simp)) harr⟩
      | goto l => exact ⟨_, a₁, w₁, hq, .pass (x := .inLoop c) rfl (fun _ _ => .inl (by simp)) harr⟩
      | ret => exact ⟨_, a₁, w₁, hq, .pass (x := .inLoop c) rfl (fun _ _ => .inl (by simp)) harr⟩
      | panic ch => exact ⟨_, a₁, w₁, hq, .pass (x := .inLoop c) rfl (fun _ _ => .inl (by simp)) harr⟩
      | outgrown => exact ⟨_, a₁, w₁, hq, .pass (x := .inLoop c) rfl (fun _ _ => .inl (by simp)) harr⟩
  obtain ⟨e, a', w', hq, harr⟩ := key _ x0 a w rfl h0
  exact ⟨e, a', w', hq, .of_steps (.one step_loop) harr⟩
end
end Go.Proofs.YticflflbogdljaaDoor
