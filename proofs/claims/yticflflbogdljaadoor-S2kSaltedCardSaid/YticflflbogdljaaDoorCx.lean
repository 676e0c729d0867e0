/- Code walked by its live slots; no act stands in the context. Plain theorems, over any program. -/
import Derived.Test.YticflflbogdljaaDoorWx
import Derived.OwnWalk
import Derived.Scope
namespace Go.Proofs.YticflflbogdljaaDoor
open Go Go.RowKit

abbrev Slots := List (Nat × Value)
/-- Of every act whose live slots are l. -/
def CX (P : Program) (Q : Exit → Act → World → Prop) (c : Code) (n : Sz) (l : Slots) (w : World) : Prop := ∀ a, Fr n l a → c.wp P Q a w
def PX (P : Program) (ops : Array Oper) (Q : Exit → Act → World → Prop) (rest : List Oper) (n : Sz) (l : Slots) (w : World) : Prop := ∀ a, Fr n l a → wpList P ops Q rest a w
def QX (Q : Exit → Act → World → Prop) (e : Exit) (n : Sz) (l : Slots) (w : World) : Prop := ∀ a, Fr n l a → Q e a w

section
variable {P : Program} {Q : Exit → Act → World → Prop} {w w0 : World} {n : Sz} {l l' : Slots} {x y : Code} {fn : Func} {R : Ending → World → Prop}
/-! ### Code -/
theorem calls_X {n : Nat} {f : FuncId} {c : Code} {args : Array Value} (hf : P.funcs[f]? = some fn) (hb : fn.body = some c) (hn : fn.ntmps = n) (hsz : args.size ≤ n) (hl : argsL 0 args.toList = l)
    (h : CX P (bodyPost P fn R) c ⟨n, []⟩ l w) : Calls P f args w R := calls_F hf hb hn hsz hl h
theorem cxSeq (h : CX P (Exit.then (y.wp P Q) Q) x n l w) : CX P Q (.seq x y) n l w := fun a hF => wp_seq (h a hF)
theorem cxReg {id : Nat} {ls : List Oper} (h : PX P ls.toArray Q ls n l w) : CX P Q (.region id ls.toArray false) n l w := fun a hF => wp_region_lit (h a hF)
theorem cxRegX {id : Nat} {ls : List Oper} (hm : P.follows .mixedOrders = true) (hok : okAll .any ls.toArray = true) (h : RX P ls.toArray Q ls.length [] (Array.replicate ls.length false) n l w.drew) : CX P Q (.region id ls.toArray true) n l w := fun _ hF => region_X hm hok hF h
theorem cxSkip (h : QX Q .normal n l w) : CX P Q .skip n l w := fun a hF => wp_skip (h a hF)
theorem cxExit {id : Nat} (h : QX Q (.exit id) n l w) : CX P Q (.exit id) n l w := fun a hF => wp_exit (h a hF)
theorem cxRet (h : QX Q .ret n l w) : CX P Q .ret n l w := fun a hF => wp_ret (h a hF)
theorem cxLabel {k : Nat} (h : QX Q .normal n l w) : CX P Q (.label k) n l w := fun a hF => wp_label (h a hF)
theorem cxBlock {id : Nat} (h : CX P (Exit.inBlock id Q) x n l w) : CX P Q (.block id x) n l w := fun a hF => wp_block (h a hF)
theorem cxScope (h : CX P (Exit.noGoto Q) x n l w) : CX P Q (.scope x) n l w := fun a hF => wp_scope_straight (h a hF)
theorem cxT {c : Operand} (i : Nat) {k : Nat} (hc : c = .tmp k) (hi : l[i]? = some (k, .bool true)) (h : CX P Q x n l w) : CX P Q (.cond c x y) n l w := fun a hF => wp_cond_true (by rw [hc]; exact hF.ev i hi) (h a hF)
theorem cxF {c : Operand} (i : Nat) {k : Nat} (hc : c = .tmp k) (hi : l[i]? = some (k, .bool false)) (h : CX P Q y n l w) : CX P Q (.cond c x y) n l w := fun a hF => wp_cond_false (by rw [hc]; exact hF.ev i hi) (h a hF)
theorem cxP {c : Operand} {p : Prop} [Decidable p] (i : Nat) {k : Nat} (hc : c = .tmp k) (hi : l[i]? = some (k, .bool (decide p))) (ht : p → CX P Q x n l w) (hf : ¬ p → CX P Q y n l w) : CX P Q (.cond c x y) n l w := fun a hF => by
  have hv : a.eval c = .bool (decide p) := by rw [hc]; exact hF.ev i hi
  by_cases h : p
  · exact wp_cond_true (by rw [hv, decide_eq_true h]) (ht h a hF)
  · exact wp_cond_false (by rw [hv, decide_eq_false h]) (hf h a hF)
theorem cxB {c : Operand} {b : Bool} (i : Nat) {k : Nat} (hc : c = .tmp k) (hi : l[i]? = some (k, .bool b)) (ht : b = true → CX P Q x n l w) (hf : b = false → CX P Q y n l w) : CX P Q (.cond c x y) n l w := fun a hF =>
  wp_cond_split (by rw [hc]; exact hF.ev i hi) (fun h => ht h a hF) (fun h => hf h a hF)
/-- Fewer live slots. -/
theorem CX.of (hs : ∀ z ∈ l', z ∈ l) (h : CX P Q x n l' w) : CX P Q x n l w := fun a hF => h a (hF.of hs)
theorem QX.of {e : Exit} (hs : ∀ z ∈ l', z ∈ l) (h : QX Q e n l' w) : QX Q e n l w := fun a hF => h a (hF.of hs)
/-- A part of the code told by what it leaves. -/
theorem CX.cut {Q' : Exit → Act → World → Prop} (h : CX P Q' x n l w) (hq : ∀ e a w, Q' e a w → Q e a w) : CX P Q x n l w := fun a hF => wp_mono (h a hF) hq
/-! ### Where a part of the code ends -/
theorem qxThen (h : CX P Q y n l w) : QX (Exit.then (y.wp P Q) Q) .normal n l w := h
theorem qxThenR {K : Act → World → Prop} (h : QX Q .ret n l w) : QX (Exit.then K Q) .ret n l w := h
theorem qxThenE {K : Act → World → Prop} {id : Nat} (h : QX Q (.exit id) n l w) : QX (Exit.then K Q) (.exit id) n l w := h
theorem qxInN {id : Nat} (h : QX Q .normal n l w) : QX (Exit.inBlock id Q) .normal n l w := h
theorem qxInR {id : Nat} (h : QX Q .ret n l w) : QX (Exit.inBlock id Q) .ret n l w := h
theorem qxInE {id : Nat} (h : QX Q .normal n l w) : QX (Exit.inBlock id Q) (.exit id) n l w := fun a hF => by
  show (if id = id then Q .normal a w else Q (.exit id) a w)
  rw [if_pos rfl]; exact h a hF
theorem qxInO {id j : Nat} (hj : (j == id) = false) (h : QX Q (.exit j) n l w) : QX (Exit.inBlock id Q) (.exit j) n l w := fun a hF => by
  show (if j = id then Q .normal a w else Q (.exit j) a w)
  rw [if_neg (by simpa using hj)]; exact h a hF
theorem qxScN (h : QX Q .normal n l w) : QX (Exit.noGoto Q) .normal n l w := h
theorem qxScR (h : QX Q .ret n l w) : QX (Exit.noGoto Q) .ret n l w := h
theorem qxScE {id : Nat} (h : QX Q (.exit id) n l w) : QX (Exit.noGoto Q) (.exit id) n l w := h
/-! ### Loops -/
section
variable {σ : Type} {fr : σ → Slots} {I : σ → World → Prop} {μ : σ → Nat}
def qLoop (n : Sz) (fr : σ → Slots) (I : σ → World → Prop) (μ : σ → Nat) (x : σ) (a : Act) (w : World) : Prop := ∃ x', (Fr n (fr x') a ∧ I x' w) ∧ μ x' < μ x
theorem cxLoop (fr : σ → Slots) (I : σ → World → Prop) (μ : σ → Nat) (x0 : σ) (h0 : I x0 w) (hfr : ∀ z ∈ fr x0, z ∈ l)
    (round : ∀ x w, I x w → CX P (Exit.then (qLoop n fr I μ x) Q) y n (fr x) w) : CX P Q (.loop y) n l w := fun _ hF =>
  loopF (σ := σ) (fun x a w => Fr n (fr x) a ∧ I x w) μ x0 ⟨hF.of hfr, h0⟩ fun x a w ⟨h1, h2⟩ => round x w h2 a h1
theorem qxRound {x0 : σ} (x : σ) (hI : I x w) (hμ : μ x < μ x0) (hfr : ∀ z ∈ fr x, z ∈ l) : QX (Exit.then (qLoop n fr I μ x0) Q) .normal n l w := fun _ hF => ⟨x, ⟨hF.of hfr, hI⟩, hμ⟩
end
/-- All of a list stand on another one, at these places. -/
theorem slots_at (is : List Nat) (h : is.map (fun i => l[i]?) = l'.map some) : ∀ z ∈ l', z ∈ l := fun z hz => by
  have h1 : some z ∈ l'.map some := List.mem_map_of_mem hz
  rw [← h] at h1
  obtain ⟨i, _, e⟩ := List.mem_map.1 h1
  exact List.mem_of_getElem? e
/-! ### Returning -/
theorem qxRet0 {n : Nat} (hf : fn.results = #[]) (hR : R (.returned (.tuple #[])) w) : QX (bodyPost P fn R) .ret ⟨n, []⟩ l w := fun _ hF => bodyPost_ret (results_none hf _ _ _) hF.defers hR
theorem qxEnd0 {n : Nat} (hf : fn.results = #[]) (hR : R (.returned (.tuple #[])) w) : QX (bodyPost P fn R) .normal ⟨n, []⟩ l w := fun _ hF => bodyPost_end (results_none hf _ _ _) hF.defers hR
theorem qxRet1 {n : Nat} {t : Tmp} {v : Value} (i : Nat) (hf : fn.results = #[.tmp t]) (hi : l[i]? = some (t, v)) (hR : R (.returned v) w) : QX (bodyPost P fn R) .ret ⟨n, []⟩ l w := fun a hF =>
  bodyPost_ret (v := v) (by rw [results_tmp hf, hF.at i hi]) hF.defers hR
theorem qxRet2 {n : Nat} {t u : Tmp} {v v2 : Value} (i j : Nat) (hf : fn.results = #[.tmp t, .tmp u]) (hi : l[i]? = some (t, v)) (hj : l[j]? = some (u, v2)) (hR : R (.returned (.tuple #[v, v2])) w) : QX (bodyPost P fn R) .ret ⟨n, []⟩ l w := fun a hF =>
  bodyPost_ret (v := .tuple #[v, v2]) (by rw [results_tmp2 hf, hF.at i hi, hF.at j hj]) hF.defers hR
theorem qxRet3 {n : Nat} {t u s : Tmp} {v v2 v3 : Value} (i j k : Nat) (hf : fn.results = #[.tmp t, .tmp u, .tmp s]) (hi : l[i]? = some (t, v)) (hj : l[j]? = some (u, v2)) (hk : l[k]? = some (s, v3)) (hR : R (.returned (.tuple #[v, v2, v3])) w) : QX (bodyPost P fn R) .ret ⟨n, []⟩ l w := fun a hF =>
  bodyPost_ret (v := .tuple #[v, v2, v3]) (by rw [results_tmp3 hf, hF.at i hi, hF.at j hj, hF.at k hk]) hF.defers hR
end

/-! ### Plain regions -/
section
variable {P : Program} {ops : Array Oper} {Q : Exit → Act → World → Prop} {o : Oper} {rest : List Oper} {w w0 : World} {n : Sz} {d : Nat} {l l' : Slots} {R : List Nat} {Hs : List Hl} {E : Hl} {Rd : World → Prop} {post : Value → Hl → Prop} {v : Value}
theorem pxEnd (h : QX Q .normal n l w) : PX P ops Q [] n l w := h
theorem pxV (hv : ∀ a w, Fr n l a → (execOp a.eval o).run P w = .ok (.value v) w) (hd : o.dst = some d) (hg : ∀ a, Fr n l a → Region.wanted o (yielded ops a.tmps) = true) (hk : Kept d l' l) (hdn : d < n.n)
    (h : PX P ops Q rest n ((d, v) :: l') w) : PX P ops Q (o :: rest) n l w := fun a hF => stepV hF hd (hg a hF) (hv a w hF) hk hdn h
theorem pxS (S : World → Prop) (hS : S w) (hv : ∀ a w, Fr n l a → S w → (execOp a.eval o).run P w = .ok (.value v) w) (hd : o.dst = some d) (hg : ∀ a, Fr n l a → Region.wanted o (yielded ops a.tmps) = true) (hk : Kept d l' l) (hdn : d < n.n)
    (h : PX P ops Q rest n ((d, v) :: l') w) : PX P ops Q (o :: rest) n l w := fun a hF => stepV hF hd (hg a hF) (hv a w hF hS) hk hdn h
theorem pxU (hd : o.dst = some d) (hg : ∀ a, Fr n l a → Region.wanted o (yielded ops a.tmps) = false) (hk : Kept d l' l) (hdn : d < n.n)
    (h : PX P ops Q rest n l' w) : PX P ops Q (o :: rest) n l w := fun a hF => stepU hF hd (hg a hF) hk hdn h
theorem pxU0 (hd : o.dst = none) (hg : ∀ a, Fr n l a → Region.wanted o (yielded ops a.tmps) = false)
    (h : PX P ops Q rest n l w) : PX P ops Q (o :: rest) n l w := fun a hF => stepU0 hF hd (hg a hF) (h a)
theorem pxE (c : Nat) (hH : HH w0 R Hs w) (hi : Hs[c]? = some E) (hs : ∀ a, Fr n l a → Small P a o E Rd post) (hRd : Rd w) (hd : o.dst = some d) (hg : ∀ a, Fr n l a → Region.wanted o (yielded ops a.tmps) = true) (hk : Kept d l' l) (hdn : d < n.n)
    (h : ∀ v E' w', post v E' → HH w0 R (Hs.set c E') w' → PX P ops Q rest n ((d, v) :: l') w') : PX P ops Q (o :: rest) n l w := fun a hF =>
  stepE c hF hH hi (hs a hF) hRd hd (hg a hF) hk hdn fun v E' a' w' h1 h2 h3 => h v E' w' h1 h3 a' h2
theorem pxE0 (c : Nat) (hH : HH w0 R Hs w) (hi : Hs[c]? = some E) (hs : ∀ a, Fr n l a → Small P a o E Rd post) (hRd : Rd w) (hd : o.dst = none) (hg : ∀ a, Fr n l a → Region.wanted o (yielded ops a.tmps) = true)
    (h : ∀ v E' w', post v E' → HH w0 R (Hs.set c E') w' → PX P ops Q rest n l w') : PX P ops Q (o :: rest) n l w := fun a hF =>
  stepE0 c hH hi (hs a hF) hRd hd (hg a hF) fun v E' w' h1 h3 => h v E' w' h1 h3 a hF
theorem pxM (hH : HH w0 R Hs w) (hs : ∀ a, Fr n l a → Small P a o [] Rd post) (hRd : Rd w) (hd : o.dst = some d) (hg : ∀ a, Fr n l a → Region.wanted o (yielded ops a.tmps) = true) (hk : Kept d l' l) (hdn : d < n.n)
    (h : ∀ v E' w', post v E' → HH w0 R (Hs ++ [E']) w' → PX P ops Q rest n ((d, v) :: l') w') : PX P ops Q (o :: rest) n l w := fun a hF =>
  stepM hF hH (hs a hF) hRd hd (hg a hF) hk hdn fun v E' a' w' h1 h2 h3 => h v E' w' h1 h3 a' h2
/-- Live slots under other values that are equal. -/
theorem PX.cast (e : l' = l) (h : PX P ops Q rest n l' w) : PX P ops Q rest n l w := e ▸ h
end
/-- A guard that is met, or not. -/
theorem gOn {n : Sz} {l : Slots} {ops : Array Oper} {o : Oper} (i : Nat) {j k : Nat} {b : Bool} (hi : l[i]? = some (k, .bool b)) (hd : (ops[j]?).bind (·.dst) = some k) (hg : o.guard = some (j, b)) (hk : k < n.n) : ∀ a, Fr n l a → Region.wanted o (yielded ops a.tmps) = true := fun _ hF => by
  rw [hF.wanted i hi hd hg hk]; cases b <;> rfl
theorem gOff {n : Sz} {l : Slots} {ops : Array Oper} {o : Oper} (i : Nat) {j k : Nat} {b : Bool} (hi : l[i]? = some (k, .bool (!b))) (hd : (ops[j]?).bind (·.dst) = some k) (hg : o.guard = some (j, b)) (hk : k < n.n) : ∀ a, Fr n l a → Region.wanted o (yielded ops a.tmps) = false := fun _ hF => by
  rw [hF.wanted i hi hd hg hk]; cases b <;> rfl
/-- Which live slots are kept: a mask. -/
def pick : List Bool → Slots → Slots
  | true :: m, x :: l => x :: pick m l
  | false :: m, _ :: l => pick m l
  | _, _ => []
theorem pick_sub : ∀ (m : List Bool) (l : Slots), (pick m l).Sublist l
  | [], l => by cases l <;> exact List.nil_sublist _
  | true :: m, [] => List.nil_sublist _
  | false :: m, [] => List.nil_sublist _
  | true :: m, x :: l => (pick_sub m l).cons_cons x
  | false :: m, x :: l => (pick_sub m l).cons x
theorem kA {d : Nat} {l : Slots} (h : keysB d l = true) : Kept d l l := ⟨List.Sublist.refl _, h⟩
theorem kM {d : Nat} {l l' : Slots} (m : List Bool) (e : pick m l = l') (h : keysB d l' = true) : Kept d l' l := ⟨by subst e; exact pick_sub m l, h⟩

/-! ### What is asked of a call -/
section
variable {P : Program} {w w0 : World} {R : List Nat} {Hs : List Hl} {E : Hl} {a : Act} {o : Oper} {f : FuncId} {args : Array Value} {Rd : World → Prop} {post : Value → Hl → Prop} {v : Value}
/-- A call that turns nothing, and makes nothing that matters. -/
def Pure (P : Program) (f : FuncId) (args : Array Value) (Rd : World → Prop) (v : Value) : Prop := ∀ w, Rd w → Calls P f args w fun e w' => e = .returned v ∧ Below w.heap.size w w'
theorem Pure.does (h : Pure P f args Rd v) : Does P f args [] Rd (fun u E' => u = v ∧ E' = []) := fun w _ hR => (h w hR).mono fun _ _ ⟨h1, h2⟩ => ⟨v, [], h1, ⟨rfl, rfl⟩, Hold.of_below h2⟩
theorem HH.unpad (h : HH w0 R (Hs ++ [[]]) w) : HH w0 R Hs w := h.cast (by simp)
/-- A walk of a call whose blocks are E. -/
theorem does_of {n : Nat} {l : Slots} {fn : Func} {c : Code} (hf : P.funcs[f]? = some fn) (hb : fn.body = some c) (hn : fn.ntmps = n) (hsz : args.size ≤ n) (hl : argsL 0 args.toList = l)
    (h : ∀ w, HH w (bks E) [E] w → Rd w → CX P (bodyPost P fn fun e w' => ∃ v E', e = .returned v ∧ post v E' ∧ Hold w (bks E) E' w') c ⟨n, []⟩ l w) : Does P f args E Rd post := fun w hE hR =>
  calls_X hf hb hn hsz hl (h w hE.start hR)
theorem pure_of {n : Nat} {l : Slots} {fn : Func} {c : Code} (hf : P.funcs[f]? = some fn) (hb : fn.body = some c) (hn : fn.ntmps = n) (hsz : args.size ≤ n) (hl : argsL 0 args.toList = l)
    (h : ∀ w, HH w [] [] w → Rd w → CX P (bodyPost P fn fun e w' => e = .returned v ∧ Below w.heap.size w w') c ⟨n, []⟩ l w) : Pure P f args Rd v := fun w hR =>
  calls_X hf hb hn hsz hl (h w (Hold.init w) hR)
end
end Go.Proofs.YticflflbogdljaaDoor
