/- Composite literals, all of whose parts are given, in order; conversions; other operations. Plain theorems, over any program. -/
import Derived.Test.YticflflbogdljaaDoorCo
namespace Go.Proofs.YticflflbogdljaaDoor
open Go Go.RowKit

/-- Operands of parts, and what they are. -/
inductive EvP (a : Act) : List (Nat × Operand) → List (Nat × Value) → Prop where
  | nil : EvP a [] []
  | cons {i : Nat} {x : Operand} {v : Value} {xs : List (Nat × Operand)} {vs : List (Nat × Value)} (h : a.eval x = v) (r : EvP a xs vs) : EvP a ((i, x) :: xs) ((i, v) :: vs)
theorem EvP.map {a : Act} {xs : List (Nat × Operand)} {vs : List (Nat × Value)} (h : EvP a xs vs) : (xs.toArray.map fun (i, x) => (i, a.eval x)).toList = vs := by
  have : xs.map (fun (i, x) => (i, a.eval x)) = vs := by
    induction h with
    | nil => rfl
    | cons h _ ih => rw [List.map_cons, ih, ← h]
  simpa using this
theorem opBuildP {P : Program} {a : Act} {o : Oper} {ty : TypeId} {parts : List (Nat × Operand)} {cells : Array Value} {vals : List (Nat × Value)} (ho : o.op = .build ty parts.toArray) (hx : EvP a parts vals) (hb : P.built ty vals = some cells) (w : World) : (execOp a.eval o).run P w = .ok (.value (.agg cells)) w :=
  exec_build ty parts.toArray ho cells vals hx.map hb w
/-- Values of these sizes. -/
def Sizes : List Nat → List Value → Prop
  | [], [] => True
  | s :: ss, v :: vs => v.cells.size = s ∧ Sizes ss vs
  | _, _ => False
/-- Places one behind the other. -/
def placesFrom : Nat → List Nat → List (Nat × Nat)
  | _, [] => []
  | off, s :: ss => (off, s) :: placesFrom (off + s) ss
def enumV : Nat → List Value → List (Nat × Value)
  | _, [] => []
  | i, v :: vs => (i, v) :: enumV (i + 1) vs
def structOk (P : Program) (ty : TypeId) (ss : List Nat) : Bool :=
  match P.info? ty, P.underlying ty with
  | some it, some (.struct fields) =>
    match it.zero, fields.toList.mapM (fun f => (P.info? f.type).map fun i => (f.offset, i.size)) with
    | some z, some places => places == placesFrom 0 ss && z.cells.size == ss.sum
    | _, _ => false
  | _, _ => false
def cellsL (vs : List Value) : List Value := vs.flatMap fun v => v.cells.toList
theorem foldl_put : ∀ (l : List Value) (off : Nat) (cs : Array Value) (s : Nat), (l.zipIdx s).foldl (fun cs (x : Value × Nat) => cs.setIfInBounds (off + x.2) x.1) cs = putL cs (off + s) l
  | [], _, _, _ => rfl
  | v :: r, off, cs, s => by
    simp only [List.zipIdx_cons, List.foldl_cons]
    rw [foldl_put r off _ (s + 1)]
    rfl
theorem putL_append (pre z vs : List Value) (off : Nat) (hp : pre.length = off) (hz : vs.length ≤ z.length) : putL (pre ++ z).toArray off vs = (pre ++ (vs ++ z.drop vs.length)).toArray := by
  apply Array.ext_getElem?
  intro k
  rw [putL_get]
  simp only [List.getElem?_toArray, List.size_toArray, List.length_append]
  by_cases h1 : k < off
  · rw [if_neg (by omega), List.getElem?_append_left (by omega), List.getElem?_append_left (by omega)]
  · by_cases h2 : k < off + vs.length
    · rw [if_pos (by omega), List.getElem?_append_right (by omega), List.getElem?_append_left (by omega), hp]
    · rw [if_neg (by omega), List.getElem?_append_right (by omega), List.getElem?_append_right (by omega), List.getElem?_append_right (by omega), hp, List.getElem?_drop]
      congr 1; omega
theorem placesFrom_get : ∀ (ss : List Nat) (off i s : Nat), ss[i]? = some s → (placesFrom off ss)[i]? = some (off + (ss.take i).sum, s)
  | [], _, _, _, h => by simp at h
  | t :: ss, off, 0, s, h => by
    obtain rfl : t = s := by simpa using h
    simp [placesFrom]
  | t :: ss, off, i + 1, s, h => by
    have := placesFrom_get ss (off + t) i s (by simpa using h)
    simp only [placesFrom, List.getElem?_cons_succ, this, List.take_succ_cons, List.sum_cons]
    congr 2; omega
theorem fill_all (ss : List Nat) : ∀ (vs : List Value) (i : Nat) (pre z : List Value), Sizes (ss.drop i) vs → pre.length = (ss.take i).sum → z.length = (ss.drop i).sum →
    Instr.fill ((placesFrom 0 ss).toArray[·]?) (pre ++ z).toArray (enumV i vs) = some (pre ++ cellsL vs).toArray
  | [], i, pre, z, hs, _, hz => by
    have h0 : ss.drop i = [] := by
      cases h : ss.drop i with
      | nil => rfl
      | cons a b => rw [h] at hs; exact hs.elim
    rw [h0] at hz
    obtain rfl : z = [] := List.eq_nil_of_length_eq_zero (by simpa using hz)
    simp [enumV, Instr.fill, cellsL]
  | v :: vs, i, pre, z, hs, hp, hz => by
    obtain ⟨s, r, hd⟩ : ∃ s r, ss.drop i = s :: r := by
      cases h : ss.drop i with
      | nil => rw [h] at hs; exact hs.elim
      | cons a b => exact ⟨a, b, rfl⟩
    rw [hd] at hs hz
    obtain ⟨hv, hs⟩ := hs
    have hi : ss[i]? = some s := by
      have := congrArg (fun l => l[0]?) hd
      simpa using this
    have hr : ss.drop (i + 1) = r := by
      have := congrArg (fun l => l.drop 1) hd
      simpa [List.drop_drop, Nat.add_comm] using this
    have hpl := placesFrom_get ss 0 i s hi
    rw [Nat.zero_add] at hpl
    rw [List.sum_cons] at hz
    simp only [enumV]
    unfold Instr.fill
    simp only [List.getElem?_toArray, hpl, hv]
    rw [if_neg (by simp; omega)]
    have hf := foldl_put v.cells.toList (ss.take i).sum (pre ++ z).toArray 0
    rw [Nat.add_zero] at hf
    rw [← Array.foldl_toList, Array.toList_zipIdx, hf, putL_append pre z v.cells.toList _ hp (by rw [Array.length_toList, hv]; omega), ← List.append_assoc]
    have ih := fill_all ss vs (i + 1) (pre ++ v.cells.toList) (z.drop v.cells.toList.length) (by rw [hr]; exact hs) (by
      rw [List.length_append, hp, Array.length_toList, hv, List.take_add_one, hi]
      simp) (by
      have e : v.cells.toList.length = s := by rw [Array.length_toList, hv]
      rw [List.length_drop, e, hr]; omega)
    simp only [List.getElem?_toArray] at ih
    rw [ih]
    simp [cellsL]
theorem built_all {P : Program} {ty : TypeId} {vs : List Value} (ss : List Nat) (h : structOk P ty ss = true) (hs : Sizes ss vs) : P.built ty (enumV 0 vs) = some (cellsL vs).toArray := by
  unfold structOk at h
  unfold Program.built
  cases hi : P.info? ty with
  | none => rw [hi] at h; cases h
  | some it =>
    cases hu : P.underlying ty with
    | none => rw [hi, hu] at h; cases h
    | some d =>
      rw [hi, hu] at h
      cases d <;> try (cases h; done)
      rename_i fields
      simp only at h ⊢
      cases hz : it.zero with
      | none => rw [hz] at h; cases h
      | some z =>
        cases hp : fields.toList.mapM (fun f => (P.info? f.type).map fun i => (f.offset, i.size)) with
        | none => rw [hz, hp] at h; cases h
        | some places =>
          rw [hz, hp] at h
          simp only [Bool.and_eq_true, beq_iff_eq] at h
          obtain ⟨rfl, h2⟩ := h
          have := fill_all ss vs 0 [] z.cells.toList (by simpa using hs) (by simp) (by simpa using h2)
          simpa using this
/-- A composite literal of a pair, of three, of four. -/
theorem built_pair {P : Program} {ty : TypeId} {α β : Type} {A : Cod α} {B : Cod β} {u v : Value} {x : α × β} (h : structOk P ty [A.sz, B.sz] = true) (hu : A.val x.1 = u) (hv : B.val x.2 = v) : P.built ty [(0, u), (1, v)] = some ((cPair A B).enc x) := by
  subst hu hv
  rw [show [(0, A.val x.1), (1, B.val x.2)] = enumV 0 [A.val x.1, B.val x.2] from rfl, built_all (vs := [A.val x.1, B.val x.2]) [A.sz, B.sz] h ⟨A.len _, B.len _, trivial⟩, enc_pair]
  congr 1
  apply Array.ext'
  simp [cellsL, Cod.enc]
/-- A composite literal of a pair whose second part is not given. -/
theorem built_fst {P : Program} {ty : TypeId} {α β : Type} {A : Cod α} {B : Cod β} {u : Value} {x : α} (z0 : α) (z : β) (h : structOk P ty [A.sz, B.sz] = true) (hz0 : ((P.info? ty).bind (·.zero)).map (·.cells) = some ((cPair A B).enc (z0, z))) (hu : A.val x = u) : P.built ty [(0, u)] = some ((cPair A B).enc (x, z)) := by
  subst hu
  unfold structOk at h
  unfold Program.built
  cases hi : P.info? ty with
  | none => rw [hi] at h; cases h
  | some it =>
    cases hu : P.underlying ty with
    | none => rw [hi, hu] at h; cases h
    | some d =>
      rw [hi, hu] at h
      rw [hi] at hz0
      cases d <;> try (cases h; done)
      rename_i fields
      simp only at h ⊢
      cases hz : it.zero with
      | none => rw [hz] at h; cases h
      | some zv =>
        cases hp : fields.toList.mapM (fun f => (P.info? f.type).map fun i => (f.offset, i.size)) with
        | none => rw [hz, hp] at h; cases h
        | some places =>
          rw [hz, hp] at h
          simp only [Bool.and_eq_true, beq_iff_eq] at h
          obtain ⟨rfl, h2⟩ := h
          simp only [Option.bind_some, hz, Option.map_some, Option.some.injEq] at hz0
          simp only [hz0, enc_pair, placesFrom]
          have hsz : (A.val x).cells.size = A.sz := A.len x
          unfold Instr.fill
          simp only [List.getElem?_toArray, List.getElem?_cons_zero, hsz, Array.size_append, Cod.size]
          rw [if_neg (by simp)]
          unfold Instr.fill
          have hf := foldl_put (A.val x).cells.toList 0 (A.enc z0 ++ B.enc z) 0
          rw [← Array.foldl_toList, Array.toList_zipIdx, hf]
          have e : (A.enc z0 ++ B.enc z) = (([] : List Value) ++ (A.enc z0 ++ B.enc z).toList).toArray := by simp
          rw [e, putL_append [] _ _ 0 rfl (by simp [hsz, Cod.size])]
          congr 1
          apply Array.ext'
          simp only [List.nil_append, Array.toList_append, Array.length_toList, hsz]
          rw [List.drop_append_of_le_length (by rw [Array.length_toList, Cod.size]; exact Nat.le_refl _), List.drop_eq_nil_of_le (by rw [Array.length_toList, Cod.size]; exact Nat.le_refl _), List.nil_append]
          rfl
section
variable {P : Program} {a : Act} {o : Oper} {w : World} {x : Operand} {src dst : TypeId}
/-- An integer of another kind. -/
theorem opConvI {k k' : IntKind} {n z : Int} (ho : o.op = .convert src dst x) (hs : (P.underlying src).isSome = true) (hd : P.underlying dst = some (.int k')) (hx : a.eval x = .int k n) (hz : k'.wrap n = z) : (execOp a.eval o).run P w = .ok (.value (.int k' z)) w := by
  subst hz
  have hk : P.intKind dst = k' := by simp [Program.intKind, hd]
  have hr := run_convert_int (P := P) (w := w) src dst k n hs (by rw [hk]; exact hd)
  unfold execOp
  simp only [ho, hx, Sem.run_bind, Sem.run_pure, hr, hk, Result.andThen_ok]
end
/-! ### Numbers -/
theorem wI {x z : Int} (h : x = z) (h1 : -9223372036854775808 ≤ z) (h2 : z ≤ 9223372036854775807) : IntKind.i64.wrap x = z := by
  subst h
  simp only [IntKind.wrap]
  first | omega | (simp [IntKind.signed, IntKind.bits]; omega)
theorem dc {p q : Prop} [Decidable p] [Decidable q] (h : p ↔ q) : decide p = decide q := by
  by_cases hp : p
  · rw [decide_eq_true hp, decide_eq_true (h.1 hp)]
  · rw [decide_eq_false hp, decide_eq_false fun hq => hp (h.2 hq)]
theorem quoN {a b : Nat} : ((a : Int)).tdiv (b : Int) = ((a / b : Nat) : Int) := rfl
theorem remN {a b : Nat} : ((a : Int)).tmod (b : Int) = ((a % b : Nat) : Int) := rfl
end Go.Proofs.YticflflbogdljaaDoor
