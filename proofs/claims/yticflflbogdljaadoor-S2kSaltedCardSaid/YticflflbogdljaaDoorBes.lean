/- A part of a block laid, all else as it was; structs and arrays read out of the middle of a block. Plain theorems, over any program. -/
import Derived.Test.YticflflbogdljaaDoorBlk
namespace Go.Proofs.YticflflbogdljaaDoor
open Go Go.RowKit

theorem isRow_desc {P : Program} {ty : TypeId} (hdd : (P.underlying ty).map (·.isRow) = some true) : ∃ d, P.underlying ty = some d ∧ d.isRow = true := by
  cases h : P.underlying ty with
  | none => rw [h] at hdd; cases hdd
  | some d =>
    rw [h] at hdd
    exact ⟨d, rfl, Option.some.inj hdd⟩
/-- A struct read whole. -/
theorem wpList_load_Blk {P : Program} {w : World} {ops : Array Oper} {rest : List Oper} {o : Oper} {a : Act} {Q : Exit → Act → World → Prop} (hgd : o.guard = none) (ty : TypeId) (x : Operand) (ho : o.op = .load ty x)
    (g : Nat) (hx : a.eval x = .pointer (some ⟨g, 0, none⟩)) (t : TypeId) (cs : Array Value) (hg : Blk w g t cs) (hdd : (P.underlying ty).map (·.isRow) = some true) (hi : (P.info? ty).map (·.size) = some cs.size)
    (h : wpList P ops Q rest (a.put o.dst (.agg cs)) w) : wpList P ops Q (o :: rest) a w := by
  obtain ⟨d, hu, hdr⟩ := isRow_desc hdd
  exact wpList_plain hgd fun _ hK => wp_load_row ty x ho g hx t cs (0, 0) d hg hu (by cases d <;> first | rfl | cases hdr) hi (hK _ _ h)
/-- Cells put one after another. -/
def putL (cs : Array Value) : Nat → List Value → Array Value
  | _, [] => cs
  | o, v :: r => putL (cs.setIfInBounds o v) (o + 1) r
theorem Blk.setCells {g : Nat} {t : TypeId} : ∀ (vs : List Value) (o : Nat) (w : World) (cs : Array Value), Blk w g t cs → Blk (w.setCells g o vs) g t (putL cs o vs)
  | [], _, _, _, h => h
  | v :: r, o, w, cs, h => Blk.setCells r (o + 1) _ _ (heap_setCell_same w g o cs t v h)
/-- All but block gw is as it was. -/
def Beside (gw : Nat) (w w' : World) : Prop := Below gw w w' ∧ ∀ g, g < w.heap.size → g ≠ gw → w'.heap[g]? = w.heap[g]?
section
variable {gw : Nat} {w w1 w2 : World}
theorem Beside.refl (gw : Nat) (w : World) : Beside gw w w := ⟨Below.refl _ _, fun _ _ _ => rfl⟩
theorem Beside.drew (h : Beside gw w w1) : Beside gw w w1.drew := ⟨h.1.drew, h.2⟩
theorem Beside.below (h : Beside gw w w1) (hg : gw ≤ w1.heap.size) (hb : Below w1.heap.size w1 w2) : Beside gw w w2 :=
  ⟨h.1.trans (hb.mono hg), fun g hg hne => (hb.block g (Nat.lt_of_lt_of_le hg h.1.size)).trans (h.2 g hg hne)⟩
theorem Beside.setCell (h : Beside gw w w1) (o : Nat) (v : Value) : Beside gw w (w1.setCell ⟨gw, o, none⟩ v) :=
  ⟨h.1.setCell (Nat.le_refl _) v, fun g hg hne => (Below.heap_setCell w1 ⟨gw, o, none⟩ v g hne).trans (h.2 g hg hne)⟩
theorem Beside.setCells : ∀ (vs : List Value) (o : Nat) (w1 : World), Beside gw w w1 → Beside gw w (w1.setCells gw o vs)
  | [], _, _, h => h
  | v :: r, o, _, h => Beside.setCells r (o + 1) _ (h.setCell o v)
theorem Blk.there {t : TypeId} {cs : Array Value} (h : Blk w gw t cs) (o n : Nat) (hn : o + n ≤ cs.size) : w.there gw o n := fun j hj => by
  refine ⟨?_, ?_⟩
  · rw [h.cell, Array.getElem?_eq_getElem (by omega)]; rfl
  · unfold Blk at h
    simp [World.frozen?, h]
theorem Blk.range {t : TypeId} {cs : Array Value} (h : Blk w gw t cs) (o n : Nat) (f : Nat → UInt8) (hc : ∀ j, j < n → cs[o + j]? = some (by8 (f j))) : w.rangeAt gw o (row n f).toList := by
  intro j v hv
  have hj : j < n := by
    have := (List.getElem?_eq_some_iff.1 hv).1
    simpa [row_size] using this
  rw [Array.getElem?_toList, row_get _ _ _ hj] at hv
  obtain rfl := Option.some.inj hv
  exact (h.cell (o + j)).trans (hc j hj)
end
section
variable {P : Program}
theorem run_load_Part (w : World) (ty e : TypeId) (g o k : Nat) (f : Nat → UInt8) (hr : w.rangeAt g o (row k f).toList) (hu : P.underlying ty = some (.array k e)) (hi : (P.info? ty).map (·.size) = some k) :
    (Instr.loadAt ty (.pointer (some ⟨g, o, none⟩))).run P w = .ok (.agg (row k f)) w := by
  have h := run_loadAt_mid (P := P) w g o ty _ _ hr hu rfl (by rw [hi, Array.length_toList, row_size])
  simpa using h
theorem Sure.load_Part {ops : Array Oper} {S : World → Prop} {op : Oper} {a : Act} (hwant : Region.wanted op (yielded ops a.tmps) = true) (ty : TypeId) (x : Operand) (ho : op.op = .load ty x)
    (g o : Nat) (hx : a.eval x = .pointer (some ⟨g, o, none⟩)) (k : Nat) (f : Nat → UInt8) (e : TypeId) (hr : ∀ w, S w → w.rangeAt g o (row k f).toList) (hu : P.underlying ty = some (.array k e)) (hi : (P.info? ty).map (·.size) = some k) :
    Sure P ops S op (.agg (row k f)) a :=
  Sure.val hwant fun w hw => by
    unfold execOp
    simp only [ho, hx, Sem.run_bind, Sem.run_pure, Result.andThen_ok, run_load_Part w ty e g o k f (hr w hw) hu hi]
theorem Sure.load_Struct {ops : Array Oper} {S : World → Prop} {op : Oper} {a : Act} (hwant : Region.wanted op (yielded ops a.tmps) = true) (ty : TypeId) (x : Operand) (ho : op.op = .load ty x)
    (g o : Nat) (hx : a.eval x = .pointer (some ⟨g, o, none⟩)) (cs : Array Value) (hr : ∀ w, S w → w.rangeAt g o cs.toList) (hdd : (P.underlying ty).map (·.isRow) = some true) (hi : (P.info? ty).map (·.size) = some cs.size) :
    Sure P ops S op (.agg cs) a :=
  Sure.val hwant fun w hw => by
    obtain ⟨d, hu, hdr⟩ := isRow_desc hdd
    have h := run_loadAt_mid (P := P) w g o ty _ d (hr w hw) hu hdr (by rw [hi, Array.length_toList])
    unfold execOp
    simp only [ho, hx, Sem.run_bind, Sem.run_pure, Result.andThen_ok, h]
/-- The last operation of a region: an array stored into the middle of a block. -/
theorem Seq.store_Part {ops : Array Oper} {S : World → Prop} {Q : Exit → Act → World → Prop} {op : Oper} {a : Act} (hwant : Region.wanted op (yielded ops a.tmps) = true) (ty : TypeId) (x y : Operand) (ho : op.op = .store ty x y)
    (g o : Nat) (hx : a.eval x = .pointer (some ⟨g, o, none⟩)) (k : Nat) (f : Nat → UInt8) (hy : a.eval y = .agg (row k f)) (ht : ∀ w, S w → w.there g o k) (hi : (P.info? ty).map (·.size) = some k)
    (h : ∀ w, S w → Q .normal (a.put op.dst undef) (w.setCells g o (row k f).toList)) : Seq P ops Q S [op] a :=
  Seq.last hwant fun w hS => wp_store_mid ty x y ho g o (row k f) hx hy (by rw [row_size]; exact ht w hS) (by rw [hi, row_size]) (row_one k f) (h w hS)
end

section
variable {P : Program} {ops : Array Oper} {Q : Exit → Act → World → Prop} {w : World}
theorem exec_build {o : Oper} {a : Act} (t : TypeId) (parts : Array (Nat × Operand)) (ho : o.op = .build t parts) (cells : Array Value) (vals : List (Nat × Value)) (hv : (parts.map fun (i, x) => (i, a.eval x)).toList = vals)
    (hb : P.built t vals = some cells) (w : World) : (execOp a.eval o).run P w = .ok (.value (.agg cells)) w := by
  subst hv
  unfold execOp
  simp only [ho, Sem.run_bind, Sem.run_pure]
  rw [run_build w t _ cells hb]
  rfl
theorem wpList_build {rest : List Oper} {o : Oper} {a : Act} (hgd : o.guard = none) (t : TypeId) (parts : Array (Nat × Operand)) (ho : o.op = .build t parts) (cells : Array Value) (vals : List (Nat × Value)) (hv : (parts.map fun (i, x) => (i, a.eval x)).toList = vals)
    (hb : P.built t vals = some cells) (h : wpList P ops Q rest (a.put o.dst (.agg cells)) w) : wpList P ops Q (o :: rest) a w :=
  wpList_plain hgd fun _ hK => by
    unfold Oper.wp
    rw [exec_build t parts ho cells vals hv hb w]
    exact hK _ _ h
theorem run_alloc_Blk (ty : TypeId) (cs : Array Value) (hz : (P.info? ty).bind (·.zero) = some (.agg cs)) (w : World) :
    (Instr.alloc ty true (.tuple #[])).run P w = .ok (.pointer (some ⟨w.heap.size, 0, none⟩)) (w.alloc (.cells cs ty)) := by
  cases hq : P.info? ty with
  | none => simp [hq] at hz
  | some i =>
    have hs : i.zero = some (.agg cs) := by simpa [hq] using hz
    simp [Instr.alloc, zeroValue, typeInfo, hq, hs, newVar, newRow, Value.cells]
theorem wpList_alloc_Blk {rest : List Oper} {o : Oper} {a : Act} (hgd : o.guard = none) (ty : TypeId) (ho : o.op = .alloc ty) (cs : Array Value)
    (hz : (P.info? ty).bind (·.zero) = some (.agg cs))
    (h : wpList P ops Q rest (a.put o.dst (.pointer (some ⟨w.heap.size, 0, none⟩))) (w.alloc (.cells cs ty))) : wpList P ops Q (o :: rest) a w :=
  wpList_plain hgd fun _ hK => by
    unfold Oper.wp execOp
    simp only [ho, Sem.run_bind, Sem.run_pure, Result.andThen_ok, run_alloc_Blk ty cs hz]
    exact hK _ _ h

end
end Go.Proofs.YticflflbogdljaaDoor
