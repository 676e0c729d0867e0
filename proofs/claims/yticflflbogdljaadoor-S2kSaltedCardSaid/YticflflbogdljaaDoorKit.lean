/- Bytes as values, rows of bytes as blocks of memory, and the operations on them. Plain theorems, over any program. -/
import Derived.Test.YticflflbogdljaaDoorReg
import Derived.Test.YticflflbogdljaaDoorPure
import Derived.Tactics
import Derived.Tactics2
import Derived.WalkKit
import Derived.Below
import Derived.Deep.Draws
import Derived.Deep.MidRow
import Derived.Laws.Rows
import Derived.Laws.Tables
import Derived.Laws.CopyRow
import Derived.Laws.MakeOwn
import Derived.Laws.BitsAllLaws
import Derived.Lib.Hide
import Derived.KernelRfl
namespace Go.Proofs.YticflflbogdljaaDoor
open Go Go.RowKit

/-- A byte as a value. -/
def by8 (x : UInt8) : Value := .int .u8 (x.toNat : Int)
/-- n bytes as the cells of an array. -/
def row (n : Nat) (f : Nat → UInt8) : Array Value := Array.ofFn fun i : Fin n => by8 (f i)

theorem row_size (n : Nat) (f : Nat → UInt8) : (row n f).size = n := by simp [row]
theorem row_get (n : Nat) (f : Nat → UInt8) (i : Nat) (h : i < n) : (row n f)[i]? = some (by8 (f i)) := by
  simp [row, h]
theorem row_congr {n : Nat} {f g : Nat → UInt8} (h : ∀ i, i < n → f i = g i) : row n f = row n g := by
  unfold row
  congr 1
  funext i
  rw [h i.1 i.2]
theorem row_set (n : Nat) (f : Nat → UInt8) (i : Nat) (x : UInt8) : (row n f).setIfInBounds i (by8 x) = row n fun j => if j = i then x else f j := by
  apply Array.ext
  · simp [row]
  · intro j h1 h2
    simp only [row, Array.size_setIfInBounds, Array.size_ofFn] at h1
    rw [Array.getElem_setIfInBounds]
    · simp only [row, Array.getElem_ofFn]
      by_cases h : i = j
      · subst h; simp
      · have h' : ¬ j = i := fun e => h e.symm
        simp [h, h']
    · simp [row]; exact h1
theorem row_one (n : Nat) (f : Nat → UInt8) : (row n f).all (·.oneCell') = true := by
  rw [Array.all_eq_true_iff_forall_mem]
  intro v hv
  simp only [row, Array.mem_ofFn] at hv
  obtain ⟨i, rfl⟩ := hv
  rfl
theorem by8_inj {x y : UInt8} (h : by8 x = by8 y) : x = y := by
  unfold by8 at h
  injection h with _ h
  exact UInt8.toNat_inj.1 (by omega)
theorem row_inj {n : Nat} {f g : Nat → UInt8} (h : row n f = row n g) (i : Nat) (hi : i < n) : f i = g i := by
  have h1 := row_get n f i hi
  rw [h, row_get n g i hi] at h1
  exact (by8_inj (Option.some.inj h1)).symm

/-- Block g is just the n bytes f, none frozen. -/
def Row (w : World) (g : Nat) (t : TypeId) (n : Nat) (f : Nat → UInt8) : Prop := w.heap[g]? = some (.cells (row n f) t (0, 0))

section
variable {w w' : World} {g : Nat} {t : TypeId} {n : Nat} {f : Nat → UInt8}
theorem Row.lt (h : Row w g t n f) : g < w.heap.size := by
  rcases Nat.lt_or_ge g w.heap.size with hlt | hge
  · exact hlt
  · unfold Row at h; rw [Array.getElem?_eq_none hge] at h; cases h
theorem Row.cell (h : Row w g t n f) (i : Nat) (hi : i < n) : w.cell? ⟨g, i, none⟩ = some (.int .u8 ((f i).toNat : Int)) := by
  rw [cell_of_row w g i _ t (0, 0) h, row_get n f i hi]; rfl
theorem Row.frozen (h : Row w g t n f) (i : Nat) : w.frozen? ⟨g, i, none⟩ = false := by
  unfold Row at h
  simp [World.frozen?, h]
theorem Row.new (w : World) (t : TypeId) (n : Nat) (f : Nat → UInt8) : Row (w.alloc (.cells (row n f) t)) w.heap.size t n f := heap_alloc_new w _
theorem Row.drew (h : Row w g t n f) : Row w.drew g t n f := h
theorem Row.drewN (h : Row w g t n f) (k : Nat) : Row (w.drewN k) g t n f := h
theorem Row.alloc (h : Row w g t n f) (o : Obj) : Row (w.alloc o) g t n f := (Below.heap_alloc w o g h.lt).trans h
theorem Row.set_ (h : Row w g t n f) (i : Nat) (x : UInt8) : Row (w.setCell ⟨g, i, none⟩ (.int .u8 (x.toNat : Int))) g t n fun j => if j = i then x else f j := by
  unfold Row at h ⊢
  rw [heap_setCell_same w g i _ t _ h]
  congr 2
  exact row_set n f i x
theorem Row.far (h : Row w g t n f) {p : Addr} (hp : g ≠ p.block) (u : Value) : Row (w.setCell p u) g t n f := (Below.heap_setCell w p u g hp).trans h
theorem Row.below {B : Nat} (h : Row w g t n f) (hb : Below B w w') (hg : g < B) : Row w' g t n f := (hb.block g hg).trans h
theorem Row.congr {f' : Nat → UInt8} (h : Row w g t n f) (hf : ∀ i, i < n → f i = f' i) : Row w g t n f' := by
  unfold Row at *; rw [h, row_congr hf]
theorem Row.setRow (h : Row w g t n f) (f' : Nat → UInt8) : Row (w.setRow g (row n f')) g t n f' := setRow_heap w g _ _ t (0, 0) h
theorem Row.setRow_far (h : Row w g t n f) {k : Nat} (hk : k ≠ g) (cs : Array Value) : Row (w.setRow k cs) g t n f := (setRow_other w k g cs (Ne.symm hk)).trans h
theorem below_setRow8 {B : Nat} {a : World} (h : Below B a w) {k : Nat} (hk : B ≤ k) (cs : Array Value) : Below B a (w.setRow k cs) :=
  h.trans ⟨rfl, rfl, rfl, by simp, fun i hi => setRow_other w k i cs (by omega)⟩
theorem below_drewN {B : Nat} {a : World} (h : Below B a w) (n : Nat) : Below B a (w.drewN n) := ⟨h.os, h.tape, h.output, h.size, h.block⟩
end

theorem xor8 (x y : UInt8) : bits .xor .u8 (x.toNat : Int) (y.toNat : Int) = ((xr x y).toNat : Int) := by
  unfold xr
  rw [u8_xor_nat _ _ x.toNat_lt y.toNat_lt, UInt8.toNat_xor]
theorem lt8 (x : UInt8) : (x.toNat : Int) < 256 := by have := x.toNat_lt; omega


section
variable {P : Program} {w : World}
/-- A whole array of bytes read out of its block. -/
theorem wpList_load_Row {ops : Array Oper} {rest : List Oper} {o : Oper} {a : Act} {Q : Exit → Act → World → Prop} (hgd : o.guard = none) (ty : TypeId) (x : Operand) (ho : o.op = .load ty x)
    (g : Nat) (hx : a.eval x = .pointer (some ⟨g, 0, none⟩)) (t : TypeId) (n : Nat) (f : Nat → UInt8) (e : TypeId) (hg : Row w g t n f) (hu : P.underlying ty = some (.array n e)) (hi : (P.info? ty).map (·.size) = some n)
    (h : wpList P ops Q rest (a.put o.dst (.agg (row n f))) w) : wpList P ops Q (o :: rest) a w :=
  wpList_load_row hgd ty x ho g hx t (row n f) (0, 0) _ hg hu rfl (by rw [hi, row_size]) h
/-- A whole array of bytes stored into a block of its size. -/
theorem wpList_store_Row {ops : Array Oper} {rest : List Oper} {o : Oper} {a : Act} {Q : Exit → Act → World → Prop} (hgd : o.guard = none) (ty : TypeId) (x y : Operand) (ho : o.op = .store ty x y)
    (g : Nat) (hx : a.eval x = .pointer (some ⟨g, 0, none⟩)) (t : TypeId) (n : Nat) (f f' : Nat → UInt8) (hy : a.eval y = .agg (row n f')) (hg : Row w g t n f) (hi : (P.info? ty).map (·.size) = some n)
    (h : wpList P ops Q rest (a.put o.dst undef) (w.setRow g (row n f'))) : wpList P ops Q (o :: rest) a w :=
  wpList_store_row hgd ty x y ho g (row n f') hx hy t (row n f) hg (by rw [hi, row_size]) (by rw [row_size, row_size]) (row_one n f') h
theorem wp_store_Row {o : Oper} {a : Act} {K : Act → World → Prop} {Q : Exit → Act → World → Prop} (ty : TypeId) (x y : Operand) (ho : o.op = .store ty x y)
    (g : Nat) (hx : a.eval x = .pointer (some ⟨g, 0, none⟩)) (t : TypeId) (n : Nat) (f f' : Nat → UInt8) (hy : a.eval y = .agg (row n f')) (hg : Row w g t n f) (hi : (P.info? ty).map (·.size) = some n)
    (h : K (a.put o.dst undef) (w.setRow g (row n f'))) : o.wp P a w K Q :=
  wp_store_row ty x y ho g (row n f') hx hy t (row n f) hg (by rw [hi, row_size]) (by rw [row_size, row_size]) (row_one n f') h
/-- In a region that draws its order. -/
theorem Sure.load_Row {ops : Array Oper} {S : World → Prop} {o : Oper} {a : Act} (hwant : Region.wanted o (yielded ops a.tmps) = true) (ty : TypeId) (x : Operand) (ho : o.op = .load ty x)
    (g : Nat) (hx : a.eval x = .pointer (some ⟨g, 0, none⟩)) (t : TypeId) (n : Nat) (f : Nat → UInt8) (e : TypeId) (hg : ∀ w, S w → Row w g t n f) (hu : P.underlying ty = some (.array n e)) (hi : (P.info? ty).map (·.size) = some n) :
    Sure P ops S o (.agg (row n f)) a :=
  Sure.val hwant fun w hw => by
    unfold execOp
    simp only [ho, hx, Instr.loadAt, Instr.sureAddr, Sem.run_bind, Sem.run_pure, Result.andThen_ok, run_loadVar_row w g t ty _ _ _ (hg w hw) hu rfl (by rw [hi, row_size])]
/-- The last operation of a region: a whole array stored. (Never leave a goal whose head is 'Oper.wp' to refine.) -/
theorem Seq.store_Row {ops : Array Oper} {S : World → Prop} {Q : Exit → Act → World → Prop} {o : Oper} {a : Act} (hwant : Region.wanted o (yielded ops a.tmps) = true) (ty : TypeId) (x y : Operand) (ho : o.op = .store ty x y)
    (g : Nat) (hx : a.eval x = .pointer (some ⟨g, 0, none⟩)) (t : TypeId) (n : Nat) (f f' : Nat → UInt8) (hy : a.eval y = .agg (row n f')) (hg : ∀ w, S w → Row w g t n f) (hi : (P.info? ty).map (·.size) = some n)
    (h : ∀ w, S w → Q .normal (a.put o.dst undef) (w.setRow g (row n f'))) : Seq P ops Q S [o] a :=
  Seq.last hwant fun w hS => wp_store_Row ty x y ho g hx t n f f' hy (hg w hS) hi (h w hS)
/-- The end of a function whose one result is an array of bytes in a block. -/
theorem ret_Row {fn : Func} {R : Ending → World → Prop} {a : Act} {p : Tmp} {ty : TypeId} (h : fn.results = #[.cell p ty]) (hd : a.defers = []) (g : Nat) (t : TypeId) (n : Nat) (f : Nat → UInt8) (e : TypeId)
    (hp : a.tmps.getD p undef = .pointer (some ⟨g, 0, none⟩)) (hg : Row w g t n f) (hu : P.underlying ty = some (.array n e)) (hi : (P.info? ty).map (·.size) = some n)
    (hR : R (.returned (.agg (row n f))) w) : bodyPost P fn R .ret a w :=
  bodyPost_ret (results_cell_row h _ _ g t (row n f) (0, 0) _ hp hg hu rfl (by rw [hi, row_size])) hd hR
end

section
variable {P : Program} {w : World}
/-- A new variable that is an array of bytes. -/
theorem run_alloc_Row (ty : TypeId) (n : Nat) (hz : (P.info? ty).bind (·.zero) = some (.agg (row n fun _ => 0))) (w : World) :
    (Instr.alloc ty true (.tuple #[])).run P w = .ok (.pointer (some ⟨w.heap.size, 0, none⟩)) (w.alloc (.cells (row n fun _ => 0) ty)) := by
  cases hq : P.info? ty with
  | none => simp [hq] at hz
  | some i =>
    have hs : i.zero = some (.agg (row n fun _ => 0)) := by simpa [hq] using hz
    simp [Instr.alloc, zeroValue, typeInfo, hq, hs, newVar, newRow, Value.cells]
theorem wpList_alloc_Row {ops : Array Oper} {rest : List Oper} {o : Oper} {a : Act} {Q : Exit → Act → World → Prop} (hgd : o.guard = none) (ty : TypeId) (ho : o.op = .alloc ty) (n : Nat)
    (hz : (P.info? ty).bind (·.zero) = some (.agg (row n fun _ => 0)))
    (h : wpList P ops Q rest (a.put o.dst (.pointer (some ⟨w.heap.size, 0, none⟩))) (w.alloc (.cells (row n fun _ => 0) ty))) : wpList P ops Q (o :: rest) a w :=
  wpList_plain hgd fun _ hK => by
    unfold Oper.wp execOp
    simp only [ho, Sem.run_bind, Sem.run_pure, Result.andThen_ok, run_alloc_Row ty n hz]
    exact hK _ _ h
theorem Row.range {g : Nat} {t : TypeId} {n : Nat} {f : Nat → UInt8} (h : Row w g t n f) (o k : Nat) (hk : o + k ≤ n) : w.rangeAt g o (row k fun j => f (o + j)).toList := by
  intro j v hv
  have hj : j < k := by
    have := (List.getElem?_eq_some_iff.1 hv).1
    simpa [row_size] using this
  rw [Array.getElem?_toList, row_get _ _ _ hj] at hv
  obtain rfl := Option.some.inj hv
  exact h.cell (o + j) (by omega)
/-- An array of bytes read out of the middle of a block. -/
theorem run_load_Mid (ty e : TypeId) (g o : Nat) (t : TypeId) (n k : Nat) (f : Nat → UInt8) (hg : Row w g t n f) (hk : o + k ≤ n) (hu : P.underlying ty = some (.array k e)) (hi : (P.info? ty).map (·.size) = some k) :
    (Instr.loadAt ty (.pointer (some ⟨g, o, none⟩))).run P w = .ok (.agg (row k fun j => f (o + j))) w := by
  have h := run_loadAt_mid (P := P) w g o ty _ _ (hg.range o k hk) hu rfl (by rw [hi, Array.length_toList, row_size])
  simpa using h
theorem wpList_load_Mid {ops : Array Oper} {rest : List Oper} {op : Oper} {a : Act} {Q : Exit → Act → World → Prop} (hgd : op.guard = none) (ty : TypeId) (x : Operand) (ho : op.op = .load ty x)
    (g o : Nat) (hx : a.eval x = .pointer (some ⟨g, o, none⟩)) (t : TypeId) (n k : Nat) (f : Nat → UInt8) (e : TypeId) (hg : Row w g t n f) (hk : o + k ≤ n) (hu : P.underlying ty = some (.array k e)) (hi : (P.info? ty).map (·.size) = some k)
    (h : wpList P ops Q rest (a.put op.dst (.agg (row k fun j => f (o + j)))) w) : wpList P ops Q (op :: rest) a w :=
  wpList_plain hgd fun _ hK => by
    unfold Oper.wp execOp
    simp only [ho, hx, Sem.run_bind, Sem.run_pure, Result.andThen_ok, run_load_Mid ty e g o t n k f hg hk hu hi]
    exact hK _ _ h
theorem Sure.load_Mid {ops : Array Oper} {S : World → Prop} {op : Oper} {a : Act} (hwant : Region.wanted op (yielded ops a.tmps) = true) (ty : TypeId) (x : Operand) (ho : op.op = .load ty x)
    (g o : Nat) (hx : a.eval x = .pointer (some ⟨g, o, none⟩)) (t : TypeId) (n k : Nat) (f : Nat → UInt8) (e : TypeId) (hg : ∀ w, S w → Row w g t n f) (hk : o + k ≤ n) (hu : P.underlying ty = some (.array k e)) (hi : (P.info? ty).map (·.size) = some k) :
    Sure P ops S op (.agg (row k fun j => f (o + j))) a :=
  Sure.val hwant fun w hw => by
    unfold execOp
    simp only [ho, hx, Sem.run_bind, Sem.run_pure, Result.andThen_ok, run_load_Mid ty e g o t n k f (hg w hw) hk hu hi]
end

theorem splice_row (n off k : Nat) (f fs : Nat → UInt8) (h : off + k ≤ n) :
    ((row n f).toList.take off ++ ((row k fs).toList ++ (row n f).toList.drop (off + (row k fs).toList.length))).toArray = row n (cpy off k f fs) := by
  apply Array.ext'
  rw [List.toList_toArray]
  apply List.ext_getElem?
  intro j
  rw [Array.getElem?_toList (xs := row n (cpy off k f fs))]
  have hl : (row k fs).toList.length = k := by simp [row_size]
  have hn : (row n f).toList.length = n := by simp [row_size]
  have ht : ((row n f).toList.take off).length = off := by simp [row_size]; omega
  rw [List.getElem?_append, ht, hl]
  by_cases h1 : j < off
  · have h2 : j < n := by omega
    have h3 : ¬ (off ≤ j ∧ j < off + k) := by omega
    rw [if_pos h1, List.getElem?_take, if_pos h1, Array.getElem?_toList (xs := row n f), row_get n _ j h2, row_get n _ j h2]
    unfold cpy; rw [if_neg h3]
  · rw [if_neg h1, List.getElem?_append, hl]
    by_cases h2 : j - off < k
    · have h3 : off ≤ j ∧ j < off + k := by omega
      rw [if_pos h2, Array.getElem?_toList (xs := row k fs), row_get k _ _ h2, row_get n _ j (by omega)]
      unfold cpy; rw [if_pos h3]
    · rw [if_neg h2, List.getElem?_drop, Array.getElem?_toList (xs := row n f), show off + k + (j - off - k) = j by omega]
      by_cases h4 : j < n
      · have h3 : ¬ (off ≤ j ∧ j < off + k) := by omega
        rw [row_get n _ j h4, row_get n _ j h4]
        unfold cpy; rw [if_neg h3]
      · rw [Array.getElem?_eq_none (by rw [row_size]; omega), Array.getElem?_eq_none (by rw [row_size]; omega)]
/-- copy into a block of bytes. -/
theorem run_copy_Row {P : Program} {w : World} (dT sT ty e : TypeId) (g off dLen dCap : Nat) (ad : Addr) (sLen sCap k : Nat) (t : TypeId) (n : Nat) (f fs : Nat → UInt8)
    (hu : P.underlying dT = some (.slice e)) (hsz : (P.info? e).map (·.size) = some 1) (hg : Row w g t n f) (hk : k = Nat.min sLen dLen)
    (hsrc : ∀ j, j < k → w.cell? (ad.add j) = some (.int .u8 ((fs j).toNat : Int))) (hfit : off + k ≤ n) :
    (Builtin.copy_ #[dT, sT] ty #[.slice (some ⟨g, off, none⟩) dLen dCap, .slice (some ad) sLen sCap]).run P w = .ok (goInt k) (w.setRow g (row n (cpy off k f fs))) := by
  have hl : (row k fs).toList.length = k := by simp [row_size]
  have h := run_copy_row (P := P) w dT sT ty e g off dLen dCap ad sLen sCap (row n f) t (row k fs).toList hu hsz hg (by rw [hl, hk]) (fun j v hv => by
      have hj : j < k := by
        have := (List.getElem?_eq_some_iff.1 hv).1
        rwa [hl] at this
      rw [Array.getElem?_toList, row_get k fs j hj] at hv
      obtain rfl := Option.some.inj hv
      exact hsrc j hj) (by rw [hl, row_size]; exact hfit) (fun v hv => Array.all_eq_true_iff_forall_mem.1 (row_one k fs) v (by simpa using hv))
  rw [List.append_assoc, splice_row n off k f fs hfit, hl] at h
  exact h
theorem wpList_copy_Row {P : Program} {w : World} {ops : Array Oper} {rest : List Oper} {o : Oper} {a : Act} {Q : Exit → Act → World → Prop} (hgd : o.guard = none) (d s : Operand) (dT sT : TypeId)
    (ho : o.op = .call { callee := .builtin .copy, args := #[d, s], argTypes := #[dT, sT] }) (e : TypeId) (hu : P.underlying dT = some (.slice e)) (hsz : (P.info? e).map (·.size) = some 1)
    (g off dLen dCap : Nat) (ad : Addr) (sLen sCap : Nat) (hd : a.eval d = .slice (some ⟨g, off, none⟩) dLen dCap) (hs : a.eval s = .slice (some ad) sLen sCap)
    (t : TypeId) (n : Nat) (f : Nat → UInt8) (hg : Row w g t n f) (k : Nat) (fs : Nat → UInt8) (hk : k = Nat.min sLen dLen)
    (hsrc : ∀ j, j < k → w.cell? (ad.add j) = some (.int .u8 ((fs j).toNat : Int))) (hfit : off + k ≤ n)
    (h : wpList P ops Q rest (a.put o.dst (goInt k)) (w.setRow g (row n (cpy off k f fs)))) : wpList P ops Q (o :: rest) a w := by
  refine wpList_plain hgd fun K hK => ?_
  have hrun := run_copy_Row (P := P) dT sT o.type e g off dLen dCap ad sLen sCap k t n f fs hu hsz hg hk hsrc hfit
  unfold Oper.wp
  simp [execOp, ho, resolve, invoke, builtin, hd, hs, hrun, Result.andThen]
  exact hK _ _ h

theorem made_row (sz n : Nat) (h : 0 < sz) : madeCells (row sz fun _ => 0) n = row n fun _ => 0 := by
  apply Array.ext
  · simp [size_madeCells, row_size]
  · intro j h1 h2
    have hj : j % sz < sz := Nat.mod_lt _ h
    simp [madeCells, row, hj]
/-- make of bytes, or of arrays of bytes. -/
theorem run_make_Row {P : Program} (t e : TypeId) (n sz bytes : Nat) (ht : P.underlying t = some (.slice e)) (hi : (P.info? e).map (fun i => (i.zero.map Value.cells, i.size, i.bytes)) = some (some (row sz fun _ => 0), sz, bytes))
    (hsz : 0 < sz) (hb : bytes * n ≤ 281474976710656) (hn : n ≤ 9223372036854775807) (w : World) :
    (Instr.makeSlice t (.int .i64 (n : Int)) (.int .i64 (n : Int))).run P w = .ok (.slice (some ⟨w.heap.size, 0, none⟩) n n) (w.alloc (.cells (row (n * sz) fun _ => 0) e)) := by
  cases hq : P.info? e with
  | none => simp [hq] at hi
  | some i =>
    simp only [hq, Option.map_some, Option.some.injEq, Prod.mk.injEq] at hi
    obtain ⟨hz, hs, hbs⟩ := hi
    cases hzz : i.zero with
    | none => simp [hzz] at hz
    | some z =>
      simp only [hzz, Option.map_some, Option.some.injEq] at hz
      have hb' : (i.bytes : Int) * (n : Int) ≤ 281474976710656 := by
        rw [hbs, ← Int.natCast_mul]
        omega
      have h := run_make (P := P) w t e i z ht hq hzz .i64 .i64 n n (by omega) (by omega) hb' (by omega)
      rw [hz, hs, Int.toNat_natCast, made_row sz _ hsz] at h
      exact h

/-- An array of bytes stored into the middle of a block. -/
theorem run_store_Mid {P : Program} {w : World} (ty : TypeId) (g o : Nat) (t : TypeId) (n k : Nat) (f fs : Nat → UInt8) (hg : Row w g t n f) (hk : o + k ≤ n) (hi : (P.info? ty).map (·.size) = some k) :
    (Instr.storeAt ty (.pointer (some ⟨g, o, none⟩)) (.agg (row k fs))).run P w = .ok () (w.setRow g (row n (cpy o k f fs))) := by
  have hl : (row k fs).toList.length = k := by simp [row_size]
  have h := run_storeCells_at P g o t (row k fs).toList 0 (row n f) w hg (by rw [hl, row_size]; omega) (fun v hv => Array.all_eq_true_iff_forall_mem.1 (row_one k fs) v (by simpa using hv))
  simp only [Nat.add_zero] at h
  rw [List.append_assoc, splice_row n o k f fs hk] at h
  cases hq : P.info? ty with
  | none => simp [hq] at hi
  | some i =>
    have hs : i.size = k := by simpa [hq] using hi
    have hs2 : (row k fs).size = i.size := by rw [row_size, hs]
    simp [Instr.storeAt, Instr.sureAddr, storeVar, sizeOf, typeInfo, hq, Value.cells, hs2, h]
theorem wpList_store_Mid {P : Program} {w : World} {ops : Array Oper} {rest : List Oper} {op : Oper} {a : Act} {Q : Exit → Act → World → Prop} (hgd : op.guard = none) (ty : TypeId) (x y : Operand) (ho : op.op = .store ty x y)
    (g o : Nat) (hx : a.eval x = .pointer (some ⟨g, o, none⟩)) (t : TypeId) (n k : Nat) (f fs : Nat → UInt8) (hy : a.eval y = .agg (row k fs)) (hg : Row w g t n f) (hk : o + k ≤ n) (hi : (P.info? ty).map (·.size) = some k)
    (h : wpList P ops Q rest (a.put op.dst undef) (w.setRow g (row n (cpy o k f fs)))) : wpList P ops Q (op :: rest) a w :=
  wpList_plain hgd fun _ hK => by
    unfold Oper.wp execOp
    simp only [ho, hx, hy, Sem.run_bind, Sem.run_pure, Result.andThen_ok, run_store_Mid ty g o t n k f fs hg hk hi]
    exact hK _ _ h

/-- An array's element, of an array that is a value. -/
theorem run_index_row {P : Program} (ty e : TypeId) (n m : Nat) (f : Nat → UInt8) (hu : P.underlying ty = some (.array n e)) (he : P.underlying e = some (.int .u8)) (hi : (P.info? e).map (·.size) = some 1) (h : m < n) (w : World) :
    (Instr.index ty (.agg (row n f)) (.int .i64 (m : Int))).run P w = .ok (.int .u8 ((f m).toNat : Int)) w := by
  have hr := row_get n f m h
  cases hq : P.info? e with
  | none => simp [hq] at hi
  | some i =>
    have hs : i.size = 1 := by simpa [hq] using hi
    simp [Instr.index, asIntOf, run_underlying hu, sizeOf, typeInfo, hq, hs, part, isAgg, run_underlying he, hr, by8]
    intro h'; omega

end Go.Proofs.YticflflbogdljaaDoor
