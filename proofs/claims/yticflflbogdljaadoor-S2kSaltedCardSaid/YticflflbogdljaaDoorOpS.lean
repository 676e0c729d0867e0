/- Operations on strings, told as lists of bytes; on a builder's buffer; values of functions. Plain theorems, over any program. -/
import Derived.Test.YticflflbogdljaaDoorOpN
import Derived.Lib.Builder
import Derived.Lib.UnsafeStr
import Derived.Lib.MakeNoZero
import Derived.Lib.AppendStr
import Derived.Laws.Externs
namespace Go.Proofs.YticflflbogdljaaDoor
open Go Go.RowKit

section
variable {P : Program} {a : Act} {o : Oper} {w w0 : World} {R : List Nat} {Hs : List Hl} {v : Value} {x y : Operand} {t t2 ty ty2 e : TypeId} {l m r : List UInt8} {g off : Nat}
theorem strL_get (l : List UInt8) (i : Nat) : (strL l)[i]? = l[i]? := by
  show (ByteArray.mk l.toArray)[i]? = _
  by_cases h : i < l.length
  · have h2 : i < (ByteArray.mk l.toArray).size := by simpa [ByteArray.size] using h
    rw [getElem?_pos (ByteArray.mk l.toArray) i h2, List.getElem?_eq_getElem h]
    rfl
  · have h2 : ¬ i < (ByteArray.mk l.toArray).size := by simpa [ByteArray.size] using h
    rw [getElem?_neg (ByteArray.mk l.toArray) i h2, List.getElem?_eq_none (by omega)]
theorem strL_extract (l : List UInt8) (i j : Nat) : (strL l).extract i j = strL ((l.take j).drop i) := by
  rw [ByteArray.extract_mk]
  apply ByteArray.ext
  show (((l.drop i).take (j - i)).toArray) = ((l.take j).drop i).toArray
  rw [List.drop_take]
/-- A string is a list's. -/
theorem str_list (s : ByteArray) : ∃ l : List UInt8, s = strL l ∧ l.length = s.size := ⟨s.data.toList, by obtain ⟨⟨l⟩⟩ := s; rfl, by rw [← Lib.size_eq]⟩
theorem opLenL (ho : o.op = .call { callee := .builtin .len, args := #[x], argTypes := #[ty] }) (hu : P.underlying ty = some .string) (hx : a.eval x = .string (strL l)) : (execOp a.eval o).run P w = .ok (.value (.int .i64 (l.length : Int))) w := by
  have := opLenS (w := w) ho hu hx
  rw [strL_size] at this
  exact this
theorem opEqL {p : Prop} [Decidable p] (ho : o.op = .binOp .eql t x y t2) (hx : a.eval x = .string (strL l)) (hy : a.eval y = .string (strL m)) (hp : l = m ↔ p) : (execOp a.eval o).run P w = .ok (.value (.bool (decide p))) w :=
  opEqS ho hx hy (dc (strL_inj.trans hp))
theorem opNeL {p : Prop} [Decidable p] (ho : o.op = .binOp .neq t x y t2) (hx : a.eval x = .string (strL l)) (hy : a.eval y = .string (strL m)) (hp : l ≠ m ↔ p) : (execOp a.eval o).run P w = .ok (.value (.bool (decide p))) w :=
  opNeS ho hx hy (dc (Iff.trans (not_congr strL_inj) hp))
theorem opEqLb {b : Bool} (ho : o.op = .binOp .eql t x y t2) (hx : a.eval x = .string (strL l)) (hy : a.eval y = .string (strL m)) (hb : decide (l = m) = b) : (execOp a.eval o).run P w = .ok (.value (.bool b)) w :=
  opEqS ho hx hy ((dc strL_inj).trans hb)
theorem opNeLb {b : Bool} (ho : o.op = .binOp .neq t x y t2) (hx : a.eval x = .string (strL l)) (hy : a.eval y = .string (strL m)) (hb : decide (l ≠ m) = b) : (execOp a.eval o).run P w = .ok (.value (.bool b)) w :=
  opNeS ho hx hy ((dc (not_congr strL_inj)).trans hb)
theorem opAddL (ho : o.op = .binOp .add t x y t2) (hx : a.eval x = .string (strL l)) (hy : a.eval y = .string (strL m)) (hn : l.length + m.length ≤ 9223372036854775807) (hr : l ++ m = r) : (execOp a.eval o).run P w = .ok (.value (.string (strL r))) w := by
  subst hr
  have h1 : ¬ (9223372036854775807 : Int) < ((strL l).size : Int) + ((strL m).size : Int) := by rw [strL_size, strL_size]; omega
  have hmax : IntKind.i64.max = 9223372036854775807 := rfl
  have h := strL_append l m
  unfold execOp
  simp only [ho, hx, hy]
  simp [eqGuard, binOp, Op.stringOp, hmax, h1, h]
theorem opIdxL {ki : IntKind} {i : Nat} {j : Int} {c : UInt8} (ho : o.op = .index ty x y) (hu : P.underlying ty = some .string) (hx : a.eval x = .string (strL l)) (hy : a.eval y = .int ki j) (hj : j = (i : Int)) (hc : l[i]? = some c) : (execOp a.eval o).run P w = .ok (.value (.int .u8 (c.toNat : Int))) w := by
  subst hj
  have h := strL_get l i
  rw [hc] at h
  have h0 : (0 : Int) ≤ (i : Int) := by omega
  unfold execOp
  simp [ho, hx, hy, Instr.index, run_underlying hu, asIntOf, h]
theorem opSlcLH' {k h : Nat} {kl kh : IntKind} {jl jh : Int} {xl xh : Operand} (ho : o.op = .slice ty x (some xl) (some xh) none) (hu : P.underlying ty = some .string) (hx : a.eval x = .string (strL l)) (hl : a.eval xl = .int kl jl) (hh : a.eval xh = .int kh jh) (hjl : jl = (k : Int)) (hjh : jh = (h : Int)) (h1 : k ≤ h) (h2 : h ≤ l.length) (hr : (l.take h).drop k = r) :
    (execOp a.eval o).run P w = .ok (.value (.string (strL r))) w := by
  subst hjl hjh hr
  have e := strL_extract l k h
  have hs := strL_size l
  have c1 : (0 : Int) ≤ (k : Int) ∧ (k : Int) ≤ ((h : Nat) : Int) := by omega
  have c2 : (0 : Int) ≤ (h : Int) ∧ (h : Int) ≤ (((strL l).size : Nat) : Int) := by rw [hs]; omega
  unfold execOp
  simp only [ho, Option.map_some, Option.map_none, hx, hl, hh, Sem.run_bind, Sem.run_pure, run_sliceAt_string w ty _ _ _ _ hu, Instr.slice, run_underlying hu, Instr.sliceBounds, Instr.sliceBound, asIntOf, Result.andThen_ok]
  simp [c1, c2, e, h1, hs, h2]
theorem opSlcHL {h : Nat} {kh : IntKind} {jh : Int} {xh : Operand} (ho : o.op = .slice ty x none (some xh) none) (hu : P.underlying ty = some .string) (hx : a.eval x = .string (strL l)) (hh : a.eval xh = .int kh jh) (hjh : jh = (h : Int)) (h2 : h ≤ l.length) (hr : l.take h = r) :
    (execOp a.eval o).run P w = .ok (.value (.string (strL r))) w := by
  subst hjh hr
  have e := strL_extract l 0 h
  rw [List.drop_zero] at e
  have hs := strL_size l
  unfold execOp
  simp only [ho, Option.map_some, Option.map_none, hx, hh, Sem.run_bind, Sem.run_pure, run_sliceAt_string w ty _ _ _ _ hu, Instr.slice, run_underlying hu, Instr.sliceBounds, Instr.sliceBound, asIntOf, Result.andThen_ok]
  simp [e, hs, h2]
theorem opSlcLL {k : Nat} {kl : IntKind} {jl : Int} {xl : Operand} (ho : o.op = .slice ty x (some xl) none none) (hu : P.underlying ty = some .string) (hx : a.eval x = .string (strL l)) (hl : a.eval xl = .int kl jl) (hjl : jl = (k : Int)) (h1 : k ≤ l.length) (hr : l.drop k = r) :
    (execOp a.eval o).run P w = .ok (.value (.string (strL r))) w := by
  subst hjl hr
  have e := strL_extract l k l.length
  rw [List.take_length] at e
  have hs := strL_size l
  unfold execOp
  simp only [ho, Option.map_some, Option.map_none, hx, hl, Sem.run_bind, Sem.run_pure, run_sliceAt_string w ty _ _ _ _ hu, Instr.slice, run_underlying hu, Instr.sliceBounds, Instr.sliceBound, asIntOf, Result.andThen_ok]
  simp [e, hs, h1]
theorem opCap {n c : Nat} {A : Option Addr} (ho : o.op = .call { callee := .builtin .cap, args := #[x], argTypes := #[ty] }) (hu : P.underlying ty = some (.slice e)) (hx : a.eval x = .slice A n c) : (execOp a.eval o).run P w = .ok (.value (.int .i64 (c : Int))) w := by
  unfold execOp; simp [ho, hx, resolve, invoke, builtin, Builtin.cap_, run_underlying hu, goInt]
/-- make, of no elements, with room. -/
theorem smMake0 {n sz by_ : Nat} {z : Value} {k k2 : IntKind} {j : Int} {cs : Array Value} (ho : o.op = .makeSlice ty x y) (hu : P.underlying ty = some (.slice e)) (hi : (P.info? e).map (fun i => (i.zero, i.size, i.bytes)) = some (some z, sz, by_)) (hx : a.eval x = .int k 0) (hy : a.eval y = .int k2 j) (hj : j = (n : Int)) (hb : by_ * n ≤ 281474976710656) (hn : n ≤ 9223372036854775807) (hcs : madeCells z.cells (n * sz) = cs) :
    Small P a o [] (fun _ => True) (fun v E' => ∃ g, v = .slice (some ⟨g, 0, none⟩) 0 n ∧ E' = [bl g e cs]) := fun w _ _ => by
  subst hcs hj
  obtain ⟨i, hi', h2⟩ := Option.map_eq_some_iff.1 hi
  simp only [Prod.mk.injEq] at h2
  obtain ⟨hz, rfl, rfl⟩ := h2
  have hr := run_make (P := P) w ty e i z hu hi' hz k k2 0 n (by omega) (by omega) (by rw [← Int.natCast_mul]; omega) (by omega)
  rw [Int.toNat_natCast] at hr
  unfold execOp
  simp only [ho, hx, hy, Sem.run_bind, Sem.run_pure, Result.andThen_ok, hr]
  exact ⟨_, ⟨_, rfl, rfl⟩, Has.new w _⟩
theorem Bk.make0 {α : Type} {C : Cod α} (z : α) (n : Nat) (hn : n ≤ maxLen) : Bk C n (madeCells (C.enc z) (n * C.sz)) [] := ⟨Nat.zero_le _, hn, by simp [madeCells], by simp [flat]⟩
/-! ### Values of functions -/
theorem opMakeFunc {f : FuncId} {xs : List Operand} {vs : List Value} (ho : o.op = .makeFunc (.func f) #[] xs.toArray) (hx : Evs a xs vs) : (execOp a.eval o).run P w = .ok (.value (.func (.func f) #[] vs.toArray)) w := by
  have e := hx.map
  unfold execOp
  simp only [ho, List.map_toArray]
  simp [Instr.makeFunc, e]
theorem opCallV {f : FuncId} {fn : Func} {z : Operand} {cp xs : List Value} {ys : List Operand} {ts : Array TypeId} (ho : o.op = .call { callee := .value z, args := ys.toArray, argTypes := ts }) (hz : a.eval z = .func (.func f) #[] cp.toArray) (hf : P.funcs[f]? = some fn) (hn : (fn.name == "runtime.NumGoroutine") = false) (hb : fn.body.isNone = false)
    (hx : Evs a ys xs) (w : World) : (execOp a.eval o).run P w = .ok (.enter f (xs ++ cp).toArray) w := by
  have e := hx.map
  unfold execOp
  simp only [ho, resolve, hz, Deferred.ofValue, Sem.run_bind, Sem.run_pure, Result.andThen_ok, invoke, callFunc, run_program, hf, hn, hb, List.map_toArray]
  simp [e]
/-! ### A builder's own pointer -/
theorem shape_blk {cs : Array Value} (h : w.heap[g]? = some (.cells cs t (0, 0))) : w.shape? g = some (t, cs.size) := by unfold World.shape?; rw [h]
theorem opToUnsafe {cs : Array Value} {src dst : TypeId} (hb : w.heap[g]? = some (.cells cs t (0, 0))) (ho : o.op = .convert src dst x) (hx : a.eval x = .pointer (some ⟨g, off, none⟩)) (hs : P.underlying src = some (.pointer e)) (hd : P.underlying dst = some .unsafePointer) (ht : ((P.info? e).map fun i => decide (i.size ≠ 0)) = some true) (hoff : off < cs.size) : (execOp a.eval o).run P w = .ok (.value (.pointer (some ⟨g, off, none⟩))) w := by
  obtain ⟨i, hi, hz⟩ := Option.map_eq_some_iff.1 ht
  have := Lib.run_to_unsafe (P := P) w ⟨g, off, none⟩ hs hd hi (by simpa using hz) (shape_blk hb) hoff
  unfold execOp
  simp only [ho, hx, Sem.run_bind, Sem.run_pure, this, Result.andThen_ok]
theorem opFromUnsafe {cs : Array Value} {src dst : TypeId} {k : Nat} (hb : w.heap[g]? = some (.cells cs t (0, 0))) (ho : o.op = .convert src dst x) (hx : a.eval x = .pointer (some ⟨g, off, none⟩)) (hs : P.underlying src = some .unsafePointer) (hd : P.underlying dst = some (.pointer e)) (ht : (P.info? e).isSome = true) (hk : cs.size = k) (hl : liesAt P P.depth t (k / P.cellsOf t) off e 1 = true) : (execOp a.eval o).run P w = .ok (.value (.pointer (some ⟨g, off, none⟩))) w := by
  subst hk
  obtain ⟨i, hi⟩ := Option.isSome_iff_exists.1 ht
  have := Lib.run_from_unsafe (P := P) w ⟨g, off, none⟩ hs hd hi (shape_blk hb) hl
  unfold execOp
  simp only [ho, hx, Sem.run_bind, Sem.run_pure, this, Result.andThen_ok]
theorem opSameP {ad : Addr} (ho : o.op = .binOp .neq t x y t2) (hu : P.underlying t = some (.pointer e)) (hi : (P.info? e).isSome = true) (hx : a.eval x = .pointer (some ad)) (hy : a.eval y = .pointer (some ad)) : (execOp a.eval o).run P w = .ok (.value (.bool false)) w := by
  obtain ⟨i, hi⟩ := Option.isSome_iff_exists.1 hi
  have h := Lib.run_neq_ptr_same (P := P) w ad hu hi
  unfold execOp
  simp [ho, hx, hy, eqGuard, h]
/-- A call of what the model bears an entry for. -/
theorem opExtern {f : FuncId} {fn : Func} {en : Array Value → Sem Value} {xs : List Operand} {vs : List Value} {ts : Array TypeId} {u : Value} (ho : o.op = .call { callee := .value (.func f), args := xs.toArray, argTypes := ts }) (hf : P.funcs[f]? = some fn) (hn : (fn.name == "runtime.NumGoroutine") = false) (hb : fn.body.isNone = true) (h0 : Extern.findNext fn = none) (he : Extern.find fn = some en)
    (hx : Evs a xs vs) {w' : World} (hr : (en vs.toArray).run P w = .ok u w') : (execOp a.eval o).run P w = .ok (.value u) w' := by
  have e := hx.map
  have h := run_callFunc_extern hf hn hb h0 he vs.toArray w
  rw [hr] at h
  unfold execOp
  simp only [ho, resolve, Act.eval, Deferred.ofValue, Sem.run_bind, Sem.run_pure, Result.andThen_ok, invoke, List.map_toArray]
  simpa [e] using h
end
end Go.Proofs.YticflflbogdljaaDoor
