/- What each operation answers, told for operands that are known. Plain theorems, over any program. -/
import Derived.Test.YticflflbogdljaaDoorHp
import Derived.IntWalk
namespace Go.Proofs.YticflflbogdljaaDoor
open Go Go.RowKit

section
variable {P : Program} {a : Act} {o : Oper} {w : World} {v vx vy : Value} {x y : Operand} {t t2 : TypeId}
theorem opMove (ho : o.op = .move x) (hx : a.eval x = v) : (execOp a.eval o).run P w = .ok (.value v) w := by
  unfold execOp; simp only [ho, hx, Sem.run_pure]
theorem opAssign (ho : o.op = .assign x) (hx : a.eval x = v) : (execOp a.eval o).run P w = .ok (.value v) w := by
  unfold execOp; simp only [ho, hx, Sem.run_pure]
theorem opPickT {c : Operand} (ho : o.op = .pick c x y) (hc : a.eval c = .bool true) (hx : a.eval x = v) : (execOp a.eval o).run P w = .ok (.value v) w := by
  unfold execOp; simp [ho, hx, hc, asBool]
theorem opPickF {c : Operand} (ho : o.op = .pick c x y) (hc : a.eval c = .bool false) (hy : a.eval y = v) : (execOp a.eval o).run P w = .ok (.value v) w := by
  unfold execOp; simp [ho, hy, hc, asBool]
/-- An operation on two integers of one kind. -/
theorem opInt {op : BinOp} {k : IntKind} {m j : Int} (ho : o.op = .binOp op t x y t2) (hx : a.eval x = .int k m) (hy : a.eval y = .int k j) (hr : (binOp op t (.int k m) (.int k j)).run P w = .ok v w) : (execOp a.eval o).run P w = .ok (.value v) w := by
  unfold execOp; simp [ho, hx, hy, eqGuard, hr]
theorem opAdd {k : IntKind} {m j z : Int} (ho : o.op = .binOp .add t x y t2) (hx : a.eval x = .int k m) (hy : a.eval y = .int k j) (hz : k.wrap (m + j) = z) : (execOp a.eval o).run P w = .ok (.value (.int k z)) w :=
  opInt ho hx hy (by simp [binOp, Op.intArith, hz])
theorem opSub {k : IntKind} {m j z : Int} (ho : o.op = .binOp .sub t x y t2) (hx : a.eval x = .int k m) (hy : a.eval y = .int k j) (hz : k.wrap (m - j) = z) : (execOp a.eval o).run P w = .ok (.value (.int k z)) w :=
  opInt ho hx hy (by simp [binOp, Op.intArith, hz])
theorem opMul {k : IntKind} {m j z : Int} (ho : o.op = .binOp .mul t x y t2) (hx : a.eval x = .int k m) (hy : a.eval y = .int k j) (hz : k.wrap (m * j) = z) : (execOp a.eval o).run P w = .ok (.value (.int k z)) w :=
  opInt ho hx hy (by simp [binOp, Op.intArith, hz])
theorem opQuo {k : IntKind} {m j z : Int} (ho : o.op = .binOp .quo t x y t2) (hx : a.eval x = .int k m) (hy : a.eval y = .int k j) (h0 : j ≠ 0) (hz : k.wrap (m.tdiv j) = z) : (execOp a.eval o).run P w = .ok (.value (.int k z)) w :=
  opInt ho hx hy (by simp [binOp, Op.intDiv, hz, h0])
theorem opRem {k : IntKind} {m j z : Int} (ho : o.op = .binOp .rem t x y t2) (hx : a.eval x = .int k m) (hy : a.eval y = .int k j) (h0 : j ≠ 0) (hz : m.tmod j = z) : (execOp a.eval o).run P w = .ok (.value (.int k z)) w :=
  opInt ho hx hy (by simp [binOp, Op.intDiv, hz, h0])
theorem opLss {k : IntKind} {m j : Int} {b : Bool} (ho : o.op = .binOp .lss t x y t2) (hx : a.eval x = .int k m) (hy : a.eval y = .int k j) (hb : decide (m < j) = b) : (execOp a.eval o).run P w = .ok (.value (.bool b)) w :=
  opInt ho hx hy (by subst hb; simp [binOp, Op.intCmp])
theorem opLeq {k : IntKind} {m j : Int} {b : Bool} (ho : o.op = .binOp .leq t x y t2) (hx : a.eval x = .int k m) (hy : a.eval y = .int k j) (hb : decide (m ≤ j) = b) : (execOp a.eval o).run P w = .ok (.value (.bool b)) w :=
  opInt ho hx hy (by subst hb; simp [binOp, Op.intCmp])
theorem opGtr {k : IntKind} {m j : Int} {b : Bool} (ho : o.op = .binOp .gtr t x y t2) (hx : a.eval x = .int k m) (hy : a.eval y = .int k j) (hb : decide (m > j) = b) : (execOp a.eval o).run P w = .ok (.value (.bool b)) w :=
  opInt ho hx hy (by subst hb; simp [binOp, Op.intCmp])
theorem opGeq {k : IntKind} {m j : Int} {b : Bool} (ho : o.op = .binOp .geq t x y t2) (hx : a.eval x = .int k m) (hy : a.eval y = .int k j) (hb : decide (m ≥ j) = b) : (execOp a.eval o).run P w = .ok (.value (.bool b)) w :=
  opInt ho hx hy (by subst hb; simp [binOp, Op.intCmp])
theorem opEqI {k : IntKind} {m j : Int} {b : Bool} (ho : o.op = .binOp .eql t x y t2) (hx : a.eval x = .int k m) (hy : a.eval y = .int k j) (hb : decide (m = j) = b) : (execOp a.eval o).run P w = .ok (.value (.bool b)) w :=
  opInt ho hx hy (by subst hb; simp [binOp, Op.intCmp]; rfl)
theorem opNeI {k : IntKind} {m j : Int} {b : Bool} (ho : o.op = .binOp .neq t x y t2) (hx : a.eval x = .int k m) (hy : a.eval y = .int k j) (hb : decide (m ≠ j) = b) : (execOp a.eval o).run P w = .ok (.value (.bool b)) w :=
  opInt ho hx hy (by subst hb; simp [binOp, Op.intCmp]; rfl)
theorem str_eq (p q : ByteArray) : (p.toList == q.toList) = decide (p = q) := by
  rcases p with ⟨⟨p⟩⟩
  rcases q with ⟨⟨q⟩⟩
  rw [ByteArray.toList_mk, ByteArray.toList_mk, Bool.eq_iff_iff]
  simp
theorem run_eqInB (d : Nat) {p q : Bool} (hu : P.underlying t = some .bool) : (Op.equalIn (d + 1) t (.bool p) (.bool q)).run P w = .ok (p == q) w := by
  simp [Op.equalIn, run_underlying hu]
theorem run_eqInP (d : Nat) {p : Option Addr} {e : TypeId} (hu : P.underlying t = some (.pointer e)) : (Op.equalIn (d + 1) t (.pointer p) (.pointer none)).run P w = .ok p.isNone w := by
  cases p <;> simp [Op.equalIn, run_underlying hu]
theorem opEqB {p q b : Bool} (ho : o.op = .binOp .eql t x y t2) (hu : P.underlying t = some .bool) (hx : a.eval x = .bool p) (hy : a.eval y = .bool q) (hb : (p == q) = b) : (execOp a.eval o).run P w = .ok (.value (.bool b)) w := by
  subst hb
  have h : (Op.equal t (.bool p) (.bool q)).run P w = .ok (p == q) w := run_eqInB 9999 hu
  have h2 : (binOp .eql t (.bool p) (.bool q)).run P w = .ok (.bool (p == q)) w := by
    simp only [binOp, Sem.run_bind, h, Result.andThen_ok, Sem.run_pure]
  unfold execOp
  simp [ho, hx, hy, eqGuard, h2]
theorem opEqNil {e : TypeId} {p : Option Addr} {b : Bool} (ho : o.op = .binOp .eql t x y t2) (hu : P.underlying t = some (.pointer e)) (hx : a.eval x = .pointer p) (hy : a.eval y = .pointer none) (hb : p.isNone = b) : (execOp a.eval o).run P w = .ok (.value (.bool b)) w := by
  subst hb
  have h : (Op.equal t (.pointer p) (.pointer none)).run P w = .ok p.isNone w := run_eqInP 9999 hu
  have h2 : (binOp .eql t (.pointer p) (.pointer none)).run P w = .ok (.bool p.isNone) w := by
    simp only [binOp, Sem.run_bind, h, Result.andThen_ok, Sem.run_pure]
  unfold execOp
  simp [ho, hx, hy, eqGuard, h2]
theorem opNeNil {e : TypeId} {p : Option Addr} {b : Bool} (ho : o.op = .binOp .neq t x y t2) (hu : P.underlying t = some (.pointer e)) (hx : a.eval x = .pointer p) (hy : a.eval y = .pointer none) (hb : p.isSome = b) : (execOp a.eval o).run P w = .ok (.value (.bool b)) w := by
  subst hb
  have h : (Op.equal t (.pointer p) (.pointer none)).run P w = .ok p.isNone w := run_eqInP 9999 hu
  have h2 : (binOp .neq t (.pointer p) (.pointer none)).run P w = .ok (.bool (!p.isNone)) w := by
    simp only [binOp, Sem.run_bind, h, Result.andThen_ok, Sem.run_pure]
  unfold execOp
  simp [ho, hx, hy, eqGuard, h2]
theorem opEqS {p q : ByteArray} {b : Bool} (ho : o.op = .binOp .eql t x y t2) (hx : a.eval x = .string p) (hy : a.eval y = .string q) (hb : decide (p = q) = b) : (execOp a.eval o).run P w = .ok (.value (.bool b)) w := by
  subst hb
  unfold execOp; simp [ho, hx, hy, eqGuard, binOp, Op.stringOp, str_eq]
theorem opNeS {p q : ByteArray} {b : Bool} (ho : o.op = .binOp .neq t x y t2) (hx : a.eval x = .string p) (hy : a.eval y = .string q) (hb : decide (p ≠ q) = b) : (execOp a.eval o).run P w = .ok (.value (.bool b)) w := by
  subst hb
  unfold execOp; simp [ho, hx, hy, eqGuard, binOp, Op.stringOp, str_eq]
theorem opNot {b c : Bool} (ho : o.op = .unOp .not t x) (hx : a.eval x = .bool b) (hc : (!b) = c) : (execOp a.eval o).run P w = .ok (.value (.bool c)) w := by
  subst hc
  unfold execOp; simp [ho, hx, Op.unary]
theorem opNilCheck {ad : Addr} (ho : o.op = .nilCheck x) (hx : a.eval x = .pointer (some ad)) : (execOp a.eval o).run P w = .ok (.value (.pointer (some ad))) w := by
  unfold execOp; simp [ho, hx]
theorem opExtract {i : Nat} {vs : Array Value} (ho : o.op = .extract x i) (hx : a.eval x = .tuple vs) (hi : vs[i]? = some v) : (execOp a.eval o).run P w = .ok (.value v) w := by
  unfold execOp; simp [ho, hx, Instr.extract, hi]
theorem opLen {e ty : TypeId} {A : Option Addr} {n c : Nat} (ho : o.op = .call { callee := .builtin .len, args := #[x], argTypes := #[ty] }) (hu : P.underlying ty = some (.slice e)) (hx : a.eval x = .slice A n c) : (execOp a.eval o).run P w = .ok (.value (.int .i64 (n : Int))) w := by
  unfold execOp; simp [ho, hx, resolve, invoke, builtin, Builtin.len_, run_underlying hu, goInt]
theorem opLenS {ty : TypeId} {s : ByteArray} (ho : o.op = .call { callee := .builtin .len, args := #[x], argTypes := #[ty] }) (hu : P.underlying ty = some .string) (hx : a.eval x = .string s) : (execOp a.eval o).run P w = .ok (.value (.int .i64 (s.size : Int))) w := by
  unfold execOp; simp [ho, hx, resolve, invoke, builtin, Builtin.len_, run_underlying hu, goInt]
theorem opMin {k : IntKind} {m j z : Int} {ts : Array TypeId} (ho : o.op = .call { callee := .builtin .min, args := #[x, y], argTypes := ts }) (hx : a.eval x = .int k m) (hy : a.eval y = .int k j) (hz : min m j = z) : (execOp a.eval o).run P w = .ok (.value (.int k z)) w := by
  subst hz
  have e : (if j < m then j else m) = min m j := by split <;> omega
  unfold execOp; simp [ho, hx, hy, resolve, invoke, builtin, Builtin.min_, Builtin.min2, e]
theorem opMax {k : IntKind} {m j z : Int} {ts : Array TypeId} (ho : o.op = .call { callee := .builtin .max, args := #[x, y], argTypes := ts }) (hx : a.eval x = .int k m) (hy : a.eval y = .int k j) (hz : max m j = z) : (execOp a.eval o).run P w = .ok (.value (.int k z)) w := by
  subst hz
  have e : (if j > m then j else m) = max m j := by split <;> omega
  unfold execOp; simp [ho, hx, hy, resolve, invoke, builtin, Builtin.max_, Builtin.max2]
  omega
/-- Where a struct's field lies. -/
def fieldOff (P : Program) (s : TypeId) (f : Nat) : Option Nat :=
  match P.underlying s with
  | some (.struct fs) => match fs[f]? with
    | some fd => match P.info? fd.type with
      | some i => if i.size = 0 then none else some fd.offset
      | none => none
    | none => none
  | _ => none
theorem opField {s f off b c : Nat} (ho : o.op = .fieldAddr s x f) (hx : a.eval x = .pointer (some ⟨b, c, none⟩)) (hf : fieldOff P s f = some off) : (execOp a.eval o).run P w = .ok (.value (.pointer (some ⟨b, c + off, none⟩))) w := by
  unfold fieldOff at hf
  split at hf
  · rename_i fs hu
    split at hf
    · rename_i fd hfd
      split at hf
      · rename_i i hi
        split at hf
        · cases hf
        · rename_i h0
          obtain rfl := Option.some.inj hf
          have hadd : (⟨b, c, none⟩ : Addr).add fd.offset = ⟨b, c + fd.offset, none⟩ := Addr.add_mid ..
          unfold execOp
          simp [ho, hx, Instr.fieldAt, run_underlying hu, hfd, Instr.sureAddr, fieldPlace, sizeOf, typeInfo, hi, h0, hadd]
      · cases hf
    · cases hf
  · cases hf
/-- An element's place. -/
theorem opIndex {e ty : TypeId} {b off n c i sz : Nat} {k : IntKind} {j : Int} (ho : o.op = .indexAddr ty x y) (hu : P.underlying ty = some (.slice e)) (hs : (P.info? e).map (·.size) = some sz) (hx : a.eval x = .slice (some ⟨b, off, none⟩) n c) (hy : a.eval y = .int k j) (hj : j = (i : Int)) (hi : i < n) :
    (execOp a.eval o).run P w = .ok (.value (.pointer (some ⟨b, off + i * sz, none⟩))) w := by
  subst hj
  obtain ⟨ie, hie, rfl⟩ := Option.map_eq_some_iff.1 hs
  have hadd : (⟨b, off, none⟩ : Addr).add (i * ie.size) = ⟨b, off + i * ie.size, none⟩ := Addr.add_mid ..
  unfold execOp
  simp [ho, hx, hy, Instr.indexAt, asIntOf, run_underlying hu, sizeOf, typeInfo, hie, hadd, hi]
theorem opIndexA {e ty : TypeId} {b off n i sz : Nat} {k : IntKind} {j : Int} (ho : o.op = .indexAddr ty x y) (hu : P.underlying ty = some (.array n e)) (hs : (P.info? e).map (·.size) = some sz) (hx : a.eval x = .pointer (some ⟨b, off, none⟩)) (hy : a.eval y = .int k j) (hj : j = (i : Int)) (hi : i < n) :
    (execOp a.eval o).run P w = .ok (.value (.pointer (some ⟨b, off + i * sz, none⟩))) w := by
  subst hj
  obtain ⟨ie, hie, rfl⟩ := Option.map_eq_some_iff.1 hs
  have hadd : (⟨b, off, none⟩ : Addr).add (i * ie.size) = ⟨b, off + i * ie.size, none⟩ := Addr.add_mid ..
  unfold execOp
  simp [ho, hx, hy, Instr.indexAt, Instr.sureAddr, asIntOf, run_underlying hu, sizeOf, typeInfo, hie, hadd, hi]
/-- Where a part of a slice begins. -/
def cutOff (c off l sz : Nat) : Nat := if c = l then off else off + l * sz
theorem cutOff_eq {c off l sz : Nat} (h : l < c) : cutOff c off l sz = off + l * sz := if_neg (by omega)
theorem cutOff_zero (c off sz : Nat) : cutOff c off 0 sz = off := by unfold cutOff; split <;> simp
theorem sliced_at {b off l h c sz : Nat} : Go.sliced (some ⟨b, off, none⟩) l h c sz = .slice (some ⟨b, cutOff c off l sz, none⟩) (h - l) (c - l) := by
  unfold Go.sliced cutOff
  have hadd : (⟨b, off, none⟩ : Addr).add (l * sz) = ⟨b, off + l * sz, none⟩ := Addr.add_mid ..
  split <;> simp [hadd]
theorem run_sizeOf {e : TypeId} {sz : Nat} (hs : (P.info? e).map (·.size) = some sz) (w : World) : (sizeOf e).run P w = .ok sz w := by
  obtain ⟨ie, hie, rfl⟩ := Option.map_eq_some_iff.1 hs
  simp [sizeOf, typeInfo, hie]
theorem elem_of {ty e : TypeId} (hu : P.underlying ty = some (.slice e)) : P.elem ty = e := by simp [Program.elem, hu]
theorem elem_ofA {ty e : TypeId} {n : Nat} (hu : P.underlying ty = some (.array n e)) : P.elem ty = e := by simp [Program.elem, hu]
theorem len_ofA {ty e : TypeId} {n : Nat} (hu : P.underlying ty = some (.array n e)) : P.arrayLen ty = n := by simp [Program.arrayLen, hu]
variable {e ty : TypeId} {b off n c l h sz : Nat} {kl kh : IntKind} {jl jh : Int} {xl xh : Operand}
theorem opSliceLH (ho : o.op = .slice ty x (some xl) (some xh) none) (hu : P.underlying ty = some (.slice e)) (hs : (P.info? e).map (·.size) = some sz) (hx : a.eval x = .slice (some ⟨b, off, none⟩) n c) (hl : a.eval xl = .int kl jl) (hh : a.eval xh = .int kh jh) (hjl : jl = (l : Int)) (hjh : jh = (h : Int)) (h1 : l ≤ h) (h2 : h ≤ c) :
    (execOp a.eval o).run P w = .ok (.value (.slice (some ⟨b, cutOff c off l sz, none⟩) (h - l) (c - l))) w := by
  subst hjl hjh
  have he := elem_of hu
  have hu' : P.underlying ty = some (.slice (P.elem ty)) := by rw [he]; exact hu
  unfold execOp
  simp only [ho, Option.map_some, Option.map_none, hx, hl, hh, Sem.run_bind, Sem.run_pure, run_sliceAt_slice w ty _ _ _ _ hu', run_slice_lh w ty (some ⟨b, off, none⟩) n c hu' kl kh (l : Int) (h : Int) (by omega) (by omega) (by omega), he, run_sizeOf hs, Result.andThen_ok, Int.toNat_natCast, sliced_at]
theorem opSliceL (ho : o.op = .slice ty x (some xl) none none) (hu : P.underlying ty = some (.slice e)) (hs : (P.info? e).map (·.size) = some sz) (hx : a.eval x = .slice (some ⟨b, off, none⟩) n c) (hl : a.eval xl = .int kl jl) (hjl : jl = (l : Int)) (h1 : l ≤ n) :
    (execOp a.eval o).run P w = .ok (.value (.slice (some ⟨b, cutOff c off l sz, none⟩) (n - l) (c - l))) w := by
  subst hjl
  have he := elem_of hu
  have hu' : P.underlying ty = some (.slice (P.elem ty)) := by rw [he]; exact hu
  unfold execOp
  simp only [ho, Option.map_some, Option.map_none, hx, hl, Sem.run_bind, Sem.run_pure, run_sliceAt_slice w ty _ _ _ _ hu', run_slice_l w ty (some ⟨b, off, none⟩) n c hu' kl (l : Int) (by omega) (by omega), he, run_sizeOf hs, Result.andThen_ok, Int.toNat_natCast, sliced_at]
theorem opSliceH (ho : o.op = .slice ty x none (some xh) none) (hu : P.underlying ty = some (.slice e)) (hs : (P.info? e).map (·.size) = some sz) (hx : a.eval x = .slice (some ⟨b, off, none⟩) n c) (hh : a.eval xh = .int kh jh) (hjh : jh = (h : Int)) (h2 : h ≤ c) :
    (execOp a.eval o).run P w = .ok (.value (.slice (some ⟨b, off, none⟩) h c)) w := by
  subst hjh
  have he := elem_of hu
  have hu' : P.underlying ty = some (.slice (P.elem ty)) := by rw [he]; exact hu
  unfold execOp
  simp only [ho, Option.map_some, Option.map_none, hx, hh, Sem.run_bind, Sem.run_pure, run_sliceAt_slice w ty _ _ _ _ hu', run_slice_h w ty (some ⟨b, off, none⟩) n c hu' kh (h : Int) (by omega) (by omega), he, run_sizeOf hs, Result.andThen_ok, Int.toNat_natCast, sliced_at, cutOff_zero, Nat.sub_zero]
/-- The whole of an array, as a slice. -/
theorem opSliceA (ho : o.op = .slice ty x none none none) (hu : P.underlying ty = some (.array n e)) (hs : (P.info? e).map (·.size) = some sz) (hx : a.eval x = .pointer (some ⟨b, off, none⟩)) :
    (execOp a.eval o).run P w = .ok (.value (.slice (some ⟨b, off, none⟩) n n)) w := by
  have he := elem_ofA hu
  have hn := len_ofA hu
  have hu' : P.underlying ty = some (.array (P.arrayLen ty) (P.elem ty)) := by rw [he, hn]; exact hu
  unfold execOp
  simp only [ho, Option.map_none, hx, Sem.run_bind, Sem.run_pure, run_sliceAt_array_all w ty ⟨b, off, none⟩ hu', he, hn, run_sizeOf hs, Result.andThen_ok, slicedAt]
  simp [Addr.add]
theorem opToArray {m : Nat} {A : Option Addr} (ho : o.op = .sliceToArrayPointer ty x) (hu : P.underlying ty = some (.array m e)) (hx : a.eval x = .slice A n c) (hn : m ≤ n) :
    (execOp a.eval o).run P w = .ok (.value (.pointer A)) w := by
  unfold execOp
  simp [ho, hx, Instr.arrayAt, run_underlying hu, show ¬ n < m by omega]
/-- Operands and what they are. -/
inductive Evs (a : Act) : List Operand → List Value → Prop where
  | nil : Evs a [] []
  | cons {x : Operand} {v : Value} {xs : List Operand} {vs : List Value} (h : a.eval x = v) (r : Evs a xs vs) : Evs a (x :: xs) (v :: vs)
theorem Evs.map {xs : List Operand} {vs : List Value} (h : Evs a xs vs) : xs.map a.eval = vs := by
  induction h with
  | nil => rfl
  | cons h _ ih => rw [List.map_cons, h, ih]
/-- A call of a Go function. -/
theorem opCall {f : FuncId} {fn : Func} {xs : List Operand} {vs : List Value} {ts : Array TypeId} (ho : o.op = .call { callee := .value (.func f), args := xs.toArray, argTypes := ts }) (hf : P.funcs[f]? = some fn) (hn : (fn.name == "runtime.NumGoroutine") = false) (hb : fn.body.isNone = false)
    (hx : Evs a xs vs) (w : World) : (execOp a.eval o).run P w = .ok (.enter f vs.toArray) w := by
  have e := hx.map
  unfold execOp
  simp only [ho, resolve, Act.eval, Deferred.ofValue, Sem.run_bind, Sem.run_pure, Result.andThen_ok, invoke, callFunc, run_program, hf, hn, hb, List.map_toArray]
  simp [e]
end
end Go.Proofs.YticflflbogdljaaDoor
