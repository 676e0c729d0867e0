/- Unsigned numbers, as Nats; strings, as lists of bytes. Plain theorems, over any program. -/
import Derived.Test.YticflflbogdljaaDoorVc
namespace Go.Proofs.YticflflbogdljaaDoor
open Go Go.RowKit

theorem bits_pos (k : IntKind) : 0 < 2 ^ k.bits := Nat.pow_pos (by decide)
theorem wrapU {k : IntKind} (hs : k.signed = false) (a : Nat) : k.wrap (a : Int) = ((a % 2 ^ k.bits : Nat) : Int) := by
  unfold IntKind.wrap
  simp only [hs, Bool.false_and, Bool.false_eq_true, if_false]
  rw [Int.natCast_emod]
  congr 1
theorem ofInt_nat (n a : Nat) (h : a < 2 ^ n) : (BitVec.ofInt n (a : Int)).toNat = a := by
  rw [BitVec.toNat_ofInt]
  have : ((a : Int) % ((2 ^ n : Nat) : Int)) = (a : Int) := Int.emod_eq_of_lt (by omega) (by omega)
  rw [this]; rfl
section
variable {P : Program} {a : Act} {o : Oper} {w : World} {x y : Operand} {t t2 : TypeId} {k : IntKind} {m j z : Nat}
theorem opAndU (hs : k.signed = false) (ho : o.op = .binOp .and t x y t2) (hx : a.eval x = .int k (m : Int)) (hy : a.eval y = .int k (j : Int)) (hm : m < 2 ^ k.bits) (hj : j < 2 ^ k.bits) (hz : m &&& j = z) : (execOp a.eval o).run P w = .ok (.value (.int k (z : Int))) w := by
  subst hz
  refine opInt ho hx hy ?_
  have e : k.wrap ((BitVec.ofInt k.bits (m : Int) &&& BitVec.ofInt k.bits (j : Int)).toNat : Int) = ((m &&& j : Nat) : Int) := by
    rw [BitVec.toNat_and, ofInt_nat _ _ hm, ofInt_nat _ _ hj, wrapU hs, Nat.mod_eq_of_lt (Nat.lt_of_le_of_lt Nat.and_le_left hm)]
  rw [binOp_and]
  show ((pure (.int k (k.wrap ((BitVec.ofInt k.bits (m : Int) &&& BitVec.ofInt k.bits (j : Int)).toNat : Int))) : Sem Value)).run P w = _
  rw [e]; rfl
theorem opOrU (hs : k.signed = false) (ho : o.op = .binOp .or t x y t2) (hx : a.eval x = .int k (m : Int)) (hy : a.eval y = .int k (j : Int)) (hm : m < 2 ^ k.bits) (hj : j < 2 ^ k.bits) (hz : m ||| j = z) : (execOp a.eval o).run P w = .ok (.value (.int k (z : Int))) w := by
  subst hz
  refine opInt ho hx hy ?_
  have e : k.wrap ((BitVec.ofInt k.bits (m : Int) ||| BitVec.ofInt k.bits (j : Int)).toNat : Int) = ((m ||| j : Nat) : Int) := by
    rw [BitVec.toNat_or, ofInt_nat _ _ hm, ofInt_nat _ _ hj, wrapU hs, Nat.mod_eq_of_lt (Nat.or_lt_two_pow hm hj)]
  rw [binOp_or]
  show ((pure (.int k (k.wrap ((BitVec.ofInt k.bits (m : Int) ||| BitVec.ofInt k.bits (j : Int)).toNat : Int))) : Sem Value)).run P w = _
  rw [e]; rfl
theorem opXorU (hs : k.signed = false) (ho : o.op = .binOp .xor t x y t2) (hx : a.eval x = .int k (m : Int)) (hy : a.eval y = .int k (j : Int)) (hm : m < 2 ^ k.bits) (hj : j < 2 ^ k.bits) (hz : m ^^^ j = z) : (execOp a.eval o).run P w = .ok (.value (.int k (z : Int))) w := by
  subst hz
  refine opInt ho hx hy ?_
  have e : k.wrap ((BitVec.ofInt k.bits (m : Int) ^^^ BitVec.ofInt k.bits (j : Int)).toNat : Int) = ((m ^^^ j : Nat) : Int) := by
    rw [BitVec.toNat_xor, ofInt_nat _ _ hm, ofInt_nat _ _ hj, wrapU hs, Nat.mod_eq_of_lt (Nat.xor_lt_two_pow hm hj)]
  rw [binOp_xor]
  show ((pure (.int k (k.wrap ((BitVec.ofInt k.bits (m : Int) ^^^ BitVec.ofInt k.bits (j : Int)).toNat : Int))) : Sem Value)).run P w = _
  rw [e]; rfl
theorem opAddU (hs : k.signed = false) (ho : o.op = .binOp .add t x y t2) (hx : a.eval x = .int k (m : Int)) (hy : a.eval y = .int k (j : Int)) (hz : (m + j) % 2 ^ k.bits = z) : (execOp a.eval o).run P w = .ok (.value (.int k (z : Int))) w := by
  subst hz
  exact opAdd ho hx hy (by rw [← Int.natCast_add, wrapU hs])
theorem opMulU (hs : k.signed = false) (ho : o.op = .binOp .mul t x y t2) (hx : a.eval x = .int k (m : Int)) (hy : a.eval y = .int k (j : Int)) (hz : (m * j) % 2 ^ k.bits = z) : (execOp a.eval o).run P w = .ok (.value (.int k (z : Int))) w := by
  subst hz
  exact opMul ho hx hy (by rw [← Int.natCast_mul, wrapU hs])
theorem opSubU (hs : k.signed = false) (ho : o.op = .binOp .sub t x y t2) (hx : a.eval x = .int k (m : Int)) (hy : a.eval y = .int k (j : Int)) (hj : j ≤ 2 ^ k.bits) (hz : (m + (2 ^ k.bits - j)) % 2 ^ k.bits = z) : (execOp a.eval o).run P w = .ok (.value (.int k (z : Int))) w := by
  subst hz
  refine opSub ho hx hy ?_
  rw [← wrapU hs]
  unfold IntKind.wrap
  simp only [hs, Bool.false_and, Bool.false_eq_true, if_false]
  have e : (((m + (2 ^ k.bits - j) : Nat)) : Int) = ((m : Int) - (j : Int)) + (2 ^ k.bits : Int) := by
    have h := Int.natCast_pow 2 k.bits
    have h2 : ((2 ^ k.bits : Nat) : Int) = (2 : Int) ^ k.bits := h
    rw [← h2]
    omega
  rw [e, Int.add_emod_right]
theorem opShlG {yk : IntKind} {n : Nat} {r : Int} (ho : o.op = .binOp .shl t x y t2) (hx : a.eval x = .int k (m : Int)) (hy : a.eval y = .int yk (n : Int)) (hn : n ≤ k.bits) (e : k.wrap ((m : Int) * 2 ^ n) = r) : (execOp a.eval o).run P w = .ok (.value (.int k r)) w := by
  have h0 : ¬ ((n : Int) < 0) := by omega
  unfold execOp
  simp [ho, hx, hy, eqGuard, binOp, Op.shift, h0, Nat.min_eq_left hn, e]
theorem opShlU {yk : IntKind} {n : Nat} (hs : k.signed = false) (ho : o.op = .binOp .shl t x y t2) (hx : a.eval x = .int k (m : Int)) (hy : a.eval y = .int yk (n : Int)) (hn : n ≤ k.bits) (hz : (m * 2 ^ n) % 2 ^ k.bits = z) : (execOp a.eval o).run P w = .ok (.value (.int k (z : Int))) w := by
  subst hz
  have e : k.wrap ((m : Int) * 2 ^ n) = ((m * 2 ^ n % 2 ^ k.bits : Nat) : Int) := by
    rw [← wrapU hs, Int.natCast_mul, Int.natCast_pow]; rfl
  have h0 : ¬ ((n : Int) < 0) := by omega
  unfold execOp
  simp [ho, hx, hy, eqGuard, binOp, Op.shift, h0, Nat.min_eq_left hn, e]
theorem opShrU {yk : IntKind} {n : Nat} (ho : o.op = .binOp .shr t x y t2) (hx : a.eval x = .int k (m : Int)) (hy : a.eval y = .int yk (n : Int)) (hn : n ≤ k.bits) (hz : m / 2 ^ n = z) : (execOp a.eval o).run P w = .ok (.value (.int k (z : Int))) w := by
  subst hz
  have e : (m : Int).fdiv (2 ^ n) = ((m / 2 ^ n : Nat) : Int) := by
    rw [Int.natCast_ediv, Int.natCast_pow, Int.fdiv_eq_ediv_of_nonneg _ (by exact Int.pow_nonneg (by decide))]; rfl
  have h0 : ¬ ((n : Int) < 0) := by omega
  unfold execOp
  simp [ho, hx, hy, eqGuard, binOp, Op.shift, h0, Nat.min_eq_left hn, e]
/-- 1 << n, of ints. -/
theorem opShlI {yk : IntKind} {n : Nat} (ho : o.op = .binOp .shl t x y t2) (hx : a.eval x = .int .i64 (m : Int)) (hy : a.eval y = .int yk (n : Int)) (hn : n ≤ 64) (hz : m * 2 ^ n = z) (hl : z ≤ 9223372036854775807) : (execOp a.eval o).run P w = .ok (.value (.int .i64 (z : Int))) w := by
  subst hz
  have e : IntKind.i64.wrap ((m : Int) * 2 ^ n) = ((m * 2 ^ n : Nat) : Int) := wI (by rw [Int.natCast_mul, Int.natCast_pow]; rfl) (by omega) (by omega)
  exact opShlG (k := .i64) ho hx hy hn e
/-- A number, as one of an unsigned kind. -/
theorem opConvU {src dst : TypeId} {k' : IntKind} (hs : k'.signed = false) (ho : o.op = .convert src dst x) (hsrc : (P.underlying src).isSome = true) (hd : P.underlying dst = some (.int k')) (hx : a.eval x = .int k (m : Int)) (hz : m % 2 ^ k'.bits = z) : (execOp a.eval o).run P w = .ok (.value (.int k' (z : Int))) w := by
  subst hz
  exact opConvI ho hsrc hd hx (wrapU hs m)
end
/-- A mask of n bits. -/
theorem and_mask (m n : Nat) : m &&& (2 ^ n - 1) = m % 2 ^ n := Nat.and_two_pow_sub_one_eq_mod m n
theorem val_ofNat {m : Nat} (h : m < 256) : cByte.val (UInt8.ofNat m) = .int .u8 (m : Int) := by
  show Value.int .u8 ((UInt8.ofNat m).toNat : Int) = _
  rw [UInt8.toNat_ofNat', Nat.mod_eq_of_lt h]
/-! ### Strings -/
theorem strL_size (l : List UInt8) : (strL l).size = l.length := by simp [ByteArray.size]
theorem strL_inj {l m : List UInt8} : strL l = strL m ↔ l = m := by
  constructor
  · intro h
    have := congrArg (fun b => b.data.toList) h
    simpa using this
  · intro h; rw [h]
theorem strL_append (l m : List UInt8) : strL l ++ strL m = strL (l ++ m) := by
  show (⟨l.toArray⟩ : ByteArray) ++ ⟨m.toArray⟩ = _
  rw [ByteArray.mk_append_mk]
end Go.Proofs.YticflflbogdljaaDoor
