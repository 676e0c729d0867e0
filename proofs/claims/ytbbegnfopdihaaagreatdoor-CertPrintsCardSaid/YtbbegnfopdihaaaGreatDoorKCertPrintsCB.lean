/- What the claim leans on, part 2: plain theorems, and walks of functions of the program and of the document. -/
import Derived.Test.YtbbegnfopdihaaaGreatDoorKCertPrintsCA
import Derived.Laws.StructEq
import Derived.Lib.AppendZerosOnto
import Derived.Test.YtbbegnfopdihaaaGreatDoorProg
import Derived.ProofKit
import Derived.OpenShut
import Derived.ChangeSlices
import Derived.Lib.Builder
import Derived.Lib.UnsafeStr
import Derived.Lib.MakeNoZero
import Derived.Lib.AppendStr
import Derived.Laws.Externs
import Derived.Shelf.Spec.BitsCarry
import Derived.Shelf.Bits.Mul64
import Derived.LoopTactic
import Derived.Outline
import Derived.Deep.DeepCutAuto
namespace Go.Proofs.YtbbegnfopdihaaaGreatDoor
open Go Go.RowKit

/-! ### Arrays -/
/-- A scalar: one cell a datum. -/
structure Scal (α : Type) where
  val : α → Value
  one : ∀ a, (val a).oneCell' = true
def Scal.cod {α : Type} (S : Scal α) : Cod α := ⟨S.val, 1, false, fun a => by rw [one_cells (S.one a)]; rfl, fun a => by rw [one_cells (S.one a)]; exact one1 (S.one a), (fun h => by cases h), fun _ a => S.one a⟩
def Scal.row {α : Type} (S : Scal α) (n : Nat) (f : Nat → α) : Array Value := Array.ofFn fun i : Fin n => S.val (f i)
section
variable {α : Type} {S : Scal α} {n i : Nat} {f g : Nat → α}
theorem srow_size (S : Scal α) (n : Nat) (f : Nat → α) : (S.row n f).size = n := by simp [Scal.row]
theorem srow_get (S : Scal α) (f : Nat → α) (h : i < n) : (S.row n f)[i]? = some (S.val (f i)) := by simp [Scal.row, h]
theorem srow_one (S : Scal α) (n : Nat) (f : Nat → α) : (S.row n f).all (·.oneCell') = true := by
  rw [Array.all_eq_true_iff_forall_mem]
  intro v hv
  simp only [Scal.row, Array.mem_ofFn] at hv
  obtain ⟨i, rfl⟩ := hv
  exact S.one _
end
def Scal.vec {α : Type} (S : Scal α) (n : Nat) : Cod (Nat → α) := ⟨fun f => .agg (S.row n f), n, true, fun f => srow_size S n f, fun f => srow_one S n f, fun _ _ => rfl, (fun h => by cases h)⟩
/-- One of an array's data another one. -/
def stF {α : Type} (f : Nat → α) (i : Nat) (x : α) : Nat → α := fun k => if k = i then x else f k
/-- Data laid from place o on. -/
def ovF {α : Type} [Inhabited α] (f : Nat → α) (o : Nat) (l : List α) : Nat → α := fun k => if o ≤ k ∧ k < o + l.length then l.getD (k - o) default else f k
/-- The first m of g, the rest of f. -/
def upF {α : Type} (m : Nat) (g f : Nat → α) : Nat → α := fun k => if k < m then g k else f k
section
variable {α : Type} {S : Scal α} {n i b off m : Nat} {f g : Nat → α} {w : World} {x : α}
theorem upF_step (m : Nat) (g f : Nat → α) (hx : x = g m) : stF (upF m g f) m x = upF (m + 1) g f := by
  subst hx
  funext k
  unfold stF upF
  by_cases h : k = m
  · subst h; rw [if_pos rfl, if_pos (by omega)]
  · by_cases h2 : k < m
    · rw [if_neg h, if_pos h2, if_pos (by omega)]
    · rw [if_neg h, if_neg h2, if_neg (by omega)]
theorem upF_zero (g f : Nat → α) : upF 0 g f = f := by funext k; simp [upF]
theorem upF_at (g f : Nat → α) : upF m g f m = f m := by simp [upF]
theorem upF_lt (g f : Nat → α) (h : i < m) : upF m g f i = g i := by simp [upF, h]
theorem srow_congr (h : ∀ i, i < n → f i = g i) : S.row n f = S.row n g := by
  unfold Scal.row
  congr 1
  funext i
  rw [h i.1 i.2]
theorem vec_congr (h : ∀ i, i < n → f i = g i) : (S.vec n).enc f = (S.vec n).enc g := srow_congr h
theorem vec_val_congr (h : ∀ i, i < n → f i = g i) : (S.vec n).val f = (S.vec n).val g := congrArg Value.agg (srow_congr h)
theorem vec_get (h : i < n) : ((S.vec n).enc f)[i]? = some (S.val (f i)) := srow_get S f h
theorem vec_set (f : Nat → α) (x : α) (hi : i < n) : putL ((S.vec n).enc f) (i * 1) (S.cod.enc x).toList = (S.vec n).enc (stF f i x) := by
  apply Array.ext_getElem?
  intro k
  have hc : (S.cod.enc x).toList = [S.val x] := by
    show ((S.val x).cells).toList = _
    rw [one_cells (S.one x)]
  rw [hc, putL_get, (S.vec n).size]
  show (if i * 1 ≤ k ∧ k < i * 1 + 1 ∧ k < n then _ else _) = _
  by_cases hk : k < n
  · rw [vec_get hk, vec_get hk]
    by_cases h1 : k = i
    · subst h1
      rw [if_pos (by omega)]
      unfold stF
      rw [if_pos rfl, show k - k * 1 = 0 by omega]; rfl
    · rw [if_neg (by omega)]
      unfold stF
      rw [if_neg h1]
  · rw [if_neg (by omega), Array.getElem?_eq_none (by rw [Cod.size]; show n ≤ k; omega), Array.getElem?_eq_none (by rw [Cod.size]; show n ≤ k; omega)]
theorem Holds.eltV (h : Holds (S.vec n) w b off f) (hi : i < n) : Holds S.cod w b (off + i * 1) (f i) := fun j u hu => by
  have hj : j < 1 := by
    have := (Array.getElem?_eq_some_iff.1 hu).1
    rwa [Cod.size] at this
  obtain rfl : j = 0 := by omega
  have hu' : (S.val (f i)).cells[0]? = some u := hu
  rw [one_cells (S.one _)] at hu'
  obtain rfl := Option.some.inj hu'
  have := h i _ (vec_get hi)
  rw [Nat.mul_one, Nat.add_zero]
  exact this
theorem vec_ov [Inhabited α] (f : Nat → α) (o : Nat) (l : List α) : putL ((S.vec n).enc f) o (flat S.cod l) = (S.vec n).enc (ovF f o l) := by
  apply Array.ext_getElem?
  intro k
  have hf : (flat S.cod l).length = l.length := by rw [flat_len]; exact Nat.mul_one _
  rw [putL_get, (S.vec n).size, hf]
  show (if o ≤ k ∧ k < o + l.length ∧ k < n then _ else _) = _
  by_cases hk : k < n
  · rw [vec_get hk, vec_get hk]
    by_cases h1 : o ≤ k ∧ k < o + l.length
    · rw [if_pos ⟨h1.1, h1.2, hk⟩]
      have hi : k - o < l.length := by omega
      have h0 : (S.cod.enc l[k - o])[0]? = some (S.val l[k - o]) := by
        show ((S.val l[k - o]).cells)[0]? = _
        rw [one_cells (S.one _)]; rfl
      have := flat_get (C := S.cod) l (k - o) 0 l[k - o] _ (List.getElem?_eq_getElem hi) h0
      rw [show (k - o) * S.cod.sz + 0 = k - o from Nat.mul_one _] at this
      rw [this]
      unfold ovF
      rw [if_pos h1, List.getD_eq_getElem?_getD, List.getElem?_eq_getElem hi]; rfl
    · rw [if_neg (by omega)]
      unfold ovF
      rw [if_neg h1]
  · rw [if_neg (by omega), Array.getElem?_eq_none (by rw [Cod.size]; show n ≤ k; omega), Array.getElem?_eq_none (by rw [Cod.size]; show n ≤ k; omega)]
end
/-! ### A part of a struct laid anew -/
section
variable {α β : Type} {A : Cod α} {B : Cod β} {x x' : α} {y y' : β} {off : Nat} {vs : List Value}
theorem put_fst (h : putL (A.enc x) off vs = A.enc x') (hf : off + vs.length ≤ A.sz) : putL ((cPair A B).enc (x, y)) off vs = (cPair A B).enc (x', y) := by
  apply Array.ext_getElem?
  intro k
  rw [enc_pair, enc_pair, putL_get, Array.size_append, A.size, B.size]
  have h1 := congrArg (·[k]?) h
  simp only [putL_get, A.size] at h1
  by_cases hk : k < A.sz
  · rw [Array.getElem?_append_left (by rw [A.size]; exact hk), Array.getElem?_append_left (by rw [A.size]; exact hk), ← h1]
    by_cases h2 : off ≤ k ∧ k < off + vs.length
    · rw [if_pos ⟨h2.1, h2.2, by omega⟩, if_pos ⟨h2.1, h2.2, hk⟩]
    · rw [if_neg (by omega), if_neg (by omega)]
  · rw [if_neg (by omega), Array.getElem?_append_right (by rw [A.size]; omega), Array.getElem?_append_right (by rw [A.size]; omega), A.size, A.size]
theorem put_snd {o : Nat} (h : putL (B.enc y) off vs = B.enc y') (ho : o = A.sz + off) : putL ((cPair A B).enc (x, y)) o vs = (cPair A B).enc (x, y') := by
  subst ho
  apply Array.ext_getElem?
  intro k
  rw [enc_pair, enc_pair, putL_get, Array.size_append, A.size, B.size]
  have h1 := congrArg (·[k - A.sz]?) h
  simp only [putL_get, B.size] at h1
  by_cases hk : k < A.sz
  · rw [if_neg (by omega), Array.getElem?_append_left (by rw [A.size]; exact hk), Array.getElem?_append_left (by rw [A.size]; exact hk)]
  · rw [Array.getElem?_append_right (by rw [A.size]; omega), Array.getElem?_append_right (by rw [A.size]; omega), A.size, ← h1]
    by_cases h2 : A.sz + off ≤ k ∧ k < A.sz + off + vs.length ∧ k < A.sz + B.sz
    · rw [if_pos h2, if_pos (by omega)]
      congr 1; omega
    · rw [if_neg h2, if_neg (by omega)]
theorem put_snA {a o : Nat} (h : putL (B.enc y) off vs = B.enc y') (ho : o = a + off) (ha : A.sz = a := by exact rfl) : putL ((cPair A B).enc (x, y)) o vs = (cPair A B).enc (x, y') := put_snd h (ha ▸ ho)
end
/-! ### Words of 32 bits -/
def sWd : Scal UInt32 := ⟨fun x => .int .u32 (x.toNat : Int), fun _ => rfl⟩
abbrev cWd : Cod UInt32 := sWd.cod
abbrev cWs (n : Nat) : Cod (Nat → UInt32) := sWd.vec n
section
variable {P : Program} {a : Act} {o : Oper} {w : World} {x y : Operand} {t t2 ty : TypeId} {u v z : UInt32}
theorem opAddW (ho : o.op = .binOp .add t x y t2) (hx : a.eval x = .int .u32 (u.toNat : Int)) (hy : a.eval y = .int .u32 (v.toNat : Int)) (hz : pl32 u v = z) : (execOp a.eval o).run P w = .ok (.value (.int .u32 (z.toNat : Int))) w :=
  opAddU rfl ho hx hy (by subst hz; exact (UInt32.toNat_add u v).symm)
theorem opXorW (ho : o.op = .binOp .xor t x y t2) (hx : a.eval x = .int .u32 (u.toNat : Int)) (hy : a.eval y = .int .u32 (v.toNat : Int)) (hz : xo32 u v = z) : (execOp a.eval o).run P w = .ok (.value (.int .u32 (z.toNat : Int))) w :=
  opXorU rfl ho hx hy u.toNat_lt v.toNat_lt (by subst hz; exact (UInt32.toNat_xor u v).symm)
theorem opAndW (ho : o.op = .binOp .and t x y t2) (hx : a.eval x = .int .u32 (u.toNat : Int)) (hy : a.eval y = .int .u32 (v.toNat : Int)) (hz : and32 u v = z) : (execOp a.eval o).run P w = .ok (.value (.int .u32 (z.toNat : Int))) w :=
  opAndU rfl ho hx hy u.toNat_lt v.toNat_lt (by subst hz; exact (UInt32.toNat_and u v).symm)
theorem opOrW (ho : o.op = .binOp .or t x y t2) (hx : a.eval x = .int .u32 (u.toNat : Int)) (hy : a.eval y = .int .u32 (v.toNat : Int)) (hz : or32 u v = z) : (execOp a.eval o).run P w = .ok (.value (.int .u32 (z.toNat : Int))) w :=
  opOrU rfl ho hx hy u.toNat_lt v.toNat_lt (by subst hz; exact (UInt32.toNat_or u v).symm)
theorem opShlW {yk : IntKind} {n : Nat} (ho : o.op = .binOp .shl t x y t2) (hx : a.eval x = .int .u32 (u.toNat : Int)) (hy : a.eval y = .int yk (n : Int)) (hn : n ≤ 32) (hz : sl32 u n = z) : (execOp a.eval o).run P w = .ok (.value (.int .u32 (z.toNat : Int))) w :=
  opShlU rfl ho hx hy hn (by subst hz; exact (sl32_toNat u n).symm)
theorem opShrW {yk : IntKind} {n : Nat} (ho : o.op = .binOp .shr t x y t2) (hx : a.eval x = .int .u32 (u.toNat : Int)) (hy : a.eval y = .int yk (n : Int)) (hn : n ≤ 32) (hz : sr32 u n = z) : (execOp a.eval o).run P w = .ok (.value (.int .u32 (z.toNat : Int))) w :=
  opShrU ho hx hy hn (by subst hz; exact (sr32_toNat u n).symm)
theorem compl_nat (u : UInt32) : IntKind.u32.max.toNat ^^^ u.toNat = (not32 u).toNat := by
  show 4294967295 ^^^ u.toNat = (~~~u).toNat
  rw [UInt32.toNat_not]
  have h : u.toNat < 2 ^ 32 := u.toNat_lt
  have e : (4294967295 : Nat) = 2 ^ 32 - 1 := rfl
  apply Nat.eq_of_testBit_eq
  intro i
  rw [show UInt32.size - 1 - u.toNat = 2 ^ 32 - (u.toNat + 1) by show 4294967296 - 1 - u.toNat = 4294967296 - (u.toNat + 1); omega]
  rw [Nat.testBit_xor, e, Nat.testBit_two_pow_sub_one, Nat.testBit_two_pow_sub_succ h]
  by_cases hi : i < 32
  · simp [hi]
  · have := Nat.testBit_lt_two_pow (Nat.lt_of_lt_of_le h (Nat.pow_le_pow_right (by decide) (show 32 ≤ i by omega)))
    simp [hi, this]
theorem opNotW (ho : o.op = .unOp .xor t x) (hx : a.eval x = .int .u32 (u.toNat : Int)) (hz : not32 u = z) : (execOp a.eval o).run P w = .ok (.value (.int .u32 (z.toNat : Int))) w := by
  subst hz
  have e : IntKind.u32.wrap ((BitVec.ofInt 32 (4294967295 : Int) ^^^ BitVec.ofInt 32 (u.toNat : Int)).toNat : Int) = ((not32 u).toNat : Int) := by
    rw [BitVec.toNat_xor, show (4294967295 : Int) = ((4294967295 : Nat) : Int) from rfl, ofInt_nat _ _ (by decide), ofInt_nat _ _ u.toNat_lt, wrapU rfl]
    congr 1
    have := compl_nat u
    rw [show 4294967295 ^^^ u.toNat = (not32 u).toNat from this]
    exact Nat.mod_eq_of_lt (not32 u).toNat_lt
  unfold execOp
  simp only [ho, hx, Sem.run_bind, Sem.run_pure]
  show ((Op.unary .xor (.int .u32 (u.toNat : Int))).run P w).andThen _ = _
  have h : (Op.unary .xor (.int .u32 (u.toNat : Int))).run P w = .ok (.int .u32 ((not32 u).toNat : Int)) w := by
    show ((pure (.int .u32 (IntKind.u32.wrap ((BitVec.ofInt 32 (4294967295 : Int) ^^^ BitVec.ofInt 32 (u.toNat : Int)).toNat : Int))) : Sem Value)).run P w = _
    rw [e]; rfl
  rw [h]; rfl
theorem opNegI {k : IntKind} {m z : Int} (ho : o.op = .unOp .neg t x) (hx : a.eval x = .int k m) (hz : k.wrap (0 - m) = z) : (execOp a.eval o).run P w = .ok (.value (.int k z)) w := by
  subst hz
  unfold execOp
  simp only [ho, hx, Sem.run_bind, Sem.run_pure]
  have h : (Op.unary .neg (.int k m)).run P w = .ok (.int k (k.wrap (0 - m))) w := rfl
  rw [h]; rfl
/-- An unsigned number that is a word. -/
theorem opConvW {src dst : TypeId} {k : IntKind} {m : Nat} (ho : o.op = .convert src dst x) (hsrc : (P.underlying src).isSome = true) (hd : P.underlying dst = some (.int .u32)) (hx : a.eval x = .int k (m : Int)) (hz : UInt32.ofNat m = z) : (execOp a.eval o).run P w = .ok (.value (.int .u32 (z.toNat : Int))) w :=
  opConvU rfl ho hsrc hd hx (by subst hz; exact UInt32.toNat_ofNat'.symm)
end
/-! ### An element of an array that is a value; a part of an array as a slice -/
section
variable {P : Program} {a : Act} {o : Oper} {w : World} {x y : Operand} {t ty e : TypeId} {n i : Nat}
theorem opIdxA {α : Type} {S : Scal α} {f : Nat → α} {k : IntKind} {j : Int} (ho : o.op = .index ty x y) (hu : P.underlying ty = some (.array n e)) (hs : tyOk P e S.cod = true) (hx : a.eval x = (S.vec n).val f) (hy : a.eval y = .int k j) (hj : j = (i : Int)) (hi : i < n) :
    (execOp a.eval o).run P w = .ok (.value (S.val (f i))) w := by
  subst hj
  obtain ⟨h1, h2⟩ := tyOk.spec hs
  have he := elem_ofA hu
  have hn := len_ofA hu
  obtain ⟨d, hd, hdr⟩ := Option.map_eq_some_iff.1 h1
  obtain ⟨q, hq, hqs⟩ := Option.map_eq_some_iff.1 h2
  have hr : (S.row n f)[i]? = some (S.val (f i)) := srow_get S f hi
  have hdr' : d.isRow = false := hdr
  have hqs' : q.size = 1 := hqs
  have hp : (part e (S.row n f) (i * 1)).run P w = .ok (S.val (f i)) w := by
    rw [Nat.mul_one]
    simp [part, isAgg, run_underlying hd, hr]
    cases d <;> first | rfl | cases hdr'
  have hv : (S.vec n).val f = .agg (S.row n f) := rfl
  rw [hv] at hx
  unfold execOp
  simp only [ho, hx, hy, Sem.run_bind, Sem.run_pure]
  have hr2 : (Instr.index ty (.agg (S.row n f)) (.int k (i : Int))).run P w = .ok (S.val (f i)) w := by
    simp [Instr.index, asIntOf, run_underlying hu, sizeOf, typeInfo, hq, hqs', hi]
    simpa using hp
  rw [hr2]; rfl
theorem opSliceAL {b off m l sz : Nat} {kl : IntKind} {jl : Int} {xl : Operand} (ho : o.op = .slice ty x (some xl) none none) (hu : P.underlying ty = some (.array m e)) (hs : (P.info? e).map (·.size) = some sz) (hx : a.eval x = .pointer (some ⟨b, off, none⟩)) (hl : a.eval xl = .int kl jl) (hjl : jl = (l : Int)) (h1 : l < m) :
    (execOp a.eval o).run P w = .ok (.value (.slice (some ⟨b, off + l * sz, none⟩) (m - l) (m - l))) w := by
  subst hjl
  have he := elem_ofA hu
  have hn := len_ofA hu
  have hu' : P.underlying ty = some (.array (P.arrayLen ty) (P.elem ty)) := by rw [he, hn]; exact hu
  have hadd : (⟨b, off, none⟩ : Addr).add (l * sz) = ⟨b, off + l * sz, none⟩ := Addr.add_mid ..
  unfold execOp
  simp only [ho, Option.map_some, Option.map_none, hx, hl, Sem.run_bind, Sem.run_pure, run_sliceAt_array_l w ty ⟨b, off, none⟩ hu' kl (l : Int) (by omega) (by rw [hn]; omega), he, hn, run_sizeOf hs, Result.andThen_ok, slicedAt, Int.toNat_natCast, hadd]
  rw [if_neg (by omega)]
end
theorem wrap_neg64 {n : Nat} (h0 : 0 < n) (h : n ≤ 9223372036854775808) : IntKind.u64.wrap (-(n : Int)) = ((18446744073709551616 - n : Nat) : Int) := by
  have e : -(n : Int) = ((18446744073709551616 - n : Nat) : Int) - 18446744073709551616 := by omega
  have h2 := wrapU (k := .u64) rfl (18446744073709551616 - n)
  rw [Nat.mod_eq_of_lt (by show 18446744073709551616 - n < 18446744073709551616; omega)] at h2
  rw [← h2, e]
  unfold IntKind.wrap
  show (((18446744073709551616 - n : Nat) : Int) - 18446744073709551616) % 18446744073709551616 = (((18446744073709551616 - n : Nat)) : Int) % 18446744073709551616
  rw [Int.sub_emod_right]
theorem rr32_or (x : UInt32) (n : Nat) : or32 (sl32 x (32 - n)) (sr32 x n) = rr32 x n := by
  unfold rr32 or32
  exact UInt32.or_comm _ _
/-! ### Arrays of bytes -/
def sBy : Scal UInt8 := ⟨by8, fun _ => rfl⟩
theorem arr_ov {n : Nat} (f : Nat → UInt8) (o : Nat) (l : List UInt8) : putL ((cArr n).enc f) o (flat cByte l) = (cArr n).enc (ovF f o l) := vec_ov (S := sBy) (n := n) f o l
theorem arr_set0 {n i : Nat} (f : Nat → UInt8) (b : UInt8) (hi : i < n) : putL ((cArr n).enc f) (0 + i * 1) (cByte.enc b).toList = (cArr n).enc (stF f i b) := by
  rw [Nat.zero_add]; exact vec_set (S := sBy) (n := n) f b hi
theorem vec_set0 {α : Type} {S : Scal α} {n i : Nat} (f : Nat → α) (x : α) (hi : i < n) : putL ((S.vec n).enc f) (0 + i * 1) (S.cod.enc x).toList = (S.vec n).enc (stF f i x) := by
  rw [Nat.zero_add]; exact vec_set f x hi
theorem arr_congr {n : Nat} {f g : Nat → UInt8} (h : ∀ i, i < n → f i = g i) : (cArr n).enc f = (cArr n).enc g := row_congr h
theorem room_1 {α β : Type} {S : Scal α} {n i : Nat} {C : Cod β} {x : β} (hn : C.sz = n) (hi : i < n) : 0 + i * 1 + S.cod.sz ≤ (C.enc x).size := by
  rw [C.size, hn]; show 0 + i * 1 + 1 ≤ n; omega
theorem lst_set {n i : Nat} (f : Nat → UInt8) (x : UInt8) : (lst n f).set i x = lst n (stF f i x) := by
  apply List.ext_getElem?
  intro k
  rw [List.getElem?_set]
  by_cases hk : k < n
  · rw [lst_get hk, lst_get hk, lst_len]
    unfold stF
    by_cases h : i = k
    · subst h; rw [if_pos rfl, if_pos hk, if_pos rfl]
    · rw [if_neg h, if_neg (fun e => h e.symm)]
  · rw [List.getElem?_eq_none (by rw [lst_len]; omega), List.getElem?_eq_none (by rw [lst_len]; omega), lst_len]
    split
    · rename_i h; subst h; rw [if_neg hk]
    · rfl
theorem lst_congr {n : Nat} {f g : Nat → UInt8} (h : ∀ i, i < n → f i = g i) : lst n f = lst n g := List.map_congr_left fun i hi => h i (List.mem_range.1 hi)
/-- A part of a slice lies in the same block. -/
theorem Off.cut {α : Type} {C : Cod α} {w : World} {A : Option Addr} {n c k : Nat} {l : List α} {R : List Nat} (h : Off A n R) (hV : Vu C w A n c l) (m : Nat) (hm : 0 < m → 0 < n) : Off (cutA A c k C.sz) m R := fun b off hA hp => by
  obtain ⟨pb, po, rfl, _⟩ := hV.at' (hm hp)
  have key : pb ∉ R := h pb po rfl (hm hp)
  unfold cutA at hA
  split at hA
  · injection hA with e; injection e with e1; subst e1; exact key
  · rw [Option.map_some, Addr.add_mid] at hA
    injection hA with e; injection e with e1; subst e1; exact key
end Go.Proofs.YtbbegnfopdihaaaGreatDoor

namespace Go.Proofs.YtbbegnfopdihaaaGreatDoor
open Go Go.RowKit

/-- The number of the first k bytes of word j. -/
def pn32 (b : Nat → UInt8) (j : Nat) : Nat → Nat
  | 0 => 0
  | k + 1 => pn32 b j k * 256 + (b (4 * j + k)).toNat
theorem pn32_lt (b : Nat → UInt8) (j k : Nat) : pn32 b j k < 256 ^ k := by
  induction k with
  | zero => simp [pn32]
  | succ k ih =>
    have h := (b (4 * j + k)).toNat_lt
    show pn32 b j k * 256 + (b (4 * j + k)).toNat < 256 ^ (k + 1)
    rw [Nat.pow_succ]
    omega
/-- How many bytes of word j are among the first m. -/
def cn32 (m j : Nat) : Nat := min 4 (m - 4 * j)
def pr32 (b : Nat → UInt8) (m : Nat) : Nat → UInt32 := fun j => UInt32.ofNat (pn32 b j (cn32 m j))
theorem or_add8 (P x : Nat) (hx : x < 2 ^ 8) : P * 2 ^ 8 ||| x = P * 256 + x := by
  have h6 := Nat.shiftLeft_add_eq_or_of_lt (a := P) hx
  rw [Nat.shiftLeft_eq] at h6
  exact h6.symm
set_option maxRecDepth 100000 in
theorem pr32_step (b : Nat → UInt8) (m i : Nat) (hi : i = m / 4) : or32 (sl32 (pr32 b m i) 8) (UInt32.ofNat (b m).toNat) = pr32 b (m + 1) i := by
  have h1 : cn32 m i = m % 4 := by unfold cn32; omega
  have h2 : cn32 (m + 1) i = m % 4 + 1 := by unfold cn32; omega
  have h3 := pn32_lt b i (m % 4)
  have h4 : 256 ^ (m % 4) ≤ 256 ^ 3 := Nat.pow_le_pow_right (by omega) (by omega)
  have h5 := (b m).toNat_lt
  apply UInt32.toNat_inj.1
  unfold or32
  rw [UInt32.toNat_or, sl32_toNat]
  unfold pr32
  rw [h1, h2]
  show _ = (UInt32.ofNat (pn32 b i (m % 4) * 256 + (b (4 * i + m % 4)).toNat)).toNat
  rw [show 4 * i + m % 4 = m by omega]
  simp only [UInt32.toNat_ofNat']
  generalize pn32 b i (m % 4) = P at *
  have hP : P < 16777216 := Nat.lt_of_lt_of_le h3 h4
  rw [show P % 2 ^ 32 * 2 ^ 8 % 4294967296 = P * 2 ^ 8 by omega, Nat.mod_eq_of_lt (show (b m).toNat < 2 ^ 32 by omega), or_add8 _ _ h5, Nat.mod_eq_of_lt (show P * 256 + (b m).toNat < 2 ^ 32 by omega)]
theorem pr32_set (b : Nat → UInt8) (m i : Nat) (x : UInt32) (hi : i = m / 4) (hx : x = pr32 b (m + 1) i) : stF (pr32 b m) i x = pr32 b (m + 1) := by
  subst hx
  funext j
  unfold stF
  by_cases h : j = i
  · rw [if_pos h, h]
  · rw [if_neg h]
    unfold pr32
    rw [show cn32 m j = cn32 (m + 1) j by unfold cn32; omega]
theorem pr32_zero (b : Nat → UInt8) : pr32 b 0 = fun _ => 0 := by
  funext j
  unfold pr32
  rw [show cn32 0 j = 0 by unfold cn32; omega]
  rfl
set_option maxRecDepth 100000 in
theorem pr32_all (b : Nat → UInt8) (j : Nat) (hj : j < 16) : pr32 b 64 j = W32 b j := by
  rw [W32_low _ _ hj]
  unfold pr32 wrd32
  rw [show cn32 64 j = 4 by unfold cn32; omega]
  congr 1
  show ((((0) * 256 + (b (4 * j + 0)).toNat) * 256 + (b (4 * j + 1)).toNat) * 256 + (b (4 * j + 2)).toNat) * 256 + (b (4 * j + 3)).toNat = _
  rw [show 4 * j + 0 = 4 * j from rfl]
  omega

theorem up_first (b : Nat → UInt8) : upF 16 (W32 b) (pr32 b 64) = pr32 b 64 := by
  funext j
  unfold upF
  by_cases h : j < 16
  · rw [if_pos h, pr32_all b j h]
  · rw [if_neg h]
theorem up_word {f : Nat → UInt32} {b : Nat → UInt8} {t : Nat} (h : 16 ≤ t) : pl32 (pl32 (pl32 (sml1_32 (upF t (W32 b) f (t - 2))) (upF t (W32 b) f (t - 7))) (sml0_32 (upF t (W32 b) f (t - 15)))) (upF t (W32 b) f (t - 16)) = W32 b t := by
  rw [upF_lt _ _ (by omega), upF_lt _ _ (by omega), upF_lt _ _ (by omega), upF_lt _ _ (by omega), ← W32_up b t h]
/-- What of the padding of n bytes, L long, is laid when m bytes of the number are. -/
def pm32 (L n m : Nat) : Nat → UInt8 := fun j => if L - m ≤ j then UInt8.ofNat (8 * n / 256 ^ (L - 1 - j)) else if j = 0 then 128 else 0
theorem pm32_step (L n m : Nat) (h : m < L) : (fun j => if j = L - 1 - m then UInt8.ofNat (8 * n / 256 ^ m) else pm32 L n m j) = fun j => if j < L then pm32 L n (m + 1) j else pm32 L n m j := by
  funext j
  unfold pm32
  by_cases e : j = L - 1 - m
  · rw [if_pos e, if_pos (by omega), if_pos (by omega), show L - 1 - j = m by omega]
  · rw [if_neg e]
    by_cases hj : j < L
    · rw [if_pos hj]
      by_cases h2 : L - m ≤ j
      · rw [if_pos h2, if_pos (by omega)]
      · rw [if_neg h2, if_neg (by omega : ¬ L - (m + 1) ≤ j)]
    · rw [if_neg hj]
theorem pm32_pad (n : Nat) (f : Nat → UInt8) (j : Nat) : pm32 (64 * nb32 n - n) n 8 j = pad32 n f (n + j) := by
  have h : 64 * nb32 n = n + 8 - (n + 8) % 64 + 64 := by unfold nb32; omega
  have h2 := Nat.mod_lt (n + 8) (show 0 < 64 by omega)
  unfold pm32 pad32
  rw [if_neg (by omega : ¬ n + j < n)]
  by_cases h0 : j = 0
  · rw [if_neg (by omega), if_pos h0, if_pos (by omega)]
  · rw [if_neg (by omega : ¬ n + j = n)]
    by_cases h8 : 64 * nb32 n - n - 8 ≤ j
    · rw [if_pos h8, if_neg (by omega), show 64 * nb32 n - n - 1 - j = 64 * nb32 n - 1 - (n + j) by omega]
    · rw [if_neg h8, if_neg h0, if_pos (by omega)]
theorem pm32_next (L n m : Nat) (h : m < L) (x : UInt8) (hx : x = UInt8.ofNat (8 * n / 256 ^ m)) : ∀ i, i < L → stF (pm32 L n m) (L - 1 - m) x i = pm32 L n (m + 1) i := by
  subst hx
  intro i hi
  have := congrFun (pm32_step L n m h) i
  simp only [hi, if_true] at this
  exact this
theorem out32_at (s : Nat → UInt32) (m : Nat) : UInt8.ofNat (sr32 (s (m / 4)) (24 - m % 4 * 8)).toNat = out32 s m := by rw [sr32_toNat]; rfl
/-! ### A running hash -/
/-- The state s and the bytes r are what k bytes of F leave. -/
def HaS (s : Nat → UInt32) (r : Nat → UInt8) (k : Nat) (F : Nat → UInt8) : Prop := (∀ i, i < 8 → s i = hs32 F (k / 64) i) ∧ ∀ j, j < k % 64 → r j = F (64 * (k / 64) + j)
section
variable {s : Nat → UInt32} {r F F' : Nat → UInt8} {k kk : Nat} {m : List UInt8}
theorem HaS.congr (h : HaS s r k F) (hF : ∀ j, j < k → F j = F' j) : HaS s r k F' :=
  ⟨fun i hi => (h.1 i hi).trans (hs32_congr (k / 64) (fun j hj => hF j (by omega)) i hi), fun j hj => (h.2 j hj).trans (hF _ (by omega))⟩
theorem ov_at (h : HaS s r k F) (hF : ∀ j x, m[j]? = some x → F (k + j) = x) (hm : kk ≤ m.length) : ∀ j, j < k % 64 + kk → ovF r (k % 64 * 1) (m.take kk) j = F (64 * (k / 64) + j) := fun j hj => by
  have hl : (m.take kk).length = kk := by rw [List.length_take]; omega
  unfold ovF
  rw [hl, Nat.mul_one]
  by_cases hlt : j < k % 64
  · rw [if_neg (by omega), h.2 j hlt]
  · rw [if_pos (by omega)]
    have hi : j - k % 64 < m.length := by omega
    have e := hF (j - k % 64) m[j - k % 64] (List.getElem?_eq_getElem hi)
    rw [show k + (j - k % 64) = 64 * (k / 64) + j by omega] at e
    rw [e, List.getD_eq_getElem?_getD, List.getElem?_take, if_pos (by omega), List.getElem?_eq_getElem hi]
    rfl
theorem HaS.part (h : HaS s r k F) (hF : ∀ j x, m[j]? = some x → F (k + j) = x) (hm : kk ≤ m.length) (hk : k % 64 + kk < 64) : HaS s (ovF r (k % 64 * 1) (m.take kk)) (k + kk) F := by
  have e : (k + kk) / 64 = k / 64 := by omega
  unfold HaS
  rw [e]
  exact ⟨h.1, fun j hj => ov_at h hF hm j (by omega)⟩
theorem HaS.full (h : HaS s r k F) (hF : ∀ j x, m[j]? = some x → F (k + j) = x) (hm : kk ≤ m.length) (hk : k % 64 + kk = 64) : HaS (comp32 (ovF r (k % 64 * 1) (m.take kk)) s) (ovF r (k % 64 * 1) (m.take kk)) (k + kk) F := by
  have e : (k + kk) / 64 = k / 64 + 1 := by omega
  unfold HaS
  rw [e]
  exact ⟨comp32_congr (fun j hj => ov_at h hF hm j (by omega)) h.1, fun j hj => by omega⟩
end
/-- What is laid behind n bytes. -/
def pdL (n : Nat) : List UInt8 := lst (64 * nb32 n - n) (pm32 (64 * nb32 n - n) n 8)
theorem pdL_len (n : Nat) : (pdL n).length = 64 * nb32 n - n := lst_len _ _
theorem nb32_ge (n : Nat) : n + 8 < 64 * nb32 n ∧ 64 * nb32 n ≤ n + 72 := by unfold nb32; omega
theorem pdL_at {n : Nat} (f : Nat → UInt8) : ∀ j x, (pdL n)[j]? = some x → pad32 n f (n + j) = x := fun j x hx => by
  have hj : j < 64 * nb32 n - n := by
    have := (List.getElem?_eq_some_iff.1 hx).1
    rwa [pdL_len] at this
  unfold pdL at hx
  rw [lst_get hj, pm32_pad n f j] at hx
  exact Option.some.inj hx
theorem pad32_low (n : Nat) (f : Nat → UInt8) (j : Nat) (h : j < n) : f j = pad32 n f j := by unfold pad32; rw [if_pos h]
theorem pm_begin {L n : Nat} (_h : 0 < L) : (List.replicate L (0 : UInt8)).set 0 128 = lst L (pm32 L n 0) := by
  have e : List.replicate L (0 : UInt8) = lst L (fun _ => 0) := by
    apply List.ext_getElem?
    intro i
    by_cases h : i < L
    · rw [lst_get h, List.getElem?_replicate, if_pos h]
    · rw [List.getElem?_eq_none (by rw [List.length_replicate]; omega), List.getElem?_eq_none (by rw [lst_len]; omega)]
  rw [e, lst_set]
  refine lst_congr fun i hi => ?_
  unfold stF pm32
  rw [if_neg (show ¬ L - 0 ≤ i by omega)]
theorem pm_step {L n m : Nat} (h : m < L) : (lst L (pm32 L n m)).set (L - 1 - m) (UInt8.ofNat (n * 8 / 2 ^ (8 * m))) = lst L (pm32 L n (m + 1)) := by
  rw [lst_set]
  refine lst_congr (pm32_next L n m h _ ?_)
  rw [Nat.mul_comm n 8, show (256 : Nat) ^ m = 2 ^ (8 * m) by rw [Nat.pow_mul]]
/-- The SHA-256 of a list. -/
def sha (l : List UInt8) : Nat → UInt8 := sum32 l.length fun j => l.getD j 0
theorem ha_end {s : Nat → UInt32} {r f : Nat → UInt8} {n : Nat} (h : HaS s r (64 * nb32 n) (pad32 n f)) : ∀ i, i < 32 → out32 s i = sum32 n f i :=
  out32_congr fun i hi => by
    have := h.1 i hi
    rwa [Nat.mul_div_cancel_left _ (by omega : 0 < 64)] at this
/-- Blocks of other types are others. -/
theorem ne_ty {w : World} {g g' : Nat} {cs cs' : Array Value} {t t' : TypeId} {z z' : Nat × Nat} (h : w.heap[g]? = some (.cells cs t z)) (h' : w.heap[g']? = some (.cells cs' t' z')) (ht : (t == t') = false) : g ∉ [g'] := fun hm => by
  obtain rfl := List.mem_singleton.1 hm
  rw [h] at h'
  injection h' with e
  injection e with _ e2
  subst e2
  simp at ht
theorem ret_arr {n : Nat} {f g : Nat → UInt8} (h : ∀ i, i < n → f i = g i) : Ending.returned (Value.agg ((cArr n).enc f)) = Ending.returned ((cArr n).val g) := by rw [arr_congr h]; rfl
abbrev cHa : Cod ((Nat → UInt32) × (Nat → UInt8) × Nat) := cPair (cWs 8) (cPair (cArr 64) (cNat .u64))
/-! ### The document's -/
/-- Block i of a message. -/
def blkF (F : Nat → UInt8) (i : Nat) : Nat → UInt8 := fun j => F (64 * i + j)
def mzL (l : List UInt8) (z : Nat) : List UInt8 := l ++ (128 :: List.replicate z 0)
theorem mzL_len (l : List UInt8) (z : Nat) : (mzL l z).length = l.length + 1 + z := by simp [mzL]; omega
theorem mzL_step (l : List UInt8) (z : Nat) : mzL l z ++ [0] = mzL l (z + 1) := by
  unfold mzL
  rw [List.append_assoc, List.cons_append, List.replicate_succ']
/-- The first k bytes of 8 of a number. -/
def be8 (n k : Nat) : List UInt8 := lst k fun i => UInt8.ofNat (n / 2 ^ (8 * (7 - i)))
theorem be8_len (n k : Nat) : (be8 n k).length = k := lst_len _ _
theorem lst_succ (n : Nat) (f : Nat → UInt8) : lst (n + 1) f = lst n f ++ [f n] := by simp [lst, List.range_succ]
/-- The message in whole blocks. -/
def pdM (l : List UInt8) : List UInt8 := lst (64 * nb32 l.length) (pad32 l.length fun j => l.getD j 0)
theorem pdM_len (l : List UInt8) : (pdM l).length = 64 * nb32 l.length := lst_len _ _
theorem pdM_all {l : List UInt8} {z : Nat} (h : l.length + 1 + z + 8 = 64 * nb32 l.length) : mzL l z ++ be8 (l.length * 8) 8 = pdM l := by
  apply List.ext_getElem?
  intro k
  have h1 := mzL_len l z
  have h2 := be8_len (l.length * 8) 8
  by_cases hk : k < 64 * nb32 l.length
  · unfold pdM
    rw [lst_get hk]
    unfold pad32
    by_cases a1 : k < l.length
    · rw [if_pos a1, List.getElem?_append_left (by omega)]
      unfold mzL
      show (l ++ _)[k]? = some (l.getD k 0)
      rw [List.getElem?_append_left a1, List.getD_eq_getElem?_getD, List.getElem?_eq_getElem a1]; rfl
    · rw [if_neg a1]
      by_cases a2 : k < l.length + 1 + z
      · rw [List.getElem?_append_left (by omega)]
        unfold mzL
        rw [List.getElem?_append_right (by omega)]
        by_cases a3 : k = l.length
        · rw [if_pos a3, a3, Nat.sub_self]; rfl
        · rw [if_neg a3, if_pos (by omega), show k - l.length = (k - l.length - 1) + 1 by omega, List.getElem?_cons_succ, List.getElem?_replicate, if_pos (by omega)]
      · rw [if_neg (by omega), if_neg (by omega), List.getElem?_append_right (by omega), h1]
        unfold be8
        rw [lst_get (by omega)]
        congr 2
        rw [Nat.mul_comm 8 l.length, show (256 : Nat) = 2 ^ 8 from rfl, ← Nat.pow_mul]
        congr 2
        omega
  · rw [List.getElem?_eq_none (by rw [List.length_append]; omega), List.getElem?_eq_none (by rw [pdM_len]; omega)]
theorem or_addk {P Q k : Nat} (h : Q < 2 ^ k) : P * 2 ^ k ||| Q = P * 2 ^ k + Q := by
  have h6 := Nat.shiftLeft_add_eq_or_of_lt (a := P) h
  rw [Nat.shiftLeft_eq] at h6
  exact h6.symm
theorem wd_val {m : Nat} (h : m < 4294967296) : Value.int .u32 (m : Int) = sWd.val (UInt32.ofNat m) := by
  show _ = Value.int .u32 ((UInt32.ofNat m).toNat : Int)
  rw [UInt32.toNat_ofNat', Nat.mod_eq_of_lt h]
theorem up_low {b : Nat → UInt8} {q : Nat} (h : q < 16) : UInt32.ofNat ((b (4 * q)).toNat * 16777216 + (b (4 * q + 1)).toNat * 65536 + (b (4 * q + 2)).toNat * 256 + (b (4 * q + 3)).toNat) = W32 b q := by
  rw [W32_low _ _ h]; rfl
theorem out32_at2 (s : Nat → UInt32) (m : Nat) : UInt8.ofNat (sr32 (s (m / 4)) (24 - 8 * (m % 4))).toNat = out32 s m := by
  rw [sr32_toNat]
  unfold out32
  rw [Nat.mul_comm 8]
end Go.Proofs.YtbbegnfopdihaaaGreatDoor

namespace Go.Proofs.YtbbegnfopdihaaaGreatDoor
open Go Go.RowKit

section
variable {P : Program} {o : Oper} {n : Sz} {l : Slots} {x y : Operand} {t t2 ty src : TypeId} {u v z : UInt32} {k : IntKind}
theorem Vl.aw (z : UInt32) (ho : o.op = .binOp .add t x y t2 := by exact rfl) (hx : vo l x = some (.int .u32 (u.toNat : Int)) := by exact rfl) (hy : vo l y = some (.int .u32 (v.toNat : Int)) := by exact rfl) (hz : pl32 u v = z := by exact rfl) : Vl P n l o (.int .u32 (z.toNat : Int)) := fun _ _ hF => opAddW ho (hF.vo hx) (hF.vo hy) hz
theorem Vl.xw (z : UInt32) (ho : o.op = .binOp .xor t x y t2 := by exact rfl) (hx : vo l x = some (.int .u32 (u.toNat : Int)) := by exact rfl) (hy : vo l y = some (.int .u32 (v.toNat : Int)) := by exact rfl) (hz : xo32 u v = z := by exact rfl) : Vl P n l o (.int .u32 (z.toNat : Int)) := fun _ _ hF => opXorW ho (hF.vo hx) (hF.vo hy) hz
theorem Vl.ow (z : UInt32) (ho : o.op = .binOp .or t x y t2 := by exact rfl) (hx : vo l x = some (.int .u32 (u.toNat : Int)) := by exact rfl) (hy : vo l y = some (.int .u32 (v.toNat : Int)) := by exact rfl) (hz : or32 u v = z := by exact rfl) : Vl P n l o (.int .u32 (z.toNat : Int)) := fun _ _ hF => opOrW ho (hF.vo hx) (hF.vo hy) hz
theorem Vl.nw (z : UInt32) (ho : o.op = .binOp .and t x y t2 := by exact rfl) (hx : vo l x = some (.int .u32 (u.toNat : Int)) := by exact rfl) (hy : vo l y = some (.int .u32 (v.toNat : Int)) := by exact rfl) (hz : and32 u v = z := by exact rfl) : Vl P n l o (.int .u32 (z.toNat : Int)) := fun _ _ hF => opAndW ho (hF.vo hx) (hF.vo hy) hz
theorem Vl.cw (ho : o.op = .unOp .xor t x := by exact rfl) (hx : vo l x = some (.int .u32 (u.toNat : Int)) := by exact rfl) : Vl P n l o (.int .u32 ((not32 u).toNat : Int)) := fun _ _ hF => opNotW ho (hF.vo hx) rfl
theorem Vl.lw (q : Nat) (ho : o.op = .binOp .shl t x y t2 := by exact rfl) (hx : vo l x = some (.int .u32 (u.toNat : Int)) := by exact rfl) (hy : vo l y = some (.int k (q : Int)) := by exact rfl) (hq : q ≤ 32 := by omega) : Vl P n l o (.int .u32 ((sl32 u q).toNat : Int)) := fun _ _ hF => opShlW ho (hF.vo hx) (hF.vo hy) hq rfl
theorem Vl.rw (q : Nat) (ho : o.op = .binOp .shr t x y t2 := by exact rfl) (hx : vo l x = some (.int .u32 (u.toNat : Int)) := by exact rfl) (hy : vo l y = some (.int k (q : Int)) := by exact rfl) (hq : q ≤ 32 := by omega) : Vl P n l o (.int .u32 ((sr32 u q).toNat : Int)) := fun _ _ hF => opShrW ho (hF.vo hx) (hF.vo hy) hq rfl
end
end Go.Proofs.YtbbegnfopdihaaaGreatDoor

namespace Go.Proofs.YtbbegnfopdihaaaGreatDoor

def sr64 (x : UInt64) (n : Nat) : UInt64 := UInt64.ofNat (x.toNat / 2 ^ n)
def sl64 (x : UInt64) (n : Nat) : UInt64 := UInt64.ofNat (x.toNat * 2 ^ n)
def or64 (x y : UInt64) : UInt64 := x ||| y
def and64 (x y : UInt64) : UInt64 := x &&& y
def xo64 (x y : UInt64) : UInt64 := x ^^^ y
def not64 (x : UInt64) : UInt64 := ~~~x
def pl64 (x y : UInt64) : UInt64 := x + y
def rr64 (x : UInt64) (n : Nat) : UInt64 := or64 (sr64 x n) (sl64 x (64 - n))
def big0_64 (x : UInt64) : UInt64 := xo64 (xo64 (rr64 x 28) (rr64 x 34)) (rr64 x 39)
def big1_64 (x : UInt64) : UInt64 := xo64 (xo64 (rr64 x 14) (rr64 x 18)) (rr64 x 41)
def sml0_64 (x : UInt64) : UInt64 := xo64 (xo64 (rr64 x 1) (rr64 x 8)) (sr64 x 7)
def sml1_64 (x : UInt64) : UInt64 := xo64 (xo64 (rr64 x 19) (rr64 x 61)) (sr64 x 6)
def ch64 (e f g : UInt64) : UInt64 := xo64 (and64 e f) (and64 (not64 e) g)
def maj64 (a b c : UInt64) : UInt64 := xo64 (xo64 (and64 a b) (and64 a c)) (and64 b c)
theorem sr64_toNat (x : UInt64) (n : Nat) : (sr64 x n).toNat = x.toNat / 2 ^ n := by
  unfold sr64
  rw [UInt64.toNat_ofNat']
  have h := x.toNat_lt
  have h2 : x.toNat / 2 ^ n ≤ x.toNat := Nat.div_le_self _ _
  exact Nat.mod_eq_of_lt (by omega)
theorem sl64_toNat (x : UInt64) (n : Nat) : (sl64 x n).toNat = x.toNat * 2 ^ n % 18446744073709551616 := UInt64.toNat_ofNat'
/-- Word t of a block. -/
def wrd64 (b : Nat → UInt8) (t : Nat) : UInt64 := UInt64.ofNat ((b (8 * t)).toNat * 72057594037927936 + (b (8 * t + 1)).toNat * 281474976710656 + (b (8 * t + 2)).toNat * 1099511627776 + (b (8 * t + 3)).toNat * 4294967296 + (b (8 * t + 4)).toNat * 16777216 + (b (8 * t + 5)).toNat * 65536 + (b (8 * t + 6)).toNat * 256 + (b (8 * t + 7)).toNat)
/-- The words of all rounds. -/
def W64 (b : Nat → UInt8) (t : Nat) : UInt64 :=
  if _h : t < 16 then wrd64 b t else pl64 (pl64 (pl64 (sml1_64 (W64 b (t - 2))) (W64 b (t - 7))) (sml0_64 (W64 b (t - 15)))) (W64 b (t - 16))
termination_by t
decreasing_by all_goals omega
theorem W64_low (b : Nat → UInt8) (t : Nat) (h : t < 16) : W64 b t = wrd64 b t := by rw [W64, dif_pos h]
theorem W64_up (b : Nat → UInt8) (t : Nat) (h : 16 ≤ t) : W64 b t = pl64 (pl64 (pl64 (sml1_64 (W64 b (t - 2))) (W64 b (t - 7))) (sml0_64 (W64 b (t - 15)))) (W64 b (t - 16)) := by
  rw [W64, dif_neg (by omega)]
def kl64 : List UInt64 := [4794697086780616226, 8158064640168781261, 13096744586834688815, 16840607885511220156, 4131703408338449720, 6480981068601479193, 10538285296894168987, 12329834152419229976, 15566598209576043074, 1334009975649890238, 2608012711638119052, 6128411473006802146, 8268148722764581231, 9286055187155687089, 11230858885718282805, 13951009754708518548, 16472876342353939154, 17275323862435702243, 1135362057144423861, 2597628984639134821, 3308224258029322869, 5365058923640841347, 6679025012923562964, 8573033837759648693, 10970295158949994411, 12119686244451234320, 12683024718118986047, 13788192230050041572, 14330467153632333762, 15395433587784984357, 489312712824947311, 1452737877330783856, 2861767655752347644, 3322285676063803686, 5560940570517711597, 5996557281743188959, 7280758554555802590, 8532644243296465576, 9350256976987008742, 10552545826968843579, 11727347734174303076, 12113106623233404929, 14000437183269869457, 14369950271660146224, 15101387698204529176, 15463397548674623760, 17586052441742319658, 1182934255886127544, 1847814050463011016, 2177327727835720531, 2830643537854262169, 3796741975233480872, 4115178125766777443, 5681478168544905931, 6601373596472566643, 7507060721942968483, 8399075790359081724, 8693463985226723168, 9568029438360202098, 10144078919501101548, 10430055236837252648, 11840083180663258601, 13761210420658862357, 14299343276471374635, 14566680578165727644, 15097957966210449927, 16922976911328602910, 17689382322260857208, 500013540394364858, 748580250866718886, 1242879168328830382, 1977374033974150939, 2944078676154940804, 3659926193048069267, 4368137639120453308, 4836135668995329356, 5532061633213252278, 6448918945643986474, 6902733635092675308, 7801388544844847127]
def hl64 : List UInt64 := [7640891576956012808, 13503953896175478587, 4354685564936845355, 11912009170470909681, 5840696475078001361, 11170449401992604703, 2270897969802886507, 6620516959819538809]
def K64 (i : Nat) : UInt64 := kl64.getD i 0
def H64 (i : Nat) : UInt64 := hl64.getD i 0
def one64 (w : UInt64) (t : Nat) (s : Nat → UInt64) : UInt64 := pl64 (pl64 (pl64 (pl64 (s 7) (big1_64 (s 4))) (ch64 (s 4) (s 5) (s 6))) (K64 t)) w
def two64 (s : Nat → UInt64) : UInt64 := pl64 (big0_64 (s 0)) (maj64 (s 0) (s 1) (s 2))
/-- A round. -/
def step64 (w : UInt64) (t : Nat) (s : Nat → UInt64) : Nat → UInt64
  | 0 => pl64 (one64 w t s) (two64 s)
  | 1 => s 0
  | 2 => s 1
  | 3 => s 2
  | 4 => pl64 (s 3) (one64 w t s)
  | 5 => s 4
  | 6 => s 5
  | _ => s 6
def rnd64 (b : Nat → UInt8) (s : Nat → UInt64) : Nat → Nat → UInt64
  | 0 => s
  | t + 1 => step64 (W64 b t) t (rnd64 b s t)
/-- The state behind a block. -/
def comp64 (b : Nat → UInt8) (s : Nat → UInt64) : Nat → UInt64 := fun i => pl64 (s i) (rnd64 b s 80 i)
/-- The state behind k blocks. -/
def hs64 (m : Nat → UInt8) : Nat → Nat → UInt64
  | 0 => H64
  | k + 1 => comp64 (fun j => m (128 * k + j)) (hs64 m k)
def nb64 (n : Nat) : Nat := (n + 16) / 128 + 1
/-- The message in whole blocks. -/
def pad64 (n : Nat) (f : Nat → UInt8) : Nat → UInt8 := fun j =>
  if j < n then f j else if j = n then 128 else if j < 128 * nb64 n - 8 then 0 else UInt8.ofNat (8 * n / 256 ^ (128 * nb64 n - 1 - j))
def out64 (s : Nat → UInt64) : Nat → UInt8 := fun i => UInt8.ofNat ((s (i / 8)).toNat / 2 ^ (56 - i % 8 * 8))
def sum64 (n : Nat) (f : Nat → UInt8) : Nat → UInt8 := out64 (hs64 (pad64 n f) (nb64 n))
theorem comp64_congr {b b' : Nat → UInt8} {s s' : Nat → UInt64} (hb : ∀ j, j < 128 → b j = b' j) (hs : ∀ i, i < 8 → s i = s' i) : ∀ i, i < 8 → comp64 b s i = comp64 b' s' i := by
  have hw : ∀ t, t < 16 → wrd64 b t = wrd64 b' t := fun t ht => by
    unfold wrd64
    rw [hb (8 * t) (by omega), hb (8 * t + 1) (by omega), hb (8 * t + 2) (by omega), hb (8 * t + 3) (by omega), hb (8 * t + 4) (by omega), hb (8 * t + 5) (by omega), hb (8 * t + 6) (by omega), hb (8 * t + 7) (by omega)]
  have hW : ∀ n t, t < n → W64 b t = W64 b' t := by
    intro n
    induction n with
    | zero => intro t ht; omega
    | succ n ih =>
      intro t ht
      by_cases h : t < 16
      · rw [W64_low _ _ h, W64_low _ _ h, hw t h]
      · rw [W64_up _ _ (by omega), W64_up b' _ (by omega), ih (t - 2) (by omega), ih (t - 7) (by omega), ih (t - 15) (by omega), ih (t - 16) (by omega)]
  have hr : ∀ t i, i < 8 → rnd64 b s t i = rnd64 b' s' t i := by
    intro t
    induction t with
    | zero => exact hs
    | succ t ih =>
      intro i hi
      show step64 (W64 b t) t (rnd64 b s t) i = step64 (W64 b' t) t (rnd64 b' s' t) i
      rw [hW (t + 1) t (by omega)]
      have e0 := ih 0 (by omega); have e1 := ih 1 (by omega); have e2 := ih 2 (by omega); have e3 := ih 3 (by omega); have e4 := ih 4 (by omega); have e5 := ih 5 (by omega); have e6 := ih 6 (by omega); have e7 := ih 7 (by omega)
      obtain rfl | rfl | rfl | rfl | rfl | rfl | rfl | rfl : i = 0 ∨ i = 1 ∨ i = 2 ∨ i = 3 ∨ i = 4 ∨ i = 5 ∨ i = 6 ∨ i = 7 := by omega
      all_goals (simp only [step64, one64, two64, e0, e1, e2, e3, e4, e5, e6, e7])
  intro i hi
  unfold comp64
  rw [hs i hi, hr 80 i hi]
end Go.Proofs.YtbbegnfopdihaaaGreatDoor

namespace Go.Proofs.YtbbegnfopdihaaaGreatDoor
open Go Go.RowKit

/-! ### Words -/
def sWq : Scal UInt64 := ⟨fun x => .int .u64 (x.toNat : Int), fun _ => rfl⟩
abbrev cWq : Cod UInt64 := sWq.cod
abbrev cQs (n : Nat) : Cod (Nat → UInt64) := sWq.vec n
section
variable {P : Program} {a : Act} {o : Oper} {w : World} {x y : Operand} {t t2 ty : TypeId} {u v z : UInt64}
theorem opAddQ (ho : o.op = .binOp .add t x y t2) (hx : a.eval x = .int .u64 (u.toNat : Int)) (hy : a.eval y = .int .u64 (v.toNat : Int)) (hz : pl64 u v = z) : (execOp a.eval o).run P w = .ok (.value (.int .u64 (z.toNat : Int))) w :=
  opAddU rfl ho hx hy (by subst hz; exact (UInt64.toNat_add u v).symm)
theorem opXorQ (ho : o.op = .binOp .xor t x y t2) (hx : a.eval x = .int .u64 (u.toNat : Int)) (hy : a.eval y = .int .u64 (v.toNat : Int)) (hz : xo64 u v = z) : (execOp a.eval o).run P w = .ok (.value (.int .u64 (z.toNat : Int))) w :=
  opXorU rfl ho hx hy u.toNat_lt v.toNat_lt (by subst hz; exact (UInt64.toNat_xor u v).symm)
theorem opAndQ (ho : o.op = .binOp .and t x y t2) (hx : a.eval x = .int .u64 (u.toNat : Int)) (hy : a.eval y = .int .u64 (v.toNat : Int)) (hz : and64 u v = z) : (execOp a.eval o).run P w = .ok (.value (.int .u64 (z.toNat : Int))) w :=
  opAndU rfl ho hx hy u.toNat_lt v.toNat_lt (by subst hz; exact (UInt64.toNat_and u v).symm)
theorem opOrQ (ho : o.op = .binOp .or t x y t2) (hx : a.eval x = .int .u64 (u.toNat : Int)) (hy : a.eval y = .int .u64 (v.toNat : Int)) (hz : or64 u v = z) : (execOp a.eval o).run P w = .ok (.value (.int .u64 (z.toNat : Int))) w :=
  opOrU rfl ho hx hy u.toNat_lt v.toNat_lt (by subst hz; exact (UInt64.toNat_or u v).symm)
theorem opShlQ {yk : IntKind} {n : Nat} (ho : o.op = .binOp .shl t x y t2) (hx : a.eval x = .int .u64 (u.toNat : Int)) (hy : a.eval y = .int yk (n : Int)) (hn : n ≤ 64) (hz : sl64 u n = z) : (execOp a.eval o).run P w = .ok (.value (.int .u64 (z.toNat : Int))) w :=
  opShlU rfl ho hx hy hn (by subst hz; exact (sl64_toNat u n).symm)
theorem opShrQ {yk : IntKind} {n : Nat} (ho : o.op = .binOp .shr t x y t2) (hx : a.eval x = .int .u64 (u.toNat : Int)) (hy : a.eval y = .int yk (n : Int)) (hn : n ≤ 64) (hz : sr64 u n = z) : (execOp a.eval o).run P w = .ok (.value (.int .u64 (z.toNat : Int))) w :=
  opShrU ho hx hy hn (by subst hz; exact (sr64_toNat u n).symm)
theorem compl_natQ (u : UInt64) : IntKind.u64.max.toNat ^^^ u.toNat = (not64 u).toNat := by
  show 18446744073709551615 ^^^ u.toNat = (~~~u).toNat
  rw [UInt64.toNat_not]
  have h : u.toNat < 2 ^ 64 := u.toNat_lt
  have e : (18446744073709551615 : Nat) = 2 ^ 64 - 1 := rfl
  apply Nat.eq_of_testBit_eq
  intro i
  rw [show UInt64.size - 1 - u.toNat = 2 ^ 64 - (u.toNat + 1) by show 18446744073709551616 - 1 - u.toNat = 18446744073709551616 - (u.toNat + 1); omega]
  rw [Nat.testBit_xor, e, Nat.testBit_two_pow_sub_one, Nat.testBit_two_pow_sub_succ h]
  by_cases hi : i < 64
  · simp [hi]
  · have := Nat.testBit_lt_two_pow (Nat.lt_of_lt_of_le h (Nat.pow_le_pow_right (by decide) (show 64 ≤ i by omega)))
    simp [hi, this]
theorem opNotQ (ho : o.op = .unOp .xor t x) (hx : a.eval x = .int .u64 (u.toNat : Int)) (hz : not64 u = z) : (execOp a.eval o).run P w = .ok (.value (.int .u64 (z.toNat : Int))) w := by
  subst hz
  have e : IntKind.u64.wrap ((BitVec.ofInt 64 (18446744073709551615 : Int) ^^^ BitVec.ofInt 64 (u.toNat : Int)).toNat : Int) = ((not64 u).toNat : Int) := by
    rw [BitVec.toNat_xor, show (18446744073709551615 : Int) = ((18446744073709551615 : Nat) : Int) from rfl, ofInt_nat _ _ (by decide), ofInt_nat _ _ u.toNat_lt, wrapU rfl]
    congr 1
    have := compl_natQ u
    rw [show 18446744073709551615 ^^^ u.toNat = (not64 u).toNat from this]
    exact Nat.mod_eq_of_lt (not64 u).toNat_lt
  unfold execOp
  simp only [ho, hx, Sem.run_bind, Sem.run_pure]
  show ((Op.unary .xor (.int .u64 (u.toNat : Int))).run P w).andThen _ = _
  have h : (Op.unary .xor (.int .u64 (u.toNat : Int))).run P w = .ok (.int .u64 ((not64 u).toNat : Int)) w := by
    show ((pure (.int .u64 (IntKind.u64.wrap ((BitVec.ofInt 64 (18446744073709551615 : Int) ^^^ BitVec.ofInt 64 (u.toNat : Int)).toNat : Int))) : Sem Value)).run P w = _
    rw [e]; rfl
  rw [h]; rfl
end
section
variable {P : Program} {o : Oper} {n : Sz} {l : Slots} {x y : Operand} {t t2 ty src : TypeId} {u v z : UInt64} {k : IntKind}
theorem Vl.aq (z : UInt64) (ho : o.op = .binOp .add t x y t2 := by exact rfl) (hx : vo l x = some (.int .u64 (u.toNat : Int)) := by exact rfl) (hy : vo l y = some (.int .u64 (v.toNat : Int)) := by exact rfl) (hz : pl64 u v = z := by exact rfl) : Vl P n l o (.int .u64 (z.toNat : Int)) := fun _ _ hF => opAddQ ho (hF.vo hx) (hF.vo hy) hz
theorem Vl.xq (z : UInt64) (ho : o.op = .binOp .xor t x y t2 := by exact rfl) (hx : vo l x = some (.int .u64 (u.toNat : Int)) := by exact rfl) (hy : vo l y = some (.int .u64 (v.toNat : Int)) := by exact rfl) (hz : xo64 u v = z := by exact rfl) : Vl P n l o (.int .u64 (z.toNat : Int)) := fun _ _ hF => opXorQ ho (hF.vo hx) (hF.vo hy) hz
theorem Vl.oq (z : UInt64) (ho : o.op = .binOp .or t x y t2 := by exact rfl) (hx : vo l x = some (.int .u64 (u.toNat : Int)) := by exact rfl) (hy : vo l y = some (.int .u64 (v.toNat : Int)) := by exact rfl) (hz : or64 u v = z := by exact rfl) : Vl P n l o (.int .u64 (z.toNat : Int)) := fun _ _ hF => opOrQ ho (hF.vo hx) (hF.vo hy) hz
theorem Vl.nq (z : UInt64) (ho : o.op = .binOp .and t x y t2 := by exact rfl) (hx : vo l x = some (.int .u64 (u.toNat : Int)) := by exact rfl) (hy : vo l y = some (.int .u64 (v.toNat : Int)) := by exact rfl) (hz : and64 u v = z := by exact rfl) : Vl P n l o (.int .u64 (z.toNat : Int)) := fun _ _ hF => opAndQ ho (hF.vo hx) (hF.vo hy) hz
theorem Vl.cq (ho : o.op = .unOp .xor t x := by exact rfl) (hx : vo l x = some (.int .u64 (u.toNat : Int)) := by exact rfl) : Vl P n l o (.int .u64 ((not64 u).toNat : Int)) := fun _ _ hF => opNotQ ho (hF.vo hx) rfl
theorem Vl.lq (q : Nat) (ho : o.op = .binOp .shl t x y t2 := by exact rfl) (hx : vo l x = some (.int .u64 (u.toNat : Int)) := by exact rfl) (hy : vo l y = some (.int k (q : Int)) := by exact rfl) (hq : q ≤ 64 := by omega) : Vl P n l o (.int .u64 ((sl64 u q).toNat : Int)) := fun _ _ hF => opShlQ ho (hF.vo hx) (hF.vo hy) hq rfl
theorem Vl.rq (q : Nat) (ho : o.op = .binOp .shr t x y t2 := by exact rfl) (hx : vo l x = some (.int .u64 (u.toNat : Int)) := by exact rfl) (hy : vo l y = some (.int k (q : Int)) := by exact rfl) (hq : q ≤ 64 := by omega) : Vl P n l o (.int .u64 ((sr64 u q).toNat : Int)) := fun _ _ hF => opShrQ ho (hF.vo hx) (hF.vo hy) hq rfl
end
theorem opConvQ {P : Program} {a : Act} {o : Oper} {w : World} {x : Operand} {z : UInt64} {src dst : TypeId} {k : IntKind} {m : Nat} (ho : o.op = .convert src dst x) (hsrc : (P.underlying src).isSome = true) (hd : P.underlying dst = some (.int .u64)) (hx : a.eval x = .int k (m : Int)) (hz : UInt64.ofNat m = z) : (execOp a.eval o).run P w = .ok (.value (.int .u64 (z.toNat : Int))) w :=
  opConvU rfl ho hsrc hd hx (by subst hz; exact UInt64.toNat_ofNat'.symm)
theorem rr64_or (x : UInt64) (n : Nat) : or64 (sl64 x (64 - n)) (sr64 x n) = rr64 x n := by
  unfold rr64 or64
  exact UInt64.or_comm _ _
/-- The number of the first k bytes of word j. -/
def pn64 (b : Nat → UInt8) (j : Nat) : Nat → Nat
  | 0 => 0
  | k + 1 => pn64 b j k * 256 + (b (8 * j + k)).toNat
theorem pn64_lt (b : Nat → UInt8) (j k : Nat) : pn64 b j k < 256 ^ k := by
  induction k with
  | zero => simp [pn64]
  | succ k ih =>
    have h := (b (8 * j + k)).toNat_lt
    show pn64 b j k * 256 + (b (8 * j + k)).toNat < 256 ^ (k + 1)
    rw [Nat.pow_succ]
    omega
/-- How many bytes of word j are among the first m. -/
def cn64 (m j : Nat) : Nat := min 8 (m - 8 * j)
def pr64 (b : Nat → UInt8) (m : Nat) : Nat → UInt64 := fun j => UInt64.ofNat (pn64 b j (cn64 m j))
set_option maxRecDepth 100000 in
theorem pr64_step (b : Nat → UInt8) (m i : Nat) (hi : i = m / 8) : or64 (sl64 (pr64 b m i) 8) (UInt64.ofNat (b m).toNat) = pr64 b (m + 1) i := by
  have h1 : cn64 m i = m % 8 := by unfold cn64; omega
  have h2 : cn64 (m + 1) i = m % 8 + 1 := by unfold cn64; omega
  have h3 := pn64_lt b i (m % 8)
  have h4 : 256 ^ (m % 8) ≤ 256 ^ 7 := Nat.pow_le_pow_right (by omega) (by omega)
  have h5 := (b m).toNat_lt
  apply UInt64.toNat_inj.1
  unfold or64
  rw [UInt64.toNat_or, sl64_toNat]
  unfold pr64
  rw [h1, h2]
  show _ = (UInt64.ofNat (pn64 b i (m % 8) * 256 + (b (8 * i + m % 8)).toNat)).toNat
  rw [show 8 * i + m % 8 = m by omega]
  simp only [UInt64.toNat_ofNat']
  generalize pn64 b i (m % 8) = P at *
  have hP : P < 72057594037927936 := Nat.lt_of_lt_of_le h3 h4
  rw [show P % 2 ^ 64 * 2 ^ 8 % 18446744073709551616 = P * 2 ^ 8 by omega, Nat.mod_eq_of_lt (show (b m).toNat < 2 ^ 64 by omega), or_add8 _ _ h5, Nat.mod_eq_of_lt (show P * 256 + (b m).toNat < 2 ^ 64 by omega)]
theorem pr64_set (b : Nat → UInt8) (m i : Nat) (x : UInt64) (hi : i = m / 8) (hx : x = pr64 b (m + 1) i) : stF (pr64 b m) i x = pr64 b (m + 1) := by
  subst hx
  funext j
  unfold stF
  by_cases h : j = i
  · rw [if_pos h, h]
  · rw [if_neg h]
    unfold pr64
    rw [show cn64 m j = cn64 (m + 1) j by unfold cn64; omega]
theorem pr64_zero (b : Nat → UInt8) : pr64 b 0 = fun _ => 0 := by
  funext j
  unfold pr64
  rw [show cn64 0 j = 0 by unfold cn64; omega]
  rfl
set_option maxRecDepth 100000 in
theorem pr64_all (b : Nat → UInt8) (j : Nat) (hj : j < 16) : pr64 b 128 j = W64 b j := by
  rw [W64_low _ _ hj]
  unfold pr64 wrd64
  rw [show cn64 128 j = 8 by unfold cn64; omega]
  congr 1
  show ((((((((0) * 256 + (b (8 * j + 0)).toNat) * 256 + (b (8 * j + 1)).toNat) * 256 + (b (8 * j + 2)).toNat) * 256 + (b (8 * j + 3)).toNat) * 256 + (b (8 * j + 4)).toNat) * 256 + (b (8 * j + 5)).toNat) * 256 + (b (8 * j + 6)).toNat) * 256 + (b (8 * j + 7)).toNat = _
  rw [show 8 * j + 0 = 8 * j from rfl]
  omega
theorem up_firstQ (b : Nat → UInt8) : upF 16 (W64 b) (pr64 b 128) = pr64 b 128 := by
  funext j
  unfold upF
  by_cases h : j < 16
  · rw [if_pos h, pr64_all b j h]
  · rw [if_neg h]
theorem up_wordQ {f : Nat → UInt64} {b : Nat → UInt8} {t : Nat} (h : 16 ≤ t) : pl64 (pl64 (pl64 (sml1_64 (upF t (W64 b) f (t - 2))) (upF t (W64 b) f (t - 7))) (sml0_64 (upF t (W64 b) f (t - 15)))) (upF t (W64 b) f (t - 16)) = W64 b t := by
  rw [upF_lt _ _ (by omega), upF_lt _ _ (by omega), upF_lt _ _ (by omega), upF_lt _ _ (by omega), ← W64_up b t h]
/-! ### The padding -/
theorem pm64_pad (n : Nat) (f : Nat → UInt8) (j : Nat) : pm32 (128 * nb64 n - n) n 8 j = pad64 n f (n + j) := by
  have h : 128 * nb64 n = n + 16 - (n + 16) % 128 + 128 := by unfold nb64; omega
  have h2 := Nat.mod_lt (n + 16) (show 0 < 128 by omega)
  unfold pm32 pad64
  rw [if_neg (by omega : ¬ n + j < n)]
  by_cases h0 : j = 0
  · rw [if_neg (by omega), if_pos h0, if_pos (by omega)]
  · rw [if_neg (by omega : ¬ n + j = n)]
    by_cases h8 : 128 * nb64 n - n - 8 ≤ j
    · rw [if_pos h8, if_neg (by omega), show 128 * nb64 n - n - 1 - j = 128 * nb64 n - 1 - (n + j) by omega]
    · rw [if_neg h8, if_neg h0, if_pos (by omega)]
def pdQ (n : Nat) : List UInt8 := lst (128 * nb64 n - n) (pm32 (128 * nb64 n - n) n 8)
theorem pdQ_len (n : Nat) : (pdQ n).length = 128 * nb64 n - n := lst_len _ _
theorem nb64_ge (n : Nat) : n + 16 < 128 * nb64 n ∧ 128 * nb64 n ≤ n + 144 := by unfold nb64; omega
theorem pdQ_at {n : Nat} (f : Nat → UInt8) : ∀ j x, (pdQ n)[j]? = some x → pad64 n f (n + j) = x := fun j x hx => by
  have hj : j < 128 * nb64 n - n := by
    have := (List.getElem?_eq_some_iff.1 hx).1
    rwa [pdQ_len] at this
  unfold pdQ at hx
  rw [lst_get hj, pm64_pad n f j] at hx
  exact Option.some.inj hx
theorem pad64_low (n : Nat) (f : Nat → UInt8) (j : Nat) (h : j < n) : f j = pad64 n f j := by unfold pad64; rw [if_pos h]
/-- The SHA-512 of a list. -/
def shaQ (l : List UInt8) : Nat → UInt8 := sum64 l.length fun j => l.getD j 0
theorem out64_at (s : Nat → UInt64) (m : Nat) : UInt8.ofNat (sr64 (s (m / 8)) (56 - m % 8 * 8)).toNat = out64 s m := by rw [sr64_toNat]; rfl
end Go.Proofs.YtbbegnfopdihaaaGreatDoor

namespace Go.Proofs.YtbbegnfopdihaaaGreatDoor
open Go Go.RowKit

/-- A byte as a value. -/
def by64 (x : UInt64) : Value := .int .u64 (x.toNat : Int)
/-- n words as the cells of an array. -/
def row64 (n : Nat) (f : Nat → UInt64) : Array Value := Array.ofFn fun i : Fin n => by64 (f i)

theorem row64_size (n : Nat) (f : Nat → UInt64) : (row64 n f).size = n := by simp [row64]
theorem row64_get (n : Nat) (f : Nat → UInt64) (i : Nat) (h : i < n) : (row64 n f)[i]? = some (by64 (f i)) := by
  simp [row64, h]
theorem row64_congr {n : Nat} {f g : Nat → UInt64} (h : ∀ i, i < n → f i = g i) : row64 n f = row64 n g := by
  unfold row64
  congr 1
  funext i
  rw [h i.1 i.2]
theorem row64_set (n : Nat) (f : Nat → UInt64) (i : Nat) (x : UInt64) : (row64 n f).setIfInBounds i (by64 x) = row64 n fun j => if j = i then x else f j := by
  apply Array.ext
  · simp [row64]
  · intro j h1 h2
    simp only [row64, Array.size_setIfInBounds, Array.size_ofFn] at h1
    rw [Array.getElem_setIfInBounds]
    · simp only [row64, Array.getElem_ofFn]
      by_cases h : i = j
      · subst h; simp
      · have h' : ¬ j = i := fun e => h e.symm
        simp [h, h']
    · simp [row64]; exact h1
theorem row64_one (n : Nat) (f : Nat → UInt64) : (row64 n f).all (·.oneCell') = true := by
  rw [Array.all_eq_true_iff_forall_mem]
  intro v hv
  simp only [row64, Array.mem_ofFn] at hv
  obtain ⟨i, rfl⟩ := hv
  rfl
/-- Block g is just the n words f, none frozen. -/
def Row64 (w : World) (g : Nat) (t : TypeId) (n : Nat) (f : Nat → UInt64) : Prop := w.heap[g]? = some (.cells (row64 n f) t (0, 0))

section
variable {w w' : World} {g : Nat} {t : TypeId} {n : Nat} {f : Nat → UInt64}
theorem Row64.lt (h : Row64 w g t n f) : g < w.heap.size := by
  rcases Nat.lt_or_ge g w.heap.size with hlt | hge
  · exact hlt
  · unfold Row64 at h; rw [Array.getElem?_eq_none hge] at h; cases h
theorem Row64.cell (h : Row64 w g t n f) (i : Nat) (hi : i < n) : w.cell? ⟨g, i, none⟩ = some (.int .u64 ((f i).toNat : Int)) := by
  rw [cell_of_row w g i _ t (0, 0) h, row64_get n f i hi]; rfl
theorem Row64.frozen (h : Row64 w g t n f) (i : Nat) : w.frozen? ⟨g, i, none⟩ = false := by
  unfold Row64 at h
  simp [World.frozen?, h]
theorem Row64.new (w : World) (t : TypeId) (n : Nat) (f : Nat → UInt64) : Row64 (w.alloc (.cells (row64 n f) t)) w.heap.size t n f := heap_alloc_new w _
theorem Row64.drew (h : Row64 w g t n f) : Row64 w.drew g t n f := h
theorem Row64.alloc (h : Row64 w g t n f) (o : Obj) : Row64 (w.alloc o) g t n f := (Below.heap_alloc w o g h.lt).trans h
theorem Row64.set_ (h : Row64 w g t n f) (i : Nat) (x : UInt64) : Row64 (w.setCell ⟨g, i, none⟩ (.int .u64 (x.toNat : Int))) g t n fun j => if j = i then x else f j := by
  unfold Row64 at h ⊢
  rw [heap_setCell_same w g i _ t _ h]
  congr 2
  exact row64_set n f i x
theorem Row64.far (h : Row64 w g t n f) {p : Addr} (hp : g ≠ p.block) (u : Value) : Row64 (w.setCell p u) g t n f := (Below.heap_setCell w p u g hp).trans h
theorem Row64.below {B : Nat} (h : Row64 w g t n f) (hb : Below B w w') (hg : g < B) : Row64 w' g t n f := (hb.block g hg).trans h
theorem Row64.congr {f' : Nat → UInt64} (h : Row64 w g t n f) (hf : ∀ i, i < n → f i = f' i) : Row64 w g t n f' := by
  unfold Row64 at *; rw [h, row64_congr hf]
theorem Row64.setRow (h : Row64 w g t n f) (f' : Nat → UInt64) : Row64 (w.setRow g (row64 n f')) g t n f' := setRow_heap w g _ _ t (0, 0) h
theorem Row64.setRow_far (h : Row64 w g t n f) {k : Nat} (hk : k ≠ g) (cs : Array Value) : Row64 (w.setRow k cs) g t n f := (setRow_other w k g cs (Ne.symm hk)).trans h
end

section
variable {P : Program} {w : World}
/-- A whole array of words stored into a block of its size. -/
theorem wpList_store_Row64 {ops : Array Oper} {rest : List Oper} {o : Oper} {a : Act} {Q : Exit → Act → World → Prop} (hgd : o.guard = none) (ty : TypeId) (x y : Operand) (ho : o.op = .store ty x y)
    (g : Nat) (hx : a.eval x = .pointer (some ⟨g, 0, none⟩)) (t : TypeId) (n : Nat) (f f' : Nat → UInt64) (hy : a.eval y = .agg (row64 n f')) (hg : Row64 w g t n f) (hi : (P.info? ty).map (·.size) = some n)
    (h : wpList P ops Q rest (a.put o.dst undef) (w.setRow g (row64 n f'))) : wpList P ops Q (o :: rest) a w :=
  wpList_store_row hgd ty x y ho g (row64 n f') hx hy t (row64 n f) hg (by rw [hi, row64_size]) (by rw [row64_size, row64_size]) (row64_one n f') h
theorem wp_store_Row64 {o : Oper} {a : Act} {K : Act → World → Prop} {Q : Exit → Act → World → Prop} (ty : TypeId) (x y : Operand) (ho : o.op = .store ty x y)
    (g : Nat) (hx : a.eval x = .pointer (some ⟨g, 0, none⟩)) (t : TypeId) (n : Nat) (f f' : Nat → UInt64) (hy : a.eval y = .agg (row64 n f')) (hg : Row64 w g t n f) (hi : (P.info? ty).map (·.size) = some n)
    (h : K (a.put o.dst undef) (w.setRow g (row64 n f'))) : o.wp P a w K Q :=
  wp_store_row ty x y ho g (row64 n f') hx hy t (row64 n f) hg (by rw [hi, row64_size]) (by rw [row64_size, row64_size]) (row64_one n f') h
/-- The last operation of a region: a whole array stored. (Never leave a goal whose head is 'Oper.wp' to refine.) -/
theorem Seq.store_Row64 {ops : Array Oper} {S : World → Prop} {Q : Exit → Act → World → Prop} {o : Oper} {a : Act} (hwant : Region.wanted o (yielded ops a.tmps) = true) (ty : TypeId) (x y : Operand) (ho : o.op = .store ty x y)
    (g : Nat) (hx : a.eval x = .pointer (some ⟨g, 0, none⟩)) (t : TypeId) (n : Nat) (f f' : Nat → UInt64) (hy : a.eval y = .agg (row64 n f')) (hg : ∀ w, S w → Row64 w g t n f) (hi : (P.info? ty).map (·.size) = some n)
    (h : ∀ w, S w → Q .normal (a.put o.dst undef) (w.setRow g (row64 n f'))) : Seq P ops Q S [o] a :=
  Seq.last hwant fun w hS => wp_store_Row64 ty x y ho g hx t n f f' hy (hg w hS) hi (h w hS)
end

section
variable {P : Program} {w : World}
/-- A new variable that is an array of words. -/
theorem run_alloc_Row64 (ty : TypeId) (n : Nat) (hz : (P.info? ty).bind (·.zero) = some (.agg (row64 n fun _ => 0))) (w : World) :
    (Instr.alloc ty true (.tuple #[])).run P w = .ok (.pointer (some ⟨w.heap.size, 0, none⟩)) (w.alloc (.cells (row64 n fun _ => 0) ty)) := by
  cases hq : P.info? ty with
  | none => simp [hq] at hz
  | some i =>
    have hs : i.zero = some (.agg (row64 n fun _ => 0)) := by simpa [hq] using hz
    simp [Instr.alloc, zeroValue, typeInfo, hq, hs, newVar, newRow, Value.cells]
theorem wpList_alloc_Row64 {ops : Array Oper} {rest : List Oper} {o : Oper} {a : Act} {Q : Exit → Act → World → Prop} (hgd : o.guard = none) (ty : TypeId) (ho : o.op = .alloc ty) (n : Nat)
    (hz : (P.info? ty).bind (·.zero) = some (.agg (row64 n fun _ => 0)))
    (h : wpList P ops Q rest (a.put o.dst (.pointer (some ⟨w.heap.size, 0, none⟩))) (w.alloc (.cells (row64 n fun _ => 0) ty))) : wpList P ops Q (o :: rest) a w :=
  wpList_plain hgd fun _ hK => by
    unfold Oper.wp execOp
    simp only [ho, Sem.run_bind, Sem.run_pure, Result.andThen_ok, run_alloc_Row64 ty n hz]
    exact hK _ _ h
end

end Go.Proofs.YtbbegnfopdihaaaGreatDoor

namespace Go.Proofs.YtbbegnfopdihaaaGreatDoor
open Go Go.RowKit

def sl8 (u : UInt8) (n : Nat) : UInt8 := UInt8.ofNat (u.toNat * 2 ^ n)
def sr8 (u : UInt8) (n : Nat) : UInt8 := UInt8.ofNat (u.toNat / 2 ^ n)
theorem sl8_nat (u : UInt8) (n : Nat) : (sl8 u n).toNat = (u.toNat * 2 ^ n) % 256 := UInt8.toNat_ofNat'
theorem sr8_nat (u : UInt8) (n : Nat) : (sr8 u n).toNat = u.toNat / 2 ^ n := by
  unfold sr8
  rw [UInt8.toNat_ofNat']
  exact Nat.mod_eq_of_lt (Nat.lt_of_le_of_lt (Nat.div_le_self _ _) u.toNat_lt)
theorem ofInt8 (u : UInt8) : BitVec.ofInt 8 (u.toNat : Int) = u.toBitVec := by
  apply BitVec.eq_of_toNat_eq
  rw [ofInt_nat _ _ u.toNat_lt]; rfl
theorem wrap8u (u : UInt8) : IntKind.u8.wrap (u.toNat : Int) = (u.toNat : Int) := by
  rw [wrapU rfl, Nat.mod_eq_of_lt]; exact u.toNat_lt
theorem andNot8 (u v : UInt8) : bits .andNot .u8 (u.toNat : Int) (v.toNat : Int) = ((u &&& ~~~v).toNat : Int) := by
  show IntKind.u8.wrap ((BitVec.ofInt 8 (u.toNat : Int) &&& ~~~BitVec.ofInt 8 (v.toNat : Int)).toNat : Int) = _
  rw [ofInt8, ofInt8, ← wrap8u]
  rfl
section
variable {P : Program} {o : Oper} {n : Sz} {l : Slots} {x y : Operand} {t t2 ty src : TypeId} {u v z : UInt8} {k : IntKind}
theorem Vl.ab (z : UInt8) (ho : o.op = .binOp .and t x y t2 := by exact rfl) (hx : vo l x = some (.int .u8 (u.toNat : Int)) := by exact rfl) (hy : vo l y = some (.int .u8 (v.toNat : Int)) := by exact rfl) (hz : u &&& v = z := by exact rfl) : Vl P n l o (.int .u8 (z.toNat : Int)) := fun _ _ hF =>
  opAndU rfl ho (hF.vo hx) (hF.vo hy) u.toNat_lt v.toNat_lt (by subst hz; exact (UInt8.toNat_and u v).symm)
theorem Vl.ob (z : UInt8) (ho : o.op = .binOp .or t x y t2 := by exact rfl) (hx : vo l x = some (.int .u8 (u.toNat : Int)) := by exact rfl) (hy : vo l y = some (.int .u8 (v.toNat : Int)) := by exact rfl) (hz : u ||| v = z := by exact rfl) : Vl P n l o (.int .u8 (z.toNat : Int)) := fun _ _ hF =>
  opOrU rfl ho (hF.vo hx) (hF.vo hy) u.toNat_lt v.toNat_lt (by subst hz; exact (UInt8.toNat_or u v).symm)
theorem Vl.xb (z : UInt8) (ho : o.op = .binOp .xor t x y t2 := by exact rfl) (hx : vo l x = some (.int .u8 (u.toNat : Int)) := by exact rfl) (hy : vo l y = some (.int .u8 (v.toNat : Int)) := by exact rfl) (hz : u ^^^ v = z := by exact rfl) : Vl P n l o (.int .u8 (z.toNat : Int)) := fun _ _ hF =>
  opXorU rfl ho (hF.vo hx) (hF.vo hy) u.toNat_lt v.toNat_lt (by subst hz; exact (UInt8.toNat_xor u v).symm)
theorem Vl.mb (z : UInt8) (ho : o.op = .binOp .sub t x y t2 := by exact rfl) (hx : vo l x = some (.int .u8 (u.toNat : Int)) := by exact rfl) (hy : vo l y = some (.int .u8 (v.toNat : Int)) := by exact rfl) (hz : u - v = z := by exact rfl) : Vl P n l o (.int .u8 (z.toNat : Int)) := fun _ _ hF =>
  opSubU rfl ho (hF.vo hx) (hF.vo hy) (Nat.le_of_lt v.toNat_lt) (by subst hz; rw [UInt8.toNat_sub, Nat.add_comm]; rfl)
theorem Vl.nb (z : UInt8) (ho : o.op = .binOp .andNot t x y t2 := by exact rfl) (hx : vo l x = some (.int .u8 (u.toNat : Int)) := by exact rfl) (hy : vo l y = some (.int .u8 (v.toNat : Int)) := by exact rfl) (hz : u &&& ~~~v = z := by exact rfl) : Vl P n l o (.int .u8 (z.toNat : Int)) := fun a w hF => by
  subst hz
  unfold execOp
  simp only [ho, hF.vo hx, hF.vo hy]
  rw [← andNot8]
  rfl
theorem Vl.lb (q : Nat) (ho : o.op = .binOp .shl t x y t2 := by exact rfl) (hx : vo l x = some (.int .u8 (u.toNat : Int)) := by exact rfl) (hy : vo l y = some (.int k (q : Int)) := by exact rfl) (hq : q ≤ 8 := by omega) : Vl P n l o (.int .u8 ((sl8 u q).toNat : Int)) := fun _ _ hF => opShlU rfl ho (hF.vo hx) (hF.vo hy) hq (sl8_nat u q).symm
theorem Vl.rb (q : Nat) (ho : o.op = .binOp .shr t x y t2 := by exact rfl) (hx : vo l x = some (.int .u8 (u.toNat : Int)) := by exact rfl) (hy : vo l y = some (.int k (q : Int)) := by exact rfl) (hq : q ≤ 8 := by omega) : Vl P n l o (.int .u8 ((sr8 u q).toNat : Int)) := fun _ _ hF => opShrU ho (hF.vo hx) (hF.vo hy) hq (sr8_nat u q).symm
theorem Vl.gb (ho : o.op = .unOp .neg t x := by exact rfl) (hx : vo l x = some (.int .u8 (u.toNat : Int)) := by exact rfl) : Vl P n l o (.int .u8 ((-u).toNat : Int)) := fun _ _ hF => opNegI ho (hF.vo hx) (by
  have h := u.toNat_lt
  rw [UInt8.toNat_neg]
  unfold IntKind.wrap
  show (0 - (u.toNat : Int)) % 256 = (((2 ^ 8 - u.toNat) % 2 ^ 8 : Nat) : Int)
  omega)
end
/-! ### Two results that are cells -/
theorem qxRetCC {P : Program} {w : World} {t ty t' ty' : TypeId} {k k' g g' : Nat} {cs cs' : Array Value} {l : Slots} {fn : Func} {RR : Ending → World → Prop} {nn : Nat} {p p' : Tmp} (i j : Nat) (hb : w.heap[g]? = some (.cells cs t (0, 0))) (hb' : w.heap[g']? = some (.cells cs' t' (0, 0))) (hf : fn.results = #[.cell p ty, .cell p' ty']) (hi : l[i]? = some (p, .pointer (some ⟨g, 0, none⟩))) (hj : l[j]? = some (p', .pointer (some ⟨g', 0, none⟩))) (hdd : (P.underlying ty).map (·.isRow) = some true) (hdd' : (P.underlying ty').map (·.isRow) = some true) (hk : cs.size = k) (hk' : cs'.size = k') (hs : (P.info? ty).map (·.size) = some k) (hs' : (P.info? ty').map (·.size) = some k') (hR : RR (.returned (.tuple #[.agg cs, .agg cs'])) w) : QX (bodyPost P fn RR) .ret ⟨nn, []⟩ l w := fun a hF => by
  obtain ⟨d, hu, hdr⟩ := isRow_desc hdd
  obtain ⟨d', hu', hdr'⟩ := isRow_desc hdd'
  have hp : a.tmps.getD p undef = .pointer (some ⟨g, 0, none⟩) := hF.at i hi
  have hp' : a.tmps.getD p' undef = .pointer (some ⟨g', 0, none⟩) := hF.at j hj
  refine bodyPost_ret (v := .tuple #[.agg cs, .agg cs']) ?_ hF.defers hR
  have hl := run_loadVar_row (P := P) w g t ty cs (0, 0) d hb hu (by cases d <;> first | rfl | cases hdr) (by rw [hs, hk])
  have hl' := run_loadVar_row (P := P) w g' t' ty' cs' (0, 0) d' hb' hu' (by cases d' <;> first | rfl | cases hdr') (by rw [hs', hk'])
  simp only [Array.getD_eq_getD_getElem?] at hp hp'
  simp [results, hf, hp, hp', asAddr, hl, hl']
/-! ### '==' of structs of words -/
section
variable {P : Program} {w : World} {e t : TypeId}
theorem eqFields_w (d n : Nat) (he : P.underlying e = some (.int .u64)) (f g : Nat → UInt64) : ∀ (fs : List Field) (os : List Nat), fs.map (fun f => (f.name != "_", f.type, f.offset)) = os.map (fun i => (true, e, i)) → (∀ i ∈ os, i < n) →
    (Op.eqFields (d + 1) (row64 n f) (row64 n g) fs).run P w = .ok (os.all fun i => f i == g i) w
  | [], [], _, _ => by simp [Op.eqFields]
  | [], _ :: _, h, _ => by simp at h
  | _ :: _, [], h, _ => by simp at h
  | q :: fs, i :: os, h, hn => by
    rw [List.map_cons, List.map_cons, List.cons.injEq] at h
    obtain ⟨h0, h⟩ := h
    simp only [Prod.mk.injEq] at h0
    obtain ⟨a1, a2, a3⟩ := h0
    have hi := hn i (by simp)
    have h1 := row64_get n f i hi
    have h2 := row64_get n g i hi
    have ih := eqFields_w d n he f g fs os h fun j hj => hn j (by simp [hj])
    have p1 : (part q.type (row64 n f) q.offset).run P w = .ok (by64 (f i)) w := by rw [a2, a3]; simp [part, isAgg, run_underlying he, h1]
    have p2 : (part q.type (row64 n g) q.offset).run P w = .ok (by64 (g i)) w := by rw [a2, a3]; simp [part, isAgg, run_underlying he, h2]
    have p3 : (Op.equalIn (d + 1) q.type (by64 (f i)) (by64 (g i))).run P w = .ok (f i == g i) w := by
      have e1 : ((f i).toNat == (g i).toNat) = (f i == g i) := by
        rw [Bool.eq_iff_iff]
        simp [← UInt64.toNat_inj]
      have e2 : (((f i).toNat : Int) == ((g i).toNat : Int)) = (f i == g i) := by
        rw [← e1, Bool.eq_iff_iff]
        simp
        omega
      rw [a2]
      simp [Op.equalIn, run_underlying he, by64, e2]
    have a1' : (q.name ≠ "_") = True := by simpa using a1
    simp only [Op.eqFields, a1', if_true, Sem.run_bind, p1, p2, p3, Result.andThen_ok, List.all_cons]
    cases f i == g i
    · simp
    · simpa using ih
def fsOk (P : Program) (t e : TypeId) (n : Nat) : Bool := match P.underlying t with
  | some (.struct fs) => fs.toList.map (fun f => (f.name != "_", f.type, f.offset)) == (List.range n).map fun i => (true, e, i)
  | _ => false
theorem opEqQs {n : Nat} {f g : Nat → UInt64} {a : Act} {o : Oper} {x y : Operand} {t2 : TypeId} {p : Prop} [Decidable p] (ho : o.op = .binOp .eql t x y t2) (hf : fsOk P t e n = true) (he : P.underlying e = some (.int .u64)) (hs : P.stoodInHeld t = false)
    (hx : a.eval x = (cQs n).val f) (hy : a.eval y = (cQs n).val g) (hq : P.eqGuardType P.depth t = false) (hb : (∀ i, i < n → f i = g i) ↔ p) : (execOp a.eval o).run P w = .ok (.value (.bool (decide p))) w := by
  unfold fsOk at hf
  split at hf
  · rename_i fs hu
    have hft : P.fieldsOf t = fs := by unfold Program.fieldsOf; rw [hu]
    have h := run_equalIn_struct (P := P) w 9999 t (row64 n f) (row64 n g) (by rw [hft]; exact hu) hs
    rw [hft, eqFields_w 9998 n he f g _ _ (by simpa using hf) (fun j hj => List.mem_range.1 hj)] at h
    have hd : ((List.range n).all fun i => f i == g i) = decide p := by
      rw [Bool.eq_iff_iff, List.all_eq_true, decide_eq_true_iff, ← hb]
      simp
    rw [hd] at h
    have h2 : (binOp .eql t (.agg (row64 n f)) (.agg (row64 n g))).run P w = .ok (.bool (decide p)) w := by
      rw [run_eql_struct, h]; rfl
    have hx' : a.eval x = .agg (row64 n f) := hx
    have hy' : a.eval y = .agg (row64 n g) := hy
    unfold execOp
    simp only [ho, hx', hy']
    simp [eqGuard, h2, hq]
  · cases hf
end
end Go.Proofs.YtbbegnfopdihaaaGreatDoor

namespace Go.Proofs.YtbbegnfopdihaaaGreatDoor

/-- A number in k bytes, the highest first; the number that bytes are. -/
def beL (k n : Nat) : List UInt8 := (List.range k).map fun j => UInt8.ofNat (n / 2 ^ (8 * (k - 1 - j)))
theorem beL_len (k n : Nat) : (beL k n).length = k := by simp [beL]
theorem beL_get {k n j : Nat} (h : j < k) : (beL k n)[j]? = some (UInt8.ofNat (n / 2 ^ (8 * (k - 1 - j)))) := by simp [beL, h]
end Go.Proofs.YtbbegnfopdihaaaGreatDoor

namespace Go.Proofs.YtbbegnfopdihaaaGreatDoor
open Go Go.RowKit

/-- n bytes of t, again and again. -/
def cyc (t : List UInt8) (n : Nat) : List UInt8 := lst n fun j => t.getD (j % t.length) 0
/-- The hash i. -/
def hsh (t : List UInt8) (n i : Nat) : List UInt8 := lst 32 (sha (List.replicate i 0 ++ cyc t n))
/-! ### For the walks -/
section
variable {α : Type} {C : Cod α} {e : TypeId} {l : List α} {E : Hl} {cap : Nat} {cur : Array Value}
end
section
variable {α : Type} {C : Cod α} {P : Program} {a : Act} {o : Oper} {w : World} {x y : Operand} {ty tn e : TypeId}
/-- append of noughts to a nil slice. -/
theorem smAppZ {n by_ : Nat} {z : α} {kn kq : IntKind} (ho : o.op = .call { callee := .builtin .append, args := #[x, y], argTypes := #[ty, tn] })
    (hu : P.underlying ty = some (.slice e)) (hn : P.underlying tn = some (.int kn)) (hi : (P.info? e).map (fun i => (i.zero, i.size, i.bytes)) = some (some (C.val z), C.sz, by_)) (hsz : 0 < C.sz)
    (hx : a.eval x = .slice none 0 0) (hy : a.eval y = .int kq (n : Int)) (h0 : 0 < n) (hb : n * by_ ≤ 140737488355328) (h63 : n ≤ maxLen) :
    Small P a o [] (fun _ => True) (fun v' E' => ∃ g cap cur, v' = .slice (some ⟨g, 0, none⟩) n cap ∧ E' = [bl g e cur] ∧ Bk C cap cur []) := fun w _ _ => by
  obtain ⟨i, hi', h2⟩ := Option.map_eq_some_iff.1 hi
  simp only [Prod.mk.injEq] at h2
  obtain ⟨hz, hisz, rfl⟩ := h2
  have hr := Lib.run_append_grow_zeros w ty tn o.type e i (C.val z) kq kn hu hn hi' hz none 0 0 [] (run_firstCells_none w.drew i.size 0 0 0) n h0 (by omega) (by omega) (by unfold maxLen at h63; omega) (by omega) (by rw [Nat.zero_add]; exact growslice_fits (by omega) hb)
  rw [Nat.zero_add] at hr
  unfold execOp
  simp only [ho, resolve, invoke, builtin, Sem.run_bind, Sem.run_pure, Result.andThen_ok, List.map_toArray, List.map_cons, List.map_nil, hx, hy, hr]
  have hge := grownCap_ge w n 0 e
  have hcm := grownCap_le_maxLen w n 0 e h63
  have hcz : (C.val z).cells.size = C.sz := C.len z
  have hold : Hold w [] [bl w.heap.size e (#[] ++ Builtin.zeroCells (C.val z).cells n ++ Builtin.zeroCells (C.val z).cells (grownCap w n 0 e - n))] (w.drew.alloc (.cells (#[] ++ Builtin.zeroCells (C.val z).cells n ++ Builtin.zeroCells (C.val z).cells (grownCap w n 0 e - n)) e)) := by
    have := Has.new w.drew (.cells (#[] ++ Builtin.zeroCells (C.val z).cells n ++ Builtin.zeroCells (C.val z).cells (grownCap w n 0 e - n)) e)
    exact ⟨this.os, this.tape, this.output, this.size, this.blk, this.ne, fun x hx => (this.own x hx).imp id (fun h => (by cases h)), fun k hk _ => this.frame k hk (by simp)⟩
  refine ⟨_, ⟨_, grownCap w n 0 e, _, rfl, rfl, ⟨Nat.zero_le _, hcm, ?_, by simp [flat]⟩⟩, hold⟩
  simp only [Array.size_append, size_zeroCells, hcz, List.size_toArray, List.length_nil, Nat.zero_add]
  rw [← Nat.add_mul]
  congr 1
  omega
theorem opSliceAH {b off m h sz : Nat} {kh : IntKind} {jh : Int} {xh : Operand} (ho : o.op = .slice ty x none (some xh) none) (hu : P.underlying ty = some (.array m e)) (hs : (P.info? e).map (·.size) = some sz) (hx : a.eval x = .pointer (some ⟨b, off, none⟩)) (hh : a.eval xh = .int kh jh) (hjh : jh = (h : Int)) (h2 : h ≤ m) :
    (execOp a.eval o).run P w = .ok (.value (.slice (some ⟨b, off, none⟩) h m)) w := by
  subst hjh
  have he := elem_ofA hu
  have hn := len_ofA hu
  have hu' : P.underlying ty = some (.array (P.arrayLen ty) (P.elem ty)) := by rw [he, hn]; exact hu
  have hadd : (⟨b, off, none⟩ : Addr).add (0 * sz) = ⟨b, off, none⟩ := by rw [Addr.add_mid]; simp
  unfold execOp
  simp only [ho, Option.map_some, Option.map_none, hx, hh, Sem.run_bind, Sem.run_pure, run_sliceAt_array_h w ty ⟨b, off, none⟩ hu' kh (h : Int) (by omega) (by rw [hn]; omega), he, hn, run_sizeOf hs, Result.andThen_ok, slicedAt, Int.toNat_natCast, hadd, ite_self, Nat.sub_zero]
end
theorem flatten_next {ds : List (List UInt8)} {i : Nat} {l : List UInt8} (h : ds[i]? = some l) : (ds.take i).flatten ++ l = (ds.take (i + 1)).flatten := by
  rw [List.take_add_one, h]; simp
theorem flatten_le {ds : List (List UInt8)} (i : Nat) : (ds.take i).flatten.length ≤ ds.flatten.length := by
  have : ds = ds.take i ++ ds.drop i := (List.take_append_drop i ds).symm
  rw [congrArg List.flatten this, List.flatten_append, List.length_append]; omega
end Go.Proofs.YtbbegnfopdihaaaGreatDoor

namespace Go.Proofs.YtbbegnfopdihaaaGreatDoor
open Go Go.RowKit Go.ChangeShapes Go.WideShapes Go.ChangeAt
set_option maxRecDepth 100000

theorem mixedOrders : Tryz.prog.follows .mixedOrders = true := by kernel_rfl
theorem own : ownKnob Tryz.prog.godebug = none := by kernel_rfl
theorem laidOut : laidOutB Tryz.prog = true := by kernel_rfl
theorem undBool : Tryz.prog.underlying 4 = some .bool := by kernel_rfl
end Go.Proofs.YtbbegnfopdihaaaGreatDoor

namespace Go.Proofs.YtbbegnfopdihaaaGreatDoor
open Go Go.RowKit

section
variable {P : Program} {a : Act} {o : Oper} {w w0 : World} {R : List Nat} {Hs : List Hl} {v : Value} {x y : Operand} {t t2 ty ty2 e : TypeId} {l m r : List UInt8} {g off : Nat}
theorem opEqLb {b : Bool} (ho : o.op = .binOp .eql t x y t2) (hx : a.eval x = .string (strL l)) (hy : a.eval y = .string (strL m)) (hb : decide (l = m) = b) : (execOp a.eval o).run P w = .ok (.value (.bool b)) w :=
  opEqS ho hx hy ((dc strL_inj).trans hb)
theorem opCap {n c : Nat} {A : Option Addr} (ho : o.op = .call { callee := .builtin .cap, args := #[x], argTypes := #[ty] }) (hu : P.underlying ty = some (.slice e)) (hx : a.eval x = .slice A n c) : (execOp a.eval o).run P w = .ok (.value (.int .i64 (c : Int))) w := by
  unfold execOp; simp [ho, hx, resolve, invoke, builtin, Builtin.cap_, run_underlying hu, goInt]
end
end Go.Proofs.YtbbegnfopdihaaaGreatDoor

namespace Go.Proofs.YtbbegnfopdihaaaGreatDoor
open Go Go.RowKit
set_option maxRecDepth 100000

/-- Each head's bytes. -/
def ViewsL (w : World) (hs : List (Option Addr × Nat × Nat)) (ds : List (List UInt8)) : Prop := ∀ (i : Nat) (z : Option Addr × Nat × Nat), hs[i]? = some z → ∃ l : List UInt8, ds[i]? = some l ∧ Vu cByte w z.1 z.2.1 z.2.2 l
theorem ViewsL.nil {w : World} : ViewsL w [] [] := fun _ _ h => by simp at h
theorem ViewsL.cons {w : World} {A : Option Addr} {n c : Nat} {l : List UInt8} {hs : List (Option Addr × Nat × Nat)} {ds : List (List UInt8)} (h : Vu cByte w A n c l) (t : ViewsL w hs ds) : ViewsL w ((A, n, c) :: hs) (l :: ds)
  | 0, z, hz => by
    obtain rfl : (A, n, c) = z := by simpa using hz
    exact ⟨l, rfl, h⟩
  | i + 1, z, hz => t i z (by simpa using hz)

set_option maxHeartbeats 8000000 in
theorem grow_c (n : Nat) (hn : n ≤ 140737488355328) : Does Tryz.prog 21 #[(.slice none 0 0), (.int .i64 (((n) : Nat) : Int))] [] (fun _ => True) (fun v E' => OwnT cByte 5 v [] E') := by
  refine does_of (fn := Tryz.f21) Tryz.func21 rfl Tryz.ntmps21 (Nat.le_of_ble_eq_true rfl) rfl ?_
  intro w0 hH hR
  replace hH : HH w0 [] [] w0 := hH.only [false]
  refine zr ?_
  refine zv .mv 0 ?_
  refine zn ?_
  refine cxSeq ?_
  refine zr ?_
  refine zv .mv 1 ?_
  refine zv (v := (.bool false)) (fun _ _ hF => opLss rfl (hF.ev 0 rfl) rfl (decide_eq_false (by omega))) 1 ?_
  refine zn ?_
  refine zF ?_
  refine cxSkip ?_
  refine qxThen ?_
  refine cxSeq ?_
  refine zr ?_
  refine zv .mv 5 ?_
  refine zv .mv 0 ?_
  refine zv (v := (.int .i64 0)) (fun _ _ hF => opCap (e := 5) rfl (by kernel_rfl) (hF.ev 0 rfl)) 1 ?_
  refine zv .mv 0 ?_
  refine zv .len 1 ?_
  refine zv (v := (.int .i64 0)) (fun _ _ hF => opSub rfl (hF.ev 1 rfl) (hF.ev 0 rfl) (by decide)) 3 ?_
  refine zv (.sub (((n) : Nat) : Int)) 3 ?_
  refine zv .mv 1 ?_
  refine zn ?_
  refine zr ?_
  refine zv .mv 0 ?_
  refine zv (.gt (n > 0)) 1 ?_
  refine zn ?_
  refine zP (fun hc1 => ?_) (fun hc1 => ?_)
  have hc0 : 0 < n := by omega
  refine cxReg ?_
  refine zv .mv 1 ?_
  refine zv .mv 0 ?_
  refine zv (v := (.int .i64 0)) (fun _ _ hF => opCap (e := 5) rfl (by kernel_rfl) (hF.ev 0 rfl)) 1 ?_
  refine zv (v := (.slice none 0 0)) (fun _ _ hF => opCutH (h := 0) (e := 5) (sz := 1) rfl (by kernel_rfl) (by kernel_rfl) (hF.ev 1 rfl) (hF.ev 0 rfl) rfl (by omega)) 3 ?_
  refine zv .mv 2 ?_
  refine zm hH (fun _ hF => smAppZ (kn := .i64) (C := cByte) (z := 0) (e := 5) (by_ := 1) rfl (by kernel_rfl) (by kernel_rfl) (by kernel_rfl) (ltb rfl) (hF.ev 1 rfl) (hF.ev 0 rfl) hc0 (by omega) (by unfold maxLen; omega)) trivial 3 ?_
  clear hH
  rintro _ _ w ⟨g2, cap3, cur4, rfl, rfl, hB5⟩ hH
  refine zv .mv 2 ?_
  refine zv .len 1 ?_
  refine zv (v := (.slice (some ⟨g2, 0, none⟩) 0 cap3)) (fun _ _ hF => opCutH (h := 0) (e := 5) (sz := 1) rfl (by kernel_rfl) (by kernel_rfl) (hF.ev 1 rfl) (hF.ev 0 rfl) rfl (by omega)) 3 ?_
  refine zv .mv 1 ?_
  refine zn ?_
  refine zr ?_
  refine zv .mv 1 ?_
  refine zv .mv 1 ?_
  refine zn ?_
  refine cxRet ?_
  refine qxRet1 0 rfl rfl ?_
  exact ⟨_, _, rfl, hB5.own 5 g2 rfl, hH.out1 [true] rfl⟩
  refine cxSkip ?_
  refine qxThen ?_
  refine zr ?_
  refine zv .mv 7 ?_
  refine zv .mv 1 ?_
  refine zn ?_
  refine cxRet ?_
  refine qxRet1 0 rfl rfl ?_
  exact ⟨_, _, rfl, OwnT.nil _ _, HH.out (HH.pad hH 1) [true]⟩

set_option maxHeartbeats 8000000 in
theorem concat_c (A : Option Addr) (n c : Nat) (hs : List (Option Addr × Nat × Nat)) (ds : List (List UInt8)) (hd : ds.length = n) (hn2 : n ≤ 1000) (hb : ds.flatten.length ≤ 70368744177664) : Does Tryz.prog 10 #[(.slice A n c)] [] (fun w => Vu cSl w A n c hs ∧ ViewsL w hs ds) (fun v E' => OwnT cByte 5 v ds.flatten E') := by
  refine does_of (fn := Tryz.f10) Tryz.func10 rfl Tryz.ntmps10 (Nat.le_of_ble_eq_true rfl) rfl ?_
  intro w0 hH hR
  replace hH : HH w0 [] [] w0 := hH.only [false]
  have hn := hR.1.len; have hcap := hR.1.cap
  refine zr ?_
  refine zv .mv 0 ?_
  refine zn ?_
  refine zr ?_
  refine zv .mv 1 ?_
  refine zn ?_
  refine cxSeq ?_
  refine zr ?_
  refine zv .mv 0 ?_
  refine zv .len 0 ?_
  refine zv .mv 0 ?_
  refine zn ?_
  refine cxBlock ?_
  refine zL1 (fun (i : Nat) => [(11, (.int .i64 (((i) : Nat) : Int))), (10, (.int .i64 (((n) : Nat) : Int))), (9, (.slice A n c)), (3, (.int .i64 ((((ds.take i).flatten.length) : Nat) : Int))), (0, (.slice A n c))]) (fun i w => HH w0 [] [] w ∧ (i ≤ n)) (fun i => n - i) 0 ⟨hH, (Nat.zero_le _)⟩ ?_
  clear hH
  rintro i w ⟨hH, hi⟩
  refine zr ?_
  refine zv (.lt (i < n)) 0 ?_
  refine zn ?_
  refine cxSeq ?_
  refine zP (fun hc1 => ?_) (fun hc1 => ?_)
  refine cxSkip ?_
  refine qxThen ?_
  refine cxSeq ?_
  refine cxBlock ?_
  obtain ⟨⟨A1, n1, c1⟩, hx1⟩ := get_at hs i (by omega)
  obtain ⟨l1, hl1, hV1⟩ := hR.2 _ _ hx1
  obtain rfl : l1.length = n1 := hV1.len
  replace hV1 : Vu cByte w0 A1 l1.length c1 l1 := hV1
  have hcap1 := hV1.cap
  have hfl1 := congrArg List.length (flatten_next hl1)
  rw [List.length_append] at hfl1
  have hle1 := flatten_le (ds := ds) (i + 1)
  refine zr ?_
  have hi2 : i < n := by omega
  obtain ⟨b3, off4, rfl, hL5, hb6, hR7⟩ := hR.1.blk (by decide) (Off.nil _ _) (by omega)
  have := hR.1.cap
  have hj10 : i < hs.length := by first | exact hi2 | (simp only [List.length_drop]; omega) | (simp only [List.length_drop, List.length_take]; omega) | omega
  refine zv (.ix 1 i (hi := hi2)) 1 ?_
  refine zs (S := fun w => HoldsL cSl w b3 off4 hs) (hH.holdsL hL5 hb6 hR7) (.ld cSl (A1, l1.length, c1) (fun _ hS => (hS i _ hx1)) (v := (.slice A1 l1.length c1))) 1 ?_
  refine zv .mv 1 ?_
  refine zn ?_
  refine zr ?_
  refine zv .mv 16 ?_
  refine zv .mv 2 ?_
  refine zv .len 1 ?_
  refine zv (.add ((((ds.take (i + 1)).flatten.length) : Nat) : Int)) 3 ?_
  refine zv .mv 1 ?_
  refine zn ?_
  refine zr ?_
  refine zv .mv 0 ?_
  refine zv (v := (.bool false)) (fun _ _ hF => opLss rfl (hF.ev 0 rfl) rfl (decide_eq_false (by omega))) 1 ?_
  refine zn ?_
  refine zF ?_
  refine cxSkip ?_
  refine qxInN ?_
  refine qxThen ?_
  refine cxReg ?_
  refine zv (.add ((i + 1 : Nat) : Int)) 5 ?_
  refine zv .mv 1 ?_
  refine pxEnd ?_
  exact zR1 (i + 1) ⟨hH, (by omega)⟩ (by omega)
  refine cxExit ?_
  refine qxThenE ?_
  refine qxThenE ?_
  refine qxInE ?_
  refine qxThen ?_
  have hle0 := flatten_le (ds := ds) i
  refine zr ?_
  refine zv .mv 31 ?_
  refine zm hH (.call Tryz.func21 ((grow_c ((ds.take i).flatten.length) (by omega)))) trivial 1 ?_
  clear hH
  rintro v15 E11 w hO12 hH
  obtain ⟨A13, c14, rfl⟩ := hO12.slice
  refine zv .mv 1 ?_
  refine zn ?_
  refine cxSeq ?_
  refine zr ?_
  refine zv .mv 2 ?_
  refine zv .len 0 ?_
  refine zv .mv 0 ?_
  refine zn ?_
  refine cxBlock ?_
  refine zL5 (fun (j : Nat) (A2 : Option Addr) (c2 : Nat) (L : List UInt8) (_ : Hl) => [(27, (.int .i64 (((j) : Nat) : Int))), (26, (.int .i64 (((n) : Nat) : Int))), (25, (.slice A n c)), (6, (.slice A2 L.length c2))]) (fun j A2 c2 L E2 w => HH w0 [] [E2] w ∧ (j ≤ n) ∧ (OwnT cByte 5 (.slice A2 L.length c2) L E2) ∧ (L = (ds.take j).flatten)) (fun j _ _ _ _ => n - j) 0 A13 c14 ([]) E11 ⟨hH, (Nat.zero_le _), hO12, (by simp)⟩ ?_
  clear hH
  rintro j A2 c2 L E2 w ⟨hH, hj, hO, hL⟩
  refine zr ?_
  refine zv (.lt (j < n)) 0 ?_
  refine zn ?_
  refine cxSeq ?_
  refine zP (fun hc17 => ?_) (fun hc17 => ?_)
  refine cxSkip ?_
  refine qxThen ?_
  refine cxSeq ?_
  refine cxBlock ?_
  have hLl := congrArg List.length hL
  obtain ⟨⟨A1, n1, c1⟩, hx1⟩ := get_at hs j (by omega)
  obtain ⟨l1, hl1, hV1⟩ := hR.2 _ _ hx1
  obtain rfl : l1.length = n1 := hV1.len
  replace hV1 : Vu cByte w0 A1 l1.length c1 l1 := hV1
  have hcap1 := hV1.cap
  have hfl1 := congrArg List.length (flatten_next hl1)
  rw [List.length_append] at hfl1
  have hle1 := flatten_le (ds := ds) (j + 1)
  refine zr ?_
  have hi18 : j < n := by omega
  obtain ⟨b19, off20, rfl, hL21, hb22, hR23⟩ := hR.1.blk (by decide) (Off.nil _ _) (by omega)
  have := hR.1.cap
  have hj26 : j < hs.length := by first | exact hi18 | (simp only [List.length_drop]; omega) | (simp only [List.length_drop, List.length_take]; omega) | omega
  refine zv (.ix 1 j (hi := hi18)) 1 ?_
  refine zs (S := fun w => HoldsL cSl w b19 off20 hs) (hH.holdsL hL21 hb22 hR23) (.ld cSl (A1, l1.length, c1) (fun _ hS => (hS j _ hx1)) (v := (.slice A1 l1.length c1))) 1 ?_
  refine zv .mv 1 ?_
  refine zn ?_
  refine cxReg ?_
  refine zv .mv 16 ?_
  refine zv .mv 2 ?_
  refine ze 0 hH rfl (fun _ hF => smAppT (C := cByte) (l := L) (m := l1) (e := 5) (z := (.int .u8 0)) (by_ := 1) rfl (by kernel_rfl) (by kernel_rfl) rfl (ltb rfl) (hF.ev 1 rfl) hO (hF.ev 0 rfl) rfl (fun h => ⟨by have := hV1.nil h; have := hV1.cap; omega, hV1.nil h⟩) (by unfold maxLen; omega) (by omega)) (hH.vu hV1 (by decide) (Off.nil _ _)) 3 ?_
  clear hH
  rintro v29 E30 w ⟨hO31, _⟩ hH
  replace hO31 : OwnT cByte 5 v29 (L ++ l1) E30 := hO31
  obtain ⟨A27, c28, rfl⟩ := hO31.slice
  refine zv .mv 1 ?_
  refine pxEnd ?_
  refine qxInN ?_
  refine qxThen ?_
  refine cxReg ?_
  refine zv (.add ((j + 1 : Nat) : Int)) 2 ?_
  refine zv .mv 1 ?_
  refine pxEnd ?_
  exact zR5 (j + 1) A27 c28 (L ++ l1) E30 ⟨hH, (by omega), hO31, (by rw [hL]; exact flatten_next hl1)⟩ (by omega)
  refine cxExit ?_
  refine qxThenE ?_
  refine qxThenE ?_
  refine qxInE ?_
  refine qxThen ?_
  refine zr ?_
  refine zv .mv 31 ?_
  refine zv .mv 1 ?_
  refine zn ?_
  refine cxRet ?_
  refine qxRet1 0 rfl rfl ?_
  have hjn : j = n := by omega
  rw [hjn, List.take_of_length_le (by omega)] at hL
  exact ⟨_, _, rfl, hL ▸ hO, hH.out1 [true] rfl⟩
end Go.Proofs.YtbbegnfopdihaaaGreatDoor

namespace Go.Proofs.YtbbegnfopdihaaaGreatDoor
open Go Go.RowKit

/-- A number's four bytes. -/
def b4 (n : Nat) : List UInt8 := [UInt8.ofNat (n / 2 ^ 24), UInt8.ofNat (n / 2 ^ 16), UInt8.ofNat (n / 2 ^ 8), UInt8.ofNat n]
theorem b4_is (n : Nat) : b4 n = beL 4 n := by
  show b4 n = [UInt8.ofNat (n / 2 ^ 24), UInt8.ofNat (n / 2 ^ 16), UInt8.ofNat (n / 2 ^ 8), UInt8.ofNat (n / 2 ^ 0)]
  unfold b4
  rw [Nat.pow_zero, Nat.div_one]
theorem b4_len (n : Nat) : (b4 n).length = 4 := rfl
/-- A key packet's body; the hashed form of one. -/
def kpL (t : Nat) (a : UInt8) (p : Nat → UInt8) : List UInt8 := [[6], b4 t, [a], b4 32, lst 32 p].flatten
def hfL (l : List UInt8) : List UInt8 := [[155], b4 l.length, l].flatten
theorem kpL_len (t : Nat) (a : UInt8) (p : Nat → UInt8) : (kpL t a p).length = 42 := by
  unfold kpL
  simp [b4_len, lst_len]
theorem hfL_len (l : List UInt8) : (hfL l).length = l.length + 5 := by
  unfold hfL
  simp [b4_len]
  omega
theorem kpL_is (t : Nat) (a : UInt8) (p : Nat → UInt8) : [[6], beL 4 t, [a, 0, 0, 0, 32], lst 32 p].flatten = kpL t a p := by
  unfold kpL
  rw [← b4_is]
  rfl
theorem hfL_is (l : List UInt8) : [[155], beL 4 l.length, l].flatten = hfL l := by rw [← b4_is]; rfl
/-! ### A field of a struct, an element of an array, by value -/
section
variable {P : Program} {a : Act} {o : Oper} {w : World} {x y : Operand} {t : TypeId}
def fldAt (P : Program) (t : TypeId) (f : Nat) : Option (TypeId × Nat) := match P.underlying t with
  | some (.struct fs) => (fs[f]?).map fun q => (q.type, q.offset)
  | _ => none
/-- A field of one cell. -/
theorem opFld1 {f off : Nat} {e : TypeId} {cs : Array Value} {v : Value} (ho : o.op = .field t x f) (hx : a.eval x = .agg cs) (hf : fldAt P t f = some (e, off)) (he : (P.underlying e).map (·.isRow) = some false) (hv : cs[off]? = some v) : (execOp a.eval o).run P w = .ok (.value v) w := by
  obtain ⟨d, hd, hdr⟩ := Option.map_eq_some_iff.1 he
  unfold fldAt at hf
  split at hf
  · rename_i fs hu
    obtain ⟨q, hq, h1⟩ := Option.map_eq_some_iff.1 hf
    simp only [Prod.mk.injEq] at h1
    obtain ⟨rfl, rfl⟩ := h1
    have hp : (part q.type cs q.offset).run P w = .ok v w := by
      simp [part, isAgg, run_underlying hd, hv]
      cases d <;> first | rfl | cases hdr
    unfold execOp
    simp only [ho, hx]
    have hr : (Instr.field t (.agg cs) f).run P w = .ok v w := by
      simp [Instr.field, run_underlying hu, hq, asAgg]
      exact hp
    simp only [Sem.run_bind, Sem.run_pure, hr]
    rfl
  · cases hf
/-- An element of one cell. -/
theorem opIdx1 {i n : Nat} {e : TypeId} {cs : Array Value} {v : Value} {k : IntKind} (ho : o.op = .index t x y) (hu : P.underlying t = some (.array n e)) (he : (P.underlying e).map (·.isRow) = some false) (hs : (P.info? e).map (·.size) = some 1) (hx : a.eval x = .agg cs) (hy : a.eval y = .int k (i : Int)) (hi : i < n) (hv : cs[i]? = some v) : (execOp a.eval o).run P w = .ok (.value v) w := by
  obtain ⟨d, hd, hdr⟩ := Option.map_eq_some_iff.1 he
  obtain ⟨q, hq, hqs⟩ := Option.map_eq_some_iff.1 hs
  have hp : (part e cs (i * 1)).run P w = .ok v w := by
    rw [Nat.mul_one]
    simp [part, isAgg, run_underlying hd, hv]
    cases d <;> first | rfl | cases hdr
  unfold execOp
  simp only [ho, hx, hy, Sem.run_bind, Sem.run_pure]
  have hr2 : (Instr.index t (.agg cs) (.int k (i : Int))).run P w = .ok v w := by
    simp [Instr.index, asIntOf, run_underlying hu, sizeOf, typeInfo, hq, hqs, hi]
    simpa using hp
  rw [hr2]; rfl
end
/-! ### Rows of 32 bytes in an array of rows -/
def ov32 (f : Nat → UInt8) (i : Nat) (g : Nat → UInt8) : Nat → UInt8 := fun j => if i * 32 ≤ j ∧ j < i * 32 + 32 then g (j - i * 32) else f j
theorem put_32 {n : Nat} (f g : Nat → UInt8) (i : Nat) : putL ((cArr n).enc f) (i * 32) ((cArr 32).enc g).toList = (cArr n).enc (ov32 f i g) := by
  apply Array.ext_getElem?
  intro k
  have hsz : ((cArr n).enc f).size = n := (cArr n).size f
  have hl : ((cArr 32).enc g).toList.length = 32 := by rw [Array.length_toList, (cArr 32).size]; rfl
  rw [putL_get, hsz, hl]
  have e1 : ∀ h : Nat → UInt8, ∀ m q, q < m → ((cArr m).enc h)[q]? = some (by8 (h q)) := fun h m q hq => row_get m h q hq
  by_cases hk : k < n
  · rw [show ((cArr n).enc (ov32 f i g))[k]? = some (by8 (ov32 f i g k)) from e1 _ n k hk]
    unfold ov32
    by_cases h2 : i * 32 ≤ k ∧ k < i * 32 + 32
    · rw [if_pos ⟨h2.1, h2.2, hk⟩, if_pos h2, Array.getElem?_toList, e1 g 32 (k - i * 32) (by omega)]
    · rw [if_neg (fun h => h2 ⟨h.1, h.2.1⟩), if_neg h2, e1 f n k hk]
  · rw [if_neg (fun h => hk h.2.2), Array.getElem?_eq_none (by rw [hsz]; omega), Array.getElem?_eq_none (by rw [(cArr n).size]; show n ≤ k; omega)]
/-- What a certificate of these keys says. -/
abbrev cCe : Cod (Nat × (Nat → UInt8) × (Nat → UInt8) × (Nat → UInt8)) := cPair (cNat .u32) (cPair (cArr 32) (cPair (cArr 32) (cArr 64)))
def prB (S : List UInt8 → Nat → UInt8) (t : Nat) (s b : Nat → UInt8) : Nat → UInt8 := ov32 (ov32 (fun _ => 0) 0 (S (hfL (kpL t 27 s)))) 1 (S (hfL (kpL t 25 b)))
def certD (S : List UInt8 → Nat → UInt8) (t : Nat) (s b : Nat → UInt8) : Nat × (Nat → UInt8) × (Nat → UInt8) × (Nat → UInt8) := (t, s, b, prB S t s b)
end Go.Proofs.YtbbegnfopdihaaaGreatDoor

namespace Go.Proofs.YtbbegnfopdihaaaGreatDoor
open Go Go.RowKit
set_option maxRecDepth 100000

set_option maxHeartbeats 8000000 in
theorem rjoin_c (A : Option Addr) (n c : Nat) (hs : List (Option Addr × Nat × Nat)) (ds : List (List UInt8)) (hd : ds.length = n) (hn2 : n ≤ 1000) (hb : ds.flatten.length ≤ 70368744177664) : Does Tryz.prog 12 #[(.slice A n c)] [] (fun w => Vu cSl w A n c hs ∧ ViewsL w hs ds) (fun v E' => OwnT cByte 5 v ds.flatten E') := by
  refine does_of (fn := Tryz.f12) Tryz.func12 rfl Tryz.ntmps12 (Nat.le_of_ble_eq_true rfl) rfl ?_
  intro w0 hH hR
  replace hH : HH w0 [] [] w0 := hH.only [false]
  have hn := hR.1.len; have hcap := hR.1.cap
  refine zr ?_
  refine zv .mv 0 ?_
  refine zn ?_
  refine zr ?_
  refine zv .mv 1 ?_
  refine zn ?_
  refine cxSeq ?_
  refine zr ?_
  refine zv .mv 0 ?_
  refine zv .len 1 ?_
  refine zv .mv 0 ?_
  refine zn ?_
  refine cxBlock ?_
  replace hH := HH.pad hH 1
  replace hH : HH w0 [] [[]] w0 := hH
  refine zL5 (fun (j : Nat) (A2 : Option Addr) (c2 : Nat) (L : List UInt8) (_ : Hl) => [(7, (.int .i64 (((j) : Nat) : Int))), (6, (.int .i64 (((n) : Nat) : Int))), (3, (.slice A2 L.length c2)), (0, (.slice A n c))]) (fun j A2 c2 L E2 w => HH w0 [] [E2] w ∧ (j ≤ n) ∧ (OwnT cByte 5 (.slice A2 L.length c2) L E2) ∧ (L = (ds.take j).flatten)) (fun j _ _ _ _ => n - j) 0 none 0 ([]) ([]) ⟨hH, (Nat.zero_le _), (OwnT.nil _ _), (by simp)⟩ ?_
  clear hH
  rintro j A2 c2 L E2 w ⟨hH, hj, hO, hL⟩
  refine zr ?_
  refine zv (.lt (j < n)) 0 ?_
  refine zn ?_
  refine cxSeq ?_
  refine zP (fun hc1 => ?_) (fun hc1 => ?_)
  refine cxSkip ?_
  refine qxThen ?_
  refine cxSeq ?_
  refine cxBlock ?_
  refine zr ?_
  refine zv .mv 1 ?_
  refine zv .mv 1 ?_
  refine zn ?_
  have hLl := congrArg List.length hL
  obtain ⟨⟨A1, n1, c1⟩, hx1⟩ := get_at hs j (by omega)
  obtain ⟨l1, hl1, hV1⟩ := hR.2 _ _ hx1
  obtain rfl : l1.length = n1 := hV1.len
  replace hV1 : Vu cByte w0 A1 l1.length c1 l1 := hV1
  have hcap1 := hV1.cap
  have hfl1 := congrArg List.length (flatten_next hl1)
  rw [List.length_append] at hfl1
  have hle1 := flatten_le (ds := ds) (j + 1)
  refine cxReg ?_
  refine zv .mv 8 ?_
  refine zv .mv 0 ?_
  refine zv .mv 4 ?_
  have hi2 : j < n := by omega
  obtain ⟨b3, off4, rfl, hL5, hb6, hR7⟩ := hR.1.blk (by decide) (Off.nil _ _) (by omega)
  have := hR.1.cap
  have hj10 : j < hs.length := by first | exact hi2 | (simp only [List.length_drop]; omega) | (simp only [List.length_drop, List.length_take]; omega) | omega
  refine zv (.ix 1 j (hi := hi2)) 3 ?_
  refine zs (S := fun w => HoldsL cSl w b3 off4 hs) (hH.holdsL hL5 hb6 hR7) (.ld cSl (A1, l1.length, c1) (fun _ hS => (hS j _ hx1)) (v := (.slice A1 l1.length c1))) 1 ?_
  refine ze 0 hH rfl (fun _ hF => smAppT (C := cByte) (l := L) (m := l1) (e := 5) (z := (.int .u8 0)) (by_ := 1) rfl (by kernel_rfl) (by kernel_rfl) rfl (ltb rfl) (hF.ev 1 rfl) hO (hF.ev 0 rfl) rfl (fun h => ⟨by have := hV1.nil h; have := hV1.cap; omega, hV1.nil h⟩) (by unfold maxLen; omega) (by omega)) (hH.vu hV1 (by decide) (Off.nil _ _)) 3 ?_
  clear hH
  rintro v13 E14 w ⟨hO15, _⟩ hH
  replace hO15 : OwnT cByte 5 v13 (L ++ l1) E14 := hO15
  obtain ⟨A11, c12, rfl⟩ := hO15.slice
  refine zv .mv 1 ?_
  refine pxEnd ?_
  refine qxInN ?_
  refine qxThen ?_
  refine cxReg ?_
  refine zv (.add ((j + 1 : Nat) : Int)) 2 ?_
  refine zv .mv 1 ?_
  refine pxEnd ?_
  exact zR5 (j + 1) A11 c12 (L ++ l1) E14 ⟨hH, (by omega), hO15, (by rw [hL]; exact flatten_next hl1)⟩ (by omega)
  refine cxExit ?_
  refine qxThenE ?_
  refine qxThenE ?_
  refine qxInE ?_
  refine qxThen ?_
  refine zr ?_
  refine zv .mv 31 ?_
  refine zv .mv 1 ?_
  refine zn ?_
  refine cxRet ?_
  refine qxRet1 0 rfl rfl ?_
  have hjn : j = n := by omega
  rw [hjn, List.take_of_length_le (by omega)] at hL
  exact ⟨_, _, rfl, hL ▸ hO, hH.out1 [true] rfl⟩
end Go.Proofs.YtbbegnfopdihaaaGreatDoor

namespace Go.Proofs.YtbbegnfopdihaaaGreatDoor
open Go Go.RowKit

theorem bytes_step {m n i : Nat} (hi : i < m) : (List.replicate (m - i) 0 ++ (beL m n).drop (m - i)).set (m - 1 - i) (UInt8.ofNat (n / 2 ^ (8 * i))) = List.replicate (m - (i + 1)) 0 ++ (beL m n).drop (m - (i + 1)) := by
  have e : m - i = (m - (i + 1)) + 1 := by omega
  rw [List.set_append_left _ _ (by rw [List.length_replicate]; omega), e, List.replicate_succ', List.set_append_right _ _ (by rw [List.length_replicate]; omega), List.length_replicate, show m - 1 - i - (m - (i + 1)) = 0 by omega, List.set_cons_zero, List.append_assoc]
  congr 1
  have hg := beL_get (k := m) (n := n) (j := m - (i + 1)) (by omega)
  rw [show m - 1 - (m - (i + 1)) = i by omega] at hg
  exact (drop_at hg).symm
end Go.Proofs.YtbbegnfopdihaaaGreatDoor

namespace Go.Proofs.YtbbegnfopdihaaaGreatDoor
open Go Go.RowKit
set_option maxRecDepth 100000

set_option maxHeartbeats 8000000 in
theorem bytes_r (n m : Nat) (h8 : m ≤ 8) : Does Tryz.prog 22 #[(.int .u64 (((n) : Nat) : Int)), (.int .i64 (((m) : Nat) : Int))] [] (fun _ => True) (fun v E' => OwnT cByte 5 v (beL m n) E') := by
  refine does_of (fn := Tryz.f22) Tryz.func22 rfl Tryz.ntmps22 (Nat.le_of_ble_eq_true rfl) rfl ?_
  intro w0 hH hR
  replace hH : HH w0 [] [] w0 := hH.only [false]
  refine cxSeq ?_
  refine cxReg ?_
  refine pxV (v := (.slice none 0 0)) (fun _ _ hF => opAssign rfl rfl) rfl (fun _ _ => rfl) (kA rfl) (by decide) ?_
  refine pxEnd ?_
  refine qxThen ?_
  refine cxSeq ?_
  refine cxReg ?_
  refine pxV (v := (.int .i64 (((m) : Nat) : Int))) (fun _ _ hF => opMove rfl (hF.ev 2 rfl)) rfl (fun _ _ => rfl) (kM [false, true, true] rfl rfl) (by decide) ?_
  refine pxM hH (fun _ hF => smMake (e := 5) (n := m) (sz := 1) (by_ := 1) (z := (.int .u8 0)) (cs := madeCells (cByte.enc 0) (m * 1)) rfl (by kernel_rfl) (by kernel_rfl) (hF.ev 0 rfl) (hF.ev 0 rfl) rfl rfl (by omega) (by omega) rfl) trivial rfl (fun _ _ => rfl) (kM [false, true, true] rfl rfl) (by decide) ?_
  clear hH
  rintro _ _ w ⟨g1, rfl, rfl⟩ hH
  replace hH : HH w0 [] [[bl g1 5 (madeCells (cByte.enc 0) (m * 1))]] w := hH
  refine pxV (v := (.slice (some ⟨g1, 0, none⟩) m m)) (fun _ _ hF => opAssign rfl (hF.ev 0 rfl)) rfl (fun _ _ => rfl) (kM [false, true, true] rfl rfl) (by decide) ?_
  refine pxEnd ?_
  refine qxThen ?_
  refine cxSeq ?_
  refine cxSeq ?_
  refine cxReg ?_
  refine pxV (v := (.int .i64 (((m) : Nat) : Int))) (fun _ _ hF => opMove rfl (hF.ev 2 rfl)) rfl (fun _ _ => rfl) (kA rfl) (by decide) ?_
  refine pxV (v := (.int .i64 0)) (fun _ _ hF => opMove rfl rfl) rfl (fun _ _ => rfl) (kA rfl) (by decide) ?_
  refine pxEnd ?_
  refine qxThen ?_
  refine cxBlock ?_
  refine cxLoop (σ := Nat × (List UInt8) × (Array Value)) (fun x => [(10, (.int .i64 (((x.1) : Nat) : Int))), (9, (.int .i64 (((m) : Nat) : Int))), (5, (.slice (some ⟨g1, 0, none⟩) m m)), (1, (.int .i64 (((m) : Nat) : Int))), (0, (.int .u64 (((n) : Nat) : Int)))]) (fun x w => HH w0 [] [[bl g1 5 x.2.2]] w ∧ (x.1 ≤ m) ∧ (Bk cByte m x.2.2 x.2.1) ∧ (x.2.1.length = m) ∧ (x.2.1 = List.replicate (m - x.1) 0 ++ (beL m n).drop (m - x.1))) (fun x => m - x.1) (0, (List.replicate m 0), (madeCells (cByte.enc 0) (m * 1))) ⟨hH, (Nat.zero_le _), (Bk.make (C := cByte) 0 m (ltb rfl) (by unfold maxLen; omega)), List.length_replicate, (by rw [Nat.sub_zero, List.drop_eq_nil_of_le (by rw [beL_len]; exact Nat.le_refl _), List.append_nil])⟩ (slots_at [0, 1, 2, 4, 3] rfl) ?_
  clear hH
  rintro ⟨i, L, cur'⟩ w ⟨hH, hi, hB', hlen, hL⟩
  change CX _ _ _ _ [(10, (.int .i64 (((i) : Nat) : Int))), (9, (.int .i64 (((m) : Nat) : Int))), (5, (.slice (some ⟨g1, 0, none⟩) m m)), (1, (.int .i64 (((m) : Nat) : Int))), (0, (.int .u64 (((n) : Nat) : Int)))] _
  replace hH : HH w0 [] [[bl g1 5 cur']] w := hH
  replace hi : i ≤ m := hi
  replace hB' : Bk cByte m cur' L := hB'
  replace hlen : L.length = m := hlen
  replace hL : L = List.replicate (m - i) 0 ++ (beL m n).drop (m - i) := hL
  refine cxSeq ?_
  refine cxReg ?_
  refine pxV (v := (.bool (decide (i < m)))) (fun _ _ hF => opLss rfl (hF.ev 0 rfl) (hF.ev 1 rfl) (dc (by omega))) rfl (fun _ _ => rfl) (kA rfl) (by decide) ?_
  refine pxEnd ?_
  refine qxThen ?_
  refine cxSeq ?_
  refine cxP 0 rfl rfl (fun hc2 => ?_) (fun hc2 => ?_)
  · refine cxSkip ?_
    refine qxThen ?_
    refine cxSeq ?_
    refine cxBlock ?_
    refine cxSeq ?_
    refine cxReg ?_
    refine pxV (v := (.int .i64 (((i) : Nat) : Int))) (fun _ _ hF => opMove rfl (hF.ev 1 rfl)) rfl (fun _ _ => rfl) (kM [false, true, true, true, true, true] rfl rfl) (by decide) ?_
    refine pxV (v := (.int .i64 (((i) : Nat) : Int))) (fun _ _ hF => opAssign rfl (hF.ev 0 rfl)) rfl (fun _ _ => rfl) (kM [false, true, true, true, true, true] rfl rfl) (by decide) ?_
    refine pxEnd ?_
    refine qxThen ?_
    refine cxReg ?_
    refine pxV (v := (.slice (some ⟨g1, 0, none⟩) m m)) (fun _ _ hF => opMove rfl (hF.ev 3 rfl)) rfl (fun _ _ => rfl) (kA rfl) (by decide) ?_
    refine pxV (v := (.int .i64 (((m) : Nat) : Int))) (fun _ _ hF => opMove rfl (hF.ev 5 rfl)) rfl (fun _ _ => rfl) (kA rfl) (by decide) ?_
    refine pxV (v := (.int .i64 (((m - 1) : Nat) : Int))) (fun _ _ hF => opSub rfl (hF.ev 0 rfl) rfl (wI (by omega) (by omega) (by omega))) rfl (fun _ _ => rfl) (kM [false, true, true, true, true, true, true, true] rfl rfl) (by decide) ?_
    refine pxV (v := (.int .i64 (((i) : Nat) : Int))) (fun _ _ hF => opMove rfl (hF.ev 2 rfl)) rfl (fun _ _ => rfl) (kA rfl) (by decide) ?_
    refine pxV (v := (.int .i64 (((m - 1 - i) : Nat) : Int))) (fun _ _ hF => opSub rfl (hF.ev 1 rfl) (hF.ev 0 rfl) (wI (by omega) (by omega) (by omega))) rfl (fun _ _ => rfl) (kM [false, false, true, true, true, true, true, true, true] rfl rfl) (by decide) ?_
    refine pxV (v := (.int .u64 (((n) : Nat) : Int))) (fun _ _ hF => opMove rfl (hF.ev 7 rfl)) rfl (fun _ _ => rfl) (kA rfl) (by decide) ?_
    refine pxV (v := (.int .i64 (((i) : Nat) : Int))) (fun _ _ hF => opMove rfl (hF.ev 3 rfl)) rfl (fun _ _ => rfl) (kM [true, true, true, false, true, true, true, true, true] rfl rfl) (by decide) ?_
    refine pxV (v := (.int .i64 (((8 * i) : Nat) : Int))) (fun _ _ hF => opMul rfl rfl (hF.ev 0 rfl) (wI (by omega) (by omega) (by omega))) rfl (fun _ _ => rfl) (kM [false, true, true, true, true, true, true, true, true] rfl rfl) (by decide) ?_
    refine pxV (v := (.int .u64 (((n / 2 ^ (8 * i)) : Nat) : Int))) (fun _ _ hF => opShrU (n := 8 * i) (z := (n / 2 ^ (8 * i))) rfl (hF.ev 1 rfl) (hF.ev 0 rfl) (by show _ ≤ 64; omega) (rfl)) rfl (fun _ _ => rfl) (kM [false, false, true, true, true, true, true, true, true] rfl rfl) (by decide) ?_
    refine pxV (v := (.int .u8 ((((UInt8.ofNat (n / 2 ^ (8 * i))).toNat) : Nat) : Int))) (fun _ _ hF => opConvU (k' := .u8) rfl rfl (by kernel_rfl) (by kernel_rfl) (hF.ev 0 rfl) (UInt8.toNat_ofNat' (n := n / 2 ^ (8 * i))).symm) rfl (fun _ _ => rfl) (kM [false, true, true, true, true, true, true, true] rfl rfl) (by decide) ?_
    have hi3 : m - 1 - i < m := by omega
    have hj6 : m - 1 - i < L.length := by first | exact hi3 | (simp only [List.length_drop]; omega) | (simp only [List.length_drop, List.length_take]; omega) | omega
    obtain ⟨x4, hx5⟩ := get_at L (m - 1 - i) hj6
    have hb7 := UInt8.toNat_lt x4
    refine pxV (v := (.pointer (some ⟨g1, 0 + (m - 1 - i) * 1, none⟩))) (fun _ _ hF => opIndex (i := m - 1 - i) (e := 5) (sz := 1) rfl (by kernel_rfl) (by kernel_rfl) (hF.ev 2 rfl) (hF.ev 1 rfl) rfl hi3) rfl (fun _ _ => rfl) (kM [true, false, false, true, true, true, true, true] rfl rfl) (by decide) ?_
    obtain ⟨cur9, hcs10, hB8⟩ : ∃ cs, putL cur' (0 + (m - 1 - i) * 1) (cByte.enc (UInt8.ofNat (n / 2 ^ (8 * i)))).toList = cs ∧ Bk cByte m cs (L.set (m - 1 - i) (UInt8.ofNat (n / 2 ^ (8 * i)))) := ⟨_, rfl, put_at hB' (m - 1 - i) hj6 (UInt8.ofNat (n / 2 ^ (8 * i)))⟩
    refine pxE0 0 hH rfl (fun _ hF => smStoreT (C := cByte) (z := (UInt8.ofNat (n / 2 ^ (8 * i)))) rfl (hF.ev 0 rfl) (hF.ev 1 rfl) rfl (by kernel_rfl) (room_at hB' hj6) hcs10) trivial rfl (fun _ _ => rfl) ?_
    clear hH
    rintro _ _ w rfl hH
    replace hH : HH w0 [] [[bl g1 5 cur9]] w := hH
    refine pxEnd ?_
    refine qxInN ?_
    refine qxThen ?_
    refine cxReg ?_
    refine pxV (v := (.int .i64 (((i + 1) : Nat) : Int))) (fun _ _ hF => opAdd rfl (hF.ev 2 rfl) rfl (wI (by omega) (by omega) (by omega))) rfl (fun _ _ => rfl) (kM [false, false, false, true, true, true, true] rfl rfl) (by decide) ?_
    refine pxV (v := (.int .i64 (((i + 1) : Nat) : Int))) (fun _ _ hF => opMove rfl (hF.ev 0 rfl)) rfl (fun _ _ => rfl) (kM [false, true, true, true, true] rfl rfl) (by decide) ?_
    refine pxEnd ?_
    exact qxRound (i + 1, (L.set (m - 1 - i) (UInt8.ofNat (n / 2 ^ (8 * i)))), cur9) ⟨hH, (show (i + 1) ≤ m from (by omega)), hB8, (by rw [List.length_set]; exact hlen), (show (L.set (m - 1 - i) (UInt8.ofNat (n / 2 ^ (8 * i)))) = List.replicate (m - (i + 1)) 0 ++ (beL m n).drop (m - (i + 1)) from (by rw [hL]; exact bytes_step (by omega)))⟩ (by omega) (slots_at [0, 1, 2, 3, 4] rfl)
  · refine cxExit ?_
    refine qxThenE ?_
    refine qxThenE ?_
    refine qxInE ?_
    refine qxThen ?_
    refine cxSeq ?_
    refine cxReg ?_
    refine pxV (v := (.slice (some ⟨g1, 0, none⟩) m m)) (fun _ _ hF => opMove rfl (hF.ev 3 rfl)) rfl (fun _ _ => rfl) (kM [false, false, false, false, false, false] rfl rfl) (by decide) ?_
    refine pxV (v := (.slice (some ⟨g1, 0, none⟩) m m)) (fun _ _ hF => opAssign rfl (hF.ev 0 rfl)) rfl (fun _ _ => rfl) (kM [false] rfl rfl) (by decide) ?_
    refine pxEnd ?_
    refine qxThen ?_
    refine cxRet ?_
    refine qxRet1 0 rfl rfl ?_
    have he : L = beL m n := by rw [hL, show m - i = 0 by omega]; rfl
    exact ⟨_, _, rfl, (he ▸ hB'.own 5 g1 hlen), hH.out1 [true] rfl⟩
end Go.Proofs.YtbbegnfopdihaaaGreatDoor

namespace Go.Proofs.YtbbegnfopdihaaaGreatDoor
open Go Go.RowKit
set_option maxRecDepth 100000

set_option maxHeartbeats 8000000 in
theorem rotl_c (x : UInt32) (n : Nat) (h0 : 0 < n) (h32 : n < 32) : Pure Tryz.prog 77 #[(.int .u32 (((x.toNat) : Nat) : Int)), (.int .i64 (-(n : Int)))] (fun _ => True) (.int .u32 ((((rr32 x n).toNat) : Nat) : Int)) := by
  refine pure_of (fn := Tryz.f77) Tryz.func77 rfl Tryz.ntmps77 (Nat.le_of_ble_eq_true rfl) rfl ?_
  intro w0 hH hR
  refine zr ?_
  refine zv .mv 0 ?_
  refine zn ?_
  refine zr ?_
  refine zv .mv 5 ?_
  refine zv (v := (.int .u64 (((18446744073709551616 - n) : Nat) : Int))) (fun _ _ hF => opConvI (k' := .u64) rfl (by kernel_rfl) (by kernel_rfl) (hF.ev 0 rfl) (wrap_neg64 h0 (by omega))) 1 ?_
  refine zv (v := (.int .u64 (((32 - n) : Nat) : Int))) (fun _ _ hF => opAndU (m := 18446744073709551616 - n) (j := 31) (z := (32 - n)) rfl rfl (hF.ev 0 rfl) rfl (by show _ < 18446744073709551616; omega) (by decide) (by rw [show (31 : Nat) = 2 ^ 5 - 1 from rfl, and_mask]; omega)) 1 ?_
  refine zv .mv 1 ?_
  refine zn ?_
  refine zr ?_
  refine zv .mv 0 ?_
  refine zv .mv 0 ?_
  refine zv (.lw (32 - n)) 3 ?_
  refine zv .mv 4 ?_
  refine zv .mv 4 ?_
  refine zv (v := (.int .u64 (((n) : Nat) : Int))) (fun _ _ hF => opSubU (m := 32) (j := 32 - n) (z := n) rfl rfl rfl (hF.ev 0 rfl) (by show 32 - n ≤ 18446744073709551616; omega) (by show (32 + (18446744073709551616 - (32 - n))) % 18446744073709551616 = _; omega)) 1 ?_
  refine zv (.rw n) 3 ?_
  refine zv (.ow (rr32 x n) (hz := rr32_or x n)) 3 ?_
  refine zv .mv 1 ?_
  refine zn ?_
  refine cxRet ?_
  refine qxRet1 0 rfl rfl ?_
  exact ⟨rfl, HH.toBelow hH⟩

set_option maxHeartbeats 8000000 in
theorem rotr_c (x : UInt32) (n : Nat) (h0 : 0 < n) (h32 : n < 32) : Pure Tryz.prog 58 #[(.int .u32 (((x.toNat) : Nat) : Int)), (.int .i64 (((n) : Nat) : Int))] (fun _ => True) (.int .u32 ((((rr32 x n).toNat) : Nat) : Int)) := by
  refine pure_of (fn := Tryz.f58) Tryz.func58 rfl Tryz.ntmps58 (Nat.le_of_ble_eq_true rfl) rfl ?_
  intro w0 hH hR
  refine zr ?_
  refine zv .mv 0 ?_
  refine zn ?_
  refine zr ?_
  refine zv .mv 3 ?_
  refine zv .mv 2 ?_
  refine zv (v := (.int .i64 (-(((n) : Nat) : Int)))) (fun _ _ hF => opNegI rfl (hF.ev 0 rfl) (wI (by omega) (by omega) (by omega))) 1 ?_
  refine zc Tryz.func77 (rotl_c x n h0 h32) trivial hH 3 ?_
  clear hH
  intro w hH
  refine zv .mv 1 ?_
  refine zn ?_
  refine cxRet ?_
  refine qxRet1 0 rfl rfl ?_
  exact ⟨rfl, HH.toBelow hH⟩

set_option maxHeartbeats 8000000 in
theorem big0_32_c (x : UInt32) : Pure Tryz.prog 44 #[(.int .u32 (((x.toNat) : Nat) : Int))] (fun _ => True) (.int .u32 ((((big0_32 x).toNat) : Nat) : Int)) := by
  refine pure_of (fn := Tryz.f44) Tryz.func44 rfl Tryz.ntmps44 (Nat.le_of_ble_eq_true rfl) rfl ?_
  intro w0 hH hR
  refine zr ?_
  refine zv .mv 0 ?_
  refine zn ?_
  refine zr ?_
  refine zv .mv 1 ?_
  refine zc Tryz.func58 (rotr_c x 2 (ltb rfl) (ltb rfl)) trivial hH 1 ?_
  clear hH
  intro w hH
  refine zv .mv 0 ?_
  refine zc Tryz.func58 (rotr_c x 13 (ltb rfl) (ltb rfl)) trivial hH 1 ?_
  clear hH
  intro w hH
  refine zv (.xw (xo32 (rr32 x 2) (rr32 x 13))) 3 ?_
  refine zv .mv 2 ?_
  refine zc Tryz.func58 (rotr_c x 22 (ltb rfl) (ltb rfl)) trivial hH 1 ?_
  clear hH
  intro w hH
  refine zv (.xw (xo32 (xo32 (rr32 x 2) (rr32 x 13)) (rr32 x 22))) 3 ?_
  refine zv .mv 1 ?_
  refine zn ?_
  refine cxRet ?_
  refine qxRet1 0 rfl rfl ?_
  exact ⟨rfl, HH.toBelow hH⟩

set_option maxHeartbeats 8000000 in
theorem big1_32_c (x : UInt32) : Pure Tryz.prog 43 #[(.int .u32 (((x.toNat) : Nat) : Int))] (fun _ => True) (.int .u32 ((((big1_32 x).toNat) : Nat) : Int)) := by
  refine pure_of (fn := Tryz.f43) Tryz.func43 rfl Tryz.ntmps43 (Nat.le_of_ble_eq_true rfl) rfl ?_
  intro w0 hH hR
  refine zr ?_
  refine zv .mv 0 ?_
  refine zn ?_
  refine zr ?_
  refine zv .mv 1 ?_
  refine zc Tryz.func58 (rotr_c x 6 (ltb rfl) (ltb rfl)) trivial hH 1 ?_
  clear hH
  intro w hH
  refine zv .mv 0 ?_
  refine zc Tryz.func58 (rotr_c x 11 (ltb rfl) (ltb rfl)) trivial hH 1 ?_
  clear hH
  intro w hH
  refine zv (.xw (xo32 (rr32 x 6) (rr32 x 11))) 3 ?_
  refine zv .mv 2 ?_
  refine zc Tryz.func58 (rotr_c x 25 (ltb rfl) (ltb rfl)) trivial hH 1 ?_
  clear hH
  intro w hH
  refine zv (.xw (xo32 (xo32 (rr32 x 6) (rr32 x 11)) (rr32 x 25))) 3 ?_
  refine zv .mv 1 ?_
  refine zn ?_
  refine cxRet ?_
  refine qxRet1 0 rfl rfl ?_
  exact ⟨rfl, HH.toBelow hH⟩

set_option maxHeartbeats 8000000 in
theorem sml0_32_c (x : UInt32) : Pure Tryz.prog 57 #[(.int .u32 (((x.toNat) : Nat) : Int))] (fun _ => True) (.int .u32 ((((sml0_32 x).toNat) : Nat) : Int)) := by
  refine pure_of (fn := Tryz.f57) Tryz.func57 rfl Tryz.ntmps57 (Nat.le_of_ble_eq_true rfl) rfl ?_
  intro w0 hH hR
  refine zr ?_
  refine zv .mv 0 ?_
  refine zn ?_
  refine zr ?_
  refine zv .mv 1 ?_
  refine zc Tryz.func58 (rotr_c x 7 (ltb rfl) (ltb rfl)) trivial hH 1 ?_
  clear hH
  intro w hH
  refine zv .mv 0 ?_
  refine zc Tryz.func58 (rotr_c x 18 (ltb rfl) (ltb rfl)) trivial hH 1 ?_
  clear hH
  intro w hH
  refine zv (.xw (xo32 (rr32 x 7) (rr32 x 18))) 3 ?_
  refine zv .mv 2 ?_
  refine zv (.rw 3) 1 ?_
  refine zv (.xw (xo32 (xo32 (rr32 x 7) (rr32 x 18)) (sr32 x 3))) 3 ?_
  refine zv .mv 1 ?_
  refine zn ?_
  refine cxRet ?_
  refine qxRet1 0 rfl rfl ?_
  exact ⟨rfl, HH.toBelow hH⟩

set_option maxHeartbeats 8000000 in
theorem sml1_32_c (x : UInt32) : Pure Tryz.prog 56 #[(.int .u32 (((x.toNat) : Nat) : Int))] (fun _ => True) (.int .u32 ((((sml1_32 x).toNat) : Nat) : Int)) := by
  refine pure_of (fn := Tryz.f56) Tryz.func56 rfl Tryz.ntmps56 (Nat.le_of_ble_eq_true rfl) rfl ?_
  intro w0 hH hR
  refine zr ?_
  refine zv .mv 0 ?_
  refine zn ?_
  refine zr ?_
  refine zv .mv 1 ?_
  refine zc Tryz.func58 (rotr_c x 17 (ltb rfl) (ltb rfl)) trivial hH 1 ?_
  clear hH
  intro w hH
  refine zv .mv 0 ?_
  refine zc Tryz.func58 (rotr_c x 19 (ltb rfl) (ltb rfl)) trivial hH 1 ?_
  clear hH
  intro w hH
  refine zv (.xw (xo32 (rr32 x 17) (rr32 x 19))) 3 ?_
  refine zv .mv 2 ?_
  refine zv (.rw 10) 1 ?_
  refine zv (.xw (xo32 (xo32 (rr32 x 17) (rr32 x 19)) (sr32 x 10))) 3 ?_
  refine zv .mv 1 ?_
  refine zn ?_
  refine cxRet ?_
  refine qxRet1 0 rfl rfl ?_
  exact ⟨rfl, HH.toBelow hH⟩

set_option maxHeartbeats 8000000 in
theorem words_c (b : Nat → UInt8) : Pure Tryz.prog 42 #[((cArr 64).val b)] (fun _ => True) ((cWs 64).val (W32 b)) := by
  refine pure_of (fn := Tryz.f42) Tryz.func42 rfl Tryz.ntmps42 (Nat.le_of_ble_eq_true rfl) rfl ?_
  intro w0 hH hR
  refine zr ?_
  refine zm hH (.bx (cArr 64) b) trivial 1 ?_
  clear hH
  rintro _ _ w ⟨g1, rfl, rfl⟩ hH
  refine zm hH (.al (cWs 64) (fun _ => 0)) trivial 0 ?_
  clear hH
  rintro _ _ w ⟨g2, rfl, rfl⟩ hH
  refine zn ?_
  refine zr ?_
  refine zm hH (.al (cWs 64) (fun _ => 0)) trivial 0 ?_
  clear hH
  rintro _ _ w ⟨g3, rfl, rfl⟩ hH
  refine zn ?_
  refine cxSeq ?_
  have he4 : (cWs 64).enc (pr32 b 0) = (cWs 64).enc (fun _ => 0) := vec_congr (fun i _ => by rw [pr32_zero])
  replace hH : HH w0 [] [[bl g1 60 ((cArr 64).enc b)], [bl g2 51 ((cWs 64).enc (fun _ => 0))], [bl g3 51 ((cWs 64).enc (pr32 b 0))]] w := by rw [he4]; exact hH
  refine zr ?_
  refine zs (hH.q 0 rfl) (.ld (cArr 64) b (fun _ hS => (holds_blk0 hS))) 4 ?_
  refine zv .mv 0 ?_
  refine zn ?_
  refine cxBlock ?_
  refine zL1 (fun (m : Nat) => [(8, (.int .i64 (((m) : Nat) : Int))), (7, ((cArr 64).val b)), (3, (.pointer (some ⟨g3, 0, none⟩))), (2, (.pointer (some ⟨g2, 0, none⟩)))]) (fun m w => HH w0 [] [[bl g1 60 ((cArr 64).enc b)], [bl g2 51 ((cWs 64).enc (fun _ => 0))], [bl g3 51 ((cWs 64).enc (pr32 b m))]] w ∧ (m ≤ 64)) (fun m => 64 - m) 0 ⟨hH, (Nat.zero_le _)⟩ ?_
  clear hH
  rintro m w ⟨hH, hm⟩
  refine zr ?_
  refine zv (.lt (m < 64)) 0 ?_
  refine zn ?_
  refine cxSeq ?_
  refine zP (fun hc5 => ?_) (fun hc5 => ?_)
  refine cxSkip ?_
  refine qxThen ?_
  refine cxSeq ?_
  refine cxBlock ?_
  refine zr ?_
  refine zv .mv 1 ?_
  have hi6 : m < 64 := by omega
  refine zv (v := (.int .u8 ((((b m).toNat) : Nat) : Int))) (fun _ _ hF => opIdxA (S := sBy) (e := 5) (n := 64) (i := m) (f := b) rfl (by kernel_rfl) (by kernel_rfl) (hF.ev 2 rfl) (hF.ev 1 rfl) rfl hi6) 0 ?_
  refine zv .mv 2 ?_
  refine zv .mv 2 ?_
  refine zn ?_
  refine cxReg ?_
  refine zv .mv 0 ?_
  refine zv (v := (.int .i64 (((m / 4) : Nat) : Int))) (fun _ _ hF => opQuo (z := ((m / 4 : Nat) : Int)) rfl (hF.ev 0 rfl) rfl (by omega) (wI quoN (by omega) (by omega))) 1 ?_
  refine zv .mv 4 ?_
  refine zv (v := (.int .i64 (((m / 4) : Nat) : Int))) (fun _ _ hF => opQuo (z := ((m / 4 : Nat) : Int)) rfl (hF.ev 0 rfl) rfl (by omega) (wI quoN (by omega) (by omega))) 1 ?_
  have hi7 : m / 4 < 64 := by omega
  refine zv (.ia 1 64 (m / 4) (hi := hi7)) 1 ?_
  refine zs (hH.q 2 rfl) (.ld cWd ((pr32 b m) (m / 4)) (fun _ hS => ((holds_blk0 hS).eltV hi7))) 1 ?_
  refine zv (.lw 8) 1 ?_
  refine zv .mv 4 ?_
  refine zv (v := (.int .u32 ((((UInt32.ofNat (b m).toNat).toNat) : Nat) : Int))) (fun _ _ hF => opConvW (z := UInt32.ofNat (b m).toNat) rfl rfl (by kernel_rfl) (hF.ev 0 rfl) rfl) 1 ?_
  refine zv (.ow (pr32 b (m + 1) (m / 4)) (hz := pr32_step b m (m / 4) rfl)) 3 ?_
  have hi8 : m / 4 < 64 := by omega
  refine zv (.ia 1 64 (m / 4) (hi := hi8)) 2 ?_
  refine ze0 2 hH rfl (.st cWd (pr32 b (m + 1) (m / 4)) (room_1 (S := sWd) (C := (cWs 64)) rfl hi8) (vec_set0 (pr32 b m) (pr32 b (m + 1) (m / 4)) hi8)) trivial ?_
  clear hH
  rintro _ _ w rfl hH
  refine pxEnd ?_
  refine qxInN ?_
  refine qxThen ?_
  refine cxReg ?_
  refine zv (.add ((m + 1 : Nat) : Int)) 7 ?_
  refine zv .mv 1 ?_
  refine pxEnd ?_
  have he9 : (cWs 64).enc (pr32 b (m + 1)) = (cWs 64).enc (stF (pr32 b m) (m / 4) (pr32 b (m + 1) (m / 4))) := vec_congr (fun i _ => (congrFun (pr32_set b m (m / 4) _ rfl rfl) i).symm)
  replace hH : HH w0 [] [[bl g1 60 ((cArr 64).enc b)], [bl g2 51 ((cWs 64).enc (fun _ => 0))], [bl g3 51 ((cWs 64).enc (pr32 b (m + 1)))]] w := by rw [he9]; exact hH
  exact zR1 (m + 1) ⟨hH, (by omega)⟩ (by omega)
  refine cxExit ?_
  refine qxThenE ?_
  refine qxThenE ?_
  refine qxInE ?_
  refine qxThen ?_
  refine cxSeq ?_
  obtain rfl : m = 64 := by omega
  have he10 : (cWs 64).enc (upF 16 (W32 b) (pr32 b 64)) = (cWs 64).enc (pr32 b 64) := vec_congr (fun i _ => by rw [up_first])
  replace hH : HH w0 [] [[bl g1 60 ((cArr 64).enc b)], [bl g2 51 ((cWs 64).enc (fun _ => 0))], [bl g3 51 ((cWs 64).enc (upF 16 (W32 b) (pr32 b 64)))]] w := by rw [he10]; exact hH
  refine zr ?_
  refine zv .mv 7 ?_
  refine zn ?_
  refine cxBlock ?_
  refine zL1 (fun (t : Nat) => [(6, (.int .i64 (((t) : Nat) : Int))), (3, (.pointer (some ⟨g3, 0, none⟩))), (2, (.pointer (some ⟨g2, 0, none⟩)))]) (fun t w => HH w0 [] [[bl g1 60 ((cArr 64).enc b)], [bl g2 51 ((cWs 64).enc (fun _ => 0))], [bl g3 51 ((cWs 64).enc (upF t (W32 b) (pr32 b 64)))]] w ∧ (16 ≤ t) ∧ (t ≤ 64)) (fun t => 64 - t) 16 ⟨hH, (Nat.le_refl _), (by decide)⟩ ?_
  clear hH
  rintro t w ⟨hH, h16, ht⟩
  refine cxSeq ?_
  refine zr ?_
  refine zv .mv 0 ?_
  refine zv (.lt (t < 64)) 1 ?_
  refine zn ?_
  refine zP (fun hc11 => ?_) (fun hc11 => ?_)
  refine cxSkip ?_
  refine qxThen ?_
  refine cxSeq ?_
  refine cxBlock ?_
  refine cxRegX mixedOrders (by kernel_rfl) ?_
  replace hH := hH.drew
  refine rv 0 .mv 1 ?_
  refine rv 1 .mv 0 ?_
  refine rv 2 (.sub (((t - 2) : Nat) : Int)) 1 ?_
  have hi12 : t - 2 < 64 := by omega
  refine rv 3 (.ia 1 64 (t - 2) (hi := hi12)) 1 ?_
  refine rld 4 (hH.q 2 rfl) (.ld cWd ((upF t (W32 b) (pr32 b 64)) (t - 2)) (fun _ hS => ((holds_blk0 hS).eltV hi12))) 1 ?_
  refine rv 6 .mv 0 ?_
  refine rv 7 (.sub (((t - 7) : Nat) : Int)) 1 ?_
  have hi13 : t - 7 < 64 := by omega
  refine rv 8 (.ia 1 64 (t - 7) (hi := hi13)) 1 ?_
  refine rld 9 (hH.q 2 rfl) (.ld cWd ((upF t (W32 b) (pr32 b 64)) (t - 7)) (fun _ hS => ((holds_blk0 hS).eltV hi13))) 1 ?_
  refine rv 11 .mv 0 ?_
  refine rv 12 (.sub (((t - 15) : Nat) : Int)) 1 ?_
  have hi14 : t - 15 < 64 := by omega
  refine rv 13 (.ia 1 64 (t - 15) (hi := hi14)) 1 ?_
  refine rld 14 (hH.q 2 rfl) (.ld cWd ((upF t (W32 b) (pr32 b 64)) (t - 15)) (fun _ hS => ((holds_blk0 hS).eltV hi14))) 1 ?_
  refine rv 17 .mv 0 ?_
  refine rv 18 (.sub (((t - 16) : Nat) : Int)) 1 ?_
  have hi15 : t - 16 < 64 := by omega
  refine rv 19 (.ia 1 64 (t - 16) (hi := hi15)) 1 ?_
  refine rld 20 (hH.q 2 rfl) (.ld cWd ((upF t (W32 b) (pr32 b 64)) (t - 16)) (fun _ hS => ((holds_blk0 hS).eltV hi15))) 1 ?_
  refine rx1k 5 (rpc 5 Tryz.func56 (sml1_32_c ((upF t (W32 b) (pr32 b 64)) (t - 2))) trivial hH 8 (.keep (.keep (.keep (pgo [] (.nil _ []))))) ?_)
  clear hH
  intro w hH
  refine ⟨pcons (hH.blk 2 rfl) (pcons (hH.blk 2 rfl) (pcons (hH.blk 2 rfl) pnil)), ?_⟩
  refine rv 10 (.aw (pl32 (sml1_32 ((upF t (W32 b) (pr32 b 64)) (t - 2))) ((upF t (W32 b) (pr32 b 64)) (t - 7)))) 9 ?_
  refine rx1k 15 (rpc 15 Tryz.func57 (sml0_32_c ((upF t (W32 b) (pr32 b 64)) (t - 15))) trivial hH 4 (.keep (pgo [] (.keep (.nil _ [])))) ?_)
  clear hH
  intro w hH
  refine ⟨pcons (hH.blk 2 rfl) (pcons (hH.blk 2 rfl) pnil), ?_⟩
  refine rv 16 (.aw (pl32 (pl32 (sml1_32 ((upF t (W32 b) (pr32 b 64)) (t - 2))) ((upF t (W32 b) (pr32 b 64)) (t - 7))) (sml0_32 ((upF t (W32 b) (pr32 b 64)) (t - 15))))) 3 ?_
  refine rv 21 (.aw (pl32 (pl32 (pl32 (sml1_32 ((upF t (W32 b) (pr32 b 64)) (t - 2))) ((upF t (W32 b) (pr32 b 64)) (t - 7))) (sml0_32 ((upF t (W32 b) (pr32 b 64)) (t - 15)))) ((upF t (W32 b) (pr32 b 64)) (t - 16)))) 3 ?_
  have hi16 : t < 64 := by omega
  refine rv 22 (.ia 1 64 t (hi := hi16)) 2 ?_
  refine rx1k 23 ?_
  refine re0 23 2 hH rfl (.st cWd (pl32 (pl32 (pl32 (sml1_32 ((upF t (W32 b) (pr32 b 64)) (t - 2))) ((upF t (W32 b) (pr32 b 64)) (t - 7))) (sml0_32 ((upF t (W32 b) (pr32 b 64)) (t - 15)))) ((upF t (W32 b) (pr32 b 64)) (t - 16))) (room_1 (S := sWd) (C := (cWs 64)) rfl hi16) (vec_set0 (upF t (W32 b) (pr32 b 64)) (pl32 (pl32 (pl32 (sml1_32 ((upF t (W32 b) (pr32 b 64)) (t - 2))) ((upF t (W32 b) (pr32 b 64)) (t - 7))) (sml0_32 ((upF t (W32 b) (pr32 b 64)) (t - 15)))) ((upF t (W32 b) (pr32 b 64)) (t - 16))) hi16)) trivial (pgo [] (pgo [] (.nil _ []))) ?_
  clear hH
  rintro _ _ w rfl hH
  refine ⟨pnil, ?_⟩
  refine rxEnd (by kernel_rfl) ?_
  refine qxInN ?_
  refine qxThen ?_
  refine cxReg ?_
  refine zv .mv 7 ?_
  refine zv (.add ((t + 1 : Nat) : Int)) 1 ?_
  refine zv .mv 1 ?_
  refine pxEnd ?_
  have he17 : (cWs 64).enc (upF (t + 1) (W32 b) (pr32 b 64)) = (cWs 64).enc (stF (upF t (W32 b) (pr32 b 64)) t (pl32 (pl32 (pl32 (sml1_32 ((upF t (W32 b) (pr32 b 64)) (t - 2))) ((upF t (W32 b) (pr32 b 64)) (t - 7))) (sml0_32 ((upF t (W32 b) (pr32 b 64)) (t - 15)))) ((upF t (W32 b) (pr32 b 64)) (t - 16)))) := vec_congr (fun i _ => (congrFun (upF_step t (W32 b) (pr32 b 64) (up_word h16)) i).symm)
  replace hH : HH w0 [] [[bl g1 60 ((cArr 64).enc b)], [bl g2 51 ((cWs 64).enc (fun _ => 0))], [bl g3 51 ((cWs 64).enc (upF (t + 1) (W32 b) (pr32 b 64)))]] w := by rw [he17]; exact hH
  exact zR1 (t + 1) ⟨hH, (by omega), (by omega)⟩ (by omega)
  refine cxExit ?_
  refine qxThenE ?_
  refine qxThenE ?_
  refine qxInE ?_
  refine qxThen ?_
  obtain rfl : t = 64 := by omega
  have he18 : (cWs 64).enc (W32 b) = (cWs 64).enc (upF 64 (W32 b) (pr32 b 64)) := vec_congr (fun i hi => (upF_lt _ _ hi).symm)
  replace hH : HH w0 [] [[bl g1 60 ((cArr 64).enc b)], [bl g2 51 ((cWs 64).enc (fun _ => 0))], [bl g3 51 ((cWs 64).enc (W32 b))]] w := by rw [he18]; exact hH
  refine zr ?_
  refine zs (hH.q 2 rfl) (.ld (cWs 64) (W32 b) (fun _ hS => (holds_blk0 hS))) 7 ?_
  refine ze0 1 hH rfl (.sw (cWs 64) (fun _ => 0) (W32 b)) trivial ?_
  clear hH
  rintro _ _ w rfl hH
  refine zn ?_
  refine cxRet ?_
  refine qxRetC 1 (hH.blk 1 rfl) rfl rfl (by kernel_rfl) (Cod.size _ _) (by kernel_rfl) ?_
  exact ⟨rfl, HH.toBelow hH⟩

set_option maxHeartbeats 8000000 in
theorem bytes_c (s : Nat → UInt32) : Pure Tryz.prog 35 #[((cWs 8).val s)] (fun _ => True) ((cArr 32).val (out32 s)) := by
  refine pure_of (fn := Tryz.f35) Tryz.func35 rfl Tryz.ntmps35 (Nat.le_of_ble_eq_true rfl) rfl ?_
  intro w0 hH hR
  refine zr ?_
  refine zm hH (.bx (cWs 8) s) trivial 1 ?_
  clear hH
  rintro _ _ w ⟨g1, rfl, rfl⟩ hH
  refine zm hH (.al (cArr 32) (fun _ => 0)) trivial 0 ?_
  clear hH
  rintro _ _ w ⟨g2, rfl, rfl⟩ hH
  refine zn ?_
  refine zr ?_
  refine zm hH (.al (cArr 32) (fun _ => 0)) trivial 0 ?_
  clear hH
  rintro _ _ w ⟨g3, rfl, rfl⟩ hH
  refine zn ?_
  refine cxSeq ?_
  have he4 : (cArr 32).enc (upF 0 (out32 s) (fun _ => 0)) = (cArr 32).enc (fun _ => 0) := arr_congr (fun i _ => by rw [upF_zero])
  replace hH : HH w0 [] [[bl g1 50 ((cWs 8).enc s)], [bl g2 23 ((cArr 32).enc (fun _ => 0))], [bl g3 23 ((cArr 32).enc (upF 0 (out32 s) (fun _ => 0)))]] w := by rw [he4]; exact hH
  refine zr ?_
  refine zv .mv 0 ?_
  refine zn ?_
  refine cxBlock ?_
  refine zL1 (fun (m : Nat) => [(5, (.int .i64 (((m) : Nat) : Int))), (3, (.pointer (some ⟨g3, 0, none⟩))), (2, (.pointer (some ⟨g2, 0, none⟩))), (1, (.pointer (some ⟨g1, 0, none⟩)))]) (fun m w => HH w0 [] [[bl g1 50 ((cWs 8).enc s)], [bl g2 23 ((cArr 32).enc (fun _ => 0))], [bl g3 23 ((cArr 32).enc (upF m (out32 s) (fun _ => 0)))]] w ∧ (m ≤ 32)) (fun m => 32 - m) 0 ⟨hH, (Nat.zero_le _)⟩ ?_
  clear hH
  rintro m w ⟨hH, hm⟩
  refine zr ?_
  refine zv (.lt (m < 32)) 0 ?_
  refine zn ?_
  refine cxSeq ?_
  refine zP (fun hc5 => ?_) (fun hc5 => ?_)
  refine cxSkip ?_
  refine qxThen ?_
  refine cxSeq ?_
  refine cxBlock ?_
  refine zr ?_
  refine zv .mv 1 ?_
  refine zv .mv 1 ?_
  refine zn ?_
  refine cxReg ?_
  refine zv .mv 0 ?_
  refine zv .mv 0 ?_
  refine zv (v := (.int .i64 (((m / 4) : Nat) : Int))) (fun _ _ hF => opQuo (z := ((m / 4 : Nat) : Int)) rfl (hF.ev 0 rfl) rfl (by omega) (wI quoN (by omega) (by omega))) 1 ?_
  have hi6 : m / 4 < 8 := by omega
  refine zv (.ia 1 8 (m / 4) (hi := hi6)) 1 ?_
  refine zs (hH.q 0 rfl) (.ld cWd (s (m / 4)) (fun _ hS => ((holds_blk0 hS).eltV hi6))) 1 ?_
  refine zv .mv 4 ?_
  refine zv (v := (.int .i64 (((m % 4) : Nat) : Int))) (fun _ _ hF => opRem (z := ((m % 4 : Nat) : Int)) rfl (hF.ev 0 rfl) rfl (by omega) remN) 1 ?_
  refine zv (.mul (((m % 4) * 8 : Nat) : Int)) 1 ?_
  refine zv (.sub (((24 - m % 4 * 8) : Nat) : Int)) 1 ?_
  refine zv (.rw (24 - m % 4 * 8)) 3 ?_
  refine zv .cb 1 ?_
  have hi7 : m < 32 := by omega
  refine zv (.ia 1 32 m (hi := hi7)) 2 ?_
  refine ze0 2 hH rfl (.st cByte (UInt8.ofNat ((sr32 (s (m / 4)) (24 - m % 4 * 8)).toNat)) (room_1 (S := sBy) (C := (cArr 32)) rfl hi7) (arr_set0 (upF m (out32 s) (fun _ => 0)) (UInt8.ofNat ((sr32 (s (m / 4)) (24 - m % 4 * 8)).toNat)) hi7)) trivial ?_
  clear hH
  rintro _ _ w rfl hH
  refine pxEnd ?_
  refine qxInN ?_
  refine qxThen ?_
  refine cxReg ?_
  refine zv (.add ((m + 1 : Nat) : Int)) 7 ?_
  refine zv .mv 1 ?_
  refine pxEnd ?_
  have he8 : (cArr 32).enc (upF (m + 1) (out32 s) (fun _ => 0)) = (cArr 32).enc (stF (upF m (out32 s) (fun _ => 0)) m (UInt8.ofNat ((sr32 (s (m / 4)) (24 - m % 4 * 8)).toNat))) := arr_congr (fun i _ => (congrFun (upF_step m (out32 s) (fun _ => 0) (out32_at s m)) i).symm)
  replace hH : HH w0 [] [[bl g1 50 ((cWs 8).enc s)], [bl g2 23 ((cArr 32).enc (fun _ => 0))], [bl g3 23 ((cArr 32).enc (upF (m + 1) (out32 s) (fun _ => 0)))]] w := by rw [he8]; exact hH
  exact zR1 (m + 1) ⟨hH, (by omega)⟩ (by omega)
  refine cxExit ?_
  refine qxThenE ?_
  refine qxThenE ?_
  refine qxInE ?_
  refine qxThen ?_
  obtain rfl : m = 32 := by omega
  have he9 : (cArr 32).enc (out32 s) = (cArr 32).enc (upF 32 (out32 s) (fun _ => 0)) := arr_congr (fun i hi => (upF_lt _ _ hi).symm)
  replace hH : HH w0 [] [[bl g1 50 ((cWs 8).enc s)], [bl g2 23 ((cArr 32).enc (fun _ => 0))], [bl g3 23 ((cArr 32).enc (out32 s))]] w := by rw [he9]; exact hH
  refine zr ?_
  refine zs (hH.q 2 rfl) (.ld (cArr 32) (out32 s) (fun _ hS => (holds_blk0 hS))) 23 ?_
  refine ze0 1 hH rfl (.sw (cArr 32) (fun _ => 0) (out32 s)) trivial ?_
  clear hH
  rintro _ _ w rfl hH
  refine zn ?_
  refine cxRet ?_
  refine qxRetC 1 (hH.blk 1 rfl) rfl rfl (by kernel_rfl) (Cod.size _ _) (by kernel_rfl) ?_
  exact ⟨rfl, HH.toBelow hH⟩
end Go.Proofs.YtbbegnfopdihaaaGreatDoor

namespace Go.Proofs.YtbbegnfopdihaaaGreatDoor
open Go Go.RowKit
set_option maxRecDepth 100000

set_option maxHeartbeats 8000000 in
theorem take_c (s : Nat → UInt32) (b : Nat → UInt8) : Pure Tryz.prog 33 #[((cWs 8).val s), ((cArr 64).val b)] (fun w => w.heap[1]? = some (.cells ((cWs 64).enc K32) 51 (0, 0))) ((cWs 8).val (comp32 b s)) := by
  refine pure_of (fn := Tryz.f33) Tryz.func33 rfl Tryz.ntmps33 (Nat.le_of_ble_eq_true rfl) rfl ?_
  intro w0 hH hR
  refine zr ?_
  refine zm hH (.bx (cWs 8) s) trivial 1 ?_
  clear hH
  rintro _ _ w ⟨g1, rfl, rfl⟩ hH
  refine zm hH (.bx (cArr 64) b) trivial 2 ?_
  clear hH
  rintro _ _ w ⟨g2, rfl, rfl⟩ hH
  refine zm hH (.al (cWs 8) (fun _ => 0)) trivial 0 ?_
  clear hH
  rintro _ _ w ⟨g3, rfl, rfl⟩ hH
  refine zn ?_
  refine zr ?_
  refine zs (hH.q 1 rfl) (.ld (cArr 64) b (fun _ hS => (holds_blk0 hS))) 2 ?_
  refine zc Tryz.func42 (words_c b) trivial hH 1 ?_
  clear hH
  intro w hH
  refine zm hH (.al (cWs 64) (fun _ => 0)) trivial 0 ?_
  clear hH
  rintro _ _ w ⟨g4, rfl, rfl⟩ hH
  refine ze0 3 hH rfl (.sw (cWs 64) (fun _ => 0) (W32 b)) trivial ?_
  clear hH
  rintro _ _ w rfl hH
  refine zn ?_
  refine zx ?_
  replace hH := hH.drew
  have hi5 : 0 < 8 := by omega
  refine rv 0 (.ia 1 8 0 (hi := hi5)) 2 ?_
  refine rld 1 (hH.q 0 rfl) (.ld cWd (s 0) (fun _ hS => ((holds_blk0 hS).eltV hi5))) 1 ?_
  have hi6 : 1 < 8 := by omega
  refine rv 2 (.ia 1 8 1 (hi := hi6)) 0 ?_
  refine rld 3 (hH.q 0 rfl) (.ld cWd (s 1) (fun _ hS => ((holds_blk0 hS).eltV hi6))) 1 ?_
  have hi7 : 2 < 8 := by omega
  refine rv 4 (.ia 1 8 2 (hi := hi7)) 0 ?_
  refine rld 5 (hH.q 0 rfl) (.ld cWd (s 2) (fun _ hS => ((holds_blk0 hS).eltV hi7))) 1 ?_
  have hi8 : 3 < 8 := by omega
  refine rv 6 (.ia 1 8 3 (hi := hi8)) 0 ?_
  refine rld 7 (hH.q 0 rfl) (.ld cWd (s 3) (fun _ hS => ((holds_blk0 hS).eltV hi8))) 1 ?_
  have hi9 : 4 < 8 := by omega
  refine rv 8 (.ia 1 8 4 (hi := hi9)) 0 ?_
  refine rld 9 (hH.q 0 rfl) (.ld cWd (s 4) (fun _ hS => ((holds_blk0 hS).eltV hi9))) 1 ?_
  have hi10 : 5 < 8 := by omega
  refine rv 10 (.ia 1 8 5 (hi := hi10)) 0 ?_
  refine rld 11 (hH.q 0 rfl) (.ld cWd (s 5) (fun _ hS => ((holds_blk0 hS).eltV hi10))) 1 ?_
  have hi11 : 6 < 8 := by omega
  refine rv 12 (.ia 1 8 6 (hi := hi11)) 0 ?_
  refine rld 13 (hH.q 0 rfl) (.ld cWd (s 6) (fun _ hS => ((holds_blk0 hS).eltV hi11))) 1 ?_
  have hi12 : 7 < 8 := by omega
  refine rv 14 (.ia 1 8 7 (hi := hi12)) 0 ?_
  refine rld 15 (hH.q 0 rfl) (.ld cWd (s 7) (fun _ hS => ((holds_blk0 hS).eltV hi12))) 1 ?_
  refine rv 16 .mv 128 ?_
  refine rv 17 .mv 128 ?_
  refine rv 18 .mv 128 ?_
  refine rv 19 .mv 128 ?_
  refine rv 20 .mv 128 ?_
  refine rv 21 .mv 128 ?_
  refine rv 22 .mv 128 ?_
  refine rv 23 .mv 128 ?_
  refine rn ?_
  refine cxSeq ?_
  refine zr ?_
  refine zv .mv 0 ?_
  refine zn ?_
  refine cxBlock ?_
  refine zL1 (fun (m : Nat) => [(37, (.int .i64 (((m) : Nat) : Int))), (13, (.int .u32 ((((rnd32 b s m 7).toNat) : Nat) : Int))), (12, (.int .u32 ((((rnd32 b s m 6).toNat) : Nat) : Int))), (11, (.int .u32 ((((rnd32 b s m 5).toNat) : Nat) : Int))), (10, (.int .u32 ((((rnd32 b s m 4).toNat) : Nat) : Int))), (9, (.int .u32 ((((rnd32 b s m 3).toNat) : Nat) : Int))), (8, (.int .u32 ((((rnd32 b s m 2).toNat) : Nat) : Int))), (7, (.int .u32 ((((rnd32 b s m 1).toNat) : Nat) : Int))), (6, (.int .u32 ((((rnd32 b s m 0).toNat) : Nat) : Int))), (5, (.pointer (some ⟨g4, 0, none⟩))), (4, (.pointer (some ⟨g3, 0, none⟩))), (2, (.pointer (some ⟨g1, 0, none⟩)))]) (fun m w => HH w0 [] [[bl g1 50 ((cWs 8).enc s)], [bl g2 60 ((cArr 64).enc b)], [bl g3 50 ((cWs 8).enc (fun _ => 0))], [bl g4 51 ((cWs 64).enc (W32 b))]] w ∧ (m ≤ 64)) (fun m => 64 - m) 0 ⟨hH, (Nat.zero_le _)⟩ ?_
  clear hH
  rintro m w ⟨hH, hm⟩
  refine zr ?_
  refine zv (.lt (m < 64)) 0 ?_
  refine zn ?_
  refine cxSeq ?_
  refine zP (fun hc13 => ?_) (fun hc13 => ?_)
  refine cxSkip ?_
  refine qxThen ?_
  refine cxSeq ?_
  refine cxBlock ?_
  refine zr ?_
  refine zv .mv 1 ?_
  refine zv .mv 1 ?_
  refine zn ?_
  refine zx ?_
  replace hH := hH.drew
  refine rv 0 .mv 4 ?_
  refine rv 1 .mv 0 ?_
  refine rv 4 .mv 0 ?_
  refine rv 5 .mv 0 ?_
  refine rv 6 (.nw (and32 (rnd32 b s m 4) (rnd32 b s m 5))) 3 ?_
  refine rv 7 .mv 0 ?_
  refine rv 8 .cw 1 ?_
  refine rv 9 .mv 0 ?_
  refine rv 10 (.nw (and32 (not32 (rnd32 b s m 4)) (rnd32 b s m 6))) 3 ?_
  refine rv 11 (.xw (xo32 (and32 (rnd32 b s m 4) (rnd32 b s m 5)) (and32 (not32 (rnd32 b s m 4)) (rnd32 b s m 6)))) 3 ?_
  refine rv 13 .mv 0 ?_
  have hi14 : m < 64 := by omega
  refine rv 14 (.ia 1 64 m (hi := hi14)) 1 ?_
  refine rld 15 (hH.ob hR) (.ld cWd (K32 m) (fun _ hS => ((holds_blk0 hS).eltV hi14))) 1 ?_
  refine rv 17 .mv 16 ?_
  have hi15 : m < 64 := by omega
  refine rv 18 (.ia 1 64 m (hi := hi15)) 1 ?_
  refine rld 19 (hH.q 3 rfl) (.ld cWd ((W32 b) m) (fun _ hS => ((holds_blk0 hS).eltV hi15))) 1 ?_
  refine rx1k 2 (rpc 2 Tryz.func43 (big1_32_c (rnd32 b s m 4)) trivial hH 8 (.keep (.keep (.nil _ []))) ?_)
  clear hH
  intro w hH
  refine ⟨pcons (hH.blk 3 rfl) (pcons (hH.oldBlk hR (by simp)) pnil), ?_⟩
  refine rv 3 (.aw (pl32 (rnd32 b s m 7) (big1_32 (rnd32 b s m 4)))) 17 ?_
  refine rv 12 (.aw (pl32 (pl32 (rnd32 b s m 7) (big1_32 (rnd32 b s m 4))) (xo32 (and32 (rnd32 b s m 4) (rnd32 b s m 5)) (and32 (not32 (rnd32 b s m 4)) (rnd32 b s m 6))))) 9 ?_
  refine rv 16 (.aw (pl32 (pl32 (pl32 (rnd32 b s m 7) (big1_32 (rnd32 b s m 4))) (xo32 (and32 (rnd32 b s m 4) (rnd32 b s m 5)) (and32 (not32 (rnd32 b s m 4)) (rnd32 b s m 6)))) (K32 m))) 5 ?_
  refine rv 20 (.aw (pl32 (pl32 (pl32 (pl32 (rnd32 b s m 7) (big1_32 (rnd32 b s m 4))) (xo32 (and32 (rnd32 b s m 4) (rnd32 b s m 5)) (and32 (not32 (rnd32 b s m 4)) (rnd32 b s m 6)))) (K32 m)) ((W32 b) m))) 3 ?_
  refine rv 21 .mv 1 ?_
  refine rn ?_
  refine zr ?_
  refine zv .mv 0 ?_
  refine zc Tryz.func44 (big0_32_c (rnd32 b s m 0)) trivial hH 1 ?_
  clear hH
  intro w hH
  refine zv .mv 0 ?_
  refine zv .mv 0 ?_
  refine zv (.nw (and32 (rnd32 b s m 0) (rnd32 b s m 1))) 3 ?_
  refine zv .mv 0 ?_
  refine zv .mv 0 ?_
  refine zv (.nw (and32 (rnd32 b s m 0) (rnd32 b s m 2))) 3 ?_
  refine zv (.xw (xo32 (and32 (rnd32 b s m 0) (rnd32 b s m 1)) (and32 (rnd32 b s m 0) (rnd32 b s m 2)))) 3 ?_
  refine zv .mv 0 ?_
  refine zv .mv 0 ?_
  refine zv (.nw (and32 (rnd32 b s m 1) (rnd32 b s m 2))) 3 ?_
  refine zv (.xw (xo32 (xo32 (and32 (rnd32 b s m 0) (rnd32 b s m 1)) (and32 (rnd32 b s m 0) (rnd32 b s m 2))) (and32 (rnd32 b s m 1) (rnd32 b s m 2)))) 3 ?_
  refine zv (.aw (pl32 (big0_32 (rnd32 b s m 0)) (xo32 (xo32 (and32 (rnd32 b s m 0) (rnd32 b s m 1)) (and32 (rnd32 b s m 0) (rnd32 b s m 2))) (and32 (rnd32 b s m 1) (rnd32 b s m 2))))) 3 ?_
  refine zv .mv 1 ?_
  refine zn ?_
  refine cxReg ?_
  refine zv .mv 0 ?_
  refine zv .mv 2 ?_
  refine zv (.aw (pl32 (pl32 (pl32 (pl32 (pl32 (rnd32 b s m 7) (big1_32 (rnd32 b s m 4))) (xo32 (and32 (rnd32 b s m 4) (rnd32 b s m 5)) (and32 (not32 (rnd32 b s m 4)) (rnd32 b s m 6)))) (K32 m)) ((W32 b) m)) (pl32 (big0_32 (rnd32 b s m 0)) (xo32 (xo32 (and32 (rnd32 b s m 0) (rnd32 b s m 1)) (and32 (rnd32 b s m 0) (rnd32 b s m 2))) (and32 (rnd32 b s m 1) (rnd32 b s m 2)))))) 3 ?_
  refine zv .mv 512 ?_
  refine zv .mv 512 ?_
  refine zv .mv 512 ?_
  refine zv .mv 512 ?_
  refine zv .mv 32 ?_
  refine zv (.aw (pl32 (rnd32 b s m 3) (pl32 (pl32 (pl32 (pl32 (rnd32 b s m 7) (big1_32 (rnd32 b s m 4))) (xo32 (and32 (rnd32 b s m 4) (rnd32 b s m 5)) (and32 (not32 (rnd32 b s m 4)) (rnd32 b s m 6)))) (K32 m)) ((W32 b) m)))) 3 ?_
  refine zv .mv 256 ?_
  refine zv .mv 256 ?_
  refine zv .mv 256 ?_
  refine zv .mv 128 ?_
  refine zv .mv 128 ?_
  refine zv .mv 128 ?_
  refine zv .mv 128 ?_
  refine zv .mv 128 ?_
  refine zv .mv 128 ?_
  refine zv .mv 128 ?_
  refine zv .mv 128 ?_
  refine pxEnd ?_
  refine qxInN ?_
  refine qxThen ?_
  refine cxReg ?_
  refine zv (.add ((m + 1 : Nat) : Int)) 256 ?_
  refine zv .mv 1 ?_
  refine pxEnd ?_
  exact zR1 (m + 1) ⟨hH, (by omega)⟩ (by omega)
  refine cxExit ?_
  refine qxThenE ?_
  refine qxThenE ?_
  refine qxInE ?_
  refine qxThen ?_
  refine cxSeq ?_
  obtain rfl : m = 64 := by omega
  refine zr ?_
  refine zv .mv 1539 ?_
  refine zv .mv 128 ?_
  refine zv .mv 128 ?_
  refine zv .mv 128 ?_
  refine zv .mv 128 ?_
  refine zv .mv 128 ?_
  refine zv .mv 128 ?_
  refine zv .mv 128 ?_
  refine zv (v := ((cWs 8).val (rnd32 b s 64))) (fun _ _ hF => opBuildP (cells := (cWs 8).enc (rnd32 b s 64)) (vals := [(0, (.int .u32 ((((rnd32 b s 64 0).toNat) : Nat) : Int))), (1, (.int .u32 ((((rnd32 b s 64 1).toNat) : Nat) : Int))), (2, (.int .u32 ((((rnd32 b s 64 2).toNat) : Nat) : Int))), (3, (.int .u32 ((((rnd32 b s 64 3).toNat) : Nat) : Int))), (4, (.int .u32 ((((rnd32 b s 64 4).toNat) : Nat) : Int))), (5, (.int .u32 ((((rnd32 b s 64 5).toNat) : Nat) : Int))), (6, (.int .u32 ((((rnd32 b s 64 6).toNat) : Nat) : Int))), (7, (.int .u32 ((((rnd32 b s 64 7).toNat) : Nat) : Int)))]) rfl (EvP.cons (v := (.int .u32 ((((rnd32 b s 64 0).toNat) : Nat) : Int))) (hF.ev 7 rfl) (EvP.cons (v := (.int .u32 ((((rnd32 b s 64 1).toNat) : Nat) : Int))) (hF.ev 6 rfl) (EvP.cons (v := (.int .u32 ((((rnd32 b s 64 2).toNat) : Nat) : Int))) (hF.ev 5 rfl) (EvP.cons (v := (.int .u32 ((((rnd32 b s 64 3).toNat) : Nat) : Int))) (hF.ev 4 rfl) (EvP.cons (v := (.int .u32 ((((rnd32 b s 64 4).toNat) : Nat) : Int))) (hF.ev 3 rfl) (EvP.cons (v := (.int .u32 ((((rnd32 b s 64 5).toNat) : Nat) : Int))) (hF.ev 2 rfl) (EvP.cons (v := (.int .u32 ((((rnd32 b s 64 6).toNat) : Nat) : Int))) (hF.ev 1 rfl) (EvP.cons (v := (.int .u32 ((((rnd32 b s 64 7).toNat) : Nat) : Int))) (hF.ev 0 rfl) EvP.nil)))))))) (by kernel_rfl) _) 255 ?_
  have he16 : (cWs 8).enc (upF 0 (comp32 b s) s) = (cWs 8).enc s := vec_congr (fun i _ => by rw [upF_zero])
  replace hH : HH w0 [] [[bl g1 50 ((cWs 8).enc (upF 0 (comp32 b s) s))], [bl g2 60 ((cArr 64).enc b)], [bl g3 50 ((cWs 8).enc (fun _ => 0))], [bl g4 51 ((cWs 64).enc (W32 b))]] w := by rw [he16]; exact hH
  refine zv .mv 0 ?_
  refine zn ?_
  refine cxBlock ?_
  refine zL1 (fun (q : Nat) => [(97, (.int .i64 (((q) : Nat) : Int))), (96, ((cWs 8).val (rnd32 b s 64))), (4, (.pointer (some ⟨g3, 0, none⟩))), (2, (.pointer (some ⟨g1, 0, none⟩)))]) (fun q w => HH w0 [] [[bl g1 50 ((cWs 8).enc (upF q (comp32 b s) s))], [bl g2 60 ((cArr 64).enc b)], [bl g3 50 ((cWs 8).enc (fun _ => 0))], [bl g4 51 ((cWs 64).enc (W32 b))]] w ∧ (q ≤ 8)) (fun q => 8 - q) 0 ⟨hH, (Nat.zero_le _)⟩ ?_
  clear hH
  rintro q w ⟨hH, hq⟩
  refine zr ?_
  refine zv (.lt (q < 8)) 0 ?_
  refine zn ?_
  refine cxSeq ?_
  refine zP (fun hc17 => ?_) (fun hc17 => ?_)
  refine cxSkip ?_
  refine qxThen ?_
  refine cxSeq ?_
  refine cxBlock ?_
  refine zr ?_
  refine zv .mv 1 ?_
  have hi18 : q < 8 := by omega
  refine zv (v := (.int .u32 (((((rnd32 b s 64) q).toNat) : Nat) : Int))) (fun _ _ hF => opIdxA (S := sWd) (e := 22) (n := 8) (i := q) (f := (rnd32 b s 64)) rfl (by kernel_rfl) (by kernel_rfl) (hF.ev 2 rfl) (hF.ev 1 rfl) rfl hi18) 0 ?_
  refine zv .mv 2 ?_
  refine zv .mv 2 ?_
  refine zn ?_
  refine cxReg ?_
  refine zv .mv 2 ?_
  have hi19 : q < 8 := by omega
  refine zv (.ia 1 8 q (hi := hi19)) 0 ?_
  refine zs (hH.q 0 rfl) (.ld cWd ((upF q (comp32 b s) s) q) (fun _ hS => ((holds_blk0 hS).eltV hi19))) 1 ?_
  refine zv .mv 4 ?_
  refine zv (.aw (pl32 ((upF q (comp32 b s) s) q) ((rnd32 b s 64) q))) 3 ?_
  have hi20 : q < 8 := by omega
  refine zv (.ia 1 8 q (hi := hi20)) 2 ?_
  refine ze0 0 hH rfl (.st cWd (pl32 ((upF q (comp32 b s) s) q) ((rnd32 b s 64) q)) (room_1 (S := sWd) (C := (cWs 8)) rfl hi20) (vec_set0 (upF q (comp32 b s) s) (pl32 ((upF q (comp32 b s) s) q) ((rnd32 b s 64) q)) hi20)) trivial ?_
  clear hH
  rintro _ _ w rfl hH
  refine pxEnd ?_
  refine qxInN ?_
  refine qxThen ?_
  refine cxReg ?_
  refine zv (.add ((q + 1 : Nat) : Int)) 7 ?_
  refine zv .mv 1 ?_
  refine pxEnd ?_
  have he21 : (cWs 8).enc (upF (q + 1) (comp32 b s) s) = (cWs 8).enc (stF (upF q (comp32 b s) s) q (pl32 ((upF q (comp32 b s) s) q) ((rnd32 b s 64) q))) := vec_congr (fun i _ => (congrFun (upF_step q (comp32 b s) s (by rw [upF_at]; rfl)) i).symm)
  replace hH : HH w0 [] [[bl g1 50 ((cWs 8).enc (upF (q + 1) (comp32 b s) s))], [bl g2 60 ((cArr 64).enc b)], [bl g3 50 ((cWs 8).enc (fun _ => 0))], [bl g4 51 ((cWs 64).enc (W32 b))]] w := by rw [he21]; exact hH
  exact zR1 (q + 1) ⟨hH, (by omega)⟩ (by omega)
  refine cxExit ?_
  refine qxThenE ?_
  refine qxThenE ?_
  refine qxInE ?_
  refine qxThen ?_
  obtain rfl : q = 8 := by omega
  have he22 : (cWs 8).enc (comp32 b s) = (cWs 8).enc (upF 8 (comp32 b s) s) := vec_congr (fun i hi => (upF_lt _ _ hi).symm)
  replace hH : HH w0 [] [[bl g1 50 ((cWs 8).enc (comp32 b s))], [bl g2 60 ((cArr 64).enc b)], [bl g3 50 ((cWs 8).enc (fun _ => 0))], [bl g4 51 ((cWs 64).enc (W32 b))]] w := by rw [he22]; exact hH
  refine zr ?_
  refine zs (hH.q 0 rfl) (.ld (cWs 8) (comp32 b s) (fun _ hS => (holds_blk0 hS))) 23 ?_
  refine ze0 2 hH rfl (.sw (cWs 8) (fun _ => 0) (comp32 b s)) trivial ?_
  clear hH
  rintro _ _ w rfl hH
  refine zn ?_
  refine cxRet ?_
  refine qxRetC 1 (hH.blk 2 rfl) rfl rfl (by kernel_rfl) (Cod.size _ _) (by kernel_rfl) ?_
  exact ⟨rfl, HH.toBelow hH⟩
end Go.Proofs.YtbbegnfopdihaaaGreatDoor

namespace Go.Proofs.YtbbegnfopdihaaaGreatDoor
open Go Go.RowKit
set_option maxRecDepth 100000

/-- A hash that has taken l. -/
def HaAt (g : Nat) (l : List UInt8) (E : Hl) : Prop := ∃ s r, E = [bl g 62 (cHa.enc (s, r, l.length))] ∧ HaS s r l.length fun j => l.getD j 0

set_option maxHeartbeats 8000000 in
theorem padding_c (n L : Nat) (hL : L = 64 * nb32 n - n) (hn : n ≤ 1152921504606846976) : Does Tryz.prog 34 #[(.int .u64 (((n) : Nat) : Int)), (.int .i64 64), (.int .i64 8)] [] (fun _ => True) (fun v E' => OwnT cByte 5 v (pdL n) E') := by
  refine does_of (fn := Tryz.f34) Tryz.func34 rfl Tryz.ntmps34 (Nat.le_of_ble_eq_true rfl) rfl ?_
  intro w0 hH hR
  replace hH : HH w0 [] [] w0 := hH.only [false]
  have hL2 : L = 64 - (n + 8) % 64 + 8 := by rw [hL]; unfold nb32; omega
  refine zr ?_
  refine zv .mv 0 ?_
  refine zn ?_
  refine zr ?_
  refine zv .mv 1 ?_
  refine zv .mv 0 ?_
  refine zv .mv 0 ?_
  refine zv (.cu .u64 (q := 8)) 1 ?_
  refine zv (v := (.int .u64 (((n + 8) : Nat) : Int))) (fun _ _ hF => opAddU (m := n) (j := 8) (z := (n + 8)) rfl rfl (hF.ev 1 rfl) (hF.ev 0 rfl) (Nat.mod_eq_of_lt (by show _ < 18446744073709551616; omega))) 3 ?_
  refine zv .mv 8 ?_
  refine zv (.cu .u64 (q := 64)) 1 ?_
  refine zv (v := (.int .u64 ((((n + 8) % 64) : Nat) : Int))) (fun _ _ hF => opRem (z := (((n + 8) % 64 : Nat) : Int)) rfl (hF.ev 1 rfl) (hF.ev 0 rfl) (by omega) remN) 3 ?_
  refine zv .ci 1 ?_
  refine zv (.sub (((64 - (n + 8) % 64) : Nat) : Int)) 3 ?_
  refine zv .mv 1 ?_
  refine zn ?_
  refine zr ?_
  refine zv .mv 1 ?_
  refine zv .mv 4 ?_
  refine zv (.add (((L) : Nat) : Int)) 3 ?_
  refine zm hH (fun _ hF => smMake (e := 5) (n := L) (sz := 1) (by_ := 1) (z := (.int .u8 0)) (cs := madeCells (cByte.enc (0 : UInt8)) (L * 1)) rfl (by kernel_rfl) (by kernel_rfl) (hF.ev 0 rfl) (hF.ev 0 rfl) rfl rfl (by omega) (by omega) rfl) trivial 1 ?_
  clear hH
  rintro _ _ w ⟨g1, rfl, rfl⟩ hH
  refine zv .mv 1 ?_
  refine zn ?_
  refine zr ?_
  refine zv .mv 0 ?_
  have hi2 : 0 < L := by omega
  have hj5 : 0 < (List.replicate L (0 : UInt8)).length := by rw [List.length_replicate]; omega
  obtain ⟨x3, hx4⟩ := get_at (List.replicate L (0 : UInt8)) 0 hj5
  have hb6 := UInt8.toNat_lt x3
  refine zv (.ix 1 0 (hi := hi2)) 1 ?_
  obtain ⟨cur8, hcs9, hB7⟩ : ∃ cs, putL (madeCells (cByte.enc (0 : UInt8)) (L * 1)) (0 + 0 * 1) (cByte.enc 128).toList = cs ∧ Bk cByte L cs ((List.replicate L (0 : UInt8)).set 0 128) := ⟨_, rfl, put_at (Bk.make (C := cByte) (0 : UInt8) L (ltb rfl) (by unfold maxLen; omega)) 0 hj5 128⟩
  refine ze0 0 hH rfl (fun _ hF => smStoreT (C := cByte) (z := 128) rfl (hF.ev 0 rfl) rfl rfl (by kernel_rfl) (room_at (Bk.make (C := cByte) (0 : UInt8) L (ltb rfl) (by unfold maxLen; omega)) hj5) hcs9) trivial ?_
  clear hH
  rintro _ _ w rfl hH
  refine zn ?_
  refine zr ?_
  refine zv .mv 5 ?_
  refine zv (v := (.int .u64 (((n * 8) : Nat) : Int))) (fun _ _ hF => opMulU (m := n) (j := 8) (z := (n * 8)) rfl rfl (hF.ev 0 rfl) rfl (Nat.mod_eq_of_lt (by show _ < 18446744073709551616; omega))) 1 ?_
  refine zv .mv 1 ?_
  refine zn ?_
  refine cxSeq ?_
  refine zr ?_
  refine zv .mv 0 ?_
  refine zn ?_
  refine cxBlock ?_
  refine zL2 (fun (m : Nat) (_ : Array Value) => [(29, (.int .i64 (((m) : Nat) : Int))), (9, (.int .u64 (((n * 8) : Nat) : Int))), (8, (.slice (some ⟨g1, 0, none⟩) L L))]) (fun m cur' w => HH w0 [] [[bl g1 5 cur']] w ∧ (m ≤ 8) ∧ (Bk cByte L cur' (lst L (pm32 L n m)))) (fun m _ => 8 - m) 0 cur8 ⟨hH, (Nat.zero_le _), (pm_begin (show 0 < L by omega) ▸ hB7)⟩ ?_
  clear hH
  rintro m cur' w ⟨hH, hm, hB'⟩
  refine zr ?_
  refine zv (.lt (m < 8)) 0 ?_
  refine zn ?_
  refine cxSeq ?_
  refine zP (fun hc10 => ?_) (fun hc10 => ?_)
  refine cxSkip ?_
  refine qxThen ?_
  refine cxSeq ?_
  refine cxBlock ?_
  refine zr ?_
  refine zv .mv 1 ?_
  refine zv .mv 1 ?_
  refine zn ?_
  refine cxReg ?_
  refine zv .mv 0 ?_
  refine zv .mv 0 ?_
  refine zv .len 1 ?_
  refine zv (.sub (((L - 1) : Nat) : Int)) 1 ?_
  refine zv .mv 0 ?_
  refine zv (.sub (((L - 1 - m) : Nat) : Int)) 3 ?_
  refine zv .mv 0 ?_
  refine zv .mv 8 ?_
  refine zv (.mul ((8 * m : Nat) : Int)) 1 ?_
  refine zv (v := (.int .u64 ((((n * 8) / 2 ^ (8 * m)) : Nat) : Int))) (fun _ _ hF => opShrU (n := 8 * m) (z := ((n * 8) / 2 ^ (8 * m))) rfl (hF.ev 1 rfl) (hF.ev 0 rfl) (by show _ ≤ 64; omega) (rfl)) 3 ?_
  refine zv .cb 1 ?_
  have hi11 : L - 1 - m < L := by omega
  have hj14 : L - 1 - m < (lst L (pm32 L n m)).length := by rw [lst_len]; omega
  obtain ⟨x12, hx13⟩ := get_at (lst L (pm32 L n m)) (L - 1 - m) hj14
  have hb15 := UInt8.toNat_lt x12
  refine zv (.ix 1 (L - 1 - m) (hi := hi11)) 6 ?_
  obtain ⟨cur17, hcs18, hB16⟩ : ∃ cs, putL cur' (0 + (L - 1 - m) * 1) (cByte.enc (UInt8.ofNat ((n * 8) / 2 ^ (8 * m)))).toList = cs ∧ Bk cByte L cs ((lst L (pm32 L n m)).set (L - 1 - m) (UInt8.ofNat ((n * 8) / 2 ^ (8 * m)))) := ⟨_, rfl, put_at hB' (L - 1 - m) hj14 (UInt8.ofNat ((n * 8) / 2 ^ (8 * m)))⟩
  refine ze0 0 hH rfl (fun _ hF => smStoreT (C := cByte) (z := (UInt8.ofNat ((n * 8) / 2 ^ (8 * m)))) rfl (hF.ev 0 rfl) (hF.ev 1 rfl) rfl (by kernel_rfl) (room_at hB' hj14) hcs18) trivial ?_
  clear hH
  rintro _ _ w rfl hH
  refine pxEnd ?_
  refine qxInN ?_
  refine qxThen ?_
  refine cxReg ?_
  refine zv (.add ((m + 1 : Nat) : Int)) 7 ?_
  refine zv .mv 1 ?_
  refine pxEnd ?_
  exact zR2 (m + 1) cur17 ⟨hH, (by omega), (pm_step (show m < L by omega) ▸ hB16)⟩ (by omega)
  refine cxExit ?_
  refine qxThenE ?_
  refine qxThenE ?_
  refine qxInE ?_
  refine qxThen ?_
  refine zr ?_
  refine zv .mv 15 ?_
  refine zv .mv 1 ?_
  refine zn ?_
  refine cxRet ?_
  refine qxRet1 0 rfl rfl ?_
  obtain rfl : m = 8 := by omega
  have he : lst L (pm32 L n 8) = pdL n := by rw [hL]; rfl
  exact ⟨_, _, rfl, (he ▸ hB'.own 5 g1 (lst_len _ _)), hH.out1 [true] rfl⟩

set_option maxHeartbeats 8000000 in
theorem write_in (g k : Nat) (s : Nat → UInt32) (r F : Nat → UInt8) (A : Option Addr) (n c : Nat) (m : List UInt8) (hS : HaS s r k F) (hF : ∀ j x, m[j]? = some x → F (k + j) = x) (hb : k + n ≤ 1152921504606846976) : Does Tryz.prog 24 #[(.pointer (some ⟨g, 0, none⟩)), (.slice A n c)] [bl g 62 (cHa.enc (s, r, k))] (fun w => w.heap[1]? = some (.cells ((cWs 64).enc K32) 51 (0, 0)) ∧ Vu cByte w A n c m ∧ Off A n [g]) (fun v E' => v = .tuple #[] ∧ ∃ s' r', E' = [bl g 62 (cHa.enc (s', r', k + n))] ∧ HaS s' r' (k + n) F) := by
  refine does_of (fn := Tryz.f24) Tryz.func24 rfl Tryz.ntmps24 (Nat.le_of_ble_eq_true rfl) rfl ?_
  intro w0 hH hR
  replace hH : HH w0 [g] [[bl g 62 (cHa.enc (s, r, k))]] w0 := hH
  have hng := ne_ty hR.1 (hH.blk 0 rfl) rfl
  refine cxSeq ?_
  refine zr ?_
  refine zv .mv 0 ?_
  refine zv (v := (.bool false)) (fun _ _ hF => opEqNil (e := 62) rfl (by kernel_rfl) (hF.ev 0 rfl) rfl rfl) 1 ?_
  refine zn ?_
  refine zF ?_
  refine cxSkip ?_
  refine qxThen ?_
  refine cxBlock ?_
  refine zL7 (fun (A1 : Option Addr) (n1 : Nat) (c1 : Nat) (_ : List UInt8) (_ : Nat → UInt32) (_ : Nat → UInt8) (_ : Nat) => [(1, (.slice A1 n1 c1)), (0, (.pointer (some ⟨g, 0, none⟩)))]) (fun A1 n1 c1 m1 s1 r1 k1 w => HH w0 [g] [[bl g 62 (cHa.enc (s1, r1, k1))]] w ∧ (Vu cByte w0 A1 n1 c1 m1) ∧ (Off A1 n1 [g]) ∧ (HaS s1 r1 k1 F) ∧ (∀ j z, m1[j]? = some z → F (k1 + j) = z) ∧ (k1 + n1 = k + n)) (fun _ n1 _ _ _ _ _ => n1) A n c m s r k ⟨hH, hR.2.1, hR.2.2, hS, hF, rfl⟩ ?_
  clear hH
  rintro A1 n1 c1 m1 s1 r1 k1 w ⟨hH, hV, hO, hS1, hF1, hk⟩
  refine cxSeq ?_
  refine zr ?_
  refine zv .mv 0 ?_
  refine zv .len 1 ?_
  refine zv (.gt (n1 > 0)) 1 ?_
  refine zn ?_
  refine zP (fun hc1 => ?_) (fun hc1 => ?_)
  refine cxSkip ?_
  refine qxThen ?_
  refine cxBlock ?_
  have hlen1 := hV.len
  obtain ⟨kk, hkk⟩ : ∃ kk, kk = min n1 (64 - k1 % 64) := ⟨_, rfl⟩
  refine zx ?_
  replace hH := hH.drew
  refine rv 0 .mv 1 ?_
  refine rv 1 .nc 1 ?_
  refine rv 2 (.fld 8) 1 ?_
  refine rv 3 .mv 0 ?_
  refine rv 4 .nc 1 ?_
  refine rv 5 (.fld 72) 1 ?_
  refine rld 6 (hH.q 0 rfl) (.ld (cNat .u64) k1 (fun _ hS => ((holds_blk0 hS).snd).snd)) 1 ?_
  refine rv 7 (v := (.int .u64 (((k1 % 64) : Nat) : Int))) (fun _ _ hF => opRem (z := ((k1 % 64 : Nat) : Int)) rfl (hF.ev 0 rfl) rfl (by omega) remN) 1 ?_
  refine rv 8 (v := (.slice (some ⟨g, 8 + k1 % 64 * 1, none⟩) (64 - k1 % 64) (64 - k1 % 64))) (fun _ _ hF => opSliceAL (m := 64) (l := k1 % 64) (e := 5) (sz := 1) rfl (by kernel_rfl) (by kernel_rfl) (hF.ev 1 rfl) (hF.ev 0 rfl) rfl (by omega)) 3 ?_
  refine rv 9 .mv 0 ?_
  refine rx1k 10 ?_
  refine re 10 0 hH rfl (fun _ hF => smCopyK (C := cByte) (m := m1) (e := 5) kk hkk.symm rfl (by kernel_rfl) (by kernel_rfl) (ltb rfl) (hF.ev 1 rfl) (hF.ev 0 rfl) hlen1 (by rw [Cod.size]; show 8 + k1 % 64 * 1 + kk * 1 ≤ 73; omega) (put_snd (put_fst (arr_ov r1 (k1 % 64 * 1) (m1.take kk)) (by rw [flat_len, List.length_take]; show k1 % 64 * 1 + min kk m1.length * 1 ≤ 64; omega)) rfl)) (hH.vu hV (by decide) hO) 3 (pgo [8, 7] (.nil _ [])) ?_
  clear hH
  rintro _ _ w ⟨rfl, rfl⟩ hH
  refine ⟨pnil, ?_⟩
  refine rv 11 .mv 1 ?_
  refine rn ?_
  refine zr ?_
  refine zv .mv 0 ?_
  refine zv .nc 0 ?_
  refine zv (.fld 72) 1 ?_
  refine zs (hH.q 0 rfl) (.ld (cNat .u64) k1 (fun _ hS => ((holds_blk0 hS).snd).snd)) 1 ?_
  refine zv .mv 0 ?_
  refine zv (.cu .u64) 1 ?_
  refine zv (v := (.int .u64 (((k1 + kk) : Nat) : Int))) (fun _ _ hF => opAddU (m := k1) (j := kk) (z := (k1 + kk)) rfl rfl (hF.ev 1 rfl) (hF.ev 0 rfl) (Nat.mod_eq_of_lt (by show _ < 18446744073709551616; omega))) 3 ?_
  refine zv .nc 2 ?_
  refine zv (.fld 72) 1 ?_
  refine ze0 0 hH rfl (fun _ hF => smStoreT (C := (cNat .u64)) (z := k1 + kk) rfl (hF.ev 0 rfl) (hF.ev 1 rfl) rfl (by kernel_rfl) (by rw [Cod.size]; exact leb rfl) (put_snd (put_snd (put_whole (cNat .u64) _ _) rfl) rfl)) trivial ?_
  clear hH
  rintro _ _ w rfl hH
  refine zn ?_
  refine zr ?_
  refine zv .mv 11 ?_
  refine zv .mv 2 ?_
  refine zv (v := (.slice (cutA A1 c1 kk 1) (n1 - kk) (c1 - kk))) (fun _ _ hF => opCutL (k := kk) (e := 5) (sz := 1) rfl (by kernel_rfl) (by kernel_rfl) (hF.ev 1 rfl) (hF.ev 0 rfl) rfl (by omega)) 3 ?_
  refine zv .mv 1 ?_
  refine zn ?_
  refine zr ?_
  refine zv .mv 0 ?_
  refine zv .nc 1 ?_
  refine zv (.fld 72) 1 ?_
  refine zs (hH.q 0 rfl) (.ld (cNat .u64) (k1 + kk) (fun _ hS => ((holds_blk0 hS).snd).snd)) 1 ?_
  refine zv (v := (.int .u64 ((((k1 + kk) % 64) : Nat) : Int))) (fun _ _ hF => opRem (z := (((k1 + kk) % 64 : Nat) : Int)) rfl (hF.ev 0 rfl) rfl (by omega) remN) 1 ?_
  refine zv (.eq ((k1 + kk) % 64 = 0)) 1 ?_
  refine zn ?_
  refine zP (fun hc2 => ?_) (fun hc2 => ?_)
  refine cxRegX mixedOrders (by kernel_rfl) ?_
  replace hH := hH.drew
  refine rv 0 .mv 1 ?_
  refine rv 1 .mv 0 ?_
  refine rv 2 .nc 1 ?_
  refine rv 3 (.fld 0) 1 ?_
  refine rld 4 (hH.q 0 rfl) (.ld (cWs 8) s1 (fun _ hS => (holds_blk0 hS).fst)) 1 ?_
  refine rv 5 .mv 0 ?_
  refine rv 6 .nc 1 ?_
  refine rv 7 (.fld 8) 1 ?_
  refine rld 8 (hH.q 0 rfl) (.ld (cArr 64) (ovF r1 (k1 % 64 * 1) (m1.take kk)) (fun _ hS => ((holds_blk0 hS).snd).fst)) 1 ?_
  refine rx1k 9 (rpc 9 Tryz.func33 (take_c s1 (ovF r1 (k1 % 64 * 1) (m1.take kk))) (hH.oldBlk hR.1 hng) hH 3 (pgo [] (pgo [] (.nil _ []))) ?_)
  clear hH
  intro w hH
  refine ⟨pnil, ?_⟩
  refine rv 10 .nc 2 ?_
  refine rv 11 (.fld 0) 1 ?_
  refine rx1k 12 ?_
  refine re0 12 0 hH rfl (fun _ hF => smStoreT (C := (cWs 8)) (z := (comp32 (ovF r1 (k1 % 64 * 1) (m1.take kk)) s1)) rfl (hF.ev 0 rfl) (hF.ev 1 rfl) rfl (by kernel_rfl) (by rw [Cod.size]; exact leb rfl) (put_fst (put_whole (cWs 8) _ _) (by rw [Array.length_toList, Cod.size]; exact leb rfl))) trivial (.nil _ []) ?_
  clear hH
  rintro _ _ w rfl hH
  refine ⟨pnil, ?_⟩
  refine rxEnd (by kernel_rfl) ?_
  refine qxInN ?_
  exact zR7 (cutA A1 c1 kk 1) (n1 - kk) (c1 - kk) (m1.drop kk) (comp32 (ovF r1 (k1 % 64 * 1) (m1.take kk)) s1) (ovF r1 (k1 % 64 * 1) (m1.take kk)) (k1 + kk) ⟨hH, (hV.from (show kk ≤ n1 by omega)), (hO.cut hV _ (fun _ => by omega)), (hS1.full hF1 (by omega) (by omega)), (fun j x hx => by rw [Nat.add_assoc]; exact hF1 _ _ (by rw [List.getElem?_drop] at hx; exact hx)), (by omega)⟩ (show n1 - kk < n1 by omega)
  refine cxSkip ?_
  refine qxInN ?_
  exact zR7 (cutA A1 c1 kk 1) (n1 - kk) (c1 - kk) (m1.drop kk) s1 (ovF r1 (k1 % 64 * 1) (m1.take kk)) (k1 + kk) ⟨hH, (hV.from (show kk ≤ n1 by omega)), (hO.cut hV _ (fun _ => by omega)), (hS1.part hF1 (by omega) (by omega)), (fun j x hx => by rw [Nat.add_assoc]; exact hF1 _ _ (by rw [List.getElem?_drop] at hx; exact hx)), (by omega)⟩ (show n1 - kk < n1 by omega)
  refine cxExit ?_
  refine qxThenE ?_
  refine qxThenE ?_
  refine qxInE ?_
  refine qxEnd0 rfl ?_
  obtain rfl : k1 = k + n := by omega
  exact ⟨_, _, rfl, ⟨rfl, s1, r1, rfl, hS1⟩, hH.out1 [true] rfl⟩

set_option maxHeartbeats 8000000 in
theorem new_c  : Does Tryz.prog 23 #[] [] (fun w => w.heap[0]? = some (.cells ((cWs 8).enc H32) 50 (0, 0))) (fun v E' => ∃ g, v = ptrV g ∧ HaAt g [] E') := by
  refine does_of (fn := Tryz.f23) Tryz.func23 rfl Tryz.ntmps23 (Nat.le_of_ble_eq_true rfl) rfl ?_
  intro w0 hH hR
  replace hH : HH w0 [] [] w0 := hH.only [false]
  refine zr ?_
  refine zv .mv 0 ?_
  refine zn ?_
  refine zr ?_
  refine zs (hH.ob hR) (.ld (cWs 8) H32 (fun _ hS => (holds_blk0 hS))) 1 ?_
  refine zv (v := (cHa.val (H32, fun _ => 0, 0))) (fun _ _ hF => opBuildP (cells := cHa.enc (H32, fun _ => 0, 0)) (vals := [(0, ((cWs 8).val H32))]) rfl (EvP.cons (hF.ev 0 rfl) EvP.nil) (by kernel_rfl) _) 1 ?_
  refine zm hH (.bx cHa (H32, fun _ => 0, 0)) trivial 1 ?_
  clear hH
  rintro _ _ w ⟨g1, rfl, rfl⟩ hH
  refine zv .mv 1 ?_
  refine zn ?_
  refine cxRet ?_
  refine qxRet1 0 rfl rfl ?_
  exact ⟨_, _, rfl, ⟨_, rfl, H32, fun _ => 0, rfl, fun _ _ => rfl, fun _ h => absurd h (Nat.not_lt_zero _)⟩, hH.out1 [true] rfl⟩

set_option maxHeartbeats 8000000 in
theorem sum_in (g k : Nat) (s : Nat → UInt32) (r f : Nat → UInt8) (hS : HaS s r k f) (hk : k ≤ 1000000000000000000) : Pure Tryz.prog 25 #[(.pointer (some ⟨g, 0, none⟩))] (fun w => w.heap[1]? = some (.cells ((cWs 64).enc K32) 51 (0, 0)) ∧ w.heap[g]? = some (.cells (cHa.enc (s, r, k)) 62 (0, 0))) ((cArr 32).val (sum32 k f)) := by
  refine pure_of (fn := Tryz.f25) Tryz.func25 rfl Tryz.ntmps25 (Nat.le_of_ble_eq_true rfl) rfl ?_
  intro w0 hH hR
  refine zr ?_
  refine zm hH (.al (cArr 32) (fun _ => 0)) trivial 0 ?_
  clear hH
  rintro _ _ w ⟨g1, rfl, rfl⟩ hH
  refine zn ?_
  refine cxSeq ?_
  refine zr ?_
  refine zv .mv 0 ?_
  refine zv (v := (.bool false)) (fun _ _ hF => opEqNil (e := 62) rfl (by kernel_rfl) (hF.ev 0 rfl) rfl rfl) 1 ?_
  refine zn ?_
  refine zF ?_
  refine cxSkip ?_
  refine qxThen ?_
  refine zr ?_
  refine zv .mv 1 ?_
  refine zv .nc 1 ?_
  refine zs (hH.ob hR.2) (.ld cHa (s, r, k) (fun _ hS => (holds_blk0 hS))) 1 ?_
  refine zm hH (.al cHa (fun _ => 0, fun _ => 0, 0)) trivial 0 ?_
  clear hH
  rintro _ _ w ⟨g2, rfl, rfl⟩ hH
  refine ze0 1 hH rfl (.sw cHa (fun _ => 0, fun _ => 0, 0) (s, r, k)) trivial ?_
  clear hH
  rintro _ _ w rfl hH
  refine zn ?_
  refine zr ?_
  refine zv .mv 10 ?_
  refine zv .nc 1 ?_
  refine zv (.fld 72) 1 ?_
  refine zs (hH.ob hR.2) (.ld (cNat .u64) k (fun _ hS => ((holds_blk0 hS).snd).snd)) 1 ?_
  refine zm hH (.call Tryz.func34 ((padding_c k _ rfl (by omega)))) trivial 1 ?_
  clear hH
  rintro v7 E3 w hO4 hH
  obtain ⟨A5, c6, rfl⟩ := hO4.slice
  refine ze 1 hH rfl (.call Tryz.func24 (write_in g2 k s r (pad32 k f) A5 _ c6 (pdL k) (hS.congr fun j hj => pad32_low k f j hj) (pdL_at f) (by rw [pdL_len]; have := nb32_ge k; omega))) (⟨hH.oldBlk hR.1 (by simp), (hO4.vuAt (hH.has 2 rfl)), (hH.off3 1 2 rfl rfl rfl hO4)⟩) 1 ?_
  clear hH
  rintro _ _ w ⟨rfl, s29, r210, rfl, hS211⟩ hH
  refine zn ?_
  refine zr ?_
  refine zv (.fld 0) 3 ?_
  refine zs (hH.q 1 rfl) (.ld (cWs 8) s29 (fun _ hS => (holds_blk0 hS).fst)) 1 ?_
  refine zc Tryz.func35 (bytes_c s29) trivial hH 1 ?_
  clear hH
  intro w hH
  refine ze0 0 hH rfl (.sw (cArr 32) (fun _ => 0) (out32 s29)) trivial ?_
  clear hH
  rintro _ _ w rfl hH
  refine zn ?_
  refine cxRet ?_
  refine qxRetC 1 (hH.blk 0 rfl) rfl rfl (by kernel_rfl) (Cod.size _ _) (by kernel_rfl) ?_
  have hS3 := hS211
  rw [pdL_len, show k + (64 * nb32 k - k) = 64 * nb32 k by have := nb32_ge k; omega] at hS3
  exact ⟨ret_arr (ha_end hS3), HH.toBelow hH⟩

/-! ### By lists -/
theorem write_c (g : Nat) (l m : List UInt8) (E : Hl) (hE : HaAt g l E) (A : Option Addr) (n c : Nat) (hb : l.length + m.length ≤ 1000000000000000000) : Does Tryz.prog 24 #[ptrV g, .slice A n c] E (fun w => w.heap[1]? = some (.cells ((cWs 64).enc K32) 51 (0, 0)) ∧ Vu cByte w A n c m ∧ Off A n [g]) (fun v E' => v = .tuple #[] ∧ HaAt g (l ++ m) E') := by
  obtain ⟨s, r, rfl, hS⟩ := hE
  intro w hw hR
  have hn := hR.2.1.len
  subst hn
  refine (write_in g l.length s r (fun j => (l ++ m).getD j 0) A m.length c m (hS.congr fun j hj => ?_) (fun j x hx => ?_) (by omega) w hw hR).mono ?_
  · rw [List.getD_eq_getElem?_getD, List.getD_eq_getElem?_getD, List.getElem?_append_left hj]
  · rw [List.getD_eq_getElem?_getD, List.getElem?_append_right (by omega), Nat.add_sub_cancel_left, hx]; rfl
  · rintro e w' ⟨v, E', he, ⟨h1, s', r', h2, h3⟩, h4⟩
    refine ⟨v, E', he, ⟨h1, s', r', ?_, ?_⟩, h4⟩
    · rw [h2, List.length_append]
    · rw [List.length_append]; exact h3
theorem sum_c (g : Nat) (l : List UInt8) (E : Hl) (hE : HaAt g l E) (hb : l.length ≤ 1000000000000000000) : Does Tryz.prog 25 #[ptrV g] E (fun w => w.heap[1]? = some (.cells ((cWs 64).enc K32) 51 (0, 0))) (fun v E' => v = (cArr 32).val (sha l) ∧ E = E') := by
  obtain ⟨s, r, rfl, hS⟩ := hE
  intro w hw hR
  have hblk := hw.blk _ (List.mem_singleton.2 rfl)
  refine (sum_in g l.length s r (fun j => l.getD j 0) hS hb w ⟨hR, hblk⟩).mono ?_
  rintro e w' ⟨he, hB⟩
  refine ⟨_, _, he, ⟨rfl, rfl⟩, ?_⟩
  have h0 := hw.start
  exact (HH.below h0 hB).hold
end Go.Proofs.YtbbegnfopdihaaaGreatDoor

namespace Go.Proofs.YtbbegnfopdihaaaGreatDoor
open Go Go.RowKit
set_option maxRecDepth 100000

theorem HaAt.bks {g : Nat} {l : List UInt8} {E : Hl} (h : HaAt g l E) : bks E = [g] := by
  obtain ⟨s, r, rfl, _⟩ := h
  rfl

set_option maxHeartbeats 8000000 in
theorem sum256_c (A : Option Addr) (n c : Nat) (l : List UInt8) (hb : n ≤ 140737488351232) : Pure Tryz.prog 14 #[(.slice A n c)] (fun w => w.heap[1]? = some (.cells ((cWs 64).enc K32) 51 (0, 0)) ∧ w.heap[0]? = some (.cells ((cWs 8).enc H32) 50 (0, 0)) ∧ Vu cByte w A n c l) ((cArr 32).val (sha l)) := by
  refine pure_of (fn := Tryz.f14) Tryz.func14 rfl Tryz.ntmps14 (Nat.le_of_ble_eq_true rfl) rfl ?_
  intro w0 hH hR
  have hn := hR.2.2.len
  refine zr ?_
  refine zm hH (.al (cArr 32) (fun _ => 0)) trivial 0 ?_
  clear hH
  rintro _ _ w ⟨g1, rfl, rfl⟩ hH
  refine zn ?_
  refine zr ?_
  refine zm hH (.call Tryz.func23 (new_c)) (hH.oldBlk hR.2.1 (by simp)) 0 ?_
  clear hH
  rintro _ E3 w ⟨g2, rfl, hHa4⟩ hH
  refine zv .mv 1 ?_
  refine zn ?_
  refine zr ?_
  refine zv .mv 0 ?_
  refine zv .mv 8 ?_
  refine ze 1 hH rfl (.call Tryz.func24 (write_c g2 ([]) l E3 hHa4 A n c (by show 0 + _ ≤ _; omega))) (⟨(hH.oldBlk hR.1 (by simp)), (hH.vu hR.2.2 (by decide) (Off.nil _ _)), hHa4.bks ▸ (hH.off 1 rfl hR.2.2 (by decide) (Off.nil _ _))⟩) 3 ?_
  clear hH
  rintro _ E5 w ⟨rfl, hHa6⟩ hH
  refine zn ?_
  refine zr ?_
  refine zv .mv 3 ?_
  refine ze 1 hH rfl (.call Tryz.func25 (sum_c g2 l E5 hHa6 (by omega))) (hH.oldBlk hR.1 (by simp)) 1 ?_
  clear hH
  rintro _ _ w ⟨rfl, rfl⟩ hH
  refine ze0 0 hH rfl (.sw (cArr 32) (fun _ => 0) (sha l)) trivial ?_
  clear hH
  rintro _ _ w rfl hH
  refine zn ?_
  refine cxRet ?_
  refine qxRetC 1 (hH.blk 0 rfl) rfl rfl (by kernel_rfl) (Cod.size _ _) (by kernel_rfl) ?_
  exact ⟨rfl, HH.toBelow hH⟩
end Go.Proofs.YtbbegnfopdihaaaGreatDoor

namespace Go.Proofs.YtbbegnfopdihaaaGreatDoor
open Go Go.RowKit
set_option maxRecDepth 100000

set_option maxHeartbeats 8000000 in
theorem rrot_c (x : UInt32) (n : Nat) (h0 : 0 < n) (h32 : n < 32) : Pure Tryz.prog 28 #[(.int .u32 (((x.toNat) : Nat) : Int)), (.int .u64 (((n) : Nat) : Int))] (fun _ => True) (.int .u32 ((((rr32 x n).toNat) : Nat) : Int)) := by
  refine pure_of (fn := Tryz.f28) Tryz.func28 rfl Tryz.ntmps28 (Nat.le_of_ble_eq_true rfl) rfl ?_
  intro w0 hH hR
  refine zr ?_
  refine zv .mv 0 ?_
  refine zn ?_
  refine zr ?_
  refine zv .mv 1 ?_
  refine zv .mv 0 ?_
  refine zv (.rw n) 3 ?_
  refine zv .mv 2 ?_
  refine zv .mv 4 ?_
  refine zv (v := (.int .u64 (((32 - n) : Nat) : Int))) (fun _ _ hF => opSubU (m := 32) (j := n) (z := (32 - n)) rfl rfl rfl (hF.ev 0 rfl) (by show n ≤ 18446744073709551616; omega) (by show (32 + (18446744073709551616 - n)) % 18446744073709551616 = _; omega)) 1 ?_
  refine zv (.lw (32 - n)) 3 ?_
  refine zv (.ow (rr32 x n)) 3 ?_
  refine zv .mv 1 ?_
  refine zn ?_
  refine cxRet ?_
  refine qxRet1 0 rfl rfl ?_
  exact ⟨rfl, HH.toBelow hH⟩

set_option maxHeartbeats 8000000 in
theorem rk_c  : Pure Tryz.prog 26 #[] (fun _ => True) ((cWs 64).val K32) := by
  refine pure_of (fn := Tryz.f26) Tryz.func26 rfl Tryz.ntmps26 (Nat.le_of_ble_eq_true rfl) rfl ?_
  intro w0 hH hR
  refine zr ?_
  refine zm hH (.al (cWs 64) (fun _ => 0)) trivial 0 ?_
  clear hH
  rintro _ _ w ⟨g1, rfl, rfl⟩ hH
  refine zn ?_
  refine zr ?_
  refine zv (v := ((cWs 64).val K32)) (fun _ _ hF => opBuildP (cells := (cWs 64).enc K32) (vals := [(0, (.int .u32 1116352408)), (1, (.int .u32 1899447441)), (2, (.int .u32 3049323471)), (3, (.int .u32 3921009573)), (4, (.int .u32 961987163)), (5, (.int .u32 1508970993)), (6, (.int .u32 2453635748)), (7, (.int .u32 2870763221)), (8, (.int .u32 3624381080)), (9, (.int .u32 310598401)), (10, (.int .u32 607225278)), (11, (.int .u32 1426881987)), (12, (.int .u32 1925078388)), (13, (.int .u32 2162078206)), (14, (.int .u32 2614888103)), (15, (.int .u32 3248222580)), (16, (.int .u32 3835390401)), (17, (.int .u32 4022224774)), (18, (.int .u32 264347078)), (19, (.int .u32 604807628)), (20, (.int .u32 770255983)), (21, (.int .u32 1249150122)), (22, (.int .u32 1555081692)), (23, (.int .u32 1996064986)), (24, (.int .u32 2554220882)), (25, (.int .u32 2821834349)), (26, (.int .u32 2952996808)), (27, (.int .u32 3210313671)), (28, (.int .u32 3336571891)), (29, (.int .u32 3584528711)), (30, (.int .u32 113926993)), (31, (.int .u32 338241895)), (32, (.int .u32 666307205)), (33, (.int .u32 773529912)), (34, (.int .u32 1294757372)), (35, (.int .u32 1396182291)), (36, (.int .u32 1695183700)), (37, (.int .u32 1986661051)), (38, (.int .u32 2177026350)), (39, (.int .u32 2456956037)), (40, (.int .u32 2730485921)), (41, (.int .u32 2820302411)), (42, (.int .u32 3259730800)), (43, (.int .u32 3345764771)), (44, (.int .u32 3516065817)), (45, (.int .u32 3600352804)), (46, (.int .u32 4094571909)), (47, (.int .u32 275423344)), (48, (.int .u32 430227734)), (49, (.int .u32 506948616)), (50, (.int .u32 659060556)), (51, (.int .u32 883997877)), (52, (.int .u32 958139571)), (53, (.int .u32 1322822218)), (54, (.int .u32 1537002063)), (55, (.int .u32 1747873779)), (56, (.int .u32 1955562222)), (57, (.int .u32 2024104815)), (58, (.int .u32 2227730452)), (59, (.int .u32 2361852424)), (60, (.int .u32 2428436474)), (61, (.int .u32 2756734187)), (62, (.int .u32 3204031479)), (63, (.int .u32 3329325298))]) rfl (EvP.cons (v := (.int .u32 1116352408)) rfl (EvP.cons (v := (.int .u32 1899447441)) rfl (EvP.cons (v := (.int .u32 3049323471)) rfl (EvP.cons (v := (.int .u32 3921009573)) rfl (EvP.cons (v := (.int .u32 961987163)) rfl (EvP.cons (v := (.int .u32 1508970993)) rfl (EvP.cons (v := (.int .u32 2453635748)) rfl (EvP.cons (v := (.int .u32 2870763221)) rfl (EvP.cons (v := (.int .u32 3624381080)) rfl (EvP.cons (v := (.int .u32 310598401)) rfl (EvP.cons (v := (.int .u32 607225278)) rfl (EvP.cons (v := (.int .u32 1426881987)) rfl (EvP.cons (v := (.int .u32 1925078388)) rfl (EvP.cons (v := (.int .u32 2162078206)) rfl (EvP.cons (v := (.int .u32 2614888103)) rfl (EvP.cons (v := (.int .u32 3248222580)) rfl (EvP.cons (v := (.int .u32 3835390401)) rfl (EvP.cons (v := (.int .u32 4022224774)) rfl (EvP.cons (v := (.int .u32 264347078)) rfl (EvP.cons (v := (.int .u32 604807628)) rfl (EvP.cons (v := (.int .u32 770255983)) rfl (EvP.cons (v := (.int .u32 1249150122)) rfl (EvP.cons (v := (.int .u32 1555081692)) rfl (EvP.cons (v := (.int .u32 1996064986)) rfl (EvP.cons (v := (.int .u32 2554220882)) rfl (EvP.cons (v := (.int .u32 2821834349)) rfl (EvP.cons (v := (.int .u32 2952996808)) rfl (EvP.cons (v := (.int .u32 3210313671)) rfl (EvP.cons (v := (.int .u32 3336571891)) rfl (EvP.cons (v := (.int .u32 3584528711)) rfl (EvP.cons (v := (.int .u32 113926993)) rfl (EvP.cons (v := (.int .u32 338241895)) rfl (EvP.cons (v := (.int .u32 666307205)) rfl (EvP.cons (v := (.int .u32 773529912)) rfl (EvP.cons (v := (.int .u32 1294757372)) rfl (EvP.cons (v := (.int .u32 1396182291)) rfl (EvP.cons (v := (.int .u32 1695183700)) rfl (EvP.cons (v := (.int .u32 1986661051)) rfl (EvP.cons (v := (.int .u32 2177026350)) rfl (EvP.cons (v := (.int .u32 2456956037)) rfl (EvP.cons (v := (.int .u32 2730485921)) rfl (EvP.cons (v := (.int .u32 2820302411)) rfl (EvP.cons (v := (.int .u32 3259730800)) rfl (EvP.cons (v := (.int .u32 3345764771)) rfl (EvP.cons (v := (.int .u32 3516065817)) rfl (EvP.cons (v := (.int .u32 3600352804)) rfl (EvP.cons (v := (.int .u32 4094571909)) rfl (EvP.cons (v := (.int .u32 275423344)) rfl (EvP.cons (v := (.int .u32 430227734)) rfl (EvP.cons (v := (.int .u32 506948616)) rfl (EvP.cons (v := (.int .u32 659060556)) rfl (EvP.cons (v := (.int .u32 883997877)) rfl (EvP.cons (v := (.int .u32 958139571)) rfl (EvP.cons (v := (.int .u32 1322822218)) rfl (EvP.cons (v := (.int .u32 1537002063)) rfl (EvP.cons (v := (.int .u32 1747873779)) rfl (EvP.cons (v := (.int .u32 1955562222)) rfl (EvP.cons (v := (.int .u32 2024104815)) rfl (EvP.cons (v := (.int .u32 2227730452)) rfl (EvP.cons (v := (.int .u32 2361852424)) rfl (EvP.cons (v := (.int .u32 2428436474)) rfl (EvP.cons (v := (.int .u32 2756734187)) rfl (EvP.cons (v := (.int .u32 3204031479)) rfl (EvP.cons (v := (.int .u32 3329325298)) rfl EvP.nil)))))))))))))))))))))))))))))))))))))))))))))))))))))))))))))))) (by kernel_rfl) _) 0 ?_
  refine ze0 0 hH rfl (.sw (cWs 64) (fun _ => 0) K32) trivial ?_
  clear hH
  rintro _ _ w rfl hH
  refine zn ?_
  refine cxRet ?_
  refine qxRetC 1 (hH.blk 0 rfl) rfl rfl (by kernel_rfl) (Cod.size _ _) (by kernel_rfl) ?_
  exact ⟨rfl, HH.toBelow hH⟩

set_option maxHeartbeats 8000000 in
theorem rpad_c (A : Option Addr) (n c : Nat) (l : List UInt8) (hb : n ≤ 140737488351232) : Does Tryz.prog 27 #[(.slice A n c), (.int .i64 64), (.int .i64 8)] [] (fun w => Vu cByte w A n c l) (fun v E' => OwnT cByte 5 v (pdM l) E') := by
  refine does_of (fn := Tryz.f27) Tryz.func27 rfl Tryz.ntmps27 (Nat.le_of_ble_eq_true rfl) rfl ?_
  intro w0 hH hR
  replace hH : HH w0 [] [] w0 := hH.only [false]
  have hn := hR.len
  have hnb := nb32_ge n
  refine zr ?_
  refine zv .mv 0 ?_
  refine zn ?_
  refine zr ?_
  refine zm hH (fun _ hF => smLit0 (e := 5) rfl (by kernel_rfl) (by kernel_rfl)) trivial 1 ?_
  clear hH
  rintro _ _ w ⟨g1, rfl, rfl⟩ hH
  refine zv .mv 0 ?_
  refine ze 0 hH rfl (fun _ hF => smAppT (C := cByte) (l := []) (m := l) (e := 5) (z := (.int .u8 0)) (by_ := 1) rfl (by kernel_rfl) (by kernel_rfl) rfl (ltb rfl) (hF.ev 1 rfl) ((Bk.lit0 (C := cByte)).own 5 g1 rfl) (hF.ev 0 rfl) hn (fun h => ⟨by have := hR.nil h; have := hR.cap; omega, hR.nil h⟩) (by rw [List.length_nil]; unfold maxLen; omega) (by rw [List.length_nil]; omega)) (hH.vu hR (by decide) (Off.nil _ _)) 3 ?_
  clear hH
  rintro v4 E5 w ⟨hO6, _⟩ hH
  replace hO6 : OwnT cByte 5 v4 l E5 := hO6
  obtain ⟨A2, c3, rfl⟩ := hO6.slice
  refine zv .mv 1 ?_
  refine zn ?_
  refine zr ?_
  refine zv .mv 1 ?_
  refine zm hH (fun _ hF => smLit1 (e := 5) (sz := 1) (z := (.int .u8 0)) (by_ := 1) (cs := cByte.enc 128) rfl (by kernel_rfl) (by kernel_rfl) rfl (cByte.len 128) (ltb rfl) (leb rfl) rfl) trivial 0 ?_
  clear hH
  rintro _ _ w ⟨g7, rfl, rfl⟩ hH
  refine ze 0 hH rfl (fun _ hF => smAppT (C := cByte) (l := l) (m := [128]) (e := 5) (z := (.int .u8 0)) (by_ := 1) rfl (by kernel_rfl) (by kernel_rfl) rfl (ltb rfl) (hF.ev 1 rfl) hO6 (hF.ev 0 rfl) rfl (fun h => by cases h) (by unfold maxLen; omega) (by omega)) ((Bk.lit1 (C := cByte) 128).vu (n := 1) (hH.blk 1 rfl) rfl) 3 ?_
  clear hH
  rintro v10 E11 w ⟨hO12, _⟩ hH
  replace hO12 : OwnT cByte 5 v10 (l ++ [128]) E11 := hO12
  obtain ⟨A8, c9, rfl⟩ := hO12.slice
  refine zv .mv 1 ?_
  refine zn ?_
  refine cxSeq ?_
  refine cxBlock ?_
  replace hH : HH w0 [] [E11] w := hH.only [true]
  refine zL5 (fun (_ : Nat) (A1 : Option Addr) (c1 : Nat) (L : List UInt8) (_ : Hl) => [(7, (.slice A1 L.length c1)), (2, (.int .i64 8)), (1, (.int .i64 64)), (0, (.slice A n c))]) (fun z A1 c1 L E1 w => HH w0 [] [E1] w ∧ (OwnT cByte 5 (.slice A1 L.length c1) L E1) ∧ (L = mzL l z) ∧ (L.length = n + 1 + z) ∧ (n + 1 + z + 8 ≤ 64 * nb32 n)) (fun z _ _ _ _ => 64 * nb32 n - (n + 1 + z)) 0 A8 c9 (l ++ [128]) E11 ⟨hH, hO12, (by simp [mzL]), (by rw [List.length_append, hn]; rfl), (by omega)⟩ ?_
  clear hH
  rintro z A1 c1 L E1 w ⟨hH, hO, hL, hlen, hz⟩
  refine cxSeq ?_
  refine zr ?_
  refine zv .mv 0 ?_
  refine zv .len 1 ?_
  refine zv .mv 0 ?_
  refine zv (.add (((L.length + 8) : Nat) : Int)) 3 ?_
  refine zv .mv 0 ?_
  refine zv (v := (.int .i64 ((((L.length + 8) % 64) : Nat) : Int))) (fun _ _ hF => opRem (z := (((L.length + 8) % 64 : Nat) : Int)) rfl (hF.ev 1 rfl) (hF.ev 0 rfl) (by omega) remN) 3 ?_
  refine zv (.ne ((L.length + 8) % 64 ≠ 0)) 1 ?_
  refine zn ?_
  refine zP (fun hc13 => ?_) (fun hc13 => ?_)
  refine cxSkip ?_
  refine qxThen ?_
  refine cxBlock ?_
  refine cxReg ?_
  refine zv .mv 3 ?_
  refine zm hH (fun _ hF => smLit1 (e := 5) (sz := 1) (z := (.int .u8 0)) (by_ := 1) (cs := cByte.enc 0) rfl (by kernel_rfl) (by kernel_rfl) rfl (cByte.len 0) (ltb rfl) (leb rfl) rfl) trivial 0 ?_
  clear hH
  rintro _ _ w ⟨g14, rfl, rfl⟩ hH
  refine ze 0 hH rfl (fun _ hF => smAppT (C := cByte) (l := L) (m := [0]) (e := 5) (z := (.int .u8 0)) (by_ := 1) rfl (by kernel_rfl) (by kernel_rfl) rfl (ltb rfl) (hF.ev 1 rfl) hO (hF.ev 0 rfl) rfl (fun h => by cases h) (by unfold maxLen; omega) (by omega)) ((Bk.lit1 (C := cByte) 0).vu (n := 1) (hH.blk 1 rfl) rfl) 3 ?_
  clear hH
  rintro v17 E18 w ⟨hO19, _⟩ hH
  replace hO19 : OwnT cByte 5 v17 (L ++ [0]) E18 := hO19
  obtain ⟨A15, c16, rfl⟩ := hO19.slice
  refine zv .mv 1 ?_
  refine pxEnd ?_
  refine qxInN ?_
  replace hH : HH w0 [] [E18] w := hH.only [true, false]
  exact zR5 (z + 1) A15 c16 (L ++ [0]) E18 ⟨hH, hO19, (by rw [hL, mzL_step]), (by rw [List.length_append, hlen]; show n + 1 + z + 1 = _; omega), (show n + 1 + (z + 1) + 8 ≤ 64 * nb32 n from by omega)⟩ (by omega)
  refine cxExit ?_
  refine qxThenE ?_
  refine qxThenE ?_
  refine qxInE ?_
  refine qxThen ?_
  have hze : n + 1 + z + 8 = 64 * nb32 n := by omega
  refine zr ?_
  refine zv .mv 25 ?_
  refine zv .len 1 ?_
  refine zv (.cu .u64) 1 ?_
  refine zv (v := (.int .u64 (((n * 8) : Nat) : Int))) (fun _ _ hF => opMulU (m := n) (j := 8) (z := (n * 8)) rfl rfl (hF.ev 0 rfl) rfl (Nat.mod_eq_of_lt (by show _ < 18446744073709551616; omega))) 1 ?_
  refine zv .mv 1 ?_
  refine zn ?_
  refine cxSeq ?_
  refine zr ?_
  refine zv .mv 4 ?_
  refine zv (v := (.int .i64 7)) (fun _ _ hF => opSub rfl (hF.ev 0 rfl) rfl (by decide)) 1 ?_
  refine zv .mv 1 ?_
  refine zn ?_
  refine cxBlock ?_
  refine zL5 (fun (k : Nat) (A1 : Option Addr) (c1 : Nat) (L : List UInt8) (_ : Hl) => [(9, (.int .i64 (7 - ((k : Nat) : Int)))), (8, (.int .u64 (((n * 8) : Nat) : Int))), (7, (.slice A1 L.length c1))]) (fun k A1 c1 L E1 w => HH w0 [] [E1] w ∧ (OwnT cByte 5 (.slice A1 L.length c1) L E1) ∧ (L = mzL l z ++ be8 (n * 8) k) ∧ (L.length = n + 1 + z + k) ∧ (k ≤ 8)) (fun k _ _ _ _ => 8 - k) 0 A1 c1 L E1 ⟨hH, hO, (by rw [hL]; simp [be8, lst]), hlen, (Nat.zero_le _)⟩ ?_
  clear hH
  rintro k A1 c1 L E1 w ⟨hH, hO, hL2, hlen2, hk⟩
  refine cxSeq ?_
  refine zr ?_
  refine zv .mv 0 ?_
  refine zv (v := (.bool (decide ((7 - ((k : Nat) : Int)) ≥ 0)))) (fun _ _ hF => opGeq rfl (hF.ev 0 rfl) rfl rfl) 1 ?_
  refine zn ?_
  refine zP (fun hc20 => ?_) (fun hc20 => ?_)
  refine cxSkip ?_
  refine qxThen ?_
  refine cxSeq ?_
  refine cxBlock ?_
  refine zr ?_
  refine zv .mv 1 ?_
  refine zv (v := (.bool false)) (fun _ _ hF => opGeq rfl (hF.ev 0 rfl) rfl (decide_eq_false (by omega))) 1 ?_
  refine zn ?_
  refine zF ?_
  refine cxReg ?_
  refine zv .mv 9 ?_
  refine zv .mv 0 ?_
  refine zv .mv 0 ?_
  refine zv (.mul (((8 * (7 - k)) : Nat) : Int)) 1 ?_
  refine zv (.cu .u64) 1 ?_
  refine zv (v := (.int .u64 ((((n * 8) / 2 ^ (8 * (7 - k))) : Nat) : Int))) (fun _ _ hF => opShrU (n := 8 * (7 - k)) (z := ((n * 8) / 2 ^ (8 * (7 - k)))) rfl (hF.ev 1 rfl) (hF.ev 0 rfl) (by show _ ≤ 64; omega) (rfl)) 3 ?_
  refine zv .cb 1 ?_
  refine zm hH (fun _ hF => smLit1 (e := 5) (sz := 1) (z := (.int .u8 0)) (by_ := 1) (cs := cByte.enc (UInt8.ofNat ((n * 8) / 2 ^ (8 * (7 - k))))) rfl (by kernel_rfl) (by kernel_rfl) (hF.ev 0 rfl) (cByte.len (UInt8.ofNat ((n * 8) / 2 ^ (8 * (7 - k))))) (ltb rfl) (leb rfl) rfl) trivial 1 ?_
  clear hH
  rintro _ _ w ⟨g21, rfl, rfl⟩ hH
  refine ze 0 hH rfl (fun _ hF => smAppT (C := cByte) (l := L) (m := [(UInt8.ofNat ((n * 8) / 2 ^ (8 * (7 - k))))]) (e := 5) (z := (.int .u8 0)) (by_ := 1) rfl (by kernel_rfl) (by kernel_rfl) rfl (ltb rfl) (hF.ev 1 rfl) hO (hF.ev 0 rfl) rfl (fun h => by cases h) (by unfold maxLen; omega) (by omega)) ((Bk.lit1 (C := cByte) (UInt8.ofNat ((n * 8) / 2 ^ (8 * (7 - k))))).vu (n := 1) (hH.blk 1 rfl) rfl) 3 ?_
  clear hH
  rintro v24 E25 w ⟨hO26, _⟩ hH
  replace hO26 : OwnT cByte 5 v24 (L ++ [(UInt8.ofNat ((n * 8) / 2 ^ (8 * (7 - k))))]) E25 := hO26
  obtain ⟨A22, c23, rfl⟩ := hO26.slice
  refine zv .mv 1 ?_
  refine pxEnd ?_
  refine qxInN ?_
  refine qxThen ?_
  refine cxReg ?_
  refine zv .mv 2 ?_
  refine zv (.sub (7 - ((k + 1 : Nat) : Int))) 1 ?_
  refine zv .mv 1 ?_
  refine pxEnd ?_
  replace hH : HH w0 [] [E25] w := hH.only [true, false]
  exact zR5 (k + 1) A22 c23 (L ++ [(UInt8.ofNat ((n * 8) / 2 ^ (8 * (7 - k))))]) E25 ⟨hH, hO26, (by rw [hL2, List.append_assoc]; unfold be8; rw [lst_succ]), (by rw [List.length_append, hlen2]; show n + 1 + z + k + 1 = _; omega), (by omega)⟩ (by omega)
  refine cxExit ?_
  refine qxThenE ?_
  refine qxThenE ?_
  refine qxInE ?_
  refine qxThen ?_
  refine zr ?_
  refine zv .mv 15 ?_
  refine zv .mv 1 ?_
  refine zn ?_
  refine cxRet ?_
  refine qxRet1 0 rfl rfl ?_
  obtain rfl : k = 8 := by omega
  subst hn
  rw [pdM_all hze] at hL2
  subst hL2
  exact ⟨_, _, rfl, hO, hH.out1 [true] rfl⟩
end Go.Proofs.YtbbegnfopdihaaaGreatDoor

namespace Go.Proofs.YtbbegnfopdihaaaGreatDoor
open Go Go.RowKit
set_option maxRecDepth 100000

set_option maxHeartbeats 8000000 in
theorem rsum_c (A : Option Addr) (n c : Nat) (l : List UInt8) (hb : n ≤ 140737488351232) : Pure Tryz.prog 16 #[(.slice A n c)] (fun w => Vu cByte w A n c l) ((cArr 32).val (sha l)) := by
  refine pure_of (fn := Tryz.f16) Tryz.func16 rfl Tryz.ntmps16 (Nat.le_of_ble_eq_true rfl) rfl ?_
  intro w0 hH hR
  have hn := hR.len
  have hnb := nb32_ge n
  obtain ⟨F, hF⟩ : ∃ F, F = pad32 n fun j => l.getD j 0 := ⟨_, rfl⟩
  have hM : ∀ j, j < 64 * nb32 n → (pdM l)[j]? = some (F j) := fun j hj => by rw [hF]; subst hn; exact lst_get hj
  refine zr ?_
  refine zm hH (.al (cArr 32) (fun _ => 0)) trivial 0 ?_
  clear hH
  rintro _ _ w ⟨g1, rfl, rfl⟩ hH
  refine zn ?_
  refine zr ?_
  refine zv (v := ((cWs 8).val H32)) (fun _ _ hF => opBuildP (cells := (cWs 8).enc H32) (vals := [(0, (.int .u32 1779033703)), (1, (.int .u32 3144134277)), (2, (.int .u32 1013904242)), (3, (.int .u32 2773480762)), (4, (.int .u32 1359893119)), (5, (.int .u32 2600822924)), (6, (.int .u32 528734635)), (7, (.int .u32 1541459225))]) rfl (EvP.cons (v := (.int .u32 1779033703)) rfl (EvP.cons (v := (.int .u32 3144134277)) rfl (EvP.cons (v := (.int .u32 1013904242)) rfl (EvP.cons (v := (.int .u32 2773480762)) rfl (EvP.cons (v := (.int .u32 1359893119)) rfl (EvP.cons (v := (.int .u32 2600822924)) rfl (EvP.cons (v := (.int .u32 528734635)) rfl (EvP.cons (v := (.int .u32 1541459225)) rfl EvP.nil)))))))) (by kernel_rfl) _) 0 ?_
  refine zm hH (.al (cWs 8) (fun _ => 0)) trivial 0 ?_
  clear hH
  rintro _ _ w ⟨g2, rfl, rfl⟩ hH
  refine ze0 1 hH rfl (.sw (cWs 8) (fun _ => 0) H32) trivial ?_
  clear hH
  rintro _ _ w rfl hH
  refine zn ?_
  refine zr ?_
  refine zc Tryz.func26 (rk_c ) trivial hH 2 ?_
  clear hH
  intro w hH
  refine zm hH (.al (cWs 64) (fun _ => 0)) trivial 0 ?_
  clear hH
  rintro _ _ w ⟨g3, rfl, rfl⟩ hH
  refine ze0 2 hH rfl (.sw (cWs 64) (fun _ => 0) K32) trivial ?_
  clear hH
  rintro _ _ w rfl hH
  refine zn ?_
  refine zr ?_
  refine zv .mv 18 ?_
  refine zm hH (.call Tryz.func27 ((rpad_c A n c l hb))) (hH.vu hR (by decide) (Off.nil _ _)) 1 ?_
  clear hH
  rintro v8 E4 w hO5 hH
  obtain ⟨A6, c7, rfl⟩ := hO5.slice
  refine zv .mv 1 ?_
  refine zn ?_
  refine cxSeq ?_
  have hlM := pdM_len l
  rw [hn] at hlM
  obtain ⟨g10, cap11, cur12, hv14, rfl, hB13⟩ := hO5.open (by omega)
  obtain ⟨rfl, rfl⟩ : A6 = some ⟨g10, 0, none⟩ ∧ c7 = cap11 := by injection hv14 with h1 h2 h3; exact ⟨h1, h3⟩
  have := hB13.le
  have he15 : (cWs 8).enc (hs32 F 0) = (cWs 8).enc H32 := vec_congr (fun _ _ => rfl)
  replace hH : HH w0 [] [[bl g1 23 ((cArr 32).enc (fun _ => 0))], [bl g2 50 ((cWs 8).enc (hs32 F 0))], [bl g3 51 ((cWs 64).enc K32)], [bl g10 5 cur12]] w := by rw [he15]; exact hH
  refine zr ?_
  refine zv .mv 0 ?_
  refine zn ?_
  refine cxBlock ?_
  refine zL1 (fun (i : Nat) => [(6, (.int .i64 (((64 * i) : Nat) : Int))), (5, (.slice (some ⟨g10, 0, none⟩) ((pdM l).length) c7)), (4, (.pointer (some ⟨g3, 0, none⟩))), (3, (.pointer (some ⟨g2, 0, none⟩))), (2, (.pointer (some ⟨g1, 0, none⟩)))]) (fun i w => HH w0 [] [[bl g1 23 ((cArr 32).enc (fun _ => 0))], [bl g2 50 ((cWs 8).enc (hs32 F i))], [bl g3 51 ((cWs 64).enc K32)], [bl g10 5 cur12]] w ∧ (i ≤ nb32 n)) (fun i => nb32 n - i) 0 ⟨hH, (Nat.zero_le _)⟩ ?_
  clear hH
  rintro i w ⟨hH, hi⟩
  refine cxSeq ?_
  refine zr ?_
  refine zv .mv 0 ?_
  refine zv .mv 0 ?_
  refine zv .len 1 ?_
  refine zv (.lt (64 * i < (pdM l).length)) 3 ?_
  refine zn ?_
  refine zP (fun hc16 => ?_) (fun hc16 => ?_)
  refine cxSkip ?_
  refine qxThen ?_
  refine cxSeq ?_
  refine cxBlock ?_
  refine zr ?_
  refine zm hH (.al (cWs 64) (fun _ => 0)) trivial 1 ?_
  clear hH
  rintro _ _ w ⟨g17, rfl, rfl⟩ hH
  refine zn ?_
  refine cxSeq ?_
  have he18 : (cWs 64).enc (upF 0 (W32 (blkF F i)) (fun _ => 0)) = (cWs 64).enc (fun _ => 0) := vec_congr (fun _ _ => by rw [upF_zero])
  replace hH : HH w0 [] [[bl g1 23 ((cArr 32).enc (fun _ => 0))], [bl g2 50 ((cWs 8).enc (hs32 F i))], [bl g3 51 ((cWs 64).enc K32)], [bl g10 5 cur12], [bl g17 51 ((cWs 64).enc (upF 0 (W32 (blkF F i)) (fun _ => 0)))]] w := by rw [he18]; exact hH
  refine zr ?_
  refine zv .mv 0 ?_
  refine zn ?_
  refine cxBlock ?_
  refine zL1 (fun (q : Nat) => [(31, (.int .i64 (((q) : Nat) : Int))), (7, (.pointer (some ⟨g17, 0, none⟩))), (6, (.int .i64 (((64 * i) : Nat) : Int))), (5, (.slice (some ⟨g10, 0, none⟩) ((pdM l).length) c7)), (4, (.pointer (some ⟨g3, 0, none⟩))), (3, (.pointer (some ⟨g2, 0, none⟩))), (2, (.pointer (some ⟨g1, 0, none⟩)))]) (fun q w => HH w0 [] [[bl g1 23 ((cArr 32).enc (fun _ => 0))], [bl g2 50 ((cWs 8).enc (hs32 F i))], [bl g3 51 ((cWs 64).enc K32)], [bl g10 5 cur12], [bl g17 51 ((cWs 64).enc (upF q (W32 (blkF F i)) (fun _ => 0)))]] w ∧ (q ≤ 16)) (fun q => 16 - q) 0 ⟨hH, (Nat.zero_le _)⟩ ?_
  clear hH
  rintro q w ⟨hH, hq⟩
  refine zr ?_
  refine zv (.lt (q < 16)) 0 ?_
  refine zn ?_
  refine cxSeq ?_
  refine zP (fun hc19 => ?_) (fun hc19 => ?_)
  refine cxSkip ?_
  refine qxThen ?_
  refine cxSeq ?_
  refine cxBlock ?_
  refine zr ?_
  refine zv .mv 1 ?_
  refine zv .mv 1 ?_
  refine zn ?_
  have hx00 : (pdM l)[64 * i + 4 * q]? = some ((blkF F i) (4 * q)) := hM _ (by omega)
  have hb00 := UInt8.toNat_lt ((blkF F i) (4 * q))
  have hx01 : (pdM l)[64 * i + (4 * q + 1)]? = some ((blkF F i) (4 * q + 1)) := hM _ (by omega)
  have hb01 := UInt8.toNat_lt ((blkF F i) (4 * q + 1))
  have hx02 : (pdM l)[64 * i + (4 * q + 2)]? = some ((blkF F i) (4 * q + 2)) := hM _ (by omega)
  have hb02 := UInt8.toNat_lt ((blkF F i) (4 * q + 2))
  have hx03 : (pdM l)[64 * i + (4 * q + 3)]? = some ((blkF F i) (4 * q + 3)) := hM _ (by omega)
  have hb03 := UInt8.toNat_lt ((blkF F i) (4 * q + 3))
  refine cxRegX mixedOrders (by kernel_rfl) ?_
  replace hH := hH.drew
  refine rv 0 .mv 0 ?_
  refine rv 1 .mv 0 ?_
  refine rv 2 .mv 0 ?_
  refine rv 3 .mv 0 ?_
  refine rv 4 (.mul ((4 * q : Nat) : Int)) 1 ?_
  refine rv 5 (.add (((64 * i + 4 * q) : Nat) : Int)) 3 ?_
  have hi20 : 64 * i + 4 * q < (pdM l).length := by omega
  have hj23 : 64 * i + 4 * q < (pdM l).length := by omega
  refine rv 6 (.ix 1 (64 * i + 4 * q) (hi := hi20)) 3 ?_
  refine rld 7 (hH.q 3 rfl) (.ld cByte ((blkF F i) (4 * q)) (fun _ hS => ((hB13.holdsL hS) (64 * i + 4 * q) _ hx00))) 1 ?_
  refine rv 8 (.cu .u32) 1 ?_
  refine rv 9 (v := (.int .u32 (((((blkF F i) (4 * q)).toNat * 16777216) : Nat) : Int))) (fun _ _ hF => opShlU (n := 24) (z := (((blkF F i) (4 * q)).toNat * 16777216)) rfl rfl (hF.ev 0 rfl) rfl (leb rfl) (by show (((blkF F i) (4 * q)).toNat * 2 ^ 24) % 4294967296 = _; omega)) 1 ?_
  refine rv 10 .mv 0 ?_
  refine rv 11 .mv 0 ?_
  refine rv 12 .mv 0 ?_
  refine rv 13 (.mul ((4 * q : Nat) : Int)) 1 ?_
  refine rv 14 (.add (((64 * i) + (4 * q) : Nat) : Int)) 3 ?_
  refine rv 15 (.add (((64 * i + (4 * q + 1)) : Nat) : Int)) 1 ?_
  have hi24 : 64 * i + (4 * q + 1) < (pdM l).length := by omega
  have hj27 : 64 * i + (4 * q + 1) < (pdM l).length := by omega
  refine rv 16 (.ix 1 (64 * i + (4 * q + 1)) (hi := hi24)) 3 ?_
  refine rld 17 (hH.q 3 rfl) (.ld cByte ((blkF F i) (4 * q + 1)) (fun _ hS => ((hB13.holdsL hS) (64 * i + (4 * q + 1)) _ hx01))) 1 ?_
  refine rv 18 (.cu .u32) 1 ?_
  refine rv 19 (v := (.int .u32 (((((blkF F i) (4 * q + 1)).toNat * 65536) : Nat) : Int))) (fun _ _ hF => opShlU (n := 16) (z := (((blkF F i) (4 * q + 1)).toNat * 65536)) rfl rfl (hF.ev 0 rfl) rfl (leb rfl) (by show (((blkF F i) (4 * q + 1)).toNat * 2 ^ 16) % 4294967296 = _; omega)) 1 ?_
  refine rv 20 (v := (.int .u32 (((((blkF F i) (4 * q)).toNat * 16777216 + ((blkF F i) (4 * q + 1)).toNat * 65536) : Nat) : Int))) (fun _ _ hF => opOrU (m := ((blkF F i) (4 * q)).toNat * 16777216) (j := ((blkF F i) (4 * q + 1)).toNat * 65536) (z := (((blkF F i) (4 * q)).toNat * 16777216 + ((blkF F i) (4 * q + 1)).toNat * 65536)) rfl rfl (hF.ev 1 rfl) (hF.ev 0 rfl) (by show _ < 4294967296; omega) (by show _ < 4294967296; omega) (by rw [show ((blkF F i) (4 * q)).toNat * 16777216 = ((blkF F i) (4 * q)).toNat * 2 ^ 24 by omega, or_addk (show ((blkF F i) (4 * q + 1)).toNat * 65536 < 2 ^ 24 by omega)])) 3 ?_
  refine rv 21 .mv 0 ?_
  refine rv 22 .mv 0 ?_
  refine rv 23 .mv 0 ?_
  refine rv 24 (.mul ((4 * q : Nat) : Int)) 1 ?_
  refine rv 25 (.add (((64 * i) + (4 * q) : Nat) : Int)) 3 ?_
  refine rv 26 (.add (((64 * i + (4 * q + 2)) : Nat) : Int)) 1 ?_
  have hi28 : 64 * i + (4 * q + 2) < (pdM l).length := by omega
  have hj31 : 64 * i + (4 * q + 2) < (pdM l).length := by omega
  refine rv 27 (.ix 1 (64 * i + (4 * q + 2)) (hi := hi28)) 3 ?_
  refine rld 28 (hH.q 3 rfl) (.ld cByte ((blkF F i) (4 * q + 2)) (fun _ hS => ((hB13.holdsL hS) (64 * i + (4 * q + 2)) _ hx02))) 1 ?_
  refine rv 29 (.cu .u32) 1 ?_
  refine rv 30 (v := (.int .u32 (((((blkF F i) (4 * q + 2)).toNat * 256) : Nat) : Int))) (fun _ _ hF => opShlU (n := 8) (z := (((blkF F i) (4 * q + 2)).toNat * 256)) rfl rfl (hF.ev 0 rfl) rfl (leb rfl) (by show (((blkF F i) (4 * q + 2)).toNat * 2 ^ 8) % 4294967296 = _; omega)) 1 ?_
  refine rv 31 (v := (.int .u32 (((((blkF F i) (4 * q)).toNat * 16777216 + ((blkF F i) (4 * q + 1)).toNat * 65536 + ((blkF F i) (4 * q + 2)).toNat * 256) : Nat) : Int))) (fun _ _ hF => opOrU (m := ((blkF F i) (4 * q)).toNat * 16777216 + ((blkF F i) (4 * q + 1)).toNat * 65536) (j := ((blkF F i) (4 * q + 2)).toNat * 256) (z := (((blkF F i) (4 * q)).toNat * 16777216 + ((blkF F i) (4 * q + 1)).toNat * 65536 + ((blkF F i) (4 * q + 2)).toNat * 256)) rfl rfl (hF.ev 1 rfl) (hF.ev 0 rfl) (by show _ < 4294967296; omega) (by show _ < 4294967296; omega) (by rw [show ((blkF F i) (4 * q)).toNat * 16777216 + ((blkF F i) (4 * q + 1)).toNat * 65536 = (((blkF F i) (4 * q)).toNat * 256 + ((blkF F i) (4 * q + 1)).toNat) * 2 ^ 16 by omega, or_addk (show ((blkF F i) (4 * q + 2)).toNat * 256 < 2 ^ 16 by omega)])) 3 ?_
  refine rv 32 .mv 0 ?_
  refine rv 33 .mv 0 ?_
  refine rv 34 .mv 16 ?_
  refine rv 35 (.mul ((4 * q : Nat) : Int)) 1 ?_
  refine rv 36 (.add (((64 * i) + (4 * q) : Nat) : Int)) 3 ?_
  refine rv 37 (.add (((64 * i + (4 * q + 3)) : Nat) : Int)) 1 ?_
  have hi32 : 64 * i + (4 * q + 3) < (pdM l).length := by omega
  have hj35 : 64 * i + (4 * q + 3) < (pdM l).length := by omega
  refine rv 38 (.ix 1 (64 * i + (4 * q + 3)) (hi := hi32)) 3 ?_
  refine rld 39 (hH.q 3 rfl) (.ld cByte ((blkF F i) (4 * q + 3)) (fun _ hS => ((hB13.holdsL hS) (64 * i + (4 * q + 3)) _ hx03))) 1 ?_
  refine rv 40 (.cu .u32) 1 ?_
  refine rv 41 (v := (.int .u32 (((((blkF F i) (4 * q)).toNat * 16777216 + ((blkF F i) (4 * q + 1)).toNat * 65536 + ((blkF F i) (4 * q + 2)).toNat * 256 + ((blkF F i) (4 * q + 3)).toNat) : Nat) : Int))) (fun _ _ hF => opOrU (m := ((blkF F i) (4 * q)).toNat * 16777216 + ((blkF F i) (4 * q + 1)).toNat * 65536 + ((blkF F i) (4 * q + 2)).toNat * 256) (j := ((blkF F i) (4 * q + 3)).toNat) (z := (((blkF F i) (4 * q)).toNat * 16777216 + ((blkF F i) (4 * q + 1)).toNat * 65536 + ((blkF F i) (4 * q + 2)).toNat * 256 + ((blkF F i) (4 * q + 3)).toNat)) rfl rfl (hF.ev 1 rfl) (hF.ev 0 rfl) (by show _ < 4294967296; omega) (by show _ < 4294967296; omega) (by rw [show ((blkF F i) (4 * q)).toNat * 16777216 + ((blkF F i) (4 * q + 1)).toNat * 65536 + ((blkF F i) (4 * q + 2)).toNat * 256 = (((blkF F i) (4 * q)).toNat * 65536 + ((blkF F i) (4 * q + 1)).toNat * 256 + ((blkF F i) (4 * q + 2)).toNat) * 2 ^ 8 by omega, or_addk (show ((blkF F i) (4 * q + 3)).toNat < 2 ^ 8 by omega)])) 3 ?_
  have hi36 : q < 64 := by omega
  refine rv 42 (.ia 1 64 q (hi := hi36)) 2 ?_
  refine rx1k 43 ?_
  refine re0 43 4 hH rfl (.st cWd (UInt32.ofNat (((blkF F i) (4 * q)).toNat * 16777216 + ((blkF F i) (4 * q + 1)).toNat * 65536 + ((blkF F i) (4 * q + 2)).toNat * 256 + ((blkF F i) (4 * q + 3)).toNat)) (room_1 (S := sWd) (C := (cWs 64)) rfl hi36) (vec_set0 (upF q (W32 (blkF F i)) (fun _ => 0)) (UInt32.ofNat (((blkF F i) (4 * q)).toNat * 16777216 + ((blkF F i) (4 * q + 1)).toNat * 65536 + ((blkF F i) (4 * q + 2)).toNat * 256 + ((blkF F i) (4 * q + 3)).toNat)) hi36) (hv := wd_val (by omega))) trivial (pgo [] (pgo [] (pgo [] (pgo [] (.nil _ []))))) ?_
  clear hH
  rintro _ _ w rfl hH
  refine ⟨pnil, ?_⟩
  refine rxEnd (by kernel_rfl) ?_
  refine qxInN ?_
  refine qxThen ?_
  refine cxReg ?_
  refine zv (.add ((q + 1 : Nat) : Int)) 7 ?_
  refine zv .mv 1 ?_
  refine pxEnd ?_
  have he37 : (cWs 64).enc (upF (q + 1) (W32 (blkF F i)) (fun _ => 0)) = (cWs 64).enc (stF (upF q (W32 (blkF F i)) (fun _ => 0)) q (UInt32.ofNat (((blkF F i) (4 * q)).toNat * 16777216 + ((blkF F i) (4 * q + 1)).toNat * 65536 + ((blkF F i) (4 * q + 2)).toNat * 256 + ((blkF F i) (4 * q + 3)).toNat))) := vec_congr (fun j _ => (congrFun (upF_step q (W32 (blkF F i)) (fun _ => 0) (up_low (show q < 16 by omega))) j).symm)
  replace hH : HH w0 [] [[bl g1 23 ((cArr 32).enc (fun _ => 0))], [bl g2 50 ((cWs 8).enc (hs32 F i))], [bl g3 51 ((cWs 64).enc K32)], [bl g10 5 cur12], [bl g17 51 ((cWs 64).enc (upF (q + 1) (W32 (blkF F i)) (fun _ => 0)))]] w := by rw [he37]; exact hH
  exact zR1 (q + 1) ⟨hH, (by omega)⟩ (by omega)
  refine cxExit ?_
  refine qxThenE ?_
  refine qxThenE ?_
  refine qxInE ?_
  refine qxThen ?_
  refine cxSeq ?_
  obtain rfl : q = 16 := by omega
  refine zr ?_
  refine zv .mv 3 ?_
  refine zn ?_
  refine cxBlock ?_
  refine zL1 (fun (q : Nat) => [(9, (.int .i64 (((q) : Nat) : Int))), (7, (.pointer (some ⟨g17, 0, none⟩))), (6, (.int .i64 (((64 * i) : Nat) : Int))), (5, (.slice (some ⟨g10, 0, none⟩) ((pdM l).length) c7)), (4, (.pointer (some ⟨g3, 0, none⟩))), (3, (.pointer (some ⟨g2, 0, none⟩))), (2, (.pointer (some ⟨g1, 0, none⟩)))]) (fun q w => HH w0 [] [[bl g1 23 ((cArr 32).enc (fun _ => 0))], [bl g2 50 ((cWs 8).enc (hs32 F i))], [bl g3 51 ((cWs 64).enc K32)], [bl g10 5 cur12], [bl g17 51 ((cWs 64).enc (upF q (W32 (blkF F i)) (fun _ => 0)))]] w ∧ (16 ≤ q) ∧ (q ≤ 64)) (fun q => 64 - q) 16 ⟨hH, (Nat.le_refl _), (by decide)⟩ ?_
  clear hH
  rintro q w ⟨hH, hq, hq2⟩
  refine cxSeq ?_
  refine zr ?_
  refine zv .mv 0 ?_
  refine zv (.lt (q < 64)) 1 ?_
  refine zn ?_
  refine zP (fun hc38 => ?_) (fun hc38 => ?_)
  refine cxSkip ?_
  refine qxThen ?_
  refine cxSeq ?_
  refine cxBlock ?_
  refine zx ?_
  replace hH := hH.drew
  refine rv 0 .mv 1 ?_
  refine rv 1 (.sub (((q - 2) : Nat) : Int)) 1 ?_
  have hi39 : q - 2 < 64 := by omega
  refine rv 2 (.ia 1 64 (q - 2) (hi := hi39)) 1 ?_
  refine rld 3 (hH.q 4 rfl) (.ld cWd ((upF q (W32 (blkF F i)) (fun _ => 0)) (q - 2)) (fun _ hS => ((holds_blk0 hS).eltV hi39))) 1 ?_
  refine rv 5 .mv 0 ?_
  refine rv 6 (.sub (((q - 2) : Nat) : Int)) 1 ?_
  have hi40 : q - 2 < 64 := by omega
  refine rv 7 (.ia 1 64 (q - 2) (hi := hi40)) 1 ?_
  refine rld 8 (hH.q 4 rfl) (.ld cWd ((upF q (W32 (blkF F i)) (fun _ => 0)) (q - 2)) (fun _ hS => ((holds_blk0 hS).eltV hi40))) 1 ?_
  refine rv 11 .mv 0 ?_
  refine rv 12 (.sub (((q - 2) : Nat) : Int)) 1 ?_
  have hi41 : q - 2 < 64 := by omega
  refine rv 13 (.ia 1 64 (q - 2) (hi := hi41)) 1 ?_
  refine rld 14 (hH.q 4 rfl) (.ld cWd ((upF q (W32 (blkF F i)) (fun _ => 0)) (q - 2)) (fun _ hS => ((holds_blk0 hS).eltV hi41))) 1 ?_
  refine rv 15 (.rw 10) 1 ?_
  refine rx1k 4 (rpc 4 Tryz.func28 (rrot_c ((upF q (W32 (blkF F i)) (fun _ => 0)) (q - 2)) 17 (ltb rfl) (ltb rfl)) trivial hH 4 (.keep (.keep (pgo [] (.nil _ [])))) ?_)
  clear hH
  intro w hH
  refine ⟨pcons (hH.blk 4 rfl) (pcons (hH.blk 4 rfl) pnil), ?_⟩
  refine rx1k 9 (rpc 9 Tryz.func28 (rrot_c ((upF q (W32 (blkF F i)) (fun _ => 0)) (q - 2)) 19 (ltb rfl) (ltb rfl)) trivial hH 4 (.keep (pgo [] (.nil _ []))) ?_)
  clear hH
  intro w hH
  refine ⟨pcons (hH.blk 4 rfl) pnil, ?_⟩
  refine rv 10 (.xw (xo32 (rr32 ((upF q (W32 (blkF F i)) (fun _ => 0)) (q - 2)) 17) (rr32 ((upF q (W32 (blkF F i)) (fun _ => 0)) (q - 2)) 19))) 3 ?_
  refine rv 16 (.xw (sml1_32 (upF q (W32 (blkF F i)) (fun _ => 0) (q - 2)))) 3 ?_
  refine rv 17 .mv 1 ?_
  refine rn ?_
  refine zx ?_
  replace hH := hH.drew
  refine rv 0 .mv 0 ?_
  refine rv 1 (.sub (((q - 15) : Nat) : Int)) 1 ?_
  have hi42 : q - 15 < 64 := by omega
  refine rv 2 (.ia 1 64 (q - 15) (hi := hi42)) 1 ?_
  refine rld 3 (hH.q 4 rfl) (.ld cWd ((upF q (W32 (blkF F i)) (fun _ => 0)) (q - 15)) (fun _ hS => ((holds_blk0 hS).eltV hi42))) 1 ?_
  refine rv 5 .mv 0 ?_
  refine rv 6 (.sub (((q - 15) : Nat) : Int)) 1 ?_
  have hi43 : q - 15 < 64 := by omega
  refine rv 7 (.ia 1 64 (q - 15) (hi := hi43)) 1 ?_
  refine rld 8 (hH.q 4 rfl) (.ld cWd ((upF q (W32 (blkF F i)) (fun _ => 0)) (q - 15)) (fun _ hS => ((holds_blk0 hS).eltV hi43))) 1 ?_
  refine rv 11 .mv 0 ?_
  refine rv 12 (.sub (((q - 15) : Nat) : Int)) 1 ?_
  have hi44 : q - 15 < 64 := by omega
  refine rv 13 (.ia 1 64 (q - 15) (hi := hi44)) 1 ?_
  refine rld 14 (hH.q 4 rfl) (.ld cWd ((upF q (W32 (blkF F i)) (fun _ => 0)) (q - 15)) (fun _ hS => ((holds_blk0 hS).eltV hi44))) 1 ?_
  refine rv 15 (.rw 3) 1 ?_
  refine rx1k 4 (rpc 4 Tryz.func28 (rrot_c ((upF q (W32 (blkF F i)) (fun _ => 0)) (q - 15)) 7 (ltb rfl) (ltb rfl)) trivial hH 4 (.keep (.keep (pgo [] (.nil _ [])))) ?_)
  clear hH
  intro w hH
  refine ⟨pcons (hH.blk 4 rfl) (pcons (hH.blk 4 rfl) pnil), ?_⟩
  refine rx1k 9 (rpc 9 Tryz.func28 (rrot_c ((upF q (W32 (blkF F i)) (fun _ => 0)) (q - 15)) 18 (ltb rfl) (ltb rfl)) trivial hH 4 (.keep (pgo [] (.nil _ []))) ?_)
  clear hH
  intro w hH
  refine ⟨pcons (hH.blk 4 rfl) pnil, ?_⟩
  refine rv 10 (.xw (xo32 (rr32 ((upF q (W32 (blkF F i)) (fun _ => 0)) (q - 15)) 7) (rr32 ((upF q (W32 (blkF F i)) (fun _ => 0)) (q - 15)) 18))) 3 ?_
  refine rv 16 (.xw (sml0_32 (upF q (W32 (blkF F i)) (fun _ => 0) (q - 15)))) 3 ?_
  refine rv 17 .mv 1 ?_
  refine rn ?_
  refine cxRegX mixedOrders (by kernel_rfl) ?_
  replace hH := hH.drew
  refine rv 0 .mv 0 ?_
  refine rv 1 .mv 4 ?_
  refine rv 2 .mv 0 ?_
  refine rv 3 (.sub (((q - 7) : Nat) : Int)) 1 ?_
  have hi45 : q - 7 < 64 := by omega
  refine rv 4 (.ia 1 64 (q - 7) (hi := hi45)) 1 ?_
  refine rld 5 (hH.q 4 rfl) (.ld cWd ((upF q (W32 (blkF F i)) (fun _ => 0)) (q - 7)) (fun _ hS => ((holds_blk0 hS).eltV hi45))) 1 ?_
  refine rv 6 (.aw (pl32 (sml1_32 (upF q (W32 (blkF F i)) (fun _ => 0) (q - 2))) ((upF q (W32 (blkF F i)) (fun _ => 0)) (q - 7)))) 3 ?_
  refine rv 7 .mv 4 ?_
  refine rv 8 (.aw (pl32 (pl32 (sml1_32 (upF q (W32 (blkF F i)) (fun _ => 0) (q - 2))) (upF q (W32 (blkF F i)) (fun _ => 0) (q - 7))) (sml0_32 (upF q (W32 (blkF F i)) (fun _ => 0) (q - 15))))) 3 ?_
  refine rv 9 .mv 0 ?_
  refine rv 10 (.sub (((q - 16) : Nat) : Int)) 1 ?_
  have hi46 : q - 16 < 64 := by omega
  refine rv 11 (.ia 1 64 (q - 16) (hi := hi46)) 1 ?_
  refine rld 12 (hH.q 4 rfl) (.ld cWd ((upF q (W32 (blkF F i)) (fun _ => 0)) (q - 16)) (fun _ hS => ((holds_blk0 hS).eltV hi46))) 1 ?_
  refine rv 13 (.aw (pl32 (pl32 (pl32 (sml1_32 (upF q (W32 (blkF F i)) (fun _ => 0) (q - 2))) (upF q (W32 (blkF F i)) (fun _ => 0) (q - 7))) (sml0_32 (upF q (W32 (blkF F i)) (fun _ => 0) (q - 15)))) ((upF q (W32 (blkF F i)) (fun _ => 0)) (q - 16)))) 3 ?_
  have hi47 : q < 64 := by omega
  refine rv 14 (.ia 1 64 q (hi := hi47)) 2 ?_
  refine rx1k 15 ?_
  refine re0 15 4 hH rfl (.st cWd (pl32 (pl32 (pl32 (sml1_32 (upF q (W32 (blkF F i)) (fun _ => 0) (q - 2))) (upF q (W32 (blkF F i)) (fun _ => 0) (q - 7))) (sml0_32 (upF q (W32 (blkF F i)) (fun _ => 0) (q - 15)))) ((upF q (W32 (blkF F i)) (fun _ => 0)) (q - 16))) (room_1 (S := sWd) (C := (cWs 64)) rfl hi47) (vec_set0 (upF q (W32 (blkF F i)) (fun _ => 0)) (pl32 (pl32 (pl32 (sml1_32 (upF q (W32 (blkF F i)) (fun _ => 0) (q - 2))) (upF q (W32 (blkF F i)) (fun _ => 0) (q - 7))) (sml0_32 (upF q (W32 (blkF F i)) (fun _ => 0) (q - 15)))) ((upF q (W32 (blkF F i)) (fun _ => 0)) (q - 16))) hi47)) trivial (pgo [] (pgo [] (.nil _ []))) ?_
  clear hH
  rintro _ _ w rfl hH
  refine ⟨pnil, ?_⟩
  refine rxEnd (by kernel_rfl) ?_
  refine qxInN ?_
  refine qxThen ?_
  refine cxReg ?_
  refine zv .mv 7 ?_
  refine zv (.add ((q + 1 : Nat) : Int)) 1 ?_
  refine zv .mv 1 ?_
  refine pxEnd ?_
  have he48 : (cWs 64).enc (upF (q + 1) (W32 (blkF F i)) (fun _ => 0)) = (cWs 64).enc (stF (upF q (W32 (blkF F i)) (fun _ => 0)) q (pl32 (pl32 (pl32 (sml1_32 (upF q (W32 (blkF F i)) (fun _ => 0) (q - 2))) (upF q (W32 (blkF F i)) (fun _ => 0) (q - 7))) (sml0_32 (upF q (W32 (blkF F i)) (fun _ => 0) (q - 15)))) ((upF q (W32 (blkF F i)) (fun _ => 0)) (q - 16)))) := vec_congr (fun j _ => (congrFun (upF_step q (W32 (blkF F i)) (fun _ => 0) (up_word hq)) j).symm)
  replace hH : HH w0 [] [[bl g1 23 ((cArr 32).enc (fun _ => 0))], [bl g2 50 ((cWs 8).enc (hs32 F i))], [bl g3 51 ((cWs 64).enc K32)], [bl g10 5 cur12], [bl g17 51 ((cWs 64).enc (upF (q + 1) (W32 (blkF F i)) (fun _ => 0)))]] w := by rw [he48]; exact hH
  exact zR1 (q + 1) ⟨hH, (by omega), (by omega)⟩ (by omega)
  refine cxExit ?_
  refine qxThenE ?_
  refine qxThenE ?_
  refine qxInE ?_
  refine qxThen ?_
  obtain rfl : q = 64 := by omega
  have he49 : (cWs 64).enc (W32 (blkF F i)) = (cWs 64).enc (upF 64 (W32 (blkF F i)) (fun _ => 0)) := vec_congr (fun j hj => (upF_lt _ _ hj).symm)
  replace hH : HH w0 [] [[bl g1 23 ((cArr 32).enc (fun _ => 0))], [bl g2 50 ((cWs 8).enc (hs32 F i))], [bl g3 51 ((cWs 64).enc K32)], [bl g10 5 cur12], [bl g17 51 ((cWs 64).enc (W32 (blkF F i)))]] w := by rw [he49]; exact hH
  refine zr ?_
  refine zs (hH.q 1 rfl) (.ld (cWs 8) (hs32 F i) (fun _ hS => (holds_blk0 hS))) 3 ?_
  refine zm hH (.al (cWs 8) (fun _ => 0)) trivial 0 ?_
  clear hH
  rintro _ _ w ⟨g50, rfl, rfl⟩ hH
  refine ze0 5 hH rfl (.sw (cWs 8) (fun _ => 0) (hs32 F i)) trivial ?_
  clear hH
  rintro _ _ w rfl hH
  refine zn ?_
  refine cxSeq ?_
  have he51 : (cWs 8).enc (rnd32 (blkF F i) (hs32 F i) 0) = (cWs 8).enc (hs32 F i) := vec_congr (fun _ _ => rfl)
  replace hH : HH w0 [] [[bl g1 23 ((cArr 32).enc (fun _ => 0))], [bl g2 50 ((cWs 8).enc (hs32 F i))], [bl g3 51 ((cWs 64).enc K32)], [bl g10 5 cur12], [bl g17 51 ((cWs 64).enc (W32 (blkF F i)))], [bl g50 50 ((cWs 8).enc (rnd32 (blkF F i) (hs32 F i) 0))]] w := by rw [he51]; exact hH
  refine zr ?_
  refine zv .mv 2 ?_
  refine zn ?_
  refine cxBlock ?_
  refine zL1 (fun (q : Nat) => [(132, (.int .i64 (((q) : Nat) : Int))), (12, (.pointer (some ⟨g50, 0, none⟩))), (7, (.pointer (some ⟨g17, 0, none⟩))), (6, (.int .i64 (((64 * i) : Nat) : Int))), (5, (.slice (some ⟨g10, 0, none⟩) ((pdM l).length) c7)), (4, (.pointer (some ⟨g3, 0, none⟩))), (3, (.pointer (some ⟨g2, 0, none⟩))), (2, (.pointer (some ⟨g1, 0, none⟩)))]) (fun q w => HH w0 [] [[bl g1 23 ((cArr 32).enc (fun _ => 0))], [bl g2 50 ((cWs 8).enc (hs32 F i))], [bl g3 51 ((cWs 64).enc K32)], [bl g10 5 cur12], [bl g17 51 ((cWs 64).enc (W32 (blkF F i)))], [bl g50 50 ((cWs 8).enc (rnd32 (blkF F i) (hs32 F i) q))]] w ∧ (q ≤ 64)) (fun q => 64 - q) 0 ⟨hH, (Nat.zero_le _)⟩ ?_
  clear hH
  rintro q w ⟨hH, hq⟩
  refine zr ?_
  refine zv (.lt (q < 64)) 0 ?_
  refine zn ?_
  refine cxSeq ?_
  refine zP (fun hc52 => ?_) (fun hc52 => ?_)
  refine cxSkip ?_
  refine qxThen ?_
  refine cxSeq ?_
  refine cxBlock ?_
  refine zr ?_
  refine zv .mv 1 ?_
  refine zv .mv 1 ?_
  refine zn ?_
  refine zx ?_
  replace hH := hH.drew
  have hi53 : 4 < 8 := by omega
  refine rv 0 (.ia 1 8 4 (hi := hi53)) 0 ?_
  refine rld 1 (hH.q 5 rfl) (.ld cWd ((rnd32 (blkF F i) (hs32 F i) q) 4) (fun _ hS => ((holds_blk0 hS).eltV hi53))) 1 ?_
  have hi54 : 0 < 8 := by omega
  refine rv 2 (.ia 1 8 0 (hi := hi54)) 0 ?_
  refine rld 3 (hH.q 5 rfl) (.ld cWd ((rnd32 (blkF F i) (hs32 F i) q) 0) (fun _ hS => ((holds_blk0 hS).eltV hi54))) 1 ?_
  refine rv 4 .mv 2 ?_
  refine rv 5 .mv 2 ?_
  refine rn ?_
  refine zx ?_
  replace hH := hH.drew
  have hi55 : 7 < 8 := by omega
  refine rv 0 (.ia 1 8 7 (hi := hi55)) 0 ?_
  refine rld 1 (hH.q 5 rfl) (.ld cWd ((rnd32 (blkF F i) (hs32 F i) q) 7) (fun _ hS => ((holds_blk0 hS).eltV hi55))) 1 ?_
  refine rv 2 .mv 0 ?_
  refine rv 4 .mv 0 ?_
  refine rv 7 .mv 0 ?_
  refine rv 11 .mv 0 ?_
  have hi56 : 5 < 8 := by omega
  refine rv 12 (.ia 1 8 5 (hi := hi56)) 0 ?_
  refine rld 13 (hH.q 5 rfl) (.ld cWd ((rnd32 (blkF F i) (hs32 F i) q) 5) (fun _ hS => ((holds_blk0 hS).eltV hi56))) 1 ?_
  refine rv 14 (.nw (and32 ((rnd32 (blkF F i) (hs32 F i) q) 4) ((rnd32 (blkF F i) (hs32 F i) q) 5))) 3 ?_
  refine rv 15 .mv 64 ?_
  refine rv 16 .cw 1 ?_
  have hi57 : 6 < 8 := by omega
  refine rv 17 (.ia 1 8 6 (hi := hi57)) 0 ?_
  refine rld 18 (hH.q 5 rfl) (.ld cWd ((rnd32 (blkF F i) (hs32 F i) q) 6) (fun _ hS => ((holds_blk0 hS).eltV hi57))) 1 ?_
  refine rv 19 (.nw (and32 (not32 ((rnd32 (blkF F i) (hs32 F i) q) 4)) ((rnd32 (blkF F i) (hs32 F i) q) 6))) 3 ?_
  refine rv 20 (.xw (ch32 (rnd32 (blkF F i) (hs32 F i) q 4) (rnd32 (blkF F i) (hs32 F i) q 5) (rnd32 (blkF F i) (hs32 F i) q 6))) 3 ?_
  refine rv 22 .mv 0 ?_
  have hi58 : q < 64 := by omega
  refine rv 23 (.ia 1 64 q (hi := hi58)) 1 ?_
  refine rld 24 (hH.q 2 rfl) (.ld cWd (K32 q) (fun _ hS => ((holds_blk0 hS).eltV hi58))) 1 ?_
  refine rv 26 .mv 128 ?_
  have hi59 : q < 64 := by omega
  refine rv 27 (.ia 1 64 q (hi := hi59)) 1 ?_
  refine rld 28 (hH.q 4 rfl) (.ld cWd ((W32 (blkF F i)) q) (fun _ hS => ((holds_blk0 hS).eltV hi59))) 1 ?_
  refine rx1k 3 (rpc 3 Tryz.func28 (rrot_c ((rnd32 (blkF F i) (hs32 F i) q) 4) 6 (ltb rfl) (ltb rfl)) trivial hH 32 (.keep (.keep (.keep (.keep (.keep (.nil _ [])))))) ?_)
  clear hH
  intro w hH
  refine ⟨pcons (hH.blk 4 rfl) (pcons (hH.blk 2 rfl) (pcons (hH.blk 5 rfl) (pcons (hH.blk 5 rfl) (pcons (hH.blk 5 rfl) pnil)))), ?_⟩
  refine rx1k 5 (rpc 5 Tryz.func28 (rrot_c ((rnd32 (blkF F i) (hs32 F i) q) 4) 11 (ltb rfl) (ltb rfl)) trivial hH 32 (.keep (.keep (.keep (.keep (.keep (.nil _ [])))))) ?_)
  clear hH
  intro w hH
  refine ⟨pcons (hH.blk 4 rfl) (pcons (hH.blk 2 rfl) (pcons (hH.blk 5 rfl) (pcons (hH.blk 5 rfl) (pcons (hH.blk 5 rfl) pnil)))), ?_⟩
  refine rv 6 (.xw (xo32 (rr32 ((rnd32 (blkF F i) (hs32 F i) q) 4) 6) (rr32 ((rnd32 (blkF F i) (hs32 F i) q) 4) 11))) 3 ?_
  refine rx1k 8 (rpc 8 Tryz.func28 (rrot_c ((rnd32 (blkF F i) (hs32 F i) q) 4) 25 (ltb rfl) (ltb rfl)) trivial hH 16 (.keep (.keep (.keep (.keep (.keep (.nil _ [])))))) ?_)
  clear hH
  intro w hH
  refine ⟨pcons (hH.blk 4 rfl) (pcons (hH.blk 2 rfl) (pcons (hH.blk 5 rfl) (pcons (hH.blk 5 rfl) (pcons (hH.blk 5 rfl) pnil)))), ?_⟩
  refine rv 9 (.xw (big1_32 (rnd32 (blkF F i) (hs32 F i) q 4))) 3 ?_
  refine rv 10 (.aw (pl32 ((rnd32 (blkF F i) (hs32 F i) q) 7) (big1_32 (rnd32 (blkF F i) (hs32 F i) q 4)))) 17 ?_
  refine rv 21 (.aw (pl32 (pl32 ((rnd32 (blkF F i) (hs32 F i) q) 7) (big1_32 (rnd32 (blkF F i) (hs32 F i) q 4))) (ch32 (rnd32 (blkF F i) (hs32 F i) q 4) (rnd32 (blkF F i) (hs32 F i) q 5) (rnd32 (blkF F i) (hs32 F i) q 6)))) 9 ?_
  refine rv 25 (.aw (pl32 (pl32 (pl32 ((rnd32 (blkF F i) (hs32 F i) q) 7) (big1_32 (rnd32 (blkF F i) (hs32 F i) q 4))) (ch32 (rnd32 (blkF F i) (hs32 F i) q 4) (rnd32 (blkF F i) (hs32 F i) q 5) (rnd32 (blkF F i) (hs32 F i) q 6))) (K32 q))) 5 ?_
  refine rv 29 (.aw (one32 (W32 (blkF F i) q) q (rnd32 (blkF F i) (hs32 F i) q))) 3 ?_
  refine rv 30 .mv 1 ?_
  refine rn ?_
  refine zx ?_
  replace hH := hH.drew
  refine rv 0 .mv 0 ?_
  refine rv 2 .mv 0 ?_
  refine rv 5 .mv 0 ?_
  refine rv 8 .mv 0 ?_
  have hi60 : 1 < 8 := by omega
  refine rv 9 (.ia 1 8 1 (hi := hi60)) 0 ?_
  refine rld 10 (hH.q 5 rfl) (.ld cWd ((rnd32 (blkF F i) (hs32 F i) q) 1) (fun _ hS => ((holds_blk0 hS).eltV hi60))) 1 ?_
  refine rv 11 (.nw (and32 ((rnd32 (blkF F i) (hs32 F i) q) 0) ((rnd32 (blkF F i) (hs32 F i) q) 1))) 3 ?_
  refine rv 12 .mv 32 ?_
  have hi61 : 2 < 8 := by omega
  refine rv 13 (.ia 1 8 2 (hi := hi61)) 0 ?_
  refine rld 14 (hH.q 5 rfl) (.ld cWd ((rnd32 (blkF F i) (hs32 F i) q) 2) (fun _ hS => ((holds_blk0 hS).eltV hi61))) 1 ?_
  refine rv 15 (.nw (and32 ((rnd32 (blkF F i) (hs32 F i) q) 0) ((rnd32 (blkF F i) (hs32 F i) q) 2))) 3 ?_
  refine rv 16 (.xw (xo32 (and32 ((rnd32 (blkF F i) (hs32 F i) q) 0) ((rnd32 (blkF F i) (hs32 F i) q) 1)) (and32 ((rnd32 (blkF F i) (hs32 F i) q) 0) ((rnd32 (blkF F i) (hs32 F i) q) 2)))) 3 ?_
  have hi62 : 1 < 8 := by omega
  refine rv 17 (.ia 1 8 1 (hi := hi62)) 0 ?_
  refine rld 18 (hH.q 5 rfl) (.ld cWd ((rnd32 (blkF F i) (hs32 F i) q) 1) (fun _ hS => ((holds_blk0 hS).eltV hi62))) 1 ?_
  have hi63 : 2 < 8 := by omega
  refine rv 19 (.ia 1 8 2 (hi := hi63)) 0 ?_
  refine rld 20 (hH.q 5 rfl) (.ld cWd ((rnd32 (blkF F i) (hs32 F i) q) 2) (fun _ hS => ((holds_blk0 hS).eltV hi63))) 1 ?_
  refine rv 21 (.nw (and32 ((rnd32 (blkF F i) (hs32 F i) q) 1) ((rnd32 (blkF F i) (hs32 F i) q) 2))) 3 ?_
  refine rv 22 (.xw (maj32 (rnd32 (blkF F i) (hs32 F i) q 0) (rnd32 (blkF F i) (hs32 F i) q 1) (rnd32 (blkF F i) (hs32 F i) q 2))) 3 ?_
  refine rx1k 1 (rpc 1 Tryz.func28 (rrot_c ((rnd32 (blkF F i) (hs32 F i) q) 0) 2 (ltb rfl) (ltb rfl)) trivial hH 8 (.keep (.keep (.keep (.keep (.nil _ []))))) ?_)
  clear hH
  intro w hH
  refine ⟨pcons (hH.blk 5 rfl) (pcons (hH.blk 5 rfl) (pcons (hH.blk 5 rfl) (pcons (hH.blk 5 rfl) pnil))), ?_⟩
  refine rx1k 3 (rpc 3 Tryz.func28 (rrot_c ((rnd32 (blkF F i) (hs32 F i) q) 0) 13 (ltb rfl) (ltb rfl)) trivial hH 8 (.keep (.keep (.keep (.keep (.nil _ []))))) ?_)
  clear hH
  intro w hH
  refine ⟨pcons (hH.blk 5 rfl) (pcons (hH.blk 5 rfl) (pcons (hH.blk 5 rfl) (pcons (hH.blk 5 rfl) pnil))), ?_⟩
  refine rv 4 (.xw (xo32 (rr32 ((rnd32 (blkF F i) (hs32 F i) q) 0) 2) (rr32 ((rnd32 (blkF F i) (hs32 F i) q) 0) 13))) 3 ?_
  refine rx1k 6 (rpc 6 Tryz.func28 (rrot_c ((rnd32 (blkF F i) (hs32 F i) q) 0) 22 (ltb rfl) (ltb rfl)) trivial hH 4 (.keep (.keep (.keep (.keep (.nil _ []))))) ?_)
  clear hH
  intro w hH
  refine ⟨pcons (hH.blk 5 rfl) (pcons (hH.blk 5 rfl) (pcons (hH.blk 5 rfl) (pcons (hH.blk 5 rfl) pnil))), ?_⟩
  refine rv 7 (.xw (big0_32 (rnd32 (blkF F i) (hs32 F i) q 0))) 3 ?_
  refine rv 23 (.aw (two32 (rnd32 (blkF F i) (hs32 F i) q))) 3 ?_
  refine rv 24 .mv 1 ?_
  refine rn ?_
  refine cxReg ?_
  refine zv .mv 0 ?_
  refine zv .mv 2 ?_
  refine zv (.aw (pl32 (one32 (W32 (blkF F i) q) q (rnd32 (blkF F i) (hs32 F i) q)) (two32 (rnd32 (blkF F i) (hs32 F i) q)))) 3 ?_
  have hi64 : 0 < 8 := by omega
  refine zv (.ia 1 8 0 (hi := hi64)) 0 ?_
  refine zs (hH.q 5 rfl) (.ld cWd ((rnd32 (blkF F i) (hs32 F i) q) 0) (fun _ hS => ((holds_blk0 hS).eltV hi64))) 1 ?_
  have hi65 : 1 < 8 := by omega
  refine zv (.ia 1 8 1 (hi := hi65)) 0 ?_
  refine zs (hH.q 5 rfl) (.ld cWd ((rnd32 (blkF F i) (hs32 F i) q) 1) (fun _ hS => ((holds_blk0 hS).eltV hi65))) 1 ?_
  have hi66 : 2 < 8 := by omega
  refine zv (.ia 1 8 2 (hi := hi66)) 0 ?_
  refine zs (hH.q 5 rfl) (.ld cWd ((rnd32 (blkF F i) (hs32 F i) q) 2) (fun _ hS => ((holds_blk0 hS).eltV hi66))) 1 ?_
  have hi67 : 3 < 8 := by omega
  refine zv (.ia 1 8 3 (hi := hi67)) 0 ?_
  refine zs (hH.q 5 rfl) (.ld cWd ((rnd32 (blkF F i) (hs32 F i) q) 3) (fun _ hS => ((holds_blk0 hS).eltV hi67))) 1 ?_
  refine zv .mv 32 ?_
  refine zv (.aw (pl32 ((rnd32 (blkF F i) (hs32 F i) q) 3) (one32 (W32 (blkF F i) q) q (rnd32 (blkF F i) (hs32 F i) q)))) 3 ?_
  have hi68 : 4 < 8 := by omega
  refine zv (.ia 1 8 4 (hi := hi68)) 0 ?_
  refine zs (hH.q 5 rfl) (.ld cWd ((rnd32 (blkF F i) (hs32 F i) q) 4) (fun _ hS => ((holds_blk0 hS).eltV hi68))) 1 ?_
  have hi69 : 5 < 8 := by omega
  refine zv (.ia 1 8 5 (hi := hi69)) 0 ?_
  refine zs (hH.q 5 rfl) (.ld cWd ((rnd32 (blkF F i) (hs32 F i) q) 5) (fun _ hS => ((holds_blk0 hS).eltV hi69))) 1 ?_
  have hi70 : 6 < 8 := by omega
  refine zv (.ia 1 8 6 (hi := hi70)) 0 ?_
  refine zs (hH.q 5 rfl) (.ld cWd ((rnd32 (blkF F i) (hs32 F i) q) 6) (fun _ hS => ((holds_blk0 hS).eltV hi70))) 1 ?_
  refine zv (v := ((cWs 8).val (rnd32 (blkF F i) (hs32 F i) (q + 1)))) (fun _ _ hF => opBuildP (cells := (cWs 8).enc (rnd32 (blkF F i) (hs32 F i) (q + 1))) (vals := [(0, (.int .u32 ((((pl32 (one32 (W32 (blkF F i) q) q (rnd32 (blkF F i) (hs32 F i) q)) (two32 (rnd32 (blkF F i) (hs32 F i) q))).toNat) : Nat) : Int))), (1, (.int .u32 (((((rnd32 (blkF F i) (hs32 F i) q) 0).toNat) : Nat) : Int))), (2, (.int .u32 (((((rnd32 (blkF F i) (hs32 F i) q) 1).toNat) : Nat) : Int))), (3, (.int .u32 (((((rnd32 (blkF F i) (hs32 F i) q) 2).toNat) : Nat) : Int))), (4, (.int .u32 ((((pl32 ((rnd32 (blkF F i) (hs32 F i) q) 3) (one32 (W32 (blkF F i) q) q (rnd32 (blkF F i) (hs32 F i) q))).toNat) : Nat) : Int))), (5, (.int .u32 (((((rnd32 (blkF F i) (hs32 F i) q) 4).toNat) : Nat) : Int))), (6, (.int .u32 (((((rnd32 (blkF F i) (hs32 F i) q) 5).toNat) : Nat) : Int))), (7, (.int .u32 (((((rnd32 (blkF F i) (hs32 F i) q) 6).toNat) : Nat) : Int)))]) rfl (EvP.cons (v := (.int .u32 ((((pl32 (one32 (W32 (blkF F i) q) q (rnd32 (blkF F i) (hs32 F i) q)) (two32 (rnd32 (blkF F i) (hs32 F i) q))).toNat) : Nat) : Int))) (hF.ev 7 rfl) (EvP.cons (v := (.int .u32 (((((rnd32 (blkF F i) (hs32 F i) q) 0).toNat) : Nat) : Int))) (hF.ev 6 rfl) (EvP.cons (v := (.int .u32 (((((rnd32 (blkF F i) (hs32 F i) q) 1).toNat) : Nat) : Int))) (hF.ev 5 rfl) (EvP.cons (v := (.int .u32 (((((rnd32 (blkF F i) (hs32 F i) q) 2).toNat) : Nat) : Int))) (hF.ev 4 rfl) (EvP.cons (v := (.int .u32 ((((pl32 ((rnd32 (blkF F i) (hs32 F i) q) 3) (one32 (W32 (blkF F i) q) q (rnd32 (blkF F i) (hs32 F i) q))).toNat) : Nat) : Int))) (hF.ev 3 rfl) (EvP.cons (v := (.int .u32 (((((rnd32 (blkF F i) (hs32 F i) q) 4).toNat) : Nat) : Int))) (hF.ev 2 rfl) (EvP.cons (v := (.int .u32 (((((rnd32 (blkF F i) (hs32 F i) q) 5).toNat) : Nat) : Int))) (hF.ev 1 rfl) (EvP.cons (v := (.int .u32 (((((rnd32 (blkF F i) (hs32 F i) q) 6).toNat) : Nat) : Int))) (hF.ev 0 rfl) EvP.nil)))))))) (by kernel_rfl) _) 255 ?_
  refine ze0 5 hH rfl (.sw (cWs 8) (rnd32 (blkF F i) (hs32 F i) q) (rnd32 (blkF F i) (hs32 F i) (q + 1))) trivial ?_
  clear hH
  rintro _ _ w rfl hH
  refine pxEnd ?_
  refine qxInN ?_
  refine qxThen ?_
  refine cxReg ?_
  refine zv (.add ((q + 1 : Nat) : Int)) 3 ?_
  refine zv .mv 1 ?_
  refine pxEnd ?_
  exact zR1 (q + 1) ⟨hH, (by omega)⟩ (by omega)
  refine cxExit ?_
  refine qxThenE ?_
  refine qxThenE ?_
  refine qxInE ?_
  refine qxThen ?_
  obtain rfl : q = 64 := by omega
  have he71 : (cWs 8).enc (upF 0 (comp32 (blkF F i) (hs32 F i)) (hs32 F i)) = (cWs 8).enc (hs32 F i) := vec_congr (fun _ _ => by rw [upF_zero])
  replace hH : HH w0 [] [[bl g1 23 ((cArr 32).enc (fun _ => 0))], [bl g2 50 ((cWs 8).enc (upF 0 (comp32 (blkF F i) (hs32 F i)) (hs32 F i)))], [bl g3 51 ((cWs 64).enc K32)], [bl g10 5 cur12], [bl g17 51 ((cWs 64).enc (W32 (blkF F i)))], [bl g50 50 ((cWs 8).enc (rnd32 (blkF F i) (hs32 F i) 64))]] w := by rw [he71]; exact hH
  refine zr ?_
  refine zv .mv 11 ?_
  refine zn ?_
  refine cxBlock ?_
  refine zL1 (fun (q : Nat) => [(214, (.int .i64 (((q) : Nat) : Int))), (12, (.pointer (some ⟨g50, 0, none⟩))), (6, (.int .i64 (((64 * i) : Nat) : Int))), (5, (.slice (some ⟨g10, 0, none⟩) ((pdM l).length) c7)), (4, (.pointer (some ⟨g3, 0, none⟩))), (3, (.pointer (some ⟨g2, 0, none⟩))), (2, (.pointer (some ⟨g1, 0, none⟩)))]) (fun q w => HH w0 [] [[bl g1 23 ((cArr 32).enc (fun _ => 0))], [bl g2 50 ((cWs 8).enc (upF q (comp32 (blkF F i) (hs32 F i)) (hs32 F i)))], [bl g3 51 ((cWs 64).enc K32)], [bl g10 5 cur12], [bl g17 51 ((cWs 64).enc (W32 (blkF F i)))], [bl g50 50 ((cWs 8).enc (rnd32 (blkF F i) (hs32 F i) 64))]] w ∧ (q ≤ 8)) (fun q => 8 - q) 0 ⟨hH, (Nat.zero_le _)⟩ ?_
  clear hH
  rintro q w ⟨hH, hq⟩
  refine zr ?_
  refine zv (.lt (q < 8)) 0 ?_
  refine zn ?_
  refine cxSeq ?_
  refine zP (fun hc72 => ?_) (fun hc72 => ?_)
  refine cxSkip ?_
  refine qxThen ?_
  refine cxSeq ?_
  refine cxBlock ?_
  refine zr ?_
  refine zv .mv 1 ?_
  refine zv .mv 1 ?_
  refine zn ?_
  refine cxRegX mixedOrders (by kernel_rfl) ?_
  replace hH := hH.drew
  refine rv 0 .mv 0 ?_
  refine rv 1 .mv 0 ?_
  have hi73 : q < 8 := by omega
  refine rv 2 (.ia 1 8 q (hi := hi73)) 1 ?_
  refine rld 3 (hH.q 1 rfl) (.ld cWd ((upF q (comp32 (blkF F i) (hs32 F i)) (hs32 F i)) q) (fun _ hS => ((holds_blk0 hS).eltV hi73))) 1 ?_
  refine rv 4 .mv 4 ?_
  have hi74 : q < 8 := by omega
  refine rv 5 (.ia 1 8 q (hi := hi74)) 1 ?_
  refine rld 6 (hH.q 5 rfl) (.ld cWd ((rnd32 (blkF F i) (hs32 F i) 64) q) (fun _ hS => ((holds_blk0 hS).eltV hi74))) 1 ?_
  refine rv 7 (.aw (pl32 ((upF q (comp32 (blkF F i) (hs32 F i)) (hs32 F i)) q) ((rnd32 (blkF F i) (hs32 F i) 64) q))) 3 ?_
  have hi75 : q < 8 := by omega
  refine rv 8 (.ia 1 8 q (hi := hi75)) 2 ?_
  refine rx1k 9 ?_
  refine re0 9 1 hH rfl (.st cWd (pl32 ((upF q (comp32 (blkF F i) (hs32 F i)) (hs32 F i)) q) ((rnd32 (blkF F i) (hs32 F i) 64) q)) (room_1 (S := sWd) (C := (cWs 8)) rfl hi75) (vec_set0 (upF q (comp32 (blkF F i) (hs32 F i)) (hs32 F i)) (pl32 ((upF q (comp32 (blkF F i) (hs32 F i)) (hs32 F i)) q) ((rnd32 (blkF F i) (hs32 F i) 64) q)) hi75)) trivial (pgo [] (pgo [] (.nil _ []))) ?_
  clear hH
  rintro _ _ w rfl hH
  refine ⟨pnil, ?_⟩
  refine rxEnd (by kernel_rfl) ?_
  refine qxInN ?_
  refine qxThen ?_
  refine cxReg ?_
  refine zv (.add ((q + 1 : Nat) : Int)) 7 ?_
  refine zv .mv 1 ?_
  refine pxEnd ?_
  have he76 : (cWs 8).enc (upF (q + 1) (comp32 (blkF F i) (hs32 F i)) (hs32 F i)) = (cWs 8).enc (stF (upF q (comp32 (blkF F i) (hs32 F i)) (hs32 F i)) q (pl32 ((upF q (comp32 (blkF F i) (hs32 F i)) (hs32 F i)) q) ((rnd32 (blkF F i) (hs32 F i) 64) q))) := vec_congr (fun j _ => (congrFun (upF_step q (comp32 (blkF F i) (hs32 F i)) (hs32 F i) (by rw [upF_at]; rfl)) j).symm)
  replace hH : HH w0 [] [[bl g1 23 ((cArr 32).enc (fun _ => 0))], [bl g2 50 ((cWs 8).enc (upF (q + 1) (comp32 (blkF F i) (hs32 F i)) (hs32 F i)))], [bl g3 51 ((cWs 64).enc K32)], [bl g10 5 cur12], [bl g17 51 ((cWs 64).enc (W32 (blkF F i)))], [bl g50 50 ((cWs 8).enc (rnd32 (blkF F i) (hs32 F i) 64))]] w := by rw [he76]; exact hH
  exact zR1 (q + 1) ⟨hH, (by omega)⟩ (by omega)
  refine cxExit ?_
  refine qxThenE ?_
  refine qxThenE ?_
  refine qxInE ?_
  refine qxInN ?_
  refine qxThen ?_
  obtain rfl : q = 8 := by omega
  have he77 : (cWs 8).enc (hs32 F (i + 1)) = (cWs 8).enc (upF 8 (comp32 (blkF F i) (hs32 F i)) (hs32 F i)) := vec_congr (fun j hj => (upF_lt _ _ hj).symm)
  replace hH : HH w0 [] [[bl g1 23 ((cArr 32).enc (fun _ => 0))], [bl g2 50 ((cWs 8).enc (hs32 F (i + 1)))], [bl g3 51 ((cWs 64).enc K32)], [bl g10 5 cur12], [bl g17 51 ((cWs 64).enc (W32 (blkF F i)))], [bl g50 50 ((cWs 8).enc (rnd32 (blkF F i) (hs32 F i) 64))]] w := by rw [he77]; exact hH
  refine cxReg ?_
  refine zv .mv 15 ?_
  refine zv (.add (((64 * (i + 1)) : Nat) : Int)) 1 ?_
  refine zv .mv 1 ?_
  refine pxEnd ?_
  replace hH : HH w0 [] [[bl g1 23 ((cArr 32).enc (fun _ => 0))], [bl g2 50 ((cWs 8).enc (hs32 F (i + 1)))], [bl g3 51 ((cWs 64).enc K32)], [bl g10 5 cur12]] w := hH.only [true, true, true, true, false, false]
  exact zR1 (i + 1) ⟨hH, (by omega)⟩ (by omega)
  refine cxExit ?_
  refine qxThenE ?_
  refine qxThenE ?_
  refine qxInE ?_
  refine qxThen ?_
  obtain rfl : i = nb32 n := by omega
  refine zr ?_
  refine zm hH (.al (cArr 32) (fun _ => 0)) trivial 15 ?_
  clear hH
  rintro _ _ w ⟨g78, rfl, rfl⟩ hH
  refine zn ?_
  refine cxSeq ?_
  have he79 : (cArr 32).enc (upF 0 (out32 (hs32 F (nb32 n))) (fun _ => 0)) = (cArr 32).enc (fun _ => 0) := arr_congr (fun _ _ => by rw [upF_zero])
  replace hH : HH w0 [] [[bl g1 23 ((cArr 32).enc (fun _ => 0))], [bl g2 50 ((cWs 8).enc (hs32 F (nb32 n)))], [bl g3 51 ((cWs 64).enc K32)], [bl g10 5 cur12], [bl g78 23 ((cArr 32).enc (upF 0 (out32 (hs32 F (nb32 n))) (fun _ => 0)))]] w := by rw [he79]; exact hH
  refine zr ?_
  refine zv .mv 0 ?_
  refine zn ?_
  refine cxBlock ?_
  refine zL1 (fun (m : Nat) => [(227, (.int .i64 (((m) : Nat) : Int))), (19, (.pointer (some ⟨g78, 0, none⟩))), (3, (.pointer (some ⟨g2, 0, none⟩))), (2, (.pointer (some ⟨g1, 0, none⟩)))]) (fun m w => HH w0 [] [[bl g1 23 ((cArr 32).enc (fun _ => 0))], [bl g2 50 ((cWs 8).enc (hs32 F (nb32 n)))], [bl g3 51 ((cWs 64).enc K32)], [bl g10 5 cur12], [bl g78 23 ((cArr 32).enc (upF m (out32 (hs32 F (nb32 n))) (fun _ => 0)))]] w ∧ (m ≤ 32)) (fun m => 32 - m) 0 ⟨hH, (Nat.zero_le _)⟩ ?_
  clear hH
  rintro m w ⟨hH, hm⟩
  refine zr ?_
  refine zv (.lt (m < 32)) 0 ?_
  refine zn ?_
  refine cxSeq ?_
  refine zP (fun hc80 => ?_) (fun hc80 => ?_)
  refine cxSkip ?_
  refine qxThen ?_
  refine cxSeq ?_
  refine cxBlock ?_
  refine zr ?_
  refine zv .mv 1 ?_
  refine zv .mv 1 ?_
  refine zn ?_
  refine cxReg ?_
  refine zv .mv 0 ?_
  refine zv .mv 0 ?_
  refine zv (v := (.int .i64 (((m / 4) : Nat) : Int))) (fun _ _ hF => opQuo (z := ((m / 4 : Nat) : Int)) rfl (hF.ev 0 rfl) rfl (by omega) (wI quoN (by omega) (by omega))) 1 ?_
  have hi81 : m / 4 < 8 := by omega
  refine zv (.ia 1 8 (m / 4) (hi := hi81)) 1 ?_
  refine zs (hH.q 1 rfl) (.ld cWd ((hs32 F (nb32 n)) (m / 4)) (fun _ hS => ((holds_blk0 hS).eltV hi81))) 1 ?_
  refine zv .mv 4 ?_
  refine zv (v := (.int .i64 (((m % 4) : Nat) : Int))) (fun _ _ hF => opRem (z := ((m % 4 : Nat) : Int)) rfl (hF.ev 0 rfl) rfl (by omega) remN) 1 ?_
  refine zv (.mul ((8 * (m % 4) : Nat) : Int)) 1 ?_
  refine zv (.sub (((24 - 8 * (m % 4)) : Nat) : Int)) 1 ?_
  refine zv (.cu .u64) 1 ?_
  refine zv (.rw (24 - 8 * (m % 4))) 3 ?_
  refine zv .cb 1 ?_
  have hi82 : m < 32 := by omega
  refine zv (.ia 1 32 m (hi := hi82)) 2 ?_
  refine ze0 4 hH rfl (.st cByte (UInt8.ofNat ((sr32 ((hs32 F (nb32 n)) (m / 4)) (24 - 8 * (m % 4))).toNat)) (room_1 (S := sBy) (C := (cArr 32)) rfl hi82) (arr_set0 (upF m (out32 (hs32 F (nb32 n))) (fun _ => 0)) (UInt8.ofNat ((sr32 ((hs32 F (nb32 n)) (m / 4)) (24 - 8 * (m % 4))).toNat)) hi82)) trivial ?_
  clear hH
  rintro _ _ w rfl hH
  refine pxEnd ?_
  refine qxInN ?_
  refine qxThen ?_
  refine cxReg ?_
  refine zv (.add ((m + 1 : Nat) : Int)) 7 ?_
  refine zv .mv 1 ?_
  refine pxEnd ?_
  have he83 : (cArr 32).enc (upF (m + 1) (out32 (hs32 F (nb32 n))) (fun _ => 0)) = (cArr 32).enc (stF (upF m (out32 (hs32 F (nb32 n))) (fun _ => 0)) m (UInt8.ofNat ((sr32 ((hs32 F (nb32 n)) (m / 4)) (24 - 8 * (m % 4))).toNat))) := arr_congr (fun j _ => (congrFun (upF_step m (out32 (hs32 F (nb32 n))) (fun _ => 0) (out32_at2 _ m)) j).symm)
  replace hH : HH w0 [] [[bl g1 23 ((cArr 32).enc (fun _ => 0))], [bl g2 50 ((cWs 8).enc (hs32 F (nb32 n)))], [bl g3 51 ((cWs 64).enc K32)], [bl g10 5 cur12], [bl g78 23 ((cArr 32).enc (upF (m + 1) (out32 (hs32 F (nb32 n))) (fun _ => 0)))]] w := by rw [he83]; exact hH
  exact zR1 (m + 1) ⟨hH, (by omega)⟩ (by omega)
  refine cxExit ?_
  refine qxThenE ?_
  refine qxThenE ?_
  refine qxInE ?_
  refine qxThen ?_
  obtain rfl : m = 32 := by omega
  have he84 : (cArr 32).enc (out32 (hs32 F (nb32 n))) = (cArr 32).enc (upF 32 (out32 (hs32 F (nb32 n))) (fun _ => 0)) := arr_congr (fun j hj => (upF_lt _ _ hj).symm)
  replace hH : HH w0 [] [[bl g1 23 ((cArr 32).enc (fun _ => 0))], [bl g2 50 ((cWs 8).enc (hs32 F (nb32 n)))], [bl g3 51 ((cWs 64).enc K32)], [bl g10 5 cur12], [bl g78 23 ((cArr 32).enc (out32 (hs32 F (nb32 n))))]] w := by rw [he84]; exact hH
  refine zr ?_
  refine zs (hH.q 4 rfl) (.ld (cArr 32) (out32 (hs32 F (nb32 n))) (fun _ hS => (holds_blk0 hS))) 15 ?_
  refine ze0 0 hH rfl (.sw (cArr 32) (fun _ => 0) (out32 (hs32 F (nb32 n)))) trivial ?_
  clear hH
  rintro _ _ w rfl hH
  refine zn ?_
  refine cxRet ?_
  refine qxRetC 1 (hH.blk 0 rfl) rfl rfl (by kernel_rfl) (Cod.size _ _) (by kernel_rfl) ?_
  have he : out32 (hs32 F (nb32 n)) = sha l := by rw [hF]; subst hn; rfl
  rw [he]
  exact ⟨rfl, HH.toBelow hH⟩
end Go.Proofs.YtbbegnfopdihaaaGreatDoor

namespace Go.Proofs.YtbbegnfopdihaaaGreatDoor
open Go Go.RowKit

/-- Word i of a number. -/
def wd (v i : Nat) : Nat := v / 2 ^ (64 * i) % 18446744073709551616
theorem wd_lt (v i : Nat) : wd v i < 18446744073709551616 := Nat.mod_lt _ (by decide)
def words (v : Nat) : Nat → UInt64 := fun i => UInt64.ofNat (wd v i)
theorem words_nat (v i : Nat) : (words v i).toNat = wd v i := by
  unfold words
  rw [UInt64.toNat_ofNat']
  exact Nat.mod_eq_of_lt (wd_lt v i)
theorem words_int (v i : Nat) : ((words v i).toNat : Int) = (wd v i : Int) := by rw [words_nat]
theorem pow64_succ (i : Nat) : 2 ^ (64 * (i + 1)) = 2 ^ (64 * i) * 18446744073709551616 := by
  rw [show 64 * (i + 1) = 64 * i + 64 by omega, Nat.pow_add]
theorem pow64_pos (i : Nat) : 0 < 2 ^ (64 * i) := Nat.two_pow_pos _
/-- The lower i + 1 words are the lower i, and one. -/
theorem low_succ (v i : Nat) : v % 2 ^ (64 * (i + 1)) = v % 2 ^ (64 * i) + wd v i * 2 ^ (64 * i) := by
  rw [pow64_succ, Nat.mod_mul, Nat.mul_comm (2 ^ (64 * i))]; rfl
theorem low_lt (v i : Nat) : v % 2 ^ (64 * i) < 2 ^ (64 * i) := Nat.mod_lt _ (pow64_pos i)
theorem wd_small {v i : Nat} (h : v < 2 ^ (64 * i)) : wd v i = 0 := by
  unfold wd
  rw [Nat.div_eq_of_lt h]
theorem wd_low (v i n : Nat) (h : i < n) : wd (v % 2 ^ (64 * n)) i = wd v i := by
  unfold wd
  have e : 2 ^ (64 * n) = 2 ^ (64 * i) * (18446744073709551616 * 2 ^ (64 * (n - i - 1))) := by
    rw [show (18446744073709551616 : Nat) = 2 ^ 64 from rfl, ← Nat.pow_add, ← Nat.pow_add]
    congr 1; omega
  rw [e, Nat.mod_mul_right_div_self, Nat.mod_mul_right_mod]
theorem words_mod (v n : Nat) (i : Nat) (h : i < n) : words (v % 2 ^ (64 * n)) i = words v i := by
  unfold words; rw [wd_low v i n h]
/-! ### Sums -/
/-- What is carried into word m. -/
def cry (a b m : Nat) : Nat := (a % 2 ^ (64 * m) + b % 2 ^ (64 * m)) / 2 ^ (64 * m)
theorem cry_zero (a b : Nat) : cry a b 0 = 0 := by unfold cry; simp [Nat.mod_one]
theorem cry_le (a b m : Nat) : cry a b m ≤ 1 := by
  unfold cry
  have h1 := low_lt a m
  have h2 := low_lt b m
  have : a % 2 ^ (64 * m) + b % 2 ^ (64 * m) < 2 ^ (64 * m) * 2 := by omega
  have := (Nat.div_lt_iff_lt_mul (pow64_pos m)).mpr (show a % 2 ^ (64 * m) + b % 2 ^ (64 * m) < 2 * 2 ^ (64 * m) by omega)
  omega
theorem add_split (a b m : Nat) : a + b = (a / 2 ^ (64 * m) + b / 2 ^ (64 * m) + cry a b m) * 2 ^ (64 * m) + (a % 2 ^ (64 * m) + b % 2 ^ (64 * m)) % 2 ^ (64 * m) := by
  unfold cry
  have h1 := Nat.div_add_mod a (2 ^ (64 * m))
  have h2 := Nat.div_add_mod b (2 ^ (64 * m))
  have h3 := Nat.div_add_mod (a % 2 ^ (64 * m) + b % 2 ^ (64 * m)) (2 ^ (64 * m))
  generalize (a % 2 ^ (64 * m) + b % 2 ^ (64 * m)) / 2 ^ (64 * m) = c at *
  generalize a % 2 ^ (64 * m) = p at *
  generalize b % 2 ^ (64 * m) = q at *
  generalize (p + q) % 2 ^ (64 * m) = r at *
  generalize 2 ^ (64 * m) = K at *
  generalize a / K = x at *
  generalize b / K = y at *
  rw [← h1, ← h2, Nat.add_mul, Nat.add_mul, Nat.mul_comm x, Nat.mul_comm y, Nat.mul_comm c]
  omega
theorem add_div (a b m : Nat) : (a + b) / 2 ^ (64 * m) = a / 2 ^ (64 * m) + b / 2 ^ (64 * m) + cry a b m := by
  have h := add_split a b m
  have hr : (a % 2 ^ (64 * m) + b % 2 ^ (64 * m)) % 2 ^ (64 * m) < 2 ^ (64 * m) := Nat.mod_lt _ (pow64_pos m)
  rw [h, Nat.mul_comm, Nat.mul_add_div (pow64_pos m), Nat.div_eq_of_lt hr, Nat.add_zero]
theorem sum_word (a b m : Nat) : (wd a m + wd b m + cry a b m) % 18446744073709551616 = wd (a + b) m := by
  unfold wd
  rw [add_div]
  omega
theorem sum_carry (a b m : Nat) : (wd a m + wd b m + cry a b m) / 18446744073709551616 = cry a b (m + 1) := by
  have h1 := add_div a b m
  have h2 := add_div a b (m + 1)
  rw [pow64_succ, ← Nat.div_div_eq_div_mul, ← Nat.div_div_eq_div_mul, ← Nat.div_div_eq_div_mul, h1] at h2
  unfold wd
  omega
theorem cry_top (a b n : Nat) (ha : a < 2 ^ (64 * n)) (hb : b < 2 ^ (64 * n)) : cry a b n = (a + b) / 2 ^ (64 * n) := by
  unfold cry
  rw [Nat.mod_eq_of_lt ha, Nat.mod_eq_of_lt hb]

/-! ### Differences -/
def brw (a b m : Nat) : Nat := if a % 2 ^ (64 * m) < b % 2 ^ (64 * m) then 1 else 0
theorem brw_zero (a b : Nat) : brw a b 0 = 0 := by unfold brw; simp [Nat.mod_one]
theorem brw_le (a b m : Nat) : brw a b m ≤ 1 := by unfold brw; split <;> omega
/-- The difference of the lower words, with what is borrowed. -/
theorem dif_split (a b m : Nat) : ∃ r, r < 2 ^ (64 * m) ∧ a % 2 ^ (64 * m) + brw a b m * 2 ^ (64 * m) = b % 2 ^ (64 * m) + r := by
  have h1 := low_lt a m
  have h2 := low_lt b m
  unfold brw
  split
  · exact ⟨a % 2 ^ (64 * m) + 2 ^ (64 * m) - b % 2 ^ (64 * m), by omega, by omega⟩
  · exact ⟨a % 2 ^ (64 * m) - b % 2 ^ (64 * m), by omega, by omega⟩
theorem brw_next (a b m : Nat) : (if wd a m < wd b m + brw a b m then 1 else 0) = brw a b (m + 1) := by
  unfold brw
  rw [low_succ a m, low_succ b m]
  have h1 := low_lt a m
  have h2 := low_lt b m
  generalize wd a m = x
  generalize wd b m = y
  generalize a % 2 ^ (64 * m) = p at *
  generalize b % 2 ^ (64 * m) = q at *
  generalize 2 ^ (64 * m) = K at *
  rcases Nat.lt_trichotomy x y with h | h | h
  · have : x * K + K ≤ y * K := by rw [← Nat.succ_mul]; exact Nat.mul_le_mul_right K h
    rw [if_pos (by split <;> omega), if_pos (by omega)]
  · subst h
    by_cases hpq : p < q
    · simp [hpq]
    · simp [hpq]
  · have : y * K + K ≤ x * K := by rw [← Nat.succ_mul]; exact Nat.mul_le_mul_right K h
    rw [if_neg (by split <;> omega), if_neg (by omega)]
/-- A word of the difference a - b, b being at most a. -/
theorem dif_word (a b m : Nat) (hba : b ≤ a) : (wd a m + 18446744073709551616 - wd b m - brw a b m) % 18446744073709551616 = wd (a - b) m := by
  have hw := sum_word (a - b) b m
  have hc : cry (a - b) b m = brw a b m := by
    obtain ⟨r, hr, he⟩ := dif_split a b m
    have h1 := low_lt a m
    have h2 := low_lt b m
    have h3 : (a - b) % 2 ^ (64 * m) = r := by
      have h4 : (a - b + b) % 2 ^ (64 * m) = a % 2 ^ (64 * m) := by rw [Nat.sub_add_cancel hba]
      rw [Nat.add_mod] at h4
      have h5 := low_lt (a - b) m
      generalize (a - b) % 2 ^ (64 * m) = x at *
      generalize b % 2 ^ (64 * m) = q at *
      generalize a % 2 ^ (64 * m) = p at *
      generalize 2 ^ (64 * m) = K at *
      have h6 := brw_le a b m
      generalize brw a b m = t at *
      rcases Nat.lt_or_ge (x + q) K with h | h
      · rw [Nat.mod_eq_of_lt h] at h4
        have : t = 0 ∨ t = 1 := by omega
        rcases this with rfl | rfl <;> omega
      · rw [Nat.mod_eq_sub_mod h, Nat.mod_eq_of_lt (by omega)] at h4
        have : t = 0 ∨ t = 1 := by omega
        rcases this with rfl | rfl <;> omega
    unfold cry
    rw [h3]
    rw [show r + b % 2 ^ (64 * m) = a % 2 ^ (64 * m) + brw a b m * 2 ^ (64 * m) by omega, Nat.add_mul_div_right _ _ (pow64_pos m), Nat.div_eq_of_lt h1, Nat.zero_add]
  rw [hc, Nat.sub_add_cancel hba] at hw
  have h1 := wd_lt a m
  have h2 := wd_lt b m
  have h3 := wd_lt (a - b) m
  have h4 := brw_le a b m
  omega

/-! ### Folding: 2^256 is 38 -/
def f1 (v : Nat) : Nat := v % 2 ^ 256 + 38 * (v / 2 ^ 256)
def fv (v : Nat) : Nat := f1 (f1 v)
theorem f1_lt {v : Nat} (h : v < 2 ^ 320) : f1 v < 2 ^ 256 + 38 * 2 ^ 64 := by
  unfold f1
  have h1 : v / 2 ^ 256 < 2 ^ 64 := by omega
  have h2 : v % 2 ^ 256 < 2 ^ 256 := Nat.mod_lt _ (by decide)
  omega
theorem fv_lt {v : Nat} (h : v < 2 ^ 320) : fv v < 2 ^ 256 := by
  have h1 := f1_lt h
  unfold fv
  generalize f1 v = u at *
  unfold f1
  omega
/-- Modulo p nothing changes. -/
def pN : Nat := 57896044618658097711785492504343953926634992332820282019728792003956564819949
theorem f1_mod (v : Nat) : f1 v % pN = v % pN := by
  unfold f1
  have h : v = v % 2 ^ 256 + (38 + 2 * pN) * (v / 2 ^ 256) := by
    have := Nat.div_add_mod v (2 ^ 256)
    have e : 38 + 2 * pN = 2 ^ 256 := by decide
    rw [e]; omega
  conv => rhs; rw [h]
  rw [Nat.add_mul, ← Nat.add_assoc, Nat.mul_comm 2 pN, Nat.mul_assoc, Nat.add_mul_mod_self_left]
theorem fv_mod (v : Nat) : fv v % pN = v % pN := by unfold fv; rw [f1_mod, f1_mod]
end Go.Proofs.YtbbegnfopdihaaaGreatDoor

namespace Go.Proofs.YtbbegnfopdihaaaGreatDoor
open Go Go.RowKit
set_option maxRecDepth 100000

theorem add64_n (x y c : Nat) (hc : c ≤ 1) (w : World) : (callFunc 99 #[.int .u64 (x : Int), .int .u64 (y : Int), .int .u64 (c : Int)]).run Tryz.prog w =
    .ok (.value (.tuple #[.int .u64 (((x + y + c) % 18446744073709551616 : Nat) : Int), .int .u64 (((x + y + c) / 18446744073709551616 : Nat) : Int)])) w := by
  rw [run_callFunc_extern Tryz.func99 (by kernel_rfl) (by kernel_rfl) (by kernel_rfl) (e := add64Entry) (by kernel_rfl), run_add64 _ _ _ (by omega) (by omega) (by omega) (by omega)]
  rfl

theorem sub64_n (x y b : Nat) (hb : b ≤ 1) (w : World) : (callFunc 97 #[.int .u64 (x : Int), .int .u64 (y : Int), .int .u64 (b : Int)]).run Tryz.prog w =
    .ok (.value (.tuple #[.int .u64 (((x + 18446744073709551616 - y - b) % 18446744073709551616 : Nat) : Int), .int .u64 ((if x < y + b then 1 else 0 : Nat) : Int)])) w := by
  rw [run_callFunc_extern Tryz.func97 (by kernel_rfl) (by kernel_rfl) (by kernel_rfl) (e := sub64Entry) (by kernel_rfl), run_sub64 x y b hb]
  rfl

/-- The words of a sum and of a difference, one by one, as the calls tell them. -/
theorem add64_w (a b m : Nat) (w : World) : (callFunc 99 #[.int .u64 (wd a m : Int), .int .u64 (wd b m : Int), .int .u64 (cry a b m : Int)]).run Tryz.prog w =
    .ok (.value (.tuple #[.int .u64 (wd (a + b) m : Int), .int .u64 (cry a b (m + 1) : Int)])) w := by
  rw [add64_n _ _ _ (cry_le a b m), sum_word, sum_carry]
theorem sub64_w (a b m : Nat) (hba : b ≤ a) (w : World) : (callFunc 97 #[.int .u64 (wd a m : Int), .int .u64 (wd b m : Int), .int .u64 (brw a b m : Int)]).run Tryz.prog w =
    .ok (.value (.tuple #[.int .u64 (wd (a - b) m : Int), .int .u64 (brw a b (m + 1) : Int)])) w := by
  rw [sub64_n _ _ _ (brw_le a b m), dif_word a b m hba, brw_next]

set_option maxHeartbeats 1000000 in
theorem mul64_c (x y : Nat) (hx : x < 18446744073709551616) (hy : y < 18446744073709551616) (w : World) :
    Calls Tryz.prog 101 #[.int .u64 x, .int .u64 y] w fun e w' => e = .returned (.tuple #[.int .u64 ((x * y / 18446744073709551616 : Nat) : Int), .int .u64 ((x * y % 18446744073709551616 : Nat) : Int)]) ∧ w' = w := by
  obtain ⟨p0, p1, p2, top⟩ := Lib.mul64_hi x y hx hy
  have le : ∀ a b : Nat, a < 4294967296 → b < 4294967296 → a * b < 18446744073709551616 := fun a b ha hb =>
    Nat.lt_of_le_of_lt (Lib.half_mul_le (by omega) (by omega)) (by decide)
  have q1 := le (x / 4294967296) (y % 4294967296) (by omega) (by omega)
  have q2 := le (x % 4294967296) (y / 4294967296) (by omega) (by omega)
  have q3 := le (x / 4294967296) (y / 4294967296) (by omega) (by omega)
  have whole : x * y / 18446744073709551616 < 18446744073709551616 := by
    have : x * y ≤ 18446744073709551615 * 18446744073709551615 := Nat.mul_le_mul (by omega) (by omega)
    omega
  have q4 := Nat.lt_of_le_of_lt (Nat.le_add_right _ _) (top ▸ whole)
  go_enter Tryz.func101, Tryz.ntmps101
  go_wp2
  simp only [Mul64.maskN x hx, Mul64.maskN y hy, Mul64.maskN _ p1, Mul64.divN, Mul64.mulN, Mul64.addN, Mul64.wrapN _ p0, Mul64.wrapN _ p1, Mul64.wrapN _ p2, Mul64.wrapN _ q1, Mul64.wrapN _ q2, Mul64.wrapN _ q3, Mul64.wrapN _ q4, Mul64.wrapN _ (top ▸ whole), Mul64.wrapM]
  rw [top]
  go_ret2
  exact ⟨rfl, rfl⟩
end Go.Proofs.YtbbegnfopdihaaaGreatDoor

namespace Go.Proofs.YtbbegnfopdihaaaGreatDoor
open Go Go.RowKit
set_option maxRecDepth 100000

/-- A row's words are those of a number. -/
theorem Row64.setW {w : World} {g : Nat} {t : TypeId} {n : Nat} {f : Nat → UInt64} (h : Row64 w g t n f) (i v k : Nat) :
    Row64 (w.setCell ⟨g, i, none⟩ (.int .u64 (wd v k : Int))) g t n fun j => if j = i then words v k else f j := by
  have := h.set_ i (words v k)
  rw [words_int] at this
  exact this
theorem Row64.cellW {w : World} {g : Nat} {t : TypeId} {n v : Nat} (h : Row64 w g t n (words v)) (i : Nat) (hi : i < n) : w.cell? ⟨g, i, none⟩ = some (.int .u64 (wd v i : Int)) := by
  rw [h.cell i hi, words_int]
theorem add64_w0 (a b : Nat) (w : World) : (callFunc 99 #[.int .u64 (wd a 0 : Int), .int .u64 (wd b 0 : Int), .int .u64 0]).run Tryz.prog w =
    .ok (.value (.tuple #[.int .u64 (wd (a + b) 0 : Int), .int .u64 (cry a b 1 : Int)])) w := by
  have := add64_w a b 0 w
  rw [cry_zero] at this
  exact this
theorem add64_wz (a b m : Nat) (hb : wd b m = 0) (w : World) : (callFunc 99 #[.int .u64 (wd a m : Int), .int .u64 0, .int .u64 (cry a b m : Int)]).run Tryz.prog w =
    .ok (.value (.tuple #[.int .u64 (wd (a + b) m : Int), .int .u64 (cry a b (m + 1) : Int)])) w := by
  have := add64_w a b m w
  rw [hb] at this
  exact this
theorem mul64_w (x y : Nat) (hx : x < 18446744073709551616) (hy : y < 18446744073709551616) (w : World) :
    Calls Tryz.prog 101 #[.int .u64 x, .int .u64 y] w fun e w' => e = .returned (.tuple #[.int .u64 (wd (x * y) 1 : Int), .int .u64 (wd (x * y) 0 : Int)]) ∧ w' = w := by
  refine (mul64_c x y hx hy w).mono ?_
  rintro e w' ⟨rfl, rfl⟩
  have h : x * y ≤ 18446744073709551615 * 18446744073709551615 := Nat.mul_le_mul (by omega) (by omega)
  refine ⟨?_, rfl⟩
  unfold wd
  rw [show (2 : Nat) ^ (64 * 1) = 18446744073709551616 by decide, show (2 : Nat) ^ (64 * 0) = 1 by decide, Nat.div_one, Nat.mod_eq_of_lt (a := x * y / 18446744073709551616) (by omega)]

theorem four_new (w : World) (t : TypeId) (f g k l : Nat → UInt64) :
    Row64 ((((w.alloc (.cells (row64 4 f) t)).alloc (.cells (row64 4 g) t)).alloc (.cells (row64 4 k) t)).alloc (.cells (row64 4 l) t)) w.heap.size t 4 f ∧
    Row64 ((((w.alloc (.cells (row64 4 f) t)).alloc (.cells (row64 4 g) t)).alloc (.cells (row64 4 k) t)).alloc (.cells (row64 4 l) t)) (w.heap.size + 1) t 4 g ∧
    Row64 ((((w.alloc (.cells (row64 4 f) t)).alloc (.cells (row64 4 g) t)).alloc (.cells (row64 4 k) t)).alloc (.cells (row64 4 l) t)) (w.heap.size + 1 + 1) t 4 k ∧
    Row64 ((((w.alloc (.cells (row64 4 f) t)).alloc (.cells (row64 4 g) t)).alloc (.cells (row64 4 k) t)).alloc (.cells (row64 4 l) t)) (w.heap.size + 1 + 1 + 1) t 4 l ∧
    Below w.heap.size w ((((w.alloc (.cells (row64 4 f) t)).alloc (.cells (row64 4 g) t)).alloc (.cells (row64 4 k) t)).alloc (.cells (row64 4 l) t)) := by
  have h1 := Row64.new (w.alloc (.cells (row64 4 f) t)) t 4 g
  have h2 := Row64.new ((w.alloc (.cells (row64 4 f) t)).alloc (.cells (row64 4 g) t)) t 4 k
  have h3 := Row64.new (((w.alloc (.cells (row64 4 f) t)).alloc (.cells (row64 4 g) t)).alloc (.cells (row64 4 k) t)) t 4 l
  simp only [World.size_alloc] at h1 h2 h3
  exact ⟨(((Row64.new w t 4 f).alloc _).alloc _).alloc _, (h1.alloc _).alloc _, h2.alloc _, h3, ((((Below.refl _ _).alloc (Nat.le_refl _) _).alloc (by simp) _).alloc (by simp; omega) _).alloc (by simp; omega) _⟩

theorem und32B : Tryz.prog.underlying 23 = some (.array 32 5) := by kernel_rfl
theorem size32B : (Tryz.prog.info? 23).map (·.size) = some 32 := by kernel_rfl
theorem z32B : (Tryz.prog.info? 23).bind (·.zero) = some (.agg (row 32 fun _ => 0)) := by kernel_rfl
end Go.Proofs.YtbbegnfopdihaaaGreatDoor

namespace Go.Proofs.YtbbegnfopdihaaaGreatDoor
open Go Go.RowKit

/-- The number that the first m bytes are, the lowest first. -/
def lv (b : Nat → UInt8) : Nat → Nat
  | 0 => 0
  | m + 1 => lv b m + (b m).toNat * 256 ^ m
theorem lv_lt (b : Nat → UInt8) : ∀ m, lv b m < 256 ^ m
  | 0 => by simp [lv]
  | m + 1 => by
    have h := lv_lt b m
    have h2 := (b m).toNat_lt
    have h3 : (b m).toNat * 256 ^ m ≤ 255 * 256 ^ m := Nat.mul_le_mul_right _ (by omega)
    show lv b m + (b m).toNat * 256 ^ m < 256 ^ (m + 1)
    rw [Nat.pow_succ]
    omega
theorem lv_lt32 (b : Nat → UInt8) : lv b 32 < 2 ^ 256 := lv_lt b 32
theorem pow256 (m : Nat) : 256 ^ m = 2 ^ (64 * (m / 8)) * 2 ^ (8 * (m % 8)) := by
  rw [show (256 : Nat) = 2 ^ 8 from rfl, ← Nat.pow_mul, ← Nat.pow_add]
  congr 1; omega
/-- Byte i of a number. -/
def byteN (v : Nat) : Nat → UInt8 := fun i => UInt8.ofNat (v / 256 ^ i % 256)
theorem byteN_nat (v i : Nat) : (byteN v i).toNat = v / 256 ^ i % 256 := by
  unfold byteN
  rw [UInt8.toNat_ofNat']
  omega
theorem byte_of_word (v i : Nat) : wd v (i / 8) / 2 ^ (8 * (i % 8)) % 256 = v / 256 ^ i % 256 := by
  unfold wd
  have hr : i % 8 < 8 := Nat.mod_lt _ (by decide)
  have e : (18446744073709551616 : Nat) = 2 ^ (8 * (i % 8)) * (256 * 2 ^ (56 - 8 * (i % 8))) := by
    rw [show (256 : Nat) = 2 ^ 8 from rfl, ← Nat.pow_add, ← Nat.pow_add, show 8 * (i % 8) + (8 + (56 - 8 * (i % 8))) = 64 by omega]
  rw [e, Nat.mod_mul_right_div_self, Nat.mod_mul_right_mod, Nat.div_div_eq_div_mul, pow256]
theorem lv_byteN (v m : Nat) : lv (byteN v) m = v % 256 ^ m := by
  induction m with
  | zero => simp [lv, Nat.mod_one]
  | succ m ih =>
    show lv (byteN v) m + (byteN v m).toNat * 256 ^ m = _
    rw [ih, byteN_nat, Nat.pow_succ, Nat.mod_mul, Nat.mul_comm (256 ^ m)]
theorem lv_congr {b c : Nat → UInt8} {m : Nat} (h : ∀ i, i < m → b i = c i) : lv b m = lv c m := by
  induction m with
  | zero => rfl
  | succ m ih =>
    show lv b m + (b m).toNat * 256 ^ m = lv c m + (c m).toNat * 256 ^ m
    rw [ih fun i hi => h i (by omega), h m (by omega)]
/-- Bytes are what their number's bytes are. -/
theorem byteN_lv (b : Nat → UInt8) : ∀ (m i : Nat), i < m → byteN (lv b m) i = b i := by
  intro m
  induction m with
  | zero => intro i h; omega
  | succ m ih =>
    intro i hi
    have hb := (b m).toNat_lt
    apply UInt8.toNat_inj.1
    rw [byteN_nat]
    show (lv b m + (b m).toNat * 256 ^ m) / 256 ^ i % 256 = _
    rcases Nat.lt_or_ge i m with h | h
    · have e : 256 ^ m = 256 ^ i * (256 * 256 ^ (m - i - 1)) := by
        rw [← Nat.pow_succ', ← Nat.pow_add]; congr 1; omega
      rw [e, show (b m).toNat * (256 ^ i * (256 * 256 ^ (m - i - 1))) = 256 ^ i * (256 * ((b m).toNat * 256 ^ (m - i - 1))) by ac_rfl, Nat.add_mul_div_left _ _ (Nat.pow_pos (by decide)), Nat.add_mul_mod_self_left]
      rw [← byteN_nat, ih i h]
    · obtain rfl : i = m := by omega
      have hl := lv_lt b i
      rw [Nat.mul_comm, Nat.add_mul_div_left _ _ (Nat.pow_pos (by decide)), Nat.div_eq_of_lt hl, Nat.zero_add, Nat.mod_eq_of_lt hb]
end Go.Proofs.YtbbegnfopdihaaaGreatDoor
