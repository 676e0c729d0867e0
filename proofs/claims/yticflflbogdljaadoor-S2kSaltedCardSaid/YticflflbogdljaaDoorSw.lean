/- Arrays of scalars as data; words of 32 bits as values; places inside structs; what else the walks of the hash lean on. Plain theorems, over any program. -/
import Derived.Test.YticflflbogdljaaDoorOpN
import Derived.Test.YticflflbogdljaaDoorSh32
namespace Go.Proofs.YticflflbogdljaaDoor
open Go Go.RowKit

/-! ### Arrays -/
/-- A scalar: one cell a datum. -/
structure Scal (α : Type) where
  val : α → Value
  one : ∀ a, (val a).oneCell' = true
def Scal.cod {α : Type} (S : Scal α) : Cod α := ⟨S.val, 1, false, fun a => by rw [one_cells (S.one a)]; rfl, fun a => by rw [one_cells (S.one a)]; exact one1 (S.one a), (fun h => by cases h), fun _ a => S.one a⟩
def Scal.row {α : Type} (S : Scal α) (n : Nat) (f : Nat → α) : Array Value := Array.ofFn fun i : Fin n => S.val (f i)
section
variable {α : Type} {S : Scal α} {n i : Nat} {f g : Nat → α}
theorem srow_size (S : Scal α) (n : Nat) (f : Nat → α) : (S.row n f).size = n := by simp [Scal.row]
theorem srow_get (S : Scal α) (f : Nat → α) (h : i < n) : (S.row n f)[i]? = some (S.val (f i)) := by simp [Scal.row, h]
theorem srow_one (S : Scal α) (n : Nat) (f : Nat → α) : (S.row n f).all (·.oneCell') = true := by
  rw [Array.all_eq_true_iff_forall_mem]
  intro v hv
  simp only [Scal.row, Array.mem_ofFn] at hv
  obtain ⟨i, rfl⟩ := hv
  exact S.one _
end
def Scal.vec {α : Type} (S : Scal α) (n : Nat) : Cod (Nat → α) := ⟨fun f => .agg (S.row n f), n, true, fun f => srow_size S n f, fun f => srow_one S n f, fun _ _ => rfl, (fun h => by cases h)⟩
/-- One of an array's data another one. -/
def stF {α : Type} (f : Nat → α) (i : Nat) (x : α) : Nat → α := fun k => if k = i then x else f k
/-- Data laid from place o on. -/
def ovF {α : Type} [Inhabited α] (f : Nat → α) (o : Nat) (l : List α) : Nat → α := fun k => if o ≤ k ∧ k < o + l.length then l.getD (k - o) default else f k
/-- The first m of g, the rest of f. -/
def upF {α : Type} (m : Nat) (g f : Nat → α) : Nat → α := fun k => if k < m then g k else f k
section
variable {α : Type} {S : Scal α} {n i b off m : Nat} {f g : Nat → α} {w : World} {x : α}
theorem upF_step (m : Nat) (g f : Nat → α) (hx : x = g m) : stF (upF m g f) m x = upF (m + 1) g f := by
  subst hx
  funext k
  unfold stF upF
  by_cases h : k = m
  · subst h; rw [if_pos rfl, if_pos (by omega)]
  · by_cases h2 : k < m
    · rw [if_neg h, if_pos h2, if_pos (by omega)]
    · rw [if_neg h, if_neg h2, if_neg (by omega)]
theorem upF_zero (g f : Nat → α) : upF 0 g f = f := by funext k; simp [upF]
theorem upF_at (g f : Nat → α) : upF m g f m = f m := by simp [upF]
theorem upF_lt (g f : Nat → α) (h : i < m) : upF m g f i = g i := by simp [upF, h]
theorem upF_ge (g f : Nat → α) (h : m ≤ i) : upF m g f i = f i := by unfold upF; rw [if_neg (by omega)]
theorem srow_congr (h : ∀ i, i < n → f i = g i) : S.row n f = S.row n g := by
  unfold Scal.row
  congr 1
  funext i
  rw [h i.1 i.2]
theorem vec_congr (h : ∀ i, i < n → f i = g i) : (S.vec n).enc f = (S.vec n).enc g := srow_congr h
theorem vec_val_congr (h : ∀ i, i < n → f i = g i) : (S.vec n).val f = (S.vec n).val g := congrArg Value.agg (srow_congr h)
theorem vec_get (h : i < n) : ((S.vec n).enc f)[i]? = some (S.val (f i)) := srow_get S f h
theorem vec_set (f : Nat → α) (x : α) (hi : i < n) : putL ((S.vec n).enc f) (i * 1) (S.cod.enc x).toList = (S.vec n).enc (stF f i x) := by
  apply Array.ext_getElem?
  intro k
  have hc : (S.cod.enc x).toList = [S.val x] := by
    show ((S.val x).cells).toList = _
    rw [one_cells (S.one x)]
  rw [hc, putL_get, (S.vec n).size]
  show (if i * 1 ≤ k ∧ k < i * 1 + 1 ∧ k < n then _ else _) = _
  by_cases hk : k < n
  · rw [vec_get hk, vec_get hk]
    by_cases h1 : k = i
    · subst h1
      rw [if_pos (by omega)]
      unfold stF
      rw [if_pos rfl, show k - k * 1 = 0 by omega]; rfl
    · rw [if_neg (by omega)]
      unfold stF
      rw [if_neg h1]
  · rw [if_neg (by omega), Array.getElem?_eq_none (by rw [Cod.size]; show n ≤ k; omega), Array.getElem?_eq_none (by rw [Cod.size]; show n ≤ k; omega)]
theorem Holds.eltV (h : Holds (S.vec n) w b off f) (hi : i < n) : Holds S.cod w b (off + i * 1) (f i) := fun j u hu => by
  have hj : j < 1 := by
    have := (Array.getElem?_eq_some_iff.1 hu).1
    rwa [Cod.size] at this
  obtain rfl : j = 0 := by omega
  have hu' : (S.val (f i)).cells[0]? = some u := hu
  rw [one_cells (S.one _)] at hu'
  obtain rfl := Option.some.inj hu'
  have := h i _ (vec_get hi)
  rw [Nat.mul_one, Nat.add_zero]
  exact this
theorem vec_ov [Inhabited α] (f : Nat → α) (o : Nat) (l : List α) : putL ((S.vec n).enc f) o (flat S.cod l) = (S.vec n).enc (ovF f o l) := by
  apply Array.ext_getElem?
  intro k
  have hf : (flat S.cod l).length = l.length := by rw [flat_len]; exact Nat.mul_one _
  rw [putL_get, (S.vec n).size, hf]
  show (if o ≤ k ∧ k < o + l.length ∧ k < n then _ else _) = _
  by_cases hk : k < n
  · rw [vec_get hk, vec_get hk]
    by_cases h1 : o ≤ k ∧ k < o + l.length
    · rw [if_pos ⟨h1.1, h1.2, hk⟩]
      have hi : k - o < l.length := by omega
      have h0 : (S.cod.enc l[k - o])[0]? = some (S.val l[k - o]) := by
        show ((S.val l[k - o]).cells)[0]? = _
        rw [one_cells (S.one _)]; rfl
      have := flat_get (C := S.cod) l (k - o) 0 l[k - o] _ (List.getElem?_eq_getElem hi) h0
      rw [show (k - o) * S.cod.sz + 0 = k - o from Nat.mul_one _] at this
      rw [this]
      unfold ovF
      rw [if_pos h1, List.getD_eq_getElem?_getD, List.getElem?_eq_getElem hi]; rfl
    · rw [if_neg (by omega)]
      unfold ovF
      rw [if_neg h1]
  · rw [if_neg (by omega), Array.getElem?_eq_none (by rw [Cod.size]; show n ≤ k; omega), Array.getElem?_eq_none (by rw [Cod.size]; show n ≤ k; omega)]
end
/-! ### A part of a struct laid anew -/
section
variable {α β : Type} {A : Cod α} {B : Cod β} {x x' : α} {y y' : β} {off : Nat} {vs : List Value}
theorem put_fst (h : putL (A.enc x) off vs = A.enc x') (hf : off + vs.length ≤ A.sz) : putL ((cPair A B).enc (x, y)) off vs = (cPair A B).enc (x', y) := by
  apply Array.ext_getElem?
  intro k
  rw [enc_pair, enc_pair, putL_get, Array.size_append, A.size, B.size]
  have h1 := congrArg (·[k]?) h
  simp only [putL_get, A.size] at h1
  by_cases hk : k < A.sz
  · rw [Array.getElem?_append_left (by rw [A.size]; exact hk), Array.getElem?_append_left (by rw [A.size]; exact hk), ← h1]
    by_cases h2 : off ≤ k ∧ k < off + vs.length
    · rw [if_pos ⟨h2.1, h2.2, by omega⟩, if_pos ⟨h2.1, h2.2, hk⟩]
    · rw [if_neg (by omega), if_neg (by omega)]
  · rw [if_neg (by omega), Array.getElem?_append_right (by rw [A.size]; omega), Array.getElem?_append_right (by rw [A.size]; omega), A.size, A.size]
theorem put_snd {o : Nat} (h : putL (B.enc y) off vs = B.enc y') (ho : o = A.sz + off) : putL ((cPair A B).enc (x, y)) o vs = (cPair A B).enc (x, y') := by
  subst ho
  apply Array.ext_getElem?
  intro k
  rw [enc_pair, enc_pair, putL_get, Array.size_append, A.size, B.size]
  have h1 := congrArg (·[k - A.sz]?) h
  simp only [putL_get, B.size] at h1
  by_cases hk : k < A.sz
  · rw [if_neg (by omega), Array.getElem?_append_left (by rw [A.size]; exact hk), Array.getElem?_append_left (by rw [A.size]; exact hk)]
  · rw [Array.getElem?_append_right (by rw [A.size]; omega), Array.getElem?_append_right (by rw [A.size]; omega), A.size, ← h1]
    by_cases h2 : A.sz + off ≤ k ∧ k < A.sz + off + vs.length ∧ k < A.sz + B.sz
    · rw [if_pos h2, if_pos (by omega)]
      congr 1; omega
    · rw [if_neg h2, if_neg (by omega)]
end
/-! ### Words of 32 bits -/
def sWd : Scal UInt32 := ⟨fun x => .int .u32 (x.toNat : Int), fun _ => rfl⟩
abbrev cWd : Cod UInt32 := sWd.cod
abbrev cWs (n : Nat) : Cod (Nat → UInt32) := sWd.vec n
section
variable {P : Program} {a : Act} {o : Oper} {w : World} {x y : Operand} {t t2 ty : TypeId} {u v z : UInt32}
theorem opAddW (ho : o.op = .binOp .add t x y t2) (hx : a.eval x = .int .u32 (u.toNat : Int)) (hy : a.eval y = .int .u32 (v.toNat : Int)) (hz : pl32 u v = z) : (execOp a.eval o).run P w = .ok (.value (.int .u32 (z.toNat : Int))) w :=
  opAddU rfl ho hx hy (by subst hz; exact (UInt32.toNat_add u v).symm)
theorem opXorW (ho : o.op = .binOp .xor t x y t2) (hx : a.eval x = .int .u32 (u.toNat : Int)) (hy : a.eval y = .int .u32 (v.toNat : Int)) (hz : xo32 u v = z) : (execOp a.eval o).run P w = .ok (.value (.int .u32 (z.toNat : Int))) w :=
  opXorU rfl ho hx hy u.toNat_lt v.toNat_lt (by subst hz; exact (UInt32.toNat_xor u v).symm)
theorem opAndW (ho : o.op = .binOp .and t x y t2) (hx : a.eval x = .int .u32 (u.toNat : Int)) (hy : a.eval y = .int .u32 (v.toNat : Int)) (hz : and32 u v = z) : (execOp a.eval o).run P w = .ok (.value (.int .u32 (z.toNat : Int))) w :=
  opAndU rfl ho hx hy u.toNat_lt v.toNat_lt (by subst hz; exact (UInt32.toNat_and u v).symm)
theorem opOrW (ho : o.op = .binOp .or t x y t2) (hx : a.eval x = .int .u32 (u.toNat : Int)) (hy : a.eval y = .int .u32 (v.toNat : Int)) (hz : or32 u v = z) : (execOp a.eval o).run P w = .ok (.value (.int .u32 (z.toNat : Int))) w :=
  opOrU rfl ho hx hy u.toNat_lt v.toNat_lt (by subst hz; exact (UInt32.toNat_or u v).symm)
theorem opShlW {yk : IntKind} {n : Nat} (ho : o.op = .binOp .shl t x y t2) (hx : a.eval x = .int .u32 (u.toNat : Int)) (hy : a.eval y = .int yk (n : Int)) (hn : n ≤ 32) (hz : sl32 u n = z) : (execOp a.eval o).run P w = .ok (.value (.int .u32 (z.toNat : Int))) w :=
  opShlU rfl ho hx hy hn (by subst hz; exact (sl32_toNat u n).symm)
theorem opShrW {yk : IntKind} {n : Nat} (ho : o.op = .binOp .shr t x y t2) (hx : a.eval x = .int .u32 (u.toNat : Int)) (hy : a.eval y = .int yk (n : Int)) (hn : n ≤ 32) (hz : sr32 u n = z) : (execOp a.eval o).run P w = .ok (.value (.int .u32 (z.toNat : Int))) w :=
  opShrU ho hx hy hn (by subst hz; exact (sr32_toNat u n).symm)
theorem compl_nat (u : UInt32) : IntKind.u32.max.toNat ^^^ u.toNat = (not32 u).toNat := by
  show 4294967295 ^^^ u.toNat = (~~~u).toNat
  rw [UInt32.toNat_not]
  have h : u.toNat < 2 ^ 32 := u.toNat_lt
  have e : (4294967295 : Nat) = 2 ^ 32 - 1 := rfl
  apply Nat.eq_of_testBit_eq
  intro i
  rw [show UInt32.size - 1 - u.toNat = 2 ^ 32 - (u.toNat + 1) by show 4294967296 - 1 - u.toNat = 4294967296 - (u.toNat + 1); omega]
  rw [Nat.testBit_xor, e, Nat.testBit_two_pow_sub_one, Nat.testBit_two_pow_sub_succ h]
  by_cases hi : i < 32
  · simp [hi]
  · have := Nat.testBit_lt_two_pow (Nat.lt_of_lt_of_le h (Nat.pow_le_pow_right (by decide) (show 32 ≤ i by omega)))
    simp [hi, this]
theorem opNotW (ho : o.op = .unOp .xor t x) (hx : a.eval x = .int .u32 (u.toNat : Int)) (hz : not32 u = z) : (execOp a.eval o).run P w = .ok (.value (.int .u32 (z.toNat : Int))) w := by
  subst hz
  have e : IntKind.u32.wrap ((BitVec.ofInt 32 (4294967295 : Int) ^^^ BitVec.ofInt 32 (u.toNat : Int)).toNat : Int) = ((not32 u).toNat : Int) := by
    rw [BitVec.toNat_xor, show (4294967295 : Int) = ((4294967295 : Nat) : Int) from rfl, ofInt_nat _ _ (by decide), ofInt_nat _ _ u.toNat_lt, wrapU rfl]
    congr 1
    have := compl_nat u
    rw [show 4294967295 ^^^ u.toNat = (not32 u).toNat from this]
    exact Nat.mod_eq_of_lt (not32 u).toNat_lt
  unfold execOp
  simp only [ho, hx, Sem.run_bind, Sem.run_pure]
  show ((Op.unary .xor (.int .u32 (u.toNat : Int))).run P w).andThen _ = _
  have h : (Op.unary .xor (.int .u32 (u.toNat : Int))).run P w = .ok (.int .u32 ((not32 u).toNat : Int)) w := by
    show ((pure (.int .u32 (IntKind.u32.wrap ((BitVec.ofInt 32 (4294967295 : Int) ^^^ BitVec.ofInt 32 (u.toNat : Int)).toNat : Int))) : Sem Value)).run P w = _
    rw [e]; rfl
  rw [h]; rfl
theorem opNegI {k : IntKind} {m z : Int} (ho : o.op = .unOp .neg t x) (hx : a.eval x = .int k m) (hz : k.wrap (0 - m) = z) : (execOp a.eval o).run P w = .ok (.value (.int k z)) w := by
  subst hz
  unfold execOp
  simp only [ho, hx, Sem.run_bind, Sem.run_pure]
  have h : (Op.unary .neg (.int k m)).run P w = .ok (.int k (k.wrap (0 - m))) w := rfl
  rw [h]; rfl
/-- An unsigned number that is a word. -/
theorem opConvW {src dst : TypeId} {k : IntKind} {m : Nat} (ho : o.op = .convert src dst x) (hsrc : (P.underlying src).isSome = true) (hd : P.underlying dst = some (.int .u32)) (hx : a.eval x = .int k (m : Int)) (hz : UInt32.ofNat m = z) : (execOp a.eval o).run P w = .ok (.value (.int .u32 (z.toNat : Int))) w :=
  opConvU rfl ho hsrc hd hx (by subst hz; exact UInt32.toNat_ofNat'.symm)
end
/-! ### An element of an array that is a value; a part of an array as a slice -/
section
variable {P : Program} {a : Act} {o : Oper} {w : World} {x y : Operand} {t ty e : TypeId} {n i : Nat}
theorem opIdxA {α : Type} {S : Scal α} {f : Nat → α} {k : IntKind} {j : Int} (ho : o.op = .index ty x y) (hu : P.underlying ty = some (.array n e)) (hs : tyOk P e S.cod = true) (hx : a.eval x = (S.vec n).val f) (hy : a.eval y = .int k j) (hj : j = (i : Int)) (hi : i < n) :
    (execOp a.eval o).run P w = .ok (.value (S.val (f i))) w := by
  subst hj
  obtain ⟨h1, h2⟩ := tyOk.spec hs
  have he := elem_ofA hu
  have hn := len_ofA hu
  obtain ⟨d, hd, hdr⟩ := Option.map_eq_some_iff.1 h1
  obtain ⟨q, hq, hqs⟩ := Option.map_eq_some_iff.1 h2
  have hr : (S.row n f)[i]? = some (S.val (f i)) := srow_get S f hi
  have hdr' : d.isRow = false := hdr
  have hqs' : q.size = 1 := hqs
  have hp : (part e (S.row n f) (i * 1)).run P w = .ok (S.val (f i)) w := by
    rw [Nat.mul_one]
    simp [part, isAgg, run_underlying hd, hr]
    cases d <;> first | rfl | cases hdr'
  have hv : (S.vec n).val f = .agg (S.row n f) := rfl
  rw [hv] at hx
  unfold execOp
  simp only [ho, hx, hy, Sem.run_bind, Sem.run_pure]
  have hr2 : (Instr.index ty (.agg (S.row n f)) (.int k (i : Int))).run P w = .ok (S.val (f i)) w := by
    simp [Instr.index, asIntOf, run_underlying hu, sizeOf, typeInfo, hq, hqs', hi]
    simpa using hp
  rw [hr2]; rfl
theorem opSliceAL {b off m l sz : Nat} {kl : IntKind} {jl : Int} {xl : Operand} (ho : o.op = .slice ty x (some xl) none none) (hu : P.underlying ty = some (.array m e)) (hs : (P.info? e).map (·.size) = some sz) (hx : a.eval x = .pointer (some ⟨b, off, none⟩)) (hl : a.eval xl = .int kl jl) (hjl : jl = (l : Int)) (h1 : l < m) :
    (execOp a.eval o).run P w = .ok (.value (.slice (some ⟨b, off + l * sz, none⟩) (m - l) (m - l))) w := by
  subst hjl
  have he := elem_ofA hu
  have hn := len_ofA hu
  have hu' : P.underlying ty = some (.array (P.arrayLen ty) (P.elem ty)) := by rw [he, hn]; exact hu
  have hadd : (⟨b, off, none⟩ : Addr).add (l * sz) = ⟨b, off + l * sz, none⟩ := Addr.add_mid ..
  unfold execOp
  simp only [ho, Option.map_some, Option.map_none, hx, hl, Sem.run_bind, Sem.run_pure, run_sliceAt_array_l w ty ⟨b, off, none⟩ hu' kl (l : Int) (by omega) (by rw [hn]; omega), he, hn, run_sizeOf hs, Result.andThen_ok, slicedAt, Int.toNat_natCast, hadd]
  rw [if_neg (by omega)]
end
theorem wrap_neg64 {n : Nat} (h0 : 0 < n) (h : n ≤ 9223372036854775808) : IntKind.u64.wrap (-(n : Int)) = ((18446744073709551616 - n : Nat) : Int) := by
  have e : -(n : Int) = ((18446744073709551616 - n : Nat) : Int) - 18446744073709551616 := by omega
  have h2 := wrapU (k := .u64) rfl (18446744073709551616 - n)
  rw [Nat.mod_eq_of_lt (by show 18446744073709551616 - n < 18446744073709551616; omega)] at h2
  rw [← h2, e]
  unfold IntKind.wrap
  show (((18446744073709551616 - n : Nat) : Int) - 18446744073709551616) % 18446744073709551616 = (((18446744073709551616 - n : Nat)) : Int) % 18446744073709551616
  rw [Int.sub_emod_right]
theorem rr32_or (x : UInt32) (n : Nat) : or32 (sl32 x (32 - n)) (sr32 x n) = rr32 x n := by
  unfold rr32 or32
  exact UInt32.or_comm _ _
/-! ### Arrays of bytes -/
def sBy : Scal UInt8 := ⟨by8, fun _ => rfl⟩
theorem arr_ov {n : Nat} (f : Nat → UInt8) (o : Nat) (l : List UInt8) : putL ((cArr n).enc f) o (flat cByte l) = (cArr n).enc (ovF f o l) := vec_ov (S := sBy) (n := n) f o l
theorem arr_set0 {n i : Nat} (f : Nat → UInt8) (b : UInt8) (hi : i < n) : putL ((cArr n).enc f) (0 + i * 1) (cByte.enc b).toList = (cArr n).enc (stF f i b) := by
  rw [Nat.zero_add]; exact vec_set (S := sBy) (n := n) f b hi
theorem vec_set0 {α : Type} {S : Scal α} {n i : Nat} (f : Nat → α) (x : α) (hi : i < n) : putL ((S.vec n).enc f) (0 + i * 1) (S.cod.enc x).toList = (S.vec n).enc (stF f i x) := by
  rw [Nat.zero_add]; exact vec_set f x hi
theorem arr_congr {n : Nat} {f g : Nat → UInt8} (h : ∀ i, i < n → f i = g i) : (cArr n).enc f = (cArr n).enc g := row_congr h
theorem room_1 {α β : Type} {S : Scal α} {n i : Nat} {C : Cod β} {x : β} (hn : C.sz = n) (hi : i < n) : 0 + i * 1 + S.cod.sz ≤ (C.enc x).size := by
  rw [C.size, hn]; show 0 + i * 1 + 1 ≤ n; omega
theorem lst_set {n i : Nat} (f : Nat → UInt8) (x : UInt8) : (lst n f).set i x = lst n (stF f i x) := by
  apply List.ext_getElem?
  intro k
  rw [List.getElem?_set]
  by_cases hk : k < n
  · rw [lst_get hk, lst_get hk, lst_len]
    unfold stF
    by_cases h : i = k
    · subst h; rw [if_pos rfl, if_pos hk, if_pos rfl]
    · rw [if_neg h, if_neg (fun e => h e.symm)]
  · rw [List.getElem?_eq_none (by rw [lst_len]; omega), List.getElem?_eq_none (by rw [lst_len]; omega), lst_len]
    split
    · rename_i h; subst h; rw [if_neg hk]
    · rfl
theorem lst_congr {n : Nat} {f g : Nat → UInt8} (h : ∀ i, i < n → f i = g i) : lst n f = lst n g := List.map_congr_left fun i hi => h i (List.mem_range.1 hi)
/-- A part of a slice lies in the same block. -/
theorem Off.cut {α : Type} {C : Cod α} {w : World} {A : Option Addr} {n c k : Nat} {l : List α} {R : List Nat} (h : Off A n R) (hV : Vu C w A n c l) (m : Nat) (hm : 0 < m → 0 < n) : Off (cutA A c k C.sz) m R := fun b off hA hp => by
  obtain ⟨pb, po, rfl, _⟩ := hV.at' (hm hp)
  have key : pb ∉ R := h pb po rfl (hm hp)
  unfold cutA at hA
  split at hA
  · injection hA with e; injection e with e1; subst e1; exact key
  · rw [Option.map_some, Addr.add_mid] at hA
    injection hA with e; injection e with e1; subst e1; exact key
end Go.Proofs.YticflflbogdljaaDoor
