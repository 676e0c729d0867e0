/- Whether two arrays of bytes are one. -/
import Derived.Test.YtchojbhmfjibmaaTy
import Derived.ChangeKeysEq
namespace Go.Proofs.Ytchojbhmfjibmaa
open Go Go.RowKit Go.ChangeShapes Go.WideShapes Go.ChangeAt
set_option maxRecDepth 100000

/-- Whether two arrays of n bytes are one. -/
def sameB (n : Nat) (f g : Nat → UInt8) : Bool := (List.range n).all fun i => f i == g i
theorem sameB_true {n : Nat} {f g : Nat → UInt8} : sameB n f g = true ↔ ∀ i, i < n → f i = g i := by
  unfold sameB
  simp [List.all_eq_true]
theorem sameB_self (n : Nat) (f : Nat → UInt8) : sameB n f f = true := sameB_true.2 fun _ _ => rfl
theorem run_eqItems_rowB {w : World} (d n : Nat) (f g : Nat → UInt8) : ∀ l : List Nat, (∀ i ∈ l, i < n) → (Op.eqItems (d + 1) 5 1 (row n f) (row n g) l).run Try.prog w = .ok (l.all fun i => f i == g i) w
  | [], _ => by simp [Op.eqItems]
  | i :: l, h => by
    have hi := h i (by simp)
    have h1 := row_get n f i hi
    have h2 := row_get n g i hi
    have ih := run_eqItems_rowB (w := w) d n f g l (fun j hj => h j (by simp [hj]))
    have p1 : (part 5 (row n f) (i * 1)).run Try.prog w = .ok (by8 (f i)) w := by simp [part, isAgg, run_underlying und8, h1]
    have p2 : (part 5 (row n g) (i * 1)).run Try.prog w = .ok (by8 (g i)) w := by simp [part, isAgg, run_underlying und8, h2]
    have p3 : (Op.equalIn (d + 1) 5 (by8 (f i)) (by8 (g i))).run Try.prog w = .ok (f i == g i) w := by
      have e : ((f i).toNat == (g i).toNat) = (f i == g i) := by
        rw [Bool.eq_iff_iff]
        simp [← UInt8.toNat_inj]
      have e2 : (((f i).toNat : Int) == ((g i).toNat : Int)) = (f i == g i) := by
        rw [← e, Bool.eq_iff_iff]
        simp
        omega
      simp [Op.equalIn, run_underlying und8, by8, e2]
    simp only [Op.eqItems, Sem.run_bind, p1, p2, p3, Result.andThen_ok, List.all_cons]
    cases f i == g i
    · simp
    · simpa using ih
theorem run_sameIn (ty : TypeId) (n : Nat) (hu : Try.prog.underlying ty = some (.array n 5)) (f g : Nat → UInt8) (w : World) : (Op.equalIn 10000 ty (.agg (row n f)) (.agg (row n g))).run Try.prog w = .ok (sameB n f g) w := by
  have hi : ∃ i, Try.prog.info? 5 = some i := by
    cases hq : Try.prog.info? 5 with
    | none => have := size8; rw [hq] at this; cases this
    | some i => exact ⟨i, rfl⟩
  obtain ⟨i, hi⟩ := hi
  have h := run_equalIn_array (P := Try.prog) (w := w) 9999 (row n f) (row n g) hu hi
  rw [cells8, run_eqItems_rowB 9998 n f g _ (fun j hj => List.mem_range.1 hj)] at h
  exact h
theorem run_sameB (ty : TypeId) (n : Nat) (hu : Try.prog.underlying ty = some (.array n 5)) (f g : Nat → UInt8) (w : World) : (binOp .eql ty (.agg (row n f)) (.agg (row n g))).run Try.prog w = .ok (.bool (sameB n f g)) w := by
  have hi : ∃ i, Try.prog.info? 5 = some i := by
    cases hq : Try.prog.info? 5 with
    | none => have := size8; rw [hq] at this; cases this
    | some i => exact ⟨i, rfl⟩
  obtain ⟨i, hi⟩ := hi
  have h := run_equalIn_array (P := Try.prog) (w := w) 9999 (row n f) (row n g) hu hi
  rw [cells8, run_eqItems_rowB 9998 n f g _ (fun j hj => List.mem_range.1 hj)] at h
  have h' : (Op.equalIn 10000 ty (.agg (row n f)) (.agg (row n g))).run Try.prog w = .ok ((List.range n).all fun i => f i == g i) w := h
  simp only [binOp]
  simp [Op.equal, Op.maxDepth, h', sameB]
theorem run_notB (ty : TypeId) (n : Nat) (hu : Try.prog.underlying ty = some (.array n 5)) (f g : Nat → UInt8) (w : World) : (binOp .neq ty (.agg (row n f)) (.agg (row n g))).run Try.prog w = .ok (.bool (!sameB n f g)) w := by
  have hi : ∃ i, Try.prog.info? 5 = some i := by
    cases hq : Try.prog.info? 5 with
    | none => have := size8; rw [hq] at this; cases this
    | some i => exact ⟨i, rfl⟩
  obtain ⟨i, hi⟩ := hi
  have h := run_equalIn_array (P := Try.prog) (w := w) 9999 (row n f) (row n g) hu hi
  rw [cells8, run_eqItems_rowB 9998 n f g _ (fun j hj => List.mem_range.1 hj)] at h
  have h' : (Op.equalIn 10000 ty (.agg (row n f)) (.agg (row n g))).run Try.prog w = .ok ((List.range n).all fun i => f i == g i) w := h
  simp only [binOp]
  simp [Op.equal, Op.maxDepth, h', sameB]
end Go.Proofs.Ytchojbhmfjibmaa
