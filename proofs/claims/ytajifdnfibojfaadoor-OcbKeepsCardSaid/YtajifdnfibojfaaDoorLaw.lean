/- What the statements share: what comes in, the box as the program's text lays it, the first call. -/
import Derived.Test.YtajifdnfibojfaaDoorRows
import Derived.Test.YtajifdnfibojfaaDoorTopD
import Derived.Test.YtajifdnfibojfaaDoorMath
import Derived.WalkKit
import Derived.ProofKit
import Derived.OpenShut
import Derived.ChangeSlices
import Derived.ChangeKeysEq
import Derived.Carry
import Derived.Deep.DeepHandedRow
import Derived.Lib.LaidTab
namespace Go.Proofs.YtajifdnfibojfaaDoor
open Go Go.RowKit Go.ChangeShapes Go.WideShapes Go.ChangeAt
set_option maxRecDepth 100000

theorem own : ownKnob Tryd.prog.godebug = none := by kernel_rfl
theorem gBox : Tryd.prog.globalNamed "postilion/aes.box" = some 0 := by kernel_rfl
theorem gBoxType : (Tryd.prog.globals[0]?).map (·.type) = some 76 := by kernel_rfl
theorem cells256 : Tryd.prog.cellsOf 76 = 256 := by kernel_rfl
theorem cells16 : Tryd.prog.cellsOf 32 = 16 := by kernel_rfl
theorem cells8 : Tryd.prog.cellsOf 5 = 1 := by kernel_rfl
theorem laidOut : laidOutB Tryd.prog = true := by kernel_rfl
theorem readB : Tryd.prog.readableRec 22 = true := by kernel_rfl
theorem read16 : Tryd.prog.readableRec 32 = true := by kernel_rfl
theorem rowB : 22 < Tryd.prog.types.size := of_decide_eq_true (by kernel_rfl)
theorem row16 : 32 < Tryd.prog.types.size := of_decide_eq_true (by kernel_rfl)
theorem undBool : Tryd.prog.underlying 4 = some .bool := by kernel_rfl

def zsBox : List Int := [99, 124, 119, 123, 242, 107, 111, 197, 48, 1, 103, 43, 254, 215, 171, 118, 202, 130, 201, 125, 250, 89, 71, 240, 173, 212, 162, 175, 156, 164, 114, 192, 183, 253, 147, 38, 54, 63, 247, 204, 52, 165, 229, 241, 113, 216, 49, 21, 4, 199, 35, 195, 24, 150, 5, 154, 7, 18, 128, 226, 235, 39, 178, 117, 9, 131, 44, 26, 27, 110, 90, 160, 82, 59, 214, 179, 41, 227, 47, 132, 83, 209, 0, 237, 32, 252, 177, 91, 106, 203, 190, 57, 74, 76, 88, 207, 208, 239, 170, 251, 67, 77, 51, 133, 69, 249, 2, 127, 80, 60, 159, 168, 81, 163, 64, 143, 146, 157, 56, 245, 188, 182, 218, 33, 16, 255, 243, 210, 205, 12, 19, 236, 95, 151, 68, 23, 196, 167, 126, 61, 100, 93, 25, 115, 96, 129, 79, 220, 34, 42, 144, 136, 70, 238, 184, 20, 222, 94, 11, 219, 224, 50, 58, 10, 73, 6, 36, 92, 194, 211, 172, 98, 145, 149, 228, 121, 231, 200, 55, 109, 141, 213, 78, 169, 108, 86, 244, 234, 101, 122, 174, 8, 186, 120, 37, 46, 28, 166, 180, 198, 232, 221, 116, 31, 75, 189, 139, 138, 112, 62, 181, 102, 72, 3, 246, 14, 97, 53, 87, 185, 134, 193, 29, 158, 225, 248, 152, 17, 105, 217, 142, 148, 155, 30, 135, 233, 206, 85, 40, 223, 140, 161, 137, 13, 191, 230, 66, 104, 65, 153, 45, 15, 176, 84, 187, 22]
theorem zs_row : (zsBox.map fun z => Value.int .u8 z).toArray = row 256 boxF := by kernel_rfl
theorem box_start : (((begin Tryd.prog (fun _ _ => 0) default).world.heap[0]?).bind Obj.row?) = some (row 256 fun _ => 0, 76) := by kernel_rfl
theorem box_lt : 0 < Tryd.prog.globals.size := of_decide_eq_true (by kernel_rfl)

set_option maxRecDepth 100000 in
/-- The box's block, as the program's text lays it. -/
theorem box_row {W : World} (h : laidMetH Tryd.prog [("postilion/aes.box", Rows.laid_postilion_aes_box)] W) (hsh : W.ShapedOpen Tryd.prog) : Row W 0 76 256 boxF := by
  have ht : Lib.TabIs Tryd.prog W "postilion/aes.box" .u8 zsBox := Lib.tabIs_of_head (rest := []) gBox gBoxType und256 und8 cells8 cells256 h
  obtain ⟨cs, hc, _, _⟩ := hsh.1 0 _ _ box_lt box_start
  unfold Lib.TabIs World.var? at ht
  simp only [gBox, Option.bind_some, hc] at ht
  unfold Row
  rw [hc, ← zs_row, Option.some.inj ht]

section
variable {H : Type} {enc : TypeId × Value → H} {W : World}
/-- An array of sixteen bytes that came in. -/
theorem open16 {base : Nat} {v : Value} {d : DataW H} {p : List MemPlace} (hval : Value.okWide Tryd.prog W .any base 32 v) (h : DataW.Trod enc Tryd.prog W 0 (fun _ => true) true 32 v d p) :
    ∃ f, v = .agg (row 16 f) := by
  unfold Value.okWide at hval
  rw [und16] at hval
  obtain ⟨cs, rfl, hsz, _⟩ := hval
  obtain ⟨fuel, hf⟩ := h
  obtain ⟨xs, m, _, _, hl, hx, hel⟩ := DataW.trod_array und16 hf
  rw [cells16] at hsz
  have each : ∀ i, i < 16 → ∃ b : UInt8, cs[i]? = some (.int .u8 (b.toNat : Int)) := fun i hi => by
    have h1 := hel i hi
    rw [cells8, List.getElem?_eq_getElem (by omega)] at h1
    obtain ⟨n, hn, _, hw⟩ := DataW.trod_int und8 h1
    have hr := bounds_u8 hw
    refine ⟨UInt8.ofNat n.toNat, ?_⟩
    have h2 : (Value.cells (.agg cs)).toList = cs.toList := rfl
    rw [h2] at hn
    have h3 := congrArg (fun l => l[0]?) hn
    simp at h3
    rw [h3]
    congr 2
    rw [UInt8.toNat_ofNat']
    omega
  obtain ⟨f, hf⟩ : ∃ f : Nat → UInt8, ∀ i, i < 16 → cs[i]? = some (.int .u8 ((f i).toNat : Int)) :=
    ⟨fun i => if h : i < 16 then (each i h).choose else 0, fun i hi => by simpa [hi] using (each i hi).choose_spec⟩
  refine ⟨f, ?_⟩
  congr 1
  apply Array.ext_getElem?
  intro i
  by_cases hi : i < 16
  · rw [row_get _ _ i hi, hf i hi]
    rfl
  · rw [Array.getElem?_eq_none (by omega), Array.getElem?_eq_none (by rw [row_size]; omega)]
/-- A slice of bytes that came in. -/
theorem openB {base : Nat} {v : Value} {d : DataW H} {p : List MemPlace} (hval : Value.okWide Tryd.prog W .any base 22 v) (h : DataW.Trod enc Tryd.prog W 0 (fun _ => true) true 22 v d p) :
    ∃ (A : Option Addr) (n c : Nat) (f : Nat → UInt8), v = .slice A n c ∧ n ≤ c ∧ c ≤ maxLen ∧ (0 < n → ∃ b off, A = some ⟨b, off, none⟩ ∧ ∀ j, j < n → W.cell? ⟨b, off + j, none⟩ = some (.int .u8 ((f j).toNat : Int))) := by
  obtain ⟨a1, len, cap, rfl⟩ := okWide_slice undB hval
  obtain ⟨fuel, hf⟩ := h
  rcases open_ints undB und8 cells8 hf with ⟨hcs, _⟩ | ⟨a, len', cap', zs, hcs, _, hl, hm, hz, hx, hcell, hwz⟩
  · simp [Value.cells] at hcs
    obtain ⟨rfl, rfl, rfl⟩ := hcs
    exact ⟨none, 0, 0, fun _ => 0, rfl, Nat.le_refl _, Nat.zero_le _, fun h => absurd h (by omega)⟩
  · simp [Value.cells] at hcs
    obtain ⟨rfl, rfl, rfl⟩ := hcs
    simp only [if_true] at hz
    refine ⟨some a, len, cap, fun j => UInt8.ofNat (zs.getD j 0).toNat, rfl, hl, hm, fun hn => ?_⟩
    obtain ⟨ab, ao, spot⟩ := a
    have hspot : spot = none := by simpa [Addr.add] using World.cell?_spot (hcell 0 (by omega))
    subst hspot
    refine ⟨ab, ao, rfl, fun j hj => ?_⟩
    have hcj := hcell j (by omega)
    rw [Addr.add_lit] at hcj
    rw [hcj]
    have hb := range_u8 hwz j
    show some (Value.int .u8 (zs.getD j 0)) = some (Value.int .u8 ((UInt8.ofNat (zs.getD j 0).toNat).toNat : Int))
    simp only [List.getD_eq_getElem?_getD] at hb ⊢
    rw [UInt8.toNat_ofNat']
    congr 2
    omega
end

/-- Whether two arrays of n bytes are one. -/
def eqb (n : Nat) (f g : Nat → UInt8) : Bool := (List.range n).all fun i => f i == g i
theorem eqb_true {n : Nat} {f g : Nat → UInt8} : eqb n f g = true ↔ ∀ i, i < n → f i = g i := by
  unfold eqb
  simp [List.all_eq_true]
theorem run_eqItems_row {w : World} (d n : Nat) (f g : Nat → UInt8) : ∀ l : List Nat, (∀ i ∈ l, i < n) → (Op.eqItems (d + 1) 5 1 (row n f) (row n g) l).run Tryd.prog w = .ok (l.all fun i => f i == g i) w
  | [], _ => by simp [Op.eqItems]
  | i :: l, h => by
    have hi := h i (by simp)
    have h1 := row_get n f i hi
    have h2 := row_get n g i hi
    have ih := run_eqItems_row (w := w) d n f g l (fun j hj => h j (by simp [hj]))
    have p1 : (part 5 (row n f) (i * 1)).run Tryd.prog w = .ok (by8 (f i)) w := by simp [part, isAgg, run_underlying und8, h1]
    have p2 : (part 5 (row n g) (i * 1)).run Tryd.prog w = .ok (by8 (g i)) w := by simp [part, isAgg, run_underlying und8, h2]
    have p3 : (Op.equalIn (d + 1) 5 (by8 (f i)) (by8 (g i))).run Tryd.prog w = .ok (f i == g i) w := by
      have e : ((f i).toNat == (g i).toNat) = (f i == g i) := by
        rw [Bool.eq_iff_iff]
        simp [← UInt8.toNat_inj]
      have e2 : (((f i).toNat : Int) == ((g i).toNat : Int)) = (f i == g i) := by
        rw [← e, Bool.eq_iff_iff]
        simp
        omega
      simp [Op.equalIn, run_underlying und8, by8, e2]
    simp only [Op.eqItems, Sem.run_bind, p1, p2, p3, Result.andThen_ok, List.all_cons]
    cases f i == g i
    · simp
    · simpa using ih
theorem run_eql16 (f g : Nat → UInt8) (w : World) : (binOp .eql 32 (.agg (row 16 f)) (.agg (row 16 g))).run Tryd.prog w = .ok (.bool (eqb 16 f g)) w := by
  have hi : ∃ i, Tryd.prog.info? 5 = some i := by
    cases hq : Tryd.prog.info? 5 with
    | none => have := size8; rw [hq] at this; cases this
    | some i => exact ⟨i, rfl⟩
  obtain ⟨i, hi⟩ := hi
  have h := run_equalIn_array (P := Tryd.prog) (w := w) 9999 (row 16 f) (row 16 g) und16 hi
  rw [cells8, run_eqItems_row 9998 16 f g _ (fun j hj => List.mem_range.1 hj)] at h
  have h' : (Op.equalIn 10000 32 (.agg (row 16 f)) (.agg (row 16 g))).run Tryd.prog w = .ok ((List.range 16).all fun i => f i == g i) w := h
  simp only [binOp]
  simp [Op.equal, Op.maxDepth, h', eqb]

end Go.Proofs.YtajifdnfibojfaaDoor
