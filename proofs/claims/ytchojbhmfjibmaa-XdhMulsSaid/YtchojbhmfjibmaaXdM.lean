/- xdh's numberOf, pointOf, Mul, Public, Shared (mkxdm.py writes this text). -/
import Derived.Test.YtchojbhmfjibmaaXdL
import Derived.Test.YtchojbhmfjibmaaEql
namespace Go.Proofs.Ytchojbhmfjibmaa
open Go Go.RowKit
set_option maxRecDepth 100000

/-- A secret's number, a point, as bytes. -/
def numB (s : Nat → UInt8) : Nat → UInt8 := fun j => if j = 31 then (s 31 &&& 127) ||| 64 else if j = 0 then s 0 &&& 248 else s j
def ptB (u : Nat → UInt8) : Nat → UInt8 := fun j => if j = 31 then u 31 &&& 127 else u j
def kS (s : Nat → UInt8) : Nat := lv (numB s) 32
def uS (u : Nat → UInt8) : Fin pF := nF (ptB u)
theorem andn7 (x : UInt8) : bits .andNot .u8 (x.toNat : Int) 7 = ((x &&& 248).toNat : Int) := u8_each (Q := fun x => bits .andNot .u8 (x.toNat : Int) 7 = ((x &&& 248).toNat : Int)) (by decide +kernel) x
theorem andn128 (x : UInt8) : bits .andNot .u8 (x.toNat : Int) 128 = ((x &&& 127).toNat : Int) := u8_each (Q := fun x => bits .andNot .u8 (x.toNat : Int) 128 = ((x &&& 127).toNat : Int)) (by decide +kernel) x
theorem or64 (x : UInt8) : bits .or .u8 (x.toNat : Int) 64 = ((x ||| 64).toNat : Int) := u8_each (Q := fun x => bits .or .u8 (x.toNat : Int) 64 = ((x ||| 64).toNat : Int)) (by decide +kernel) x
theorem and248_even (x : UInt8) : (x &&& 248).toNat % 2 = 0 := u8_each (Q := fun x => (x &&& 248).toNat % 2 = 0) (by decide +kernel) x
theorem lv_parity (b : Nat → UInt8) : ∀ m, lv b (m + 1) % 2 = (b 0).toNat % 2
  | 0 => by show (lv b 0 + (b 0).toNat * 256 ^ 0) % 2 = _; simp [lv]
  | m + 1 => by
    show (lv b (m + 1) + (b (m + 1)).toNat * 256 ^ (m + 1)) % 2 = _
    have h : (b (m + 1)).toNat * 256 ^ (m + 1) = 2 * ((b (m + 1)).toNat * 256 ^ m * 128) := by rw [Nat.pow_succ]; generalize 256 ^ m = x; generalize (b (m + 1)).toNat = y; rw [← Nat.mul_assoc, Nat.mul_comm 2, Nat.mul_assoc _ 128 2]
    rw [h, Nat.add_mul_mod_self_left, lv_parity b m]
theorem kS_even (s : Nat → UInt8) : kS s % 2 = 0 := by
  unfold kS
  rw [lv_parity]
  exact and248_even (s 0)

set_option maxHeartbeats 4000000 in
theorem numberOf_c (s : Nat → UInt8) (w : World) : Calls Try.prog 19 #[vB s] w fun e w' => e = .returned (vB (numB s)) ∧ Below w.heap.size w w' := by
  go_enter Try.func19, Try.ntmps19
  have hH := Hold.init w
  go_upto_region 1 with (first | (refine wpList_box_H hH rfl (some 1) rfl 22 _ rfl _ rfl ?_; clear hH; intro g1 w2 hH; simp only [List.nil_append] at hH) | (refine wpList_alloc_H hH rfl (some 2) rfl 22 rfl _ z32B ?_; clear hH; intro g3 w4 hH; simp only [List.nil_append, List.cons_append] at hH))
  have c := (hH.cell 0 rfl 0).trans (row_get 32 s 0 (by omega))
  unfold by8 at c
  have q0 := andn7 (s 0)
  go_upto_region 2 with (refine wpList_cell_H 0 hH rfl rfl 5 _ _ rfl (by8 (s 0 &&& 248)) rfl rfl size8 (by rw [row_size]; omega) rfl ?_; clear hH c; intro w20 hH)
  clear q0
  simp only [List.set_cons_zero, row_set] at hH
  obtain ⟨n31, m31, hm31, hq0, hq1⟩ : ∃ n31 : UInt8, ∃ m31 : UInt8, Hid (m31 = (s 31 &&& 127) ||| 64) ∧ bits .andNot .u8 ((s 31).toNat : Int) 128 = (n31.toNat : Int) ∧ bits .or .u8 (n31.toNat : Int) 64 = (m31.toNat : Int) := ⟨_, _, rfl, andn128 (s 31), or64 (s 31 &&& 127)⟩
  have c := (hH.cell 0 rfl 31).trans (row_get 32 _ 31 (by omega))
  unfold by8 at c
  have q0 := hq0
  have q1 := hq1
  go_upto_region 3 with (refine wpList_cell_H 0 hH rfl rfl 5 _ _ rfl (by8 (m31)) rfl rfl size8 (by rw [row_size]; omega) rfl ?_; clear hH c; intro w30 hH)
  clear q0 q1
  simp only [List.set_cons_zero, row_set] at hH
  clear hq0 hq1
  have hm31 := hm31.out; subst hm31
  go_wp2_with (first | (refine wpList_load_H 0 hH rfl rfl 22 _ rfl rfl isRowB (sizeRow _) ?_) | (refine wpList_store_H 1 hH rfl rfl 22 _ _ rfl rfl rfl (sizeRow _) (sizeEq _ _) (row_one _ _) ?_; clear hH; intro w9 hH; simp only [List.set_cons_zero, List.set_cons_succ] at hH))
  exact ret_H 1 hH rfl rfl rfl rfl isRowB (sizeRow _) ⟨rfl, hH.toBelow⟩

set_option maxHeartbeats 4000000 in
theorem pointOf_c (u : Nat → UInt8) (w : World) : Calls Try.prog 20 #[vB u] w fun e w' => e = .returned (vB (ptB u)) ∧ Below w.heap.size w w' := by
  go_enter Try.func20, Try.ntmps20
  have hH := Hold.init w
  go_upto_region 1 with (first | (refine wpList_box_H hH rfl (some 1) rfl 22 _ rfl _ rfl ?_; clear hH; intro g1 w2 hH; simp only [List.nil_append] at hH) | (refine wpList_alloc_H hH rfl (some 2) rfl 22 rfl _ z32B ?_; clear hH; intro g3 w4 hH; simp only [List.nil_append, List.cons_append] at hH))
  have c := (hH.cell 0 rfl 31).trans (row_get 32 u 31 (by omega))
  unfold by8 at c
  have q0 := andn128 (u 31)
  go_upto_region 2 with (refine wpList_cell_H 0 hH rfl rfl 5 _ _ rfl (by8 (u 31 &&& 127)) rfl rfl size8 (by rw [row_size]; omega) rfl ?_; clear hH c; intro w20 hH)
  clear q0
  simp only [List.set_cons_zero, row_set] at hH
  go_wp2_with (first | (refine wpList_load_H 0 hH rfl rfl 22 _ rfl rfl isRowB (sizeRow _) ?_) | (refine wpList_store_H 1 hH rfl rfl 22 _ _ rfl rfl rfl (sizeRow _) (sizeEq _ _) (row_one _ _) ?_; clear hH; intro w9 hH; simp only [List.set_cons_zero, List.set_cons_succ] at hH))
  exact ret_H 1 hH rfl rfl rfl rfl isRowB (sizeRow _) ⟨rfl, hH.toBelow⟩

set_option maxHeartbeats 4000000 in
theorem xMul_c (s u : Nat → UInt8) (w : World) : Calls Try.prog 11 #[vB s, vB u] w fun e w' => e = .returned (vB (bF (xmul (kS s) (uS u)))) ∧ Below w.heap.size w w' := by
  obtain ⟨z1, ez1, cz1⟩ : ∃ z, Hid (z = numB s) ∧ ∀ W, Calls Try.prog 19 #[(.agg (row 32 s))] W fun e w' => e = .returned (.agg (row 32 z)) ∧ Below W.heap.size W w' := ⟨_, rfl, fun W => numberOf_c s W⟩
  obtain ⟨z2, ez2, cz2⟩ : ∃ z, Hid (z = ptB u) ∧ ∀ W, Calls Try.prog 20 #[(.agg (row 32 u))] W fun e w' => e = .returned (.agg (row 32 z)) ∧ Below W.heap.size W w' := ⟨_, rfl, fun W => pointOf_c u W⟩
  obtain ⟨z3, ez3, cz3⟩ : ∃ z, Hid (z = bF (xmul (lv z1 32) (nF z2))) ∧ ∀ W, Calls Try.prog 18 #[(.agg (row 32 z1)), (.agg (row 32 z2))] W fun e w' => e = .returned (.agg (row 32 z)) ∧ Below W.heap.size W w' := ⟨_, rfl, fun W => product_c z1 z2 (by rw [ez1.out]; exact kS_even s) W⟩
  go_enter Try.func11, Try.ntmps11
  have hH := Hold.init w
  go_upto_region 1 with (first | (refine wpList_box_H hH rfl (some 2) rfl 22 _ rfl _ rfl ?_; clear hH; intro g4 w5 hH; simp only [List.nil_append] at hH) | (refine wpList_box_H hH rfl (some 3) rfl 22 _ rfl _ rfl ?_; clear hH; intro g6 w7 hH; simp only [List.nil_append, List.cons_append] at hH) | (refine wpList_alloc_H hH rfl (some 4) rfl 22 rfl _ z32B ?_; clear hH; intro g8 w9 hH; simp only [List.nil_append, List.cons_append] at hH))
  refine region_rest mixedOrders ?_
  have hH := hH.drew
  refine Rest.phaseL (PH w [] (fun _ => _) []) [] 5 (by kernel_rfl) (PH.start _ hH) ?_
  clear hH
  refine SeqH.next (.agg (row 32 s)) rfl rfl (fun π D _ => SureH.load 0 rfl rfl 22 _ rfl rfl isRowB (sizeRow _)) ?_
  simp only [Act.put, List.setIfInBounds_toArray, List.set_cons_zero, List.set_cons_succ]
  refine SeqH.next (.agg (row 32 z1)) rfl rfl (fun π D _ => SureH.call cz1 rfl (fun w => by go_simp)) ?_
  simp only [Act.put, List.setIfInBounds_toArray, List.set_cons_zero, List.set_cons_succ]
  refine SeqH.next (.agg (row 32 u)) rfl rfl (fun π D _ => SureH.load 1 rfl rfl 22 _ rfl rfl isRowB (sizeRow _)) ?_
  simp only [Act.put, List.setIfInBounds_toArray, List.set_cons_zero, List.set_cons_succ]
  refine SeqH.next (.agg (row 32 z2)) rfl rfl (fun π D _ => SureH.call cz2 rfl (fun w => by go_simp)) ?_
  simp only [Act.put, List.setIfInBounds_toArray, List.set_cons_zero, List.set_cons_succ]
  refine SeqH.next (.agg (row 32 z3)) rfl rfl (fun π D _ => SureH.call cz3 rfl (fun w => by go_simp)) ?_
  simp only [Act.put, List.setIfInBounds_toArray, List.set_cons_zero, List.set_cons_succ]
  refine SeqH.store0 2 (fun _ _ => rfl) rfl  (fun _ => rfl) 22 _ _ rfl (fun _ => rfl) (fun _ => rfl) (sizeRow _) (sizeEq _ _) (row_one _ _) ?_
  intro  π w10  hH
  simp only [List.set_cons_zero, List.set_cons_succ] at hH
  simp only [Act.put]
  refine Rest.done (by decide) ?_
  go_wp2
  exact ret_H 2 hH rfl rfl rfl rfl isRowB (sizeRow _) ⟨by rw [ez3.out, ez1.out, ez2.out]; rfl, hH.toBelow⟩

def nineB : Nat → UInt8 := fun i => if i = 0 then 9 else 0
theorem uS_nine : uS nineB = nineF := by decide +kernel
theorem built_nine : Try.prog.built 22 [(0, .int .u8 9)] = some (row 32 nineB) := by kernel_rfl
theorem nil32 : (#[Value.int IntKind.u8 0, Value.int IntKind.u8 0, Value.int IntKind.u8 0, Value.int IntKind.u8 0, Value.int IntKind.u8 0, Value.int IntKind.u8 0, Value.int IntKind.u8 0, Value.int IntKind.u8 0, Value.int IntKind.u8 0, Value.int IntKind.u8 0, Value.int IntKind.u8 0, Value.int IntKind.u8 0, Value.int IntKind.u8 0, Value.int IntKind.u8 0, Value.int IntKind.u8 0, Value.int IntKind.u8 0, Value.int IntKind.u8 0, Value.int IntKind.u8 0, Value.int IntKind.u8 0, Value.int IntKind.u8 0, Value.int IntKind.u8 0, Value.int IntKind.u8 0, Value.int IntKind.u8 0, Value.int IntKind.u8 0, Value.int IntKind.u8 0, Value.int IntKind.u8 0, Value.int IntKind.u8 0, Value.int IntKind.u8 0, Value.int IntKind.u8 0, Value.int IntKind.u8 0, Value.int IntKind.u8 0, Value.int IntKind.u8 0] : Array Value) = row 32 fun _ => 0 := by rfl
theorem built_nil : Try.prog.built 22 [] = some (row 32 fun _ => 0) := by kernel_rfl
theorem xMulNine_c (s : Nat → UInt8) (w : World) : Calls Try.prog 11 #[vB s, vB nineB] w fun e w' => e = .returned (vB (bF (xmul (kS s) nineF))) ∧ Below w.heap.size w w' := by
  have h := xMul_c s nineB w
  rw [uS_nine] at h
  exact h

set_option maxHeartbeats 4000000 in
theorem xPublic_c (s : Nat → UInt8) (w : World) : Calls Try.prog 13 #[vB s] w fun e w' => e = .returned (vB (bF (xmul (kS s) nineF))) ∧ Below w.heap.size w w' := by
  obtain ⟨z1, ez1, cz1⟩ : ∃ z, Hid (z = bF (xmul (kS s) nineF)) ∧ ∀ W, Calls Try.prog 11 #[(.agg (row 32 s)), (.agg (row 32 nineB))] W fun e w' => e = .returned (.agg (row 32 z)) ∧ Below W.heap.size W w' := ⟨_, rfl, fun W => xMulNine_c s W⟩
  go_enter Try.func13, Try.ntmps13
  have hH := Hold.init w
  go_upto_region 1 with (first | (refine wpList_box_H hH rfl (some 1) rfl 22 _ rfl _ rfl ?_; clear hH; intro g2 w3 hH; simp only [List.nil_append] at hH) | (refine wpList_alloc_H hH rfl (some 2) rfl 22 rfl _ z32B ?_; clear hH; intro g4 w5 hH; simp only [List.nil_append, List.cons_append] at hH))
  go_wp2_with (first | (refine wpList_load_H 0 hH rfl rfl 22 _ rfl rfl isRowB (sizeRow _) ?_) | (refine wpList_build rfl 22 _ rfl (row 32 nineB) [(0, .int .u8 9)] (by simp only [List.map_toArray, List.map_cons, List.map_nil]; rfl) built_nine ?_) | (go_at_call 11; refine (cz1 _).mono ?_; rintro e w5 ⟨rfl, hb⟩; have hH := hH.call hb; clear hb) | (refine wpList_store_H 1 hH rfl rfl 22 _ _ rfl rfl rfl (sizeRow _) (sizeEq _ _) (row_one _ _) ?_; clear hH; intro w6 hH; simp only [List.set_cons_zero, List.set_cons_succ] at hH))
  exact ret_H 1 hH rfl rfl rfl rfl isRowB (sizeRow _) ⟨by rw [ez1.out], hH.toBelow⟩

theorem bF_zero (i : Nat) : bF 0 i = 0 := by
  unfold bF byteN
  have : (0 : Fin pF).val = 0 := rfl
  rw [this, Nat.zero_div]; rfl
theorem bF_same0 (x : Fin pF) : sameB 32 (bF x) (fun _ => 0) = decide (x = 0) := by
  rw [Bool.eq_iff_iff, sameB_true, decide_eq_true_eq]
  constructor
  · intro h
    have h1 : lv (bF x) 32 = lv (fun _ => 0) 32 := lv_congr h
    rw [lv_bF] at h1
    exact Fin.ext (h1.trans (by decide +kernel))
  · rintro rfl i _
    exact bF_zero i

set_option maxHeartbeats 4000000 in
theorem shared_none (s u : Nat → UInt8) (h0 : xmul (kS s) (uS u) = 0) (w : World) : Calls Try.prog 9 #[vB s, vB u] w fun e w' => e = .returned (.tuple #[vB fun _ => 0, .int .i64 2]) ∧ Below w.heap.size w w' := by
  obtain ⟨z1, ez1, cz1⟩ : ∃ z, Hid (z = bF (xmul (kS s) (uS u))) ∧ ∀ W, Calls Try.prog 11 #[(.agg (row 32 s)), (.agg (row 32 u))] W fun e w' => e = .returned (.agg (row 32 z)) ∧ Below W.heap.size W w' := ⟨_, rfl, fun W => xMul_c s u W⟩
  have hE : ∀ w : World, (Op.equalIn 10000 22 (.agg (row 32 z1)) (.agg (row 32 fun _ => 0))).run Try.prog w = .ok true w := fun w => by rw [run_sameIn _ 32 und32B, ez1.out, bF_same0, decide_eq_true h0]
  go_enter Try.func9, Try.ntmps9
  have hH := Hold.init w
  go_upto_region 1 with (first | (refine wpList_box_H hH rfl (some 2) rfl 22 _ rfl _ rfl ?_; clear hH; intro g2 w3 hH; simp only [List.nil_append] at hH) | (refine wpList_box_H hH rfl (some 3) rfl 22 _ rfl _ rfl ?_; clear hH; intro g4 w5 hH; simp only [List.nil_append, List.cons_append] at hH) | (refine wpList_alloc_H hH rfl (some 4) rfl 22 rfl _ z32B ?_; clear hH; intro g6 w7 hH; simp only [List.nil_append, List.cons_append] at hH))
  go_upto_region 2 with (first | (refine wpList_load_H 0 hH rfl rfl 22 _ rfl rfl isRowB (sizeRow _) ?_) | (refine wpList_load_H 1 hH rfl rfl 22 _ rfl rfl isRowB (sizeRow _) ?_) | (go_at_call 11; refine (cz1 _).mono ?_; rintro e w5 ⟨rfl, hb⟩; have hH := hH.call hb; clear hb) | (refine wpList_alloc_H hH rfl (some 6) rfl 22 rfl _ z32B ?_; clear hH; intro gp w6 hH; simp only [List.nil_append, List.cons_append] at hH) | (refine wpList_store_H 3 hH rfl rfl 22 _ _ rfl rfl rfl (sizeRow _) (sizeEq _ _) (row_one _ _) ?_; clear hH; intro w7 hH; simp only [List.set_cons_zero, List.set_cons_succ] at hH))
  have hz := nil32
  go_wp2_with (first | (refine wpList_load_H 3 hH rfl rfl 22 _ rfl rfl isRowB (sizeRow _) ?_) | (refine wpList_build rfl 22 _ rfl (row 32 fun _ => 0) [] rfl built_nil ?_) | (refine wpList_store_H 2 hH rfl rfl 22 _ _ rfl rfl rfl (sizeRow _) (sizeEq _ _) (row_one _ _) ?_; clear hH; intro w8 hH; simp only [List.set_cons_zero, List.set_cons_succ] at hH))
  exact ret_Ht 2 hH rfl _ rfl rfl rfl rfl isRowB (sizeRow _) ⟨rfl, hH.toBelow⟩

set_option maxHeartbeats 4000000 in
theorem shared_some (s u : Nat → UInt8) (h0 : xmul (kS s) (uS u) ≠ 0) (w : World) : Calls Try.prog 9 #[vB s, vB u] w fun e w' => e = .returned (.tuple #[vB (bF (xmul (kS s) (uS u))), .int .i64 0]) ∧ Below w.heap.size w w' := by
  obtain ⟨z1, ez1, cz1⟩ : ∃ z, Hid (z = bF (xmul (kS s) (uS u))) ∧ ∀ W, Calls Try.prog 11 #[(.agg (row 32 s)), (.agg (row 32 u))] W fun e w' => e = .returned (.agg (row 32 z)) ∧ Below W.heap.size W w' := ⟨_, rfl, fun W => xMul_c s u W⟩
  have hE : ∀ w : World, (Op.equalIn 10000 22 (.agg (row 32 z1)) (.agg (row 32 fun _ => 0))).run Try.prog w = .ok false w := fun w => by rw [run_sameIn _ 32 und32B, ez1.out, bF_same0, decide_eq_false h0]
  go_enter Try.func9, Try.ntmps9
  have hH := Hold.init w
  go_upto_region 1 with (first | (refine wpList_box_H hH rfl (some 2) rfl 22 _ rfl _ rfl ?_; clear hH; intro g2 w3 hH; simp only [List.nil_append] at hH) | (refine wpList_box_H hH rfl (some 3) rfl 22 _ rfl _ rfl ?_; clear hH; intro g4 w5 hH; simp only [List.nil_append, List.cons_append] at hH) | (refine wpList_alloc_H hH rfl (some 4) rfl 22 rfl _ z32B ?_; clear hH; intro g6 w7 hH; simp only [List.nil_append, List.cons_append] at hH))
  go_upto_region 2 with (first | (refine wpList_load_H 0 hH rfl rfl 22 _ rfl rfl isRowB (sizeRow _) ?_) | (refine wpList_load_H 1 hH rfl rfl 22 _ rfl rfl isRowB (sizeRow _) ?_) | (go_at_call 11; refine (cz1 _).mono ?_; rintro e w5 ⟨rfl, hb⟩; have hH := hH.call hb; clear hb) | (refine wpList_alloc_H hH rfl (some 6) rfl 22 rfl _ z32B ?_; clear hH; intro gp w6 hH; simp only [List.nil_append, List.cons_append] at hH) | (refine wpList_store_H 3 hH rfl rfl 22 _ _ rfl rfl rfl (sizeRow _) (sizeEq _ _) (row_one _ _) ?_; clear hH; intro w7 hH; simp only [List.set_cons_zero, List.set_cons_succ] at hH))
  have hz := nil32
  go_wp2_with (first | (refine wpList_load_H 3 hH rfl rfl 22 _ rfl rfl isRowB (sizeRow _) ?_) | (refine wpList_build rfl 22 _ rfl (row 32 fun _ => 0) [] rfl built_nil ?_) | (refine wpList_store_H 2 hH rfl rfl 22 _ _ rfl rfl rfl (sizeRow _) (sizeEq _ _) (row_one _ _) ?_; clear hH; intro w8 hH; simp only [List.set_cons_zero, List.set_cons_succ] at hH))
  exact ret_Ht 2 hH rfl _ rfl rfl rfl rfl isRowB (sizeRow _) ⟨by rw [ez1.out]; rfl, hH.toBelow⟩
end Go.Proofs.Ytchojbhmfjibmaa
