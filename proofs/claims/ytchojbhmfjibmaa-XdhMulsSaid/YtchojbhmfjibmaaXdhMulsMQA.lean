/- The laws of layer 8 (mkxdw.py writes this text). The document's Times: rows of words, and what folds them (mkrtimes.py writes this text). The document's Power and Inverse (mkxdr.py writes this text). The document's ladder (mkxdq.py writes this text). The law of products (mkxdv.py writes this text). -/
import Derived.Test.YtchojbhmfjibmaaXdM
import Derived.Test.YtchojbhmfjibmaaRApi
import Derived.Test.YtchojbhmfjibmaaRLeast
import Derived.Test.YtchojbhmfjibmaaNmC
namespace Go.Proofs.Ytchojbhmfjibmaa
open Go Go.RowKit
set_option maxRecDepth 100000

theorem and248_8 (x : UInt8) : (x &&& 248).toNat % 8 = 0 := u8_each (Q := fun x => (x &&& 248).toNat % 8 = 0) (by decide +kernel) x
theorem top_bits (x : UInt8) : 64 ≤ ((x &&& 127) ||| 64).toNat ∧ ((x &&& 127) ||| 64).toNat < 128 := u8_each (Q := fun x => 64 ≤ ((x &&& 127) ||| 64).toNat ∧ ((x &&& 127) ||| 64).toNat < 128) (by decide +kernel) x
theorem lv_mod8 (b : Nat → UInt8) : ∀ m, lv b (m + 1) % 8 = (b 0).toNat % 8
  | 0 => by show (lv b 0 + (b 0).toNat * 256 ^ 0) % 8 = _; simp [lv]
  | m + 1 => by
    show (lv b (m + 1) + (b (m + 1)).toNat * 256 ^ (m + 1)) % 8 = _
    have h : (b (m + 1)).toNat * 256 ^ (m + 1) = 8 * ((b (m + 1)).toNat * 256 ^ m * 32) := by rw [Nat.pow_succ]; generalize 256 ^ m = x; generalize (b (m + 1)).toNat = y; rw [← Nat.mul_assoc, Nat.mul_comm 8, Nat.mul_assoc _ 32 8]
    rw [h, Nat.add_mul_mod_self_left, lv_mod8 b m]
theorem kS_facts (s : Nat → UInt8) : ∃ k, kS s = 8 * k ∧ 0 < k ∧ 8 * k < 2 ^ 255 := by
  have h8 : kS s % 8 = 0 := by unfold kS; rw [lv_mod8]; exact and248_8 (s 0)
  have e : kS s = lv (numB s) 31 + ((s 31 &&& 127) ||| 64).toNat * 256 ^ 31 := rfl
  have hl := lv_lt (numB s) 31
  have ht := top_bits (s 31)
  have hp : (256 : Nat) ^ 31 = 2 ^ 248 := by decide
  rw [hp] at e hl
  have h2 : (2 : Nat) ^ 255 = 128 * 2 ^ 248 := by decide
  have hpos : 0 < (2 : Nat) ^ 248 := Nat.pow_pos (by decide)
  refine ⟨kS s / 8, by omega, ?_, ?_⟩
  · have h3 : 64 * 2 ^ 248 ≤ ((s 31 &&& 127) ||| 64).toNat * 2 ^ 248 := Nat.mul_le_mul_right _ ht.1
    have h4 : (8 : Nat) ≤ 64 * 2 ^ 248 := by decide
    omega
  · have h3 : (((s 31 &&& 127) ||| 64).toNat + 1) * 2 ^ 248 ≤ 128 * 2 ^ 248 := Nat.mul_le_mul_right _ (by omega)
    rw [Nat.add_mul, Nat.one_mul] at h3
    omega
theorem kS_lt (s : Nat → UInt8) : kS s < 2 ^ 255 := by
  obtain ⟨k, h1, _, h2⟩ := kS_facts s
  omega
theorem both_never (s t : Nat → UInt8) : xmul (kS s) (xmul (kS t) nineF) ≠ 0 := by
  obtain ⟨k, h1, h2, h3⟩ := kS_facts s
  obtain ⟨l, h4, h5, h6⟩ := kS_facts t
  rw [h1, h4]
  exact nine_never _ _ (by omega) (by omega) (secrets_never k l h3 h6 h2 h5)
theorem public_never (s : Nat → UInt8) : xmul (kS s) nineF ≠ 0 := fun h => by
  have h2 := both_never s s
  rw [h, xmul_zero] at h2
  exact h2 rfl
/-- A secret with bits of those turned; a point with the highest one turned; cleared. -/
def turnS (s : Nat → UInt8) (x y : UInt8) : Nat → UInt8 := fun j => if j = 31 then y else if j = 0 then x else s j
def turnU (u : Nat → UInt8) (x : UInt8) : Nat → UInt8 := fun j => if j = 31 then x else u j
/-- What is told stands for itself. -/
theorem uS_bF (x : Fin pF) : uS (bF x) = x := by
  unfold uS
  have h : ∀ i, i < 32 → ptB (bF x) i = bF x i := fun i hi => by
    unfold ptB
    split
    · rename_i e; subst e
      have hx := x.isLt
      have hb : (bF x 31).toNat < 128 := by
        show (byteN x.val 31).toNat < 128
        rw [byteN_nat]
        have : x.val / 256 ^ 31 < 128 := by
          refine (Nat.div_lt_iff_lt_mul (Nat.pow_pos (by decide))).2 (Nat.lt_trans hx (by decide))
        omega
      have := u8_each (Q := fun y => y.toNat < 128 → y &&& 127 = y) (by decide +kernel) (bF x 31)
      exact this hb
    · rfl
  have e : nF (ptB (bF x)) = nF (bF x) := by unfold nF; rw [lv_congr h]
  rw [e, nF_bF]
theorem one32 : (#[Value.int IntKind.u8 1, Value.int IntKind.u8 0, Value.int IntKind.u8 0, Value.int IntKind.u8 0, Value.int IntKind.u8 0, Value.int IntKind.u8 0, Value.int IntKind.u8 0, Value.int IntKind.u8 0, Value.int IntKind.u8 0, Value.int IntKind.u8 0, Value.int IntKind.u8 0, Value.int IntKind.u8 0, Value.int IntKind.u8 0, Value.int IntKind.u8 0, Value.int IntKind.u8 0, Value.int IntKind.u8 0, Value.int IntKind.u8 0, Value.int IntKind.u8 0, Value.int IntKind.u8 0, Value.int IntKind.u8 0, Value.int IntKind.u8 0, Value.int IntKind.u8 0, Value.int IntKind.u8 0, Value.int IntKind.u8 0, Value.int IntKind.u8 0, Value.int IntKind.u8 0, Value.int IntKind.u8 0, Value.int IntKind.u8 0, Value.int IntKind.u8 0, Value.int IntKind.u8 0, Value.int IntKind.u8 0, Value.int IntKind.u8 0] : Array Value) = row 32 oneB := by rfl

set_option maxHeartbeats 4000000 in
theorem awake_c (w : World) : Calls Try.prog 8 #[] w fun e w' => e = .returned (.bool true) ∧ Below w.heap.size w w' := by
  obtain ⟨z1, ez1, cz1⟩ : ∃ z, Hid (z = bF (xmul (kS oneB) nineF)) ∧ ∀ W, Calls Try.prog 13 #[vB oneB] W fun e w' => e = .returned (vB z) ∧ Below W.heap.size W w' := ⟨_, rfl, fun W => xPublic_c oneB W⟩
  have hE : ∀ w : World, (Op.equalIn 10000 22 (.agg (row 32 z1)) (.agg (row 32 fun _ => 0))).run Try.prog w = .ok false w := fun w => by rw [run_sameIn _ 32 und32B, ez1.out, bF_same0, decide_eq_false (public_never _)]
  go_enter Try.func8, Try.ntmps8
  have hH := Hold.init w
  go_upto_region 1 with (fail)
  have hz := nil32
  have ho := one32
  go_wp2_with (first | (go_at_call 13; refine (cz1 _).mono ?_; rintro e w5 ⟨rfl, hb⟩; have hH := hH.call hb; clear hb) | (refine wpList_alloc_H hH rfl (some 1) rfl 22 rfl _ z32B ?_; clear hH; intro g1 w1 hH; simp only [List.nil_append] at hH) | (refine wpList_store_H 0 hH rfl rfl 22 _ _ rfl rfl rfl (sizeRow _) (sizeEq _ _) (row_one _ _) ?_; clear hH; intro w2 hH; simp only [List.set_cons_zero] at hH) | (refine wpList_load_H 0 hH rfl rfl 22 _ rfl rfl isRowB (sizeRow _) ?_))
  exact bodyPost_ret (results_tmp rfl _ _ _) rfl ⟨rfl, hH.toBelow⟩

set_option maxHeartbeats 4000000 in
theorem three_w (a b u : Nat → UInt8) (w : World) : Calls Try.prog 5 #[vB a, vB b, vB u] w fun e w' => e = .returned (.bool true) ∧ Below w.heap.size w w' := by
  obtain ⟨z1, ez1, cz1⟩ : ∃ z, Hid (z = bF (xmul (kS b) (uS u))) ∧ ∀ W, Calls Try.prog 11 #[(.agg (row 32 b)), (.agg (row 32 u))] W fun e w' => e = .returned (.agg (row 32 z)) ∧ Below W.heap.size W w' := ⟨_, rfl, fun W => xMul_c b u W⟩
  obtain ⟨z2, ez2, cz2⟩ : ∃ z, Hid (z = bF (xmul (kS a) (uS z1))) ∧ ∀ W, Calls Try.prog 11 #[(.agg (row 32 a)), (.agg (row 32 z1))] W fun e w' => e = .returned (.agg (row 32 z)) ∧ Below W.heap.size W w' := ⟨_, rfl, fun W => xMul_c a z1 W⟩
  obtain ⟨z3, ez3, cz3⟩ : ∃ z, Hid (z = bF (xmul (kS a) (uS u))) ∧ ∀ W, Calls Try.prog 11 #[(.agg (row 32 a)), (.agg (row 32 u))] W fun e w' => e = .returned (.agg (row 32 z)) ∧ Below W.heap.size W w' := ⟨_, rfl, fun W => xMul_c a u W⟩
  obtain ⟨z4, ez4, cz4⟩ : ∃ z, Hid (z = bF (xmul (kS b) (uS z3))) ∧ ∀ W, Calls Try.prog 11 #[(.agg (row 32 b)), (.agg (row 32 z3))] W fun e w' => e = .returned (.agg (row 32 z)) ∧ Below W.heap.size W w' := ⟨_, rfl, fun W => xMul_c b z3 W⟩
  have he : z2 = z4 := by rw [ez2.out, ez4.out, ez1.out, ez3.out, uS_bF, uS_bF, xmul_comm _ _ (kS_lt a) (kS_lt b)]
  have hE : ∀ w : World, (Op.equalIn 10000 22 (.agg (row 32 z2)) (.agg (row 32 z4))).run Try.prog w = .ok true w := fun w => by rw [run_sameIn _ 32 und32B, he, sameB_self]
  clear he
  go_enter Try.func5, Try.ntmps5
  have hH := Hold.init w
  go_upto_region 3 with (first | (refine wpList_box_H hH rfl (some 3) rfl 22 _ rfl _ rfl ?_; clear hH; intro g5 w6 hH; simp only [List.nil_append] at hH) | (refine wpList_box_H hH rfl (some 4) rfl 22 _ rfl _ rfl ?_; clear hH; intro g7 w8 hH; simp only [List.nil_append, List.cons_append] at hH) | (refine wpList_box_H hH rfl (some 5) rfl 22 _ rfl _ rfl ?_; clear hH; intro g9 w10 hH; simp only [List.nil_append, List.cons_append] at hH) | (go_at_call 8; refine (awake_c _).mono ?_; rintro e w5 ⟨rfl, hb⟩; have hH := hH.call hb; clear hb))
  refine region_rest mixedOrders ?_
  have hH := hH.drew
  refine Rest.phaseL (PH w [] (fun _ => _) []) [] 11 (by kernel_rfl) (PH.start _ hH) ?_
  clear hH
  refine SeqH.next (.agg (row 32 a)) rfl rfl (fun π D _ => SureH.load 0 rfl rfl 22 _ rfl rfl isRowB (sizeRow _)) ?_
  simp only [Act.put, List.setIfInBounds_toArray, List.set_cons_zero, List.set_cons_succ]
  refine SeqH.next (.agg (row 32 b)) rfl rfl (fun π D _ => SureH.load 1 rfl rfl 22 _ rfl rfl isRowB (sizeRow _)) ?_
  simp only [Act.put, List.setIfInBounds_toArray, List.set_cons_zero, List.set_cons_succ]
  refine SeqH.next (.agg (row 32 u)) rfl rfl (fun π D _ => SureH.load 2 rfl rfl 22 _ rfl rfl isRowB (sizeRow _)) ?_
  simp only [Act.put, List.setIfInBounds_toArray, List.set_cons_zero, List.set_cons_succ]
  refine SeqH.next (.agg (row 32 z1)) rfl rfl (fun π D _ => SureH.call cz1 rfl (fun w => by go_simp)) ?_
  simp only [Act.put, List.setIfInBounds_toArray, List.set_cons_zero, List.set_cons_succ]
  refine SeqH.next (.agg (row 32 z2)) rfl rfl (fun π D _ => SureH.call cz2 rfl (fun w => by go_simp)) ?_
  simp only [Act.put, List.setIfInBounds_toArray, List.set_cons_zero, List.set_cons_succ]
  refine SeqH.next (.agg (row 32 b)) rfl rfl (fun π D _ => SureH.load 1 rfl rfl 22 _ rfl rfl isRowB (sizeRow _)) ?_
  simp only [Act.put, List.setIfInBounds_toArray, List.set_cons_zero, List.set_cons_succ]
  refine SeqH.next (.agg (row 32 a)) rfl rfl (fun π D _ => SureH.load 0 rfl rfl 22 _ rfl rfl isRowB (sizeRow _)) ?_
  simp only [Act.put, List.setIfInBounds_toArray, List.set_cons_zero, List.set_cons_succ]
  refine SeqH.next (.agg (row 32 u)) rfl rfl (fun π D _ => SureH.load 2 rfl rfl 22 _ rfl rfl isRowB (sizeRow _)) ?_
  simp only [Act.put, List.setIfInBounds_toArray, List.set_cons_zero, List.set_cons_succ]
  refine SeqH.next (.agg (row 32 z3)) rfl rfl (fun π D _ => SureH.call cz3 rfl (fun w => by go_simp)) ?_
  simp only [Act.put, List.setIfInBounds_toArray, List.set_cons_zero, List.set_cons_succ]
  refine SeqH.next (.agg (row 32 z4)) rfl rfl (fun π D _ => SureH.call cz4 rfl (fun w => by go_simp)) ?_
  simp only [Act.put, List.setIfInBounds_toArray, List.set_cons_zero, List.set_cons_succ]
  refine SeqH.next (.bool true) rfl rfl (fun π D _ => SureH.pure rfl (fun w => by have hE := hE w; go_simp)) ?_
  simp only [Act.put, List.setIfInBounds_toArray, List.set_cons_zero, List.set_cons_succ]
  refine SeqH.pure0 (.bool true) (fun _ _ => rfl) (fun _ => rfl) (fun π w => by go_simp) ?_
  intro π w11 hH
  simp only [Act.put]
  refine Rest.done (by decide) ?_
  go_wp2
  exact bodyPost_ret (results_tmp rfl _ _ _) rfl ⟨rfl, hH.toBelow⟩

set_option maxHeartbeats 4000000 in
theorem agree_w (a b : Nat → UInt8) (w : World) : Calls Try.prog 4 #[vB a, vB b] w fun e w' => e = .returned (.bool true) ∧ Below w.heap.size w w' := by
  obtain ⟨z1, ez1, cz1⟩ : ∃ z, Hid (z = bF (xmul (kS b) nineF)) ∧ ∀ W, Calls Try.prog 13 #[(.agg (row 32 b))] W fun e w' => e = .returned (.agg (row 32 z)) ∧ Below W.heap.size W w' := ⟨_, rfl, fun W => xPublic_c b W⟩
  obtain ⟨z2, ez2, cz2⟩ : ∃ z, Hid (z = bF (xmul (kS a) nineF)) ∧ ∀ W, Calls Try.prog 13 #[(.agg (row 32 a))] W fun e w' => e = .returned (.agg (row 32 z)) ∧ Below W.heap.size W w' := ⟨_, rfl, fun W => xPublic_c a W⟩
  obtain ⟨x, ex, cx⟩ : ∃ z, Hid (z = bF (xmul (kS a) (uS z1))) ∧ ∀ W, Calls Try.prog 9 #[vB a, vB z1] W fun e w' => e = .returned (.tuple #[vB z, .int .i64 0]) ∧ Below W.heap.size W w' := ⟨_, rfl, fun W => shared_some a z1 (by rw [ez1.out, uS_bF]; exact both_never a b) W⟩
  obtain ⟨y, ey, cy⟩ : ∃ z, Hid (z = bF (xmul (kS b) (uS z2))) ∧ ∀ W, Calls Try.prog 9 #[vB b, vB z2] W fun e w' => e = .returned (.tuple #[vB z, .int .i64 0]) ∧ Below W.heap.size W w' := ⟨_, rfl, fun W => shared_some b z2 (by rw [ez2.out, uS_bF]; exact both_never b a) W⟩
  have he : x = y := by rw [ex.out, ey.out, ez1.out, ez2.out, uS_bF, uS_bF, xmul_comm _ _ (kS_lt a) (kS_lt b)]
  have hE : ∀ w : World, (Op.equalIn 10000 22 (.agg (row 32 x)) (.agg (row 32 y))).run Try.prog w = .ok true w := fun w => by rw [run_sameIn _ 32 und32B, he, sameB_self]
  clear he
  go_enter Try.func4, Try.ntmps4
  have hH := Hold.init w
  go_upto_region 3 with (first | (refine wpList_box_H hH rfl (some 2) rfl 22 _ rfl _ rfl ?_; clear hH; intro g3 w4 hH; simp only [List.nil_append] at hH) | (refine wpList_box_H hH rfl (some 3) rfl 22 _ rfl _ rfl ?_; clear hH; intro g5 w6 hH; simp only [List.nil_append, List.cons_append] at hH) | (go_at_call 8; refine (awake_c _).mono ?_; rintro e w5 ⟨rfl, hb⟩; have hH := hH.call hb; clear hb))
  refine region_rest mixedOrders ?_
  have hH := hH.drew
  refine Rest.phaseL (PH w [] (fun _ => _) [(7, (fun D => Obj.cells (if D 8 then row 32 x else row 32 (fun _ => 0)) 22 (0, 0)))]) [7, 8] 9 (by kernel_rfl) (PH.start _ hH) ?_
  clear hH
  refine SeqH.next (.agg (row 32 a)) rfl rfl (fun π D _ => SureH.load 0 rfl rfl 22 _ rfl rfl isRowB (sizeRow _)) ?_
  simp only [Act.put, List.setIfInBounds_toArray, List.set_cons_zero, List.set_cons_succ]
  refine SeqH.next (.agg (row 32 b)) rfl rfl (fun π D _ => SureH.load 1 rfl rfl 22 _ rfl rfl isRowB (sizeRow _)) ?_
  simp only [Act.put, List.setIfInBounds_toArray, List.set_cons_zero, List.set_cons_succ]
  refine SeqH.next (.agg (row 32 z1)) rfl rfl (fun π D _ => SureH.call cz1 rfl (fun w => by go_simp)) ?_
  simp only [Act.put, List.setIfInBounds_toArray, List.set_cons_zero, List.set_cons_succ]
  refine SeqH.next (.tuple #[(.agg (row 32 x)), (.int .i64 0)]) rfl rfl (fun π D _ => SureH.call cx rfl (fun w => by go_simp)) ?_
  simp only [Act.put, List.setIfInBounds_toArray, List.set_cons_zero, List.set_cons_succ]
  refine SeqH.next (.tuple #[(.agg (row 32 x)), (.int .i64 0)]) rfl rfl (fun π D _ => SureH.pure rfl (fun w => by go_simp)) ?_
  simp only [Act.put, List.setIfInBounds_toArray, List.set_cons_zero, List.set_cons_succ]
  refine SeqH.next (.agg (row 32 x)) rfl rfl (fun π D _ => SureH.pure rfl (fun w => by go_simp)) ?_
  simp only [Act.put, List.setIfInBounds_toArray, List.set_cons_zero, List.set_cons_succ]
  refine SeqH.next (.int .i64 0) rfl rfl (fun π D _ => SureH.pure rfl (fun w => by go_simp)) ?_
  simp only [Act.put, List.setIfInBounds_toArray, List.set_cons_zero, List.set_cons_succ]
  refine SeqH.make rfl rfl (fun π => MakesH.alloc 22 rfl _ z32B _ (List.Mem.head _) (fun D h => by have h := h.2 8 rfl (by kernel_rfl); (try dsimp only); rw [h]; rfl) ⟨fun _ => rfl, (List.forall_mem_cons.2 ⟨(fun _ => rfl), (List.forall_mem_nil _)⟩)⟩ (by simp) rfl) ?_
  simp only [Act.put, List.setIfInBounds_toArray, List.set_cons_zero, List.set_cons_succ]
  refine SeqH.make rfl rfl (fun π => MakesH.storeM (m := 7) (old := row 32 (fun _ => 0)) (cs := row 32 x) _ (List.Mem.head _) (by simp) (fun D h => h.1 7 rfl (by kernel_rfl)) (fun D h => by (try dsimp only); rw [h]; rfl) (fun D => rfl) (List.forall_mem_cons.2 ⟨(fun h => absurd rfl h), (List.forall_mem_nil _)⟩) (fun _ => rfl) (List.forall_mem_cons.2 ⟨(show (7 : Nat) ≠ 8 by decide), (List.forall_mem_nil _)⟩) 22 _ _ rfl rfl rfl (sizeRow _) (sizeEq _ _) (row_one _ _) rfl) ?_
  simp only [Act.put]
  refine SeqH.pure1 (.int .i64 0) (L' := [bl g3 22 (row 32 a), bl g5 22 (row 32 b)]) (ob := Obj.cells (row 32 x) 22 (0, 0)) (fun D h => by have h8 := h 8 rfl (by decide); (try dsimp only); rw [h8]; exact ⟨rfl, rfl⟩) rfl (fun _ => rfl) (fun π w => by go_simp) ?_
  intro g7 π w8 pg7 hH
  simp only [pg7]
  clear pg7
  simp only [List.nil_append, List.cons_append] at hH
  simp only [Act.put]
  refine Rest.done (by decide) ?_
  go_upto_region 4 with (fail)
  refine region_rest mixedOrders ?_
  have hH := hH.drew
  refine Rest.phaseL (PH w [] (fun _ => _) [(7, (fun D => Obj.cells (if D 8 then row 32 y else row 32 (fun _ => 0)) 22 (0, 0)))]) [7, 8] 9 (by kernel_rfl) (PH.start _ hH) ?_
  clear hH
  refine SeqH.next (.agg (row 32 b)) rfl rfl (fun π D _ => SureH.load 1 rfl rfl 22 _ rfl rfl isRowB (sizeRow _)) ?_
  simp only [Act.put, List.setIfInBounds_toArray, List.set_cons_zero, List.set_cons_succ]
  refine SeqH.next (.agg (row 32 a)) rfl rfl (fun π D _ => SureH.load 0 rfl rfl 22 _ rfl rfl isRowB (sizeRow _)) ?_
  simp only [Act.put, List.setIfInBounds_toArray, List.set_cons_zero, List.set_cons_succ]
  refine SeqH.next (.agg (row 32 z2)) rfl rfl (fun π D _ => SureH.call cz2 rfl (fun w => by go_simp)) ?_
  simp only [Act.put, List.setIfInBounds_toArray, List.set_cons_zero, List.set_cons_succ]
  refine SeqH.next (.tuple #[(.agg (row 32 y)), (.int .i64 0)]) rfl rfl (fun π D _ => SureH.call cy rfl (fun w => by go_simp)) ?_
  simp only [Act.put, List.setIfInBounds_toArray, List.set_cons_zero, List.set_cons_succ]
  refine SeqH.next (.tuple #[(.agg (row 32 y)), (.int .i64 0)]) rfl rfl (fun π D _ => SureH.pure rfl (fun w => by go_simp)) ?_
  simp only [Act.put, List.setIfInBounds_toArray, List.set_cons_zero, List.set_cons_succ]
  refine SeqH.next (.agg (row 32 y)) rfl rfl (fun π D _ => SureH.pure rfl (fun w => by go_simp)) ?_
  simp only [Act.put, List.setIfInBounds_toArray, List.set_cons_zero, List.set_cons_succ]
  refine SeqH.next (.int .i64 0) rfl rfl (fun π D _ => SureH.pure rfl (fun w => by go_simp)) ?_
  simp only [Act.put, List.setIfInBounds_toArray, List.set_cons_zero, List.set_cons_succ]
  refine SeqH.make rfl rfl (fun π => MakesH.alloc 22 rfl _ z32B _ (List.Mem.head _) (fun D h => by have h := h.2 8 rfl (by kernel_rfl); (try dsimp only); rw [h]; rfl) ⟨fun _ => rfl, (List.forall_mem_cons.2 ⟨(fun _ => rfl), (List.forall_mem_nil _)⟩)⟩ (by simp) rfl) ?_
  simp only [Act.put, List.setIfInBounds_toArray, List.set_cons_zero, List.set_cons_succ]
  refine SeqH.make rfl rfl (fun π => MakesH.storeM (m := 7) (old := row 32 (fun _ => 0)) (cs := row 32 y) _ (List.Mem.head _) (by simp) (fun D h => h.1 7 rfl (by kernel_rfl)) (fun D h => by (try dsimp only); rw [h]; rfl) (fun D => rfl) (List.forall_mem_cons.2 ⟨(fun h => absurd rfl h), (List.forall_mem_nil _)⟩) (fun _ => rfl) (List.forall_mem_cons.2 ⟨(show (7 : Nat) ≠ 8 by decide), (List.forall_mem_nil _)⟩) 22 _ _ rfl rfl rfl (sizeRow _) (sizeEq _ _) (row_one _ _) rfl) ?_
  simp only [Act.put]
  refine SeqH.pure1 (.int .i64 0) (L' := [bl g3 22 (row 32 a), bl g5 22 (row 32 b), bl g7 22 (row 32 x)]) (ob := Obj.cells (row 32 y) 22 (0, 0)) (fun D h => by have h8 := h 8 rfl (by decide); (try dsimp only); rw [h8]; exact ⟨rfl, rfl⟩) rfl (fun _ => rfl) (fun π w => by go_simp) ?_
  intro g9 π w10 pg9 hH
  simp only [pg9]
  clear pg9
  simp only [List.nil_append, List.cons_append] at hH
  simp only [Act.put]
  refine Rest.done (by decide) ?_
  go_wp2_with (first | (refine wpList_load_HG 2 hH rfl 22 _ rfl rfl (by kernel_rfl) isRowB (sizeRow _) ?_) | (refine wpList_load_HG 3 hH rfl 22 _ rfl rfl (by kernel_rfl) isRowB (sizeRow _) ?_))
  exact bodyPost_ret (results_tmp rfl _ _ _) rfl ⟨rfl, hH.toBelow⟩

theorem uS_zero : uS (fun _ => 0) = 0 := by decide +kernel
theorem uS_one : uS oneB = 1 := by decide +kernel
theorem set32_0 : (row 32 fun _ => 0).setIfInBounds 0 (.int .u8 0) = row 32 fun _ => 0 := by rfl
theorem set32_1 : (row 32 fun _ => 0).setIfInBounds 0 (.int .u8 1) = row 32 oneB := by rfl
theorem none_zero (s : Nat → UInt8) : xmul (kS s) (uS fun _ => 0) = 0 := by rw [uS_zero, xmul_zero]
theorem none_one (s : Nat → UInt8) : xmul (kS s) (uS oneB) = 0 := by
  obtain ⟨k, h1, _, h2⟩ := kS_facts s
  rw [uS_one, h1, show 8 * k = 4 * (2 * k) by omega]
  exact small_one _ (by omega)
theorem none_less (s : Nat → UInt8) : xmul (kS s) (uS (bF (-1))) = 0 := by
  obtain ⟨k, h1, _, h2⟩ := kS_facts s
  rw [uS_bF, h1, show 8 * k = 4 * (2 * k) by omega]
  exact small_less _ (by omega)
theorem rsubF_c (a b : Nat → UInt8) (w : World) : Calls Try.prog 17 #[vB a, vB b] w fun e w' => e = .returned (vB (bF (nF a - nF b))) ∧ Below w.heap.size w w' := by
  have h := rsub_c a b w
  rw [← bF_toF, toF_minus] at h
  exact h
theorem raddF_c (a b : Nat → UInt8) (w : World) : Calls Try.prog 15 #[vB a, vB b] w fun e w' => e = .returned (vB (bF (nF a + nF b))) ∧ Below w.heap.size w w' := by
  have h := radd_c a b w
  rw [← bF_toF, toF_fv, toF_add] at h
  exact h
theorem less_one (w : World) : Calls Try.prog 17 #[vB fun _ => 0, vB oneB] w fun e w' => e = .returned (vB (bF (-1))) ∧ Below w.heap.size w w' := by
  have h := rsubF_c (fun _ => 0) oneB w
  have e : nF (fun _ => 0) - nF oneB = -1 := by rw [nF_nil, nF_one]; decide +kernel
  rw [e] at h
  exact h

set_option maxHeartbeats 4000000 in
theorem small_0_0 (s : Nat → UInt8) (x : UInt8) (h2 : x.toNat % 2 = 0) (h3 : x.toNat % 3 = 0) (w : World) : Calls Try.prog 7 #[vB s, .int .u8 (x.toNat : Int)] w fun e w' => e = .returned (.bool true) ∧ Below w.heap.size w w' := by
  have hc := fun W => shared_none s (fun _ => 0) (none_zero s) W
  have hE : ∀ w : World, (Op.equalIn 10000 22 (.agg (row 32 fun _ => 0)) (.agg (row 32 fun _ => 0))).run Try.prog w = .ok true w := fun w => by rw [run_sameIn _ 32 und32B, sameB_self]
  obtain ⟨v, hv⟩ : ∃ v : Int, v = (x.toNat : Int) := ⟨_, rfl⟩
  have hlt := x.toNat_lt
  have a1 : v.tmod 2 = 0 := by rw [hv, Int.tmod_eq_emod_of_nonneg (by omega)]; omega
  have a2 : v % 2 = 0 := by omega
  have a3 : v.tmod 3 = 0 := by rw [hv, Int.tmod_eq_emod_of_nonneg (by omega)]; omega
  have a4 : v % 3 = 0 := by omega
  rw [← hv]
  have hv0 : 0 ≤ v := by omega
  have hv1 : v < 256 := by omega
  clear hv h2 h3 hlt
  have hz := nil32
  have ho := set32_0
  go_enter Try.func7, Try.ntmps7
  have hH := Hold.init w
  go_upto_region 3 with (first | (refine wpList_box_H hH rfl (some 2) rfl 22 _ rfl _ rfl ?_; clear hH; intro g101 w102 hH; simp only [List.nil_append] at hH) | (go_at_call 8; refine (awake_c _).mono ?_; rintro e w5 ⟨rfl, hb⟩; have hH := hH.call hb; clear hb))
  go_upto_region 4 with (first | (refine wpList_alloc_H hH rfl (some 5) rfl 22 rfl _ z32B ?_; clear hH; intro gu w5 hH; simp only [List.nil_append, List.cons_append] at hH) | (refine wpList_store_H 1 hH rfl rfl 22 _ _ rfl rfl rfl (sizeRow _) (sizeEq _ _) (row_one _ _) ?_; clear hH; intro wu hH; simp only [List.set_cons_zero, List.set_cons_succ] at hH))
  go_upto_region 6 with (fail)
  go_upto_region 7 with (first | (refine wpList_load_H 0 hH rfl rfl 22 _ rfl rfl isRowB (sizeRow _) ?_) | (refine wpList_load_H 1 hH rfl rfl 22 _ rfl rfl isRowB (sizeRow _) ?_) | (go_at_call 9; refine (hc _).mono ?_; rintro e w5 ⟨rfl, hb⟩; have hH := hH.call hb; clear hb) | (refine wpList_alloc_H hH rfl (some 6) rfl 22 rfl _ z32B ?_; clear hH; intro gs w6 hH; simp only [List.nil_append, List.cons_append] at hH) | (refine wpList_store_H 2 hH rfl rfl 22 _ _ rfl rfl rfl (sizeRow _) (sizeEq _ _) (row_one _ _) ?_; clear hH; intro ws hH; simp only [List.set_cons_zero, List.set_cons_succ] at hH))
  go_wp2_with (refine wpList_load_HG 2 hH rfl 22 _ rfl rfl (by kernel_rfl) isRowB (sizeRow _) ?_)
  exact bodyPost_ret (results_tmp rfl _ _ _) rfl ⟨rfl, hH.toBelow⟩

set_option maxHeartbeats 4000000 in
theorem small_0_1 (s : Nat → UInt8) (x : UInt8) (h2 : x.toNat % 2 = 0) (h3 : x.toNat % 3 = 1) (w : World) : Calls Try.prog 7 #[vB s, .int .u8 (x.toNat : Int)] w fun e w' => e = .returned (.bool true) ∧ Below w.heap.size w w' := by
  have hc := fun W => shared_none s (fun _ => 0) (none_zero s) W
  have hE : ∀ w : World, (Op.equalIn 10000 22 (.agg (row 32 fun _ => 0)) (.agg (row 32 fun _ => 0))).run Try.prog w = .ok true w := fun w => by rw [run_sameIn _ 32 und32B, sameB_self]
  obtain ⟨v, hv⟩ : ∃ v : Int, v = (x.toNat : Int) := ⟨_, rfl⟩
  have hlt := x.toNat_lt
  have a1 : v.tmod 2 = 0 := by rw [hv, Int.tmod_eq_emod_of_nonneg (by omega)]; omega
  have a2 : v % 2 = 0 := by omega
  have a3 : v.tmod 3 = 1 := by rw [hv, Int.tmod_eq_emod_of_nonneg (by omega)]; omega
  have a4 : v % 3 = 1 := by omega
  rw [← hv]
  have hv0 : 0 ≤ v := by omega
  have hv1 : v < 256 := by omega
  clear hv h2 h3 hlt
  have hz := nil32
  have ho := set32_0
  go_enter Try.func7, Try.ntmps7
  have hH := Hold.init w
  go_upto_region 3 with (first | (refine wpList_box_H hH rfl (some 2) rfl 22 _ rfl _ rfl ?_; clear hH; intro g101 w102 hH; simp only [List.nil_append] at hH) | (go_at_call 8; refine (awake_c _).mono ?_; rintro e w5 ⟨rfl, hb⟩; have hH := hH.call hb; clear hb))
  go_upto_region 4 with (first | (refine wpList_alloc_H hH rfl (some 5) rfl 22 rfl _ z32B ?_; clear hH; intro gu w5 hH; simp only [List.nil_append, List.cons_append] at hH) | (refine wpList_store_H 1 hH rfl rfl 22 _ _ rfl rfl rfl (sizeRow _) (sizeEq _ _) (row_one _ _) ?_; clear hH; intro wu hH; simp only [List.set_cons_zero, List.set_cons_succ] at hH))
  go_upto_region 6 with (fail)
  go_upto_region 7 with (first | (refine wpList_load_H 0 hH rfl rfl 22 _ rfl rfl isRowB (sizeRow _) ?_) | (refine wpList_load_H 1 hH rfl rfl 22 _ rfl rfl isRowB (sizeRow _) ?_) | (go_at_call 9; refine (hc _).mono ?_; rintro e w5 ⟨rfl, hb⟩; have hH := hH.call hb; clear hb) | (refine wpList_alloc_H hH rfl (some 6) rfl 22 rfl _ z32B ?_; clear hH; intro gs w6 hH; simp only [List.nil_append, List.cons_append] at hH) | (refine wpList_store_H 2 hH rfl rfl 22 _ _ rfl rfl rfl (sizeRow _) (sizeEq _ _) (row_one _ _) ?_; clear hH; intro ws hH; simp only [List.set_cons_zero, List.set_cons_succ] at hH))
  go_wp2_with (refine wpList_load_HG 2 hH rfl 22 _ rfl rfl (by kernel_rfl) isRowB (sizeRow _) ?_)
  exact bodyPost_ret (results_tmp rfl _ _ _) rfl ⟨rfl, hH.toBelow⟩

set_option maxHeartbeats 4000000 in
theorem small_0_2 (s : Nat → UInt8) (x : UInt8) (h2 : x.toNat % 2 = 0) (h3 : x.toNat % 3 = 2) (w : World) : Calls Try.prog 7 #[vB s, .int .u8 (x.toNat : Int)] w fun e w' => e = .returned (.bool true) ∧ Below w.heap.size w w' := by
  have hc := fun W => shared_none s (bF (-1)) (none_less s) W
  have hE : ∀ w : World, (Op.equalIn 10000 22 (.agg (row 32 fun _ => 0)) (.agg (row 32 fun _ => 0))).run Try.prog w = .ok true w := fun w => by rw [run_sameIn _ 32 und32B, sameB_self]
  obtain ⟨v, hv⟩ : ∃ v : Int, v = (x.toNat : Int) := ⟨_, rfl⟩
  have hlt := x.toNat_lt
  have a1 : v.tmod 2 = 0 := by rw [hv, Int.tmod_eq_emod_of_nonneg (by omega)]; omega
  have a2 : v % 2 = 0 := by omega
  have a3 : v.tmod 3 = 2 := by rw [hv, Int.tmod_eq_emod_of_nonneg (by omega)]; omega
  have a4 : v % 3 = 2 := by omega
  rw [← hv]
  have hv0 : 0 ≤ v := by omega
  have hv1 : v < 256 := by omega
  clear hv h2 h3 hlt
  have hz := nil32
  have ho := set32_0
  go_enter Try.func7, Try.ntmps7
  have hH := Hold.init w
  go_upto_region 3 with (first | (refine wpList_box_H hH rfl (some 2) rfl 22 _ rfl _ rfl ?_; clear hH; intro g101 w102 hH; simp only [List.nil_append] at hH) | (go_at_call 8; refine (awake_c _).mono ?_; rintro e w5 ⟨rfl, hb⟩; have hH := hH.call hb; clear hb))
  go_upto_region 4 with (first | (refine wpList_alloc_H hH rfl (some 5) rfl 22 rfl _ z32B ?_; clear hH; intro gu w5 hH; simp only [List.nil_append, List.cons_append] at hH) | (refine wpList_store_H 1 hH rfl rfl 22 _ _ rfl rfl rfl (sizeRow _) (sizeEq _ _) (row_one _ _) ?_; clear hH; intro wu hH; simp only [List.set_cons_zero, List.set_cons_succ] at hH))
  have ho := set32_1
  go_upto_region 6 with (first | (go_at_call 17; refine (less_one _).mono ?_; rintro e w5 ⟨rfl, hb⟩; have hH := hH.call hb; clear hb) | (refine wpList_store_H 1 hH rfl rfl 22 _ _ rfl rfl rfl (sizeRow _) (sizeEq _ _) (row_one _ _) ?_; clear hH; intro wv hH; simp only [List.set_cons_zero, List.set_cons_succ] at hH))
  go_upto_region 7 with (first | (refine wpList_load_H 0 hH rfl rfl 22 _ rfl rfl isRowB (sizeRow _) ?_) | (refine wpList_load_H 1 hH rfl rfl 22 _ rfl rfl isRowB (sizeRow _) ?_) | (go_at_call 9; refine (hc _).mono ?_; rintro e w5 ⟨rfl, hb⟩; have hH := hH.call hb; clear hb) | (refine wpList_alloc_H hH rfl (some 6) rfl 22 rfl _ z32B ?_; clear hH; intro gs w6 hH; simp only [List.nil_append, List.cons_append] at hH) | (refine wpList_store_H 2 hH rfl rfl 22 _ _ rfl rfl rfl (sizeRow _) (sizeEq _ _) (row_one _ _) ?_; clear hH; intro ws hH; simp only [List.set_cons_zero, List.set_cons_succ] at hH))
  go_wp2_with (refine wpList_load_HG 2 hH rfl 22 _ rfl rfl (by kernel_rfl) isRowB (sizeRow _) ?_)
  exact bodyPost_ret (results_tmp rfl _ _ _) rfl ⟨rfl, hH.toBelow⟩

set_option maxHeartbeats 4000000 in
theorem small_1_0 (s : Nat → UInt8) (x : UInt8) (h2 : x.toNat % 2 = 1) (h3 : x.toNat % 3 = 0) (w : World) : Calls Try.prog 7 #[vB s, .int .u8 (x.toNat : Int)] w fun e w' => e = .returned (.bool true) ∧ Below w.heap.size w w' := by
  have hc := fun W => shared_none s oneB (none_one s) W
  have hE : ∀ w : World, (Op.equalIn 10000 22 (.agg (row 32 fun _ => 0)) (.agg (row 32 fun _ => 0))).run Try.prog w = .ok true w := fun w => by rw [run_sameIn _ 32 und32B, sameB_self]
  obtain ⟨v, hv⟩ : ∃ v : Int, v = (x.toNat : Int) := ⟨_, rfl⟩
  have hlt := x.toNat_lt
  have a1 : v.tmod 2 = 1 := by rw [hv, Int.tmod_eq_emod_of_nonneg (by omega)]; omega
  have a2 : v % 2 = 1 := by omega
  have a3 : v.tmod 3 = 0 := by rw [hv, Int.tmod_eq_emod_of_nonneg (by omega)]; omega
  have a4 : v % 3 = 0 := by omega
  rw [← hv]
  have hv0 : 0 ≤ v := by omega
  have hv1 : v < 256 := by omega
  clear hv h2 h3 hlt
  have hz := nil32
  have ho := set32_1
  go_enter Try.func7, Try.ntmps7
  have hH := Hold.init w
  go_upto_region 3 with (first | (refine wpList_box_H hH rfl (some 2) rfl 22 _ rfl _ rfl ?_; clear hH; intro g101 w102 hH; simp only [List.nil_append] at hH) | (go_at_call 8; refine (awake_c _).mono ?_; rintro e w5 ⟨rfl, hb⟩; have hH := hH.call hb; clear hb))
  go_upto_region 4 with (first | (refine wpList_alloc_H hH rfl (some 5) rfl 22 rfl _ z32B ?_; clear hH; intro gu w5 hH; simp only [List.nil_append, List.cons_append] at hH) | (refine wpList_store_H 1 hH rfl rfl 22 _ _ rfl rfl rfl (sizeRow _) (sizeEq _ _) (row_one _ _) ?_; clear hH; intro wu hH; simp only [List.set_cons_zero, List.set_cons_succ] at hH))
  go_upto_region 6 with (fail)
  go_upto_region 7 with (first | (refine wpList_load_H 0 hH rfl rfl 22 _ rfl rfl isRowB (sizeRow _) ?_) | (refine wpList_load_H 1 hH rfl rfl 22 _ rfl rfl isRowB (sizeRow _) ?_) | (go_at_call 9; refine (hc _).mono ?_; rintro e w5 ⟨rfl, hb⟩; have hH := hH.call hb; clear hb) | (refine wpList_alloc_H hH rfl (some 6) rfl 22 rfl _ z32B ?_; clear hH; intro gs w6 hH; simp only [List.nil_append, List.cons_append] at hH) | (refine wpList_store_H 2 hH rfl rfl 22 _ _ rfl rfl rfl (sizeRow _) (sizeEq _ _) (row_one _ _) ?_; clear hH; intro ws hH; simp only [List.set_cons_zero, List.set_cons_succ] at hH))
  go_wp2_with (refine wpList_load_HG 2 hH rfl 22 _ rfl rfl (by kernel_rfl) isRowB (sizeRow _) ?_)
  exact bodyPost_ret (results_tmp rfl _ _ _) rfl ⟨rfl, hH.toBelow⟩

set_option maxHeartbeats 4000000 in
theorem small_1_1 (s : Nat → UInt8) (x : UInt8) (h2 : x.toNat % 2 = 1) (h3 : x.toNat % 3 = 1) (w : World) : Calls Try.prog 7 #[vB s, .int .u8 (x.toNat : Int)] w fun e w' => e = .returned (.bool true) ∧ Below w.heap.size w w' := by
  have hc := fun W => shared_none s oneB (none_one s) W
  have hE : ∀ w : World, (Op.equalIn 10000 22 (.agg (row 32 fun _ => 0)) (.agg (row 32 fun _ => 0))).run Try.prog w = .ok true w := fun w => by rw [run_sameIn _ 32 und32B, sameB_self]
  obtain ⟨v, hv⟩ : ∃ v : Int, v = (x.toNat : Int) := ⟨_, rfl⟩
  have hlt := x.toNat_lt
  have a1 : v.tmod 2 = 1 := by rw [hv, Int.tmod_eq_emod_of_nonneg (by omega)]; omega
  have a2 : v % 2 = 1 := by omega
  have a3 : v.tmod 3 = 1 := by rw [hv, Int.tmod_eq_emod_of_nonneg (by omega)]; omega
  have a4 : v % 3 = 1 := by omega
  rw [← hv]
  have hv0 : 0 ≤ v := by omega
  have hv1 : v < 256 := by omega
  clear hv h2 h3 hlt
  have hz := nil32
  have ho := set32_1
  go_enter Try.func7, Try.ntmps7
  have hH := Hold.init w
  go_upto_region 3 with (first | (refine wpList_box_H hH rfl (some 2) rfl 22 _ rfl _ rfl ?_; clear hH; intro g101 w102 hH; simp only [List.nil_append] at hH) | (go_at_call 8; refine (awake_c _).mono ?_; rintro e w5 ⟨rfl, hb⟩; have hH := hH.call hb; clear hb))
  go_upto_region 4 with (first | (refine wpList_alloc_H hH rfl (some 5) rfl 22 rfl _ z32B ?_; clear hH; intro gu w5 hH; simp only [List.nil_append, List.cons_append] at hH) | (refine wpList_store_H 1 hH rfl rfl 22 _ _ rfl rfl rfl (sizeRow _) (sizeEq _ _) (row_one _ _) ?_; clear hH; intro wu hH; simp only [List.set_cons_zero, List.set_cons_succ] at hH))
  go_upto_region 6 with (fail)
  go_upto_region 7 with (first | (refine wpList_load_H 0 hH rfl rfl 22 _ rfl rfl isRowB (sizeRow _) ?_) | (refine wpList_load_H 1 hH rfl rfl 22 _ rfl rfl isRowB (sizeRow _) ?_) | (go_at_call 9; refine (hc _).mono ?_; rintro e w5 ⟨rfl, hb⟩; have hH := hH.call hb; clear hb) | (refine wpList_alloc_H hH rfl (some 6) rfl 22 rfl _ z32B ?_; clear hH; intro gs w6 hH; simp only [List.nil_append, List.cons_append] at hH) | (refine wpList_store_H 2 hH rfl rfl 22 _ _ rfl rfl rfl (sizeRow _) (sizeEq _ _) (row_one _ _) ?_; clear hH; intro ws hH; simp only [List.set_cons_zero, List.set_cons_succ] at hH))
  go_wp2_with (refine wpList_load_HG 2 hH rfl 22 _ rfl rfl (by kernel_rfl) isRowB (sizeRow _) ?_)
  exact bodyPost_ret (results_tmp rfl _ _ _) rfl ⟨rfl, hH.toBelow⟩

set_option maxHeartbeats 4000000 in
theorem small_1_2 (s : Nat → UInt8) (x : UInt8) (h2 : x.toNat % 2 = 1) (h3 : x.toNat % 3 = 2) (w : World) : Calls Try.prog 7 #[vB s, .int .u8 (x.toNat : Int)] w fun e w' => e = .returned (.bool true) ∧ Below w.heap.size w w' := by
  have hc := fun W => shared_none s (bF (-1)) (none_less s) W
  have hE : ∀ w : World, (Op.equalIn 10000 22 (.agg (row 32 fun _ => 0)) (.agg (row 32 fun _ => 0))).run Try.prog w = .ok true w := fun w => by rw [run_sameIn _ 32 und32B, sameB_self]
  obtain ⟨v, hv⟩ : ∃ v : Int, v = (x.toNat : Int) := ⟨_, rfl⟩
  have hlt := x.toNat_lt
  have a1 : v.tmod 2 = 1 := by rw [hv, Int.tmod_eq_emod_of_nonneg (by omega)]; omega
  have a2 : v % 2 = 1 := by omega
  have a3 : v.tmod 3 = 2 := by rw [hv, Int.tmod_eq_emod_of_nonneg (by omega)]; omega
  have a4 : v % 3 = 2 := by omega
  rw [← hv]
  have hv0 : 0 ≤ v := by omega
  have hv1 : v < 256 := by omega
  clear hv h2 h3 hlt
  have hz := nil32
  have ho := set32_1
  go_enter Try.func7, Try.ntmps7
  have hH := Hold.init w
  go_upto_region 3 with (first | (refine wpList_box_H hH rfl (some 2) rfl 22 _ rfl _ rfl ?_; clear hH; intro g101 w102 hH; simp only [List.nil_append] at hH) | (go_at_call 8; refine (awake_c _).mono ?_; rintro e w5 ⟨rfl, hb⟩; have hH := hH.call hb; clear hb))
  go_upto_region 4 with (first | (refine wpList_alloc_H hH rfl (some 5) rfl 22 rfl _ z32B ?_; clear hH; intro gu w5 hH; simp only [List.nil_append, List.cons_append] at hH) | (refine wpList_store_H 1 hH rfl rfl 22 _ _ rfl rfl rfl (sizeRow _) (sizeEq _ _) (row_one _ _) ?_; clear hH; intro wu hH; simp only [List.set_cons_zero, List.set_cons_succ] at hH))
  go_upto_region 6 with (first | (go_at_call 17; refine (less_one _).mono ?_; rintro e w5 ⟨rfl, hb⟩; have hH := hH.call hb; clear hb) | (refine wpList_store_H 1 hH rfl rfl 22 _ _ rfl rfl rfl (sizeRow _) (sizeEq _ _) (row_one _ _) ?_; clear hH; intro wv hH; simp only [List.set_cons_zero, List.set_cons_succ] at hH))
  go_upto_region 7 with (first | (refine wpList_load_H 0 hH rfl rfl 22 _ rfl rfl isRowB (sizeRow _) ?_) | (refine wpList_load_H 1 hH rfl rfl 22 _ rfl rfl isRowB (sizeRow _) ?_) | (go_at_call 9; refine (hc _).mono ?_; rintro e w5 ⟨rfl, hb⟩; have hH := hH.call hb; clear hb) | (refine wpList_alloc_H hH rfl (some 6) rfl 22 rfl _ z32B ?_; clear hH; intro gs w6 hH; simp only [List.nil_append, List.cons_append] at hH) | (refine wpList_store_H 2 hH rfl rfl 22 _ _ rfl rfl rfl (sizeRow _) (sizeEq _ _) (row_one _ _) ?_; clear hH; intro ws hH; simp only [List.set_cons_zero, List.set_cons_succ] at hH))
  go_wp2_with (refine wpList_load_HG 2 hH rfl 22 _ rfl rfl (by kernel_rfl) isRowB (sizeRow _) ?_)
  exact bodyPost_ret (results_tmp rfl _ _ _) rfl ⟨rfl, hH.toBelow⟩

theorem small_w (s : Nat → UInt8) (x : UInt8) (w : World) : Calls Try.prog 7 #[vB s, .int .u8 (x.toNat : Int)] w fun e w' => e = .returned (.bool true) ∧ Below w.heap.size w w' := by
  have h2 : x.toNat % 2 = 0 ∨ x.toNat % 2 = 1 := by omega
  have h3 : x.toNat % 3 = 0 ∨ x.toNat % 3 = 1 ∨ x.toNat % 3 = 2 := by omega
  rcases h2 with h2 | h2 <;> rcases h3 with h3 | h3 | h3
  · exact small_0_0 s x h2 h3 w
  · exact small_0_1 s x h2 h3 w
  · exact small_0_2 s x h2 h3 w
  · exact small_1_0 s x h2 h3 w
  · exact small_1_1 s x h2 h3 w
  · exact small_1_2 s x h2 h3 w
end Go.Proofs.Ytchojbhmfjibmaa

namespace Go.Proofs.Ytchojbhmfjibmaa
open Go Go.RowKit
set_option maxRecDepth 100000

theorem und8W : Try.prog.underlying 54 = some (.array 8 34) := by kernel_rfl
theorem size8W : (Try.prog.info? 54).map (·.size) = some 8 := by kernel_rfl
theorem z8W : (Try.prog.info? 54).bind (·.zero) = some (.agg (row64 8 fun _ => 0)) := by kernel_rfl
theorem zero8 : (#[Value.int IntKind.u64 0, Value.int IntKind.u64 0, Value.int IntKind.u64 0, Value.int IntKind.u64 0, Value.int IntKind.u64 0, Value.int IntKind.u64 0, Value.int IntKind.u64 0, Value.int IntKind.u64 0] : Array Value) = row64 8 (fun _ => 0) := by rfl
theorem add64_0 (x y : Nat) (w : World) : (callFunc 35 #[.int .u64 (x : Int), .int .u64 (y : Int), .int .u64 0]).run Try.prog w =
    .ok (.value (.tuple #[.int .u64 (((x + y) % 18446744073709551616 : Nat) : Int), .int .u64 (((x + y) / 18446744073709551616 : Nat) : Int)])) w := add64_n x y 0 (by decide) w
theorem times_new (w : World) (tn tw : TypeId) (f g k l : Nat → UInt64) :
    Row64 ((((w.alloc (.cells (row64 4 f) tn)).alloc (.cells (row64 4 g) tn)).alloc (.cells (row64 4 k) tn)).alloc (.cells (row64 8 l) tw)) w.heap.size tn 4 f ∧
    Row64 ((((w.alloc (.cells (row64 4 f) tn)).alloc (.cells (row64 4 g) tn)).alloc (.cells (row64 4 k) tn)).alloc (.cells (row64 8 l) tw)) (w.heap.size + 1) tn 4 g ∧
    Row64 ((((w.alloc (.cells (row64 4 f) tn)).alloc (.cells (row64 4 g) tn)).alloc (.cells (row64 4 k) tn)).alloc (.cells (row64 8 l) tw)) (w.heap.size + 1 + 1) tn 4 k ∧
    Row64 ((((w.alloc (.cells (row64 4 f) tn)).alloc (.cells (row64 4 g) tn)).alloc (.cells (row64 4 k) tn)).alloc (.cells (row64 8 l) tw)) (w.heap.size + 1 + 1 + 1) tw 8 l ∧
    Below w.heap.size w ((((w.alloc (.cells (row64 4 f) tn)).alloc (.cells (row64 4 g) tn)).alloc (.cells (row64 4 k) tn)).alloc (.cells (row64 8 l) tw)) ∧
    ((((w.alloc (.cells (row64 4 f) tn)).alloc (.cells (row64 4 g) tn)).alloc (.cells (row64 4 k) tn)).alloc (.cells (row64 8 l) tw)).heap.size = w.heap.size + 1 + 1 + 1 + 1 := by
  obtain ⟨h1, h2, h3, h4⟩ := three_new64 w tn f g k
  have h := Row64.new (((w.alloc (.cells (row64 4 f) tn)).alloc (.cells (row64 4 g) tn)).alloc (.cells (row64 4 k) tn)) tw 8 l
  simp only [World.size_alloc] at h
  exact ⟨h1.alloc _, h2.alloc _, h3.alloc _, h, h4.alloc (by simp; omega) _, by simp⟩
theorem Row64.setN {w : World} {g : Nat} {t : TypeId} {n : Nat} {f : Nat → UInt64} (h : Row64 w g t n f) (i v : Nat) (hv : v < 18446744073709551616) :
    Row64 (w.setCell ⟨g, i, none⟩ (.int .u64 (v : Int))) g t n fun j => if j = i then UInt64.ofNat v else f j := by
  have := h.set_ i (UInt64.ofNat v)
  rw [UInt64.toNat_ofNat', Nat.mod_eq_of_lt hv] at this
  exact this
theorem fourW (L : Nat) : (#[Value.int IntKind.u64 (wd L 0 : Int), Value.int IntKind.u64 (wd L 1 : Int), Value.int IntKind.u64 (wd L 2 : Int), Value.int IntKind.u64 (wd L 3 : Int)] : Array Value) = row64 4 (words L) := by
  show _ = #[by64 (words L 0), by64 (words L 1), by64 (words L 2), by64 (words L 3)]
  unfold by64
  rw [words_int, words_int, words_int, words_int]
/-- A sum of two words, and what is carried, under names that no rewriting opens. -/
def aL (x y : Nat) : Nat := (x + y) % 18446744073709551616
def aC (x y : Nat) : Nat := (x + y) / 18446744073709551616
theorem add64_l (x y : Nat) (w : World) : (callFunc 35 #[.int .u64 (x : Int), .int .u64 (y : Int), .int .u64 0]).run Try.prog w =
    .ok (.value (.tuple #[.int .u64 (aL x y : Int), .int .u64 (aC x y : Int)])) w := add64_n x y 0 (by decide) w
/-- One word's product and two sums: the words, and that nothing wraps. -/
theorem hi_lo (P W C : Nat) (hP : P ≤ 18446744073709551615 * 18446744073709551615) (hW : W < 18446744073709551616) (hC : C < 18446744073709551616) :
    ((wd P 0 + W) % 18446744073709551616 + C) % 18446744073709551616 = (P + W + C) % 18446744073709551616 ∧
    wd P 1 + (wd P 0 + W) / 18446744073709551616 < 18446744073709551616 ∧
    wd P 1 + (wd P 0 + W) / 18446744073709551616 + ((wd P 0 + W) % 18446744073709551616 + C) / 18446744073709551616 = (P + W + C) / 18446744073709551616 ∧
    (P + W + C) / 18446744073709551616 < 18446744073709551616 := by
  unfold wd
  refine ⟨by omega, by omega, by omega, by omega⟩

set_option maxHeartbeats 8000000 in
theorem rtimes_c (a b : Nat) (ha : a < 2 ^ 256) (hb : b < 2 ^ 256) (w : World) : Calls Try.prog 25 #[(.agg (row64 4 (words (a)))), (.agg (row64 4 (words (b))))] w fun e w' => e = .returned (.agg (row64 4 (words (tm a b)))) ∧ Below w.heap.size w w' := by
  go_enter Try.func25, Try.ntmps25
  go_wp2
  rw [zero4, zero8]
  have hall := times_new w 36 54 (words a) (words b) (fun _ => 0) (fun _ => 0)
  revert hall
  generalize (((w.alloc (.cells (row64 4 (words a)) 36)).alloc (.cells (row64 4 (words b)) 36)).alloc (.cells (row64 4 fun _ => 0) 36)).alloc (.cells (row64 8 fun _ => 0) 54) = w1
  intro hall
  go_loopw [19] (fun i_ wr => ∃ i : Nat, i ≤ 4 ∧ i_ = .int .i64 i ∧ (Row64 wr w.heap.size 36 4 (words a) ∧ Row64 wr (w.heap.size + 1) 36 4 (words b) ∧ Row64 wr (w.heap.size + 1 + 1) 36 4 (fun _ => 0) ∧ Below w.heap.size w wr ∧ wr.heap.size = w.heap.size + 1 + 1 + 1 + 1) ∧ Row64 wr (w.heap.size + 1 + 1 + 1) 54 8 (words (pX a b i 0))) (fun i_ _ => 4 - (intOf i_).toNat)
  case atStart =>
    obtain ⟨h1, h2, h3, h4, h5, h6⟩ := hall
    exact ⟨0, by omega, rfl, ⟨h1, h2, h3, h5, h6⟩, h4.congr fun k _ => by rw [pX_none]; unfold words wd; simp⟩
  case round =>
    clear hall
    obtain ⟨i, hi, rfl, hB, hW⟩ := hrel
    by_cases hi4 : i < 4
    · have hi4i : (i : Int) < 4 := by omega
      go_wp2
      go_loopw [7, 22] (fun c_ j_ wr => ∃ j : Nat, j ≤ 4 ∧ j_ = .int .i64 j ∧ c_ = .int .u64 (pC a b i j : Int) ∧ (Row64 wr w.heap.size 36 4 (words a) ∧ Row64 wr (w.heap.size + 1) 36 4 (words b) ∧ Row64 wr (w.heap.size + 1 + 1) 36 4 (fun _ => 0) ∧ Below w.heap.size w wr ∧ wr.heap.size = w.heap.size + 1 + 1 + 1 + 1) ∧ Row64 wr (w.heap.size + 1 + 1 + 1) 54 8 (pW a b i j)) (fun _ j_ _ => 4 - (intOf j_).toNat)
      case atStart => exact ⟨0, by omega, rfl, by rw [pC_zero]; rfl, hB, by rw [pW_zero]; exact hW⟩
      case round =>
        clear hB hW
        obtain ⟨j, hj, rfl, rfl, hB, hW⟩ := hrel
        by_cases hj4 : j < 4
        · have hj4i : (j : Int) < 4 := by omega
          go_wp2
          refine region_seq (fun W' => (Row64 W' w.heap.size 36 4 (words a) ∧ Row64 W' (w.heap.size + 1) 36 4 (words b) ∧ Row64 W' (w.heap.size + 1 + 1) 36 4 (fun _ => 0) ∧ Below w.heap.size w W' ∧ W'.heap.size = w.heap.size + 1 + 1 + 1 + 1) ∧ Row64 W' (w.heap.size + 1 + 1 + 1) 54 8 (pW a b i j)) mixedOrders (by kernel_rfl) (by simp) ⟨⟨hB.1.drew, hB.2.1.drew, hB.2.2.1.drew, hB.2.2.2.1.drew, hB.2.2.2.2⟩, hW.drew⟩ ?_
          clear hB hW
          refine Seq.next ?_ (Sure.val rfl (fun w' hS => ?_)) ?_
          rotate_left 1
          · clear hS
            go_simp
            rfl
          simp only [Act.put, List.setIfInBounds_toArray, List.set_cons_zero, List.set_cons_succ]
          refine Seq.next ?_ (Sure.val rfl (fun w' hS => ?_)) ?_
          rotate_left 1
          · have bi := hi4i
            clear hS
            go_simp
            rfl
          simp only [Act.put, List.setIfInBounds_toArray, List.set_cons_zero, List.set_cons_succ]
          refine Seq.next ?_ (Sure.val rfl (fun w' hS => ?_)) ?_
          rotate_left 1
          · have c := hS.1.1.cellW i hi4
            clear hS
            go_simp
            rfl
          simp only [Act.put, List.setIfInBounds_toArray, List.set_cons_zero, List.set_cons_succ]
          refine Seq.next ?_ (Sure.val rfl (fun w' hS => ?_)) ?_
          rotate_left 1
          · clear hS
            go_simp
            rfl
          simp only [Act.put, List.setIfInBounds_toArray, List.set_cons_zero, List.set_cons_succ]
          refine Seq.next ?_ (Sure.val rfl (fun w' hS => ?_)) ?_
          rotate_left 1
          · have bj := hj4i
            clear hS
            go_simp
            rfl
          simp only [Act.put, List.setIfInBounds_toArray, List.set_cons_zero, List.set_cons_succ]
          refine Seq.next ?_ (Sure.val rfl (fun w' hS => ?_)) ?_
          rotate_left 1
          · have c := hS.1.2.1.cellW j hj4
            clear hS
            go_simp
            rfl
          simp only [Act.put, List.setIfInBounds_toArray, List.set_cons_zero, List.set_cons_succ]
          refine Seq.next (.tuple #[.int .u64 (wd (wd a i * wd b j) 1 : Int), .int .u64 (wd (wd a i * wd b j) 0 : Int)]) (Sure.call (f := 39) (args := #[.int .u64 (wd a i : Int), .int .u64 (wd b j : Int)]) rfl (fun w' => by go_simp) (fun w' hS => (mul64_w _ _ (wd_lt a i) (wd_lt b j) w').mono fun e w'' h => ⟨h.1, h.2 ▸ hS⟩)) ?_
          simp only [Act.put, List.setIfInBounds_toArray, List.set_cons_zero, List.set_cons_succ]
          refine Seq.next ?_ (Sure.val rfl (fun w' hS => ?_)) ?_
          rotate_left 1
          · clear hS
            go_simp
            rfl
          simp only [Act.put, List.setIfInBounds_toArray, List.set_cons_zero, List.set_cons_succ]
          refine Seq.next ?_ (Sure.val rfl (fun w' hS => ?_)) ?_
          rotate_left 1
          · clear hS
            go_simp
            rfl
          simp only [Act.put, List.setIfInBounds_toArray, List.set_cons_zero, List.set_cons_succ]
          refine Seq.next ?_ (Sure.val rfl (fun w' hS => ?_)) ?_
          rotate_left 1
          · clear hS
            go_simp
            rfl
          simp only [Act.put, List.setIfInBounds_toArray, List.set_cons_zero, List.set_cons_succ]
          refine Seq.next ?_ (Sure.val rfl (fun w' hS => ?_)) ?_
          rotate_left 1
          · clear hS
            go_simp
            rfl
          simp only [Act.put, List.setIfInBounds_toArray, List.set_cons_zero, List.set_cons_succ]
          refine Seq.last rfl fun w' hS => ?_
          obtain ⟨hB, hW⟩ := hS
          go_simp
          obtain ⟨s, hs⟩ : ∃ s, s = i + j := ⟨_, rfl⟩
          obtain ⟨q1, q2, q3, q4⟩ := hi_lo (wd a i * wd b j) (wd (pX a b i 0) (i + j)) (pC a b i j) (wd_mul_le a b i j) (wd_lt _ _) (pC_lt a b i j)
          obtain ⟨t1, t2⟩ := pX_step a b i j
          have c := hW.cell s (by omega)
          rw [hs, show pW a b i j (i + j) = words (pX a b i 0) (i + j) by unfold pW; rw [if_neg (by omega)], words_int] at c
          rw [← hs] at c
          have c3 := hW.frozen s
          have e1 : IntKind.i64.wrap ((i : Int) + (j : Int)) = (s : Int) := by rw [IntWalk.i64_in _ (by omega)]; omega
          have e2 : (i : Int) + (j : Int) = (s : Int) := by omega
          have e3 : (s : Int) < 8 := by omega
          have g1 : IntKind.u64.wrap ((wd (wd a i * wd b j) 1 : Int) + (aC (wd (wd a i * wd b j) 0) (wd (pX a b i 0) s) : Int)) = ((wd (wd a i * wd b j) 1 + aC (wd (wd a i * wd b j) 0) (wd (pX a b i 0) s) : Nat) : Int) := by
            rw [IntKind.wrap_u64]; unfold aC; rw [hs]; omega
          have g2 : aL (aL (wd (wd a i * wd b j) 0) (wd (pX a b i 0) s)) (pC a b i j) = wd (pX a b i (j + 1)) s := by
            unfold aL; rw [hs, q1, t1]
          have g3 : IntKind.u64.wrap (((wd (wd a i * wd b j) 1 + aC (wd (wd a i * wd b j) 0) (wd (pX a b i 0) s) : Nat) : Int) + (aC (aL (wd (wd a i * wd b j) 0) (wd (pX a b i 0) s)) (pC a b i j) : Int)) = (pC a b i (j + 1) : Int) := by
            rw [IntKind.wrap_u64]; unfold aC aL; rw [hs, ← t2, ← q3]; omega
          clear q1 q2 q3 q4 t1 t2
          have hset := hW.setW s (pX a b i (j + 1)) s
          rw [hs, pW_set, ← hs] at hset
          have hset := Lib.hid hset
          have HS := Lib.hid hs
          clear hs
          generalize wd (wd a i * wd b j) 1 + aC (wd (wd a i * wd b j) 0) (wd (pX a b i 0) s) = h1 at *
          generalize wd (wd a i * wd b j) 1 = p1 at *
          generalize wd (wd a i * wd b j) 0 = p0 at *
          generalize wd (pX a b i 0) s = wv at *
          generalize wd (pX a b i (j + 1)) s = wn at *
          generalize pC a b i j = cv at *
          generalize hcn : pC a b i (j + 1) = cn at *
          have HCN := Lib.hid hcn
          clear hcn
          go_wp2_with (simp only [add64_l])
          refine ⟨⟨j + 1, by omega, by go_num, by rw [HCN.out], ⟨hB.1.far (by first | (simp; done) | (simp; omega)) _, hB.2.1.far (by first | (simp; done) | (simp; omega)) _, hB.2.2.1.far (by first | (simp; done) | (simp; omega)) _, hB.2.2.2.1.setCell (by first | (simp; done) | (simp; omega)) _, by simp [hB.2.2.2.2]⟩, hset.out⟩, ?_⟩
          first | (simp [intOf]; done) | (simp [intOf]; omega)
        · obtain rfl : j = 4 := by omega
          rw [show ((4 : Nat) : Int) = 4 from rfl]
          obtain ⟨s, hs⟩ : ∃ s, s = i + 4 := ⟨_, rfl⟩
          have e1 : IntKind.i64.wrap ((i : Int) + 4) = (s : Int) := by rw [IntWalk.i64_in _ (by omega)]; omega
          have e2 : (i : Int) + 4 = (s : Int) := by omega
          have e3 : (s : Int) < 8 := by omega
          have c := hW.cell s (by omega)
          have c3 := hW.frozen s
          have hset := (hW.setN s (pC a b i 4) (pC_lt a b i 4)).congr (f' := words (pX a b (i + 1) 0)) fun k _ => by rw [hs]; exact pW_top a b i k hb
          have hset := Lib.hid hset
          clear hs
          generalize pC a b i 4 = cv at *
          go_wp2
          refine ⟨⟨i + 1, by omega, by go_num, ⟨hB.1.far (by first | (simp; done) | (simp; omega)) _, hB.2.1.far (by first | (simp; done) | (simp; omega)) _, hB.2.2.1.far (by first | (simp; done) | (simp; omega)) _, hB.2.2.2.1.setCell (by first | (simp; done) | (simp; omega)) _, by simp [hB.2.2.2.2]⟩, hset.out⟩, ?_⟩
          first | (simp [intOf]; done) | (simp [intOf]; omega)
    · obtain rfl : i = 4 := by omega
      rw [show ((4 : Nat) : Int) = 4 from rfl]
      rw [pX_all a b ha] at hW
      have hL := prod_lt ha hb
      have hT : tm a b = fv (f1 (a * b)) := rfl
      have HT := Lib.hid hT
      clear hT
      generalize a * b = L at *
      have c0 := hW.cellW 0 (by omega)
      have c1 := hW.cellW 1 (by omega)
      have c2 := hW.cellW 2 (by omega)
      have c3 := hW.cellW 3 (by omega)
      have hnew := Row64.new wr 36 4 fun _ => 0
      obtain ⟨hB1, hB2, hB3, hB4, hB5⟩ := hB
      have hsz := Lib.hid hB5
      clear hB1 hB2 hB5
      have hB3 := hB3.alloc (.cells (row64 4 fun _ => 0) 36)
      have hB4 := hB4.alloc hB4.size (.cells (row64 4 fun _ => 0) 36)
      have hW1 := hW.alloc (.cells (row64 4 fun _ => 0) 36)
      go_upto_region 21 with (first | (refine wpList_alloc_Row64 rfl 36 rfl 4 zNum ?_) | (refine wpList_store_Row64 rfl 36 _ _ rfl wr.heap.size rfl 36 4 _ (words L) (congrArg Value.agg (fourW L)) hnew sizeNum ?_))
      have hall : Row64 ((wr.alloc (.cells (row64 4 fun _ => 0) 36)).setRow wr.heap.size (row64 4 (words L))) (w.heap.size + 1 + 1) 36 4 (fun _ => 0) ∧ Row64 ((wr.alloc (.cells (row64 4 fun _ => 0) 36)).setRow wr.heap.size (row64 4 (words L))) (w.heap.size + 1 + 1 + 1) 54 8 (words L) ∧ Row64 ((wr.alloc (.cells (row64 4 fun _ => 0) 36)).setRow wr.heap.size (row64 4 (words L))) wr.heap.size 36 4 (words L) ∧ Below w.heap.size w ((wr.alloc (.cells (row64 4 fun _ => 0) 36)).setRow wr.heap.size (row64 4 (words L))) :=
        ⟨hB3.setRow_far (by rw [hsz.out]; omega) _, hW1.setRow_far (by rw [hsz.out]; omega) _, hnew.setRow _, below_setRow8 hB4 (by rw [hsz.out]; omega) _⟩
      clear hB3 hB4 hW1 hW hnew c0 c1 c2 c3
      revert hall hsz
      generalize (wr.alloc (.cells (row64 4 fun _ => 0) 36)).setRow wr.heap.size (row64 4 (words L)) = w2
      generalize wr.heap.size = g
      rintro ⟨rfl⟩ hall
      (try simp only [Act.put])
      go_wp2
      go_loopw [13, 14, 78] (fun h_ c_ i_ wr => ∃ i : Nat, i ≤ 4 ∧ i_ = .int .i64 i ∧ h_ = .int .u64 (hC (L / 2 ^ 256) i : Int) ∧ c_ = .int .u64 (cry L (38 * (L / 2 ^ 256)) i : Int) ∧ Row64 wr (w.heap.size + 1 + 1) 36 4 (fun _ => 0) ∧ Row64 wr (w.heap.size + 1 + 1 + 1) 54 8 (words L) ∧ Row64 wr (w.heap.size + 1 + 1 + 1 + 1) 36 4 (upto64 i (words (L + 38 * (L / 2 ^ 256))) (words L)) ∧ Below w.heap.size w wr) (fun _ _ i_ _ => 4 - (intOf i_).toNat)
      case atStart =>
        obtain ⟨h1, h2, h3, h4⟩ := hall
        exact ⟨0, by omega, rfl, by rw [hC_zero]; rfl, by rw [cry_zero]; rfl, h1, h2, by rw [upto64_zero]; exact h3, h4⟩
      case round =>
        clear hall
        obtain ⟨i, hi, rfl, rfl, rfl, h1, h2, h3, h4⟩ := hrel
        by_cases hi4 : i < 4
        · have hi4i : (i : Int) < 4 := by omega
          obtain ⟨s, hs⟩ : ∃ s, s = i + 4 := ⟨_, rfl⟩
          have e1 : IntKind.i64.wrap ((i : Int) + 4) = (s : Int) := by rw [IntWalk.i64_in _ (by omega)]; omega
          have e2 : (i : Int) + 4 = (s : Int) := by omega
          have e3 : (s : Int) < 8 := by omega
          have c := h2.cellW s (by omega)
          rw [hs, wd_up, ← hs] at c
          obtain ⟨t1, t2⟩ := hC_step (L / 2 ^ 256) i
          have hP : wd (L / 2 ^ 256) i * 38 ≤ 18446744073709551615 * 38 := Nat.mul_le_mul_right _ (by have := wd_lt (L / 2 ^ 256) i; omega)
          have hcl := hC_le (L / 2 ^ 256) i
          obtain ⟨q1, q2, q3, q4⟩ := hi_lo (wd (L / 2 ^ 256) i * 38) 0 (hC (L / 2 ^ 256) i) (by omega) (by decide) (by omega)
          have g2 : aL (wd (wd (L / 2 ^ 256) i * 38) 0) (hC (L / 2 ^ 256) i) = wd (38 * (L / 2 ^ 256)) i := by
            unfold aL; rw [← t1]; unfold wd; omega
          have g3 : IntKind.u64.wrap ((wd (wd (L / 2 ^ 256) i * 38) 1 : Int) + (aC (wd (wd (L / 2 ^ 256) i * 38) 0) (hC (L / 2 ^ 256) i) : Int)) = (hC (L / 2 ^ 256) (i + 1) : Int) := by
            rw [IntKind.wrap_u64, ← t2]; unfold aC
            have := hC_le (L / 2 ^ 256) (i + 1)
            rw [← t2] at this
            unfold wd at *
            omega
          have hm := fun W => mul64_w (wd (L / 2 ^ 256) i) 38 (wd_lt _ _) (by decide) W
          have ha := fun W => add64_w L (38 * (L / 2 ^ 256)) i W
          have c5 := h3.cell i hi4
          rw [upto64_at, words_int] at c5
          have c6 := h3.frozen i
          have hset := h3.setW i (L + 38 * (L / 2 ^ 256)) i
          rw [upto64_succ] at hset
          have hset := Lib.hid hset
          clear q1 q2 q3 q4 t1 t2 hP hcl hs ha
          generalize hK : 38 * (L / 2 ^ 256) = K at *
          generalize hH : L / 2 ^ 256 = H at *
          generalize hcn : hC H (i + 1) = cn at *
          have HCN := Lib.hid hcn
          clear hcn
          generalize wd (wd H i * 38) 1 = p1 at *
          generalize wd (wd H i * 38) 0 = p0 at *
          go_wp2_with (first | (go_at_call 39; refine (hm _).mono ?_; rintro e w' ⟨rfl, rfl⟩) | simp only [add64_l] | simp only [add64_w L K i])
          refine ⟨⟨i + 1, by omega, by go_num, by rw [HCN.out], rfl, h1.far (by first | (simp; done) | (simp; omega)) _, h2.far (by first | (simp; done) | (simp; omega)) _, hset.out, h4.setCell (by first | (simp; done) | (simp; omega)) _⟩, ?_⟩
          first | (simp [intOf]; done) | (simp [intOf]; omega)
        · obtain rfl : i = 4 := by omega
          rw [show ((4 : Nat) : Int) = 4 from rfl]
          have h3 := h3.congr (f' := words (L + 38 * (L / 2 ^ 256))) fun j hj => upto64_all _ _ _ hj
          have h3 := h3.congr (f' := words ((L + 38 * (L / 2 ^ 256)) % 2 ^ 256)) fun i hi => (words_mod (L + 38 * (L / 2 ^ 256)) 4 i hi).symm
          have hend := tm_end L hL
          have hc1 := hC_le (L / 2 ^ 256) 4
          have hc2 := cry_le L (38 * (L / 2 ^ 256)) 4
          have e1 : IntKind.u64.wrap ((hC (L / 2 ^ 256) 4 : Int) + (cry L (38 * (L / 2 ^ 256)) 4 : Int)) = ((hC (L / 2 ^ 256) 4 + cry L (38 * (L / 2 ^ 256)) 4 : Nat) : Int) := by rw [IntKind.wrap_u64]; omega
          have hf := fun W => rfold_c ((L + 38 * (L / 2 ^ 256)) % 2 ^ 256) (hC (L / 2 ^ 256) 4 + cry L (38 * (L / 2 ^ 256)) 4) (Nat.mod_lt _ (by decide)) (by omega) W
          rw [hend] at hf
          clear hend hc1 hc2
          generalize hC (L / 2 ^ 256) 4 + cry L (38 * (L / 2 ^ 256)) 4 = z at *
          generalize hC (L / 2 ^ 256) 4 = z1 at *
          generalize cry L (38 * (L / 2 ^ 256)) 4 = z2 at *
          generalize (L + 38 * (L / 2 ^ 256)) % 2 ^ 256 = z3 at *
          go_wp2_with (first | (refine wpList_load_Row64 rfl 36 _ rfl (w.heap.size + 1 + 1 + 1 + 1) rfl 36 4 _ _ h3 undNum sizeNum ?_) | (go_at_call 36; refine (hf _).mono ?_; rintro e w5 ⟨rfl, hw5⟩; have h1 := h1.below hw5 h1.lt) | (refine wpList_store_Row64 rfl 36 _ _ rfl (w.heap.size + 1 + 1) rfl 36 4 _ _ rfl h1 sizeNum ?_))
          exact ret_Row64 rfl rfl _ _ 4 _ _ rfl (h1.setRow _) undNum sizeNum ⟨by rw [HT.out], below_setRow8 (h4.trans (hw5.mono h4.size)) (by omega) _⟩
end Go.Proofs.Ytchojbhmfjibmaa

namespace Go.Proofs.Ytchojbhmfjibmaa
open Go Go.RowKit
set_option maxRecDepth 100000

theorem isRowNum : (Try.prog.underlying 36).map (·.isRow) = some true := by kernel_rfl
theorem sizeNum4 (f : Nat → UInt64) : (Try.prog.info? 36).map (·.size) = some (row64 4 f).size := by rw [row64_size]; exact sizeNum
theorem sizeEq4 (f g : Nat → UInt64) : (row64 4 f).size = (row64 4 g).size := by rw [row64_size, row64_size]
theorem zNum0 : (Try.prog.info? 36).bind (·.zero) = some (.agg (row64 4 (words 0))) := by kernel_rfl

/-- a to the power e, bit by bit from the highest of 256. -/
def rpow (a e : Nat) : Nat → Nat
  | 0 => 1
  | i + 1 => if e / 2 ^ (255 - i) % 2 = 1 then tm (tm (rpow a e i) (rpow a e i)) a else tm (rpow a e i) (rpow a e i)
theorem rpow_lt {a e : Nat} (ha : a < 2 ^ 256) : ∀ i, rpow a e i < 2 ^ 256
  | 0 => by show 1 < 2 ^ 256; decide
  | i + 1 => by
    have h := rpow_lt (e := e) ha i
    show (if _ then _ else _) < 2 ^ 256
    split
    · exact tm_lt (tm_lt h h) ha
    · exact tm_lt h h
theorem toF_rpow {a e : Nat} (he : e < 2 ^ 256) : ∀ i, i ≤ 256 → toF (rpow a e i) = pw (toF a) (e / 2 ^ (256 - i))
  | 0, _ => by
    rw [Nat.sub_zero, Nat.div_eq_of_lt he]
    show toF 1 = 1
    decide +kernel
  | i + 1, hi => by
    have h := toF_rpow (a := a) he i (by omega)
    have e1 : 256 - i = (255 - i) + 1 := by omega
    have e2 : 256 - (i + 1) = 255 - i := by omega
    rw [e1, Nat.pow_succ, ← Nat.div_div_eq_div_mul] at h
    rw [e2]
    generalize hx : e / 2 ^ (255 - i) = x at *
    have hd := Nat.div_add_mod x 2
    show toF (if e / 2 ^ (255 - i) % 2 = 1 then tm (tm (rpow a e i) (rpow a e i)) a else tm (rpow a e i) (rpow a e i)) = _
    rw [hx]
    split
    · rename_i hb
      have e3 : x = (x / 2 + x / 2) + 1 := by omega
      rw [toF_tm, toF_tm, h, ← pw_add]
      conv => rhs; rw [e3]
      rfl
    · rename_i hb
      have e3 : x = x / 2 + x / 2 := by omega
      rw [toF_tm, h, ← pw_add]
      conv => rhs; rw [e3]
theorem rpow_next {a e j b : Nat} (hj : j < 256) (hb : e / 2 ^ j % 2 = b) : rpow a e (256 - j) = if b = 1 then tm (tm (rpow a e (256 - (j + 1))) (rpow a e (256 - (j + 1)))) a else tm (rpow a e (256 - (j + 1))) (rpow a e (256 - (j + 1))) := by
  have e1 : 256 - j = (256 - (j + 1)) + 1 := by omega
  have e2 : 255 - (256 - (j + 1)) = j := by omega
  rw [e1]
  show (if e / 2 ^ (255 - (256 - (j + 1))) % 2 = 1 then _ else _) = _
  rw [e2, hb]
theorem and1_of {x k b : Nat} (h : x / 2 ^ k % 2 = b) (hx : x < 18446744073709551616) : bits .and .u64 ((x : Int) / 2 ^ k) 1 = (b : Int) := by
  have h1 : ((x : Int) / 2 ^ k) = ((x / 2 ^ k : Nat) : Int) := by rw [Int.natCast_ediv]; congr 1
  have hlt : x / 2 ^ k < 18446744073709551616 := Nat.lt_of_le_of_lt (Nat.div_le_self _ _) hx
  have h2 := u64_and_nat (x / 2 ^ k) 1 hlt (by decide)
  rw [Nat.and_one_is_mod, h] at h2
  rw [h1]
  exact h2
theorem bit_wd (e j : Nat) : wd e (j / 64) / 2 ^ (j % 64) % 2 = e / 2 ^ j % 2 := by
  unfold wd
  have e1 : (2 : Nat) ^ j = 2 ^ (64 * (j / 64)) * 2 ^ (j % 64) := by rw [← Nat.pow_add]; congr 1; omega
  rw [e1, ← Nat.div_div_eq_div_mul]
  generalize e / 2 ^ (64 * (j / 64)) = v
  have hr : j % 64 < 64 := Nat.mod_lt _ (by decide)
  generalize j % 64 = r at *
  have e2 : (18446744073709551616 : Nat) = 2 ^ r * (2 * 2 ^ (63 - r)) := by
    rw [show (18446744073709551616 : Nat) = 2 ^ 64 from rfl, ← Nat.pow_succ', ← Nat.pow_add]
    congr 1; omega
  rw [e2, Nat.mod_mul_right_div_self, Nat.mod_mul_right_mod]

set_option maxHeartbeats 4000000 in
theorem power_c (a e : Nat) (ha : a < 2 ^ 256) (w : World) : Calls Try.prog 40 #[.agg (row64 4 (words a)), .agg (row64 4 (words e))] w fun x w' => x = .returned (.agg (row64 4 (words (rpow a e 256)))) ∧ Below w.heap.size w w' := by
  obtain ⟨z1, lz1, ez1, cz1⟩ : ∃ z, z < 2 ^ 256 ∧ Hid (z = 1) ∧ ∀ W, Calls Try.prog 22 #[.int .u64 1] W fun e w' => e = .returned (.agg (row64 4 (words z))) ∧ Below W.heap.size W w' := ⟨1, by decide, rfl, fun W => rsmall_c 1 (by decide) W⟩
  go_enter Try.func40, Try.ntmps40
  have hH := Hold.init w
  go_upto_region 2 with (first | (refine wpList_box_H hH rfl (some 2) rfl 36 _ rfl _ rfl ?_; clear hH; intro g2 w3 hH; simp only [List.nil_append] at hH) | (refine wpList_box_H hH rfl (some 3) rfl 36 _ rfl _ rfl ?_; clear hH; intro g4 w5 hH; simp only [List.nil_append, List.cons_append] at hH) | (refine wpList_alloc_H hH rfl (some 4) rfl 36 rfl _ zNum0 ?_; clear hH; intro g6 w7 hH; simp only [List.nil_append, List.cons_append] at hH) | (go_at_call 22; refine (cz1 _).mono ?_; rintro e w5 ⟨rfl, hb⟩; have hH := hH.call hb; clear hb) | (refine wpList_alloc_H hH rfl (some 5) rfl 36 rfl _ zNum0 ?_; clear hH; intro g8 w9 hH; simp only [List.nil_append, List.cons_append] at hH) | (refine wpList_store_H 3 hH rfl rfl 36 _ _ rfl rfl rfl (sizeNum4 _) (sizeEq4 _ _) (row64_one 4 _) ?_; clear hH; intro w10 hH; simp only [List.set_cons_zero, List.set_cons_succ] at hH))
  have e1 : z1 = rpow a e (256 - 256) := ez1.out
  rw [e1] at hH; clear e1 ez1 cz1 lz1
  go_wp2
  go_loopw [6] (fun i_ wr => ∃ r : Nat, r ≤ 256 ∧ i_ = .int .i64 ((r : Int) - 1) ∧ Hold w [] [bl g2 36 (row64 4 (words a)), bl g4 36 (row64 4 (words e)), bl g6 36 (row64 4 (words 0)), bl g8 36 (row64 4 (words (rpow a e (256 - r))))] wr) (fun i_ _ => (intOf i_ + 1).toNat)
  case atStart => exact ⟨256, by omega, rfl, hH⟩
  case round =>
    clear hH
    obtain ⟨r, hr, rfl, hH⟩ := hrel
    rcases Nat.eq_zero_or_pos r with hr0 | hr0
    rotate_left 1
    · obtain ⟨j, rfl⟩ : ∃ j, r = j + 1 := ⟨r - 1, by omega⟩
      have ei : (((j + 1 : Nat) : Int) - 1) = (j : Int) := by omega
      rw [ei]; clear ei
      obtain ⟨z, hz⟩ : ∃ z, Hid (z = rpow a e (256 - (j + 1))) := ⟨_, rfl⟩
      rw [← hz.out] at hH
      have lz : z < 2 ^ 256 := by rw [hz.out]; exact rpow_lt ha _
      obtain ⟨t, ht, lt⟩ : ∃ t, Hid (t = tm z z) ∧ t < 2 ^ 256 := ⟨_, rfl, tm_lt lz lz⟩
      obtain ⟨u, hu, lu⟩ : ∃ u, Hid (u = tm t a) ∧ u < 2 ^ 256 := ⟨_, rfl, tm_lt lt ha⟩
      have ct : ∀ W, Calls Try.prog 25 #[(.agg (row64 4 (words z))), (.agg (row64 4 (words z)))] W fun e w' => e = .returned (.agg (row64 4 (words t))) ∧ Below W.heap.size W w' := fun W => by have h := rtimes_c z z lz lz W; rw [← ht.out] at h; exact h
      have cu : ∀ W, Calls Try.prog 25 #[(.agg (row64 4 (words t))), (.agg (row64 4 (words a)))] W fun e w' => e = .returned (.agg (row64 4 (words u))) ∧ Below W.heap.size W w' := fun W => by have h := rtimes_c t a lt ha W; rw [← hu.out] at h; exact h
      obtain ⟨q, hq⟩ : ∃ q, q = j / 64 := ⟨_, rfl⟩
      obtain ⟨k, hk⟩ : ∃ k, k = j % 64 := ⟨_, rfl⟩
      have hbit : wd e q / 2 ^ k % 2 = e / 2 ^ j % 2 := by rw [hq, hk]; exact bit_wd e j
      have hq1 : (q : Int) < 4 := by omega
      have HQ := Lib.hid (And.intro (show (j : Int).tdiv 64 = (q : Int) by rw [Int.tdiv_eq_ediv_of_nonneg (by omega)]; omega) (And.intro (show (j : Int) / 64 = (q : Int) by omega) (show IntKind.i64.wrap (q : Int) = (q : Int) by rw [IntWalk.i64_in _ (by omega)])))
      have HR := Lib.hid (And.intro (show (j : Int).tmod 64 = (k : Int) by rw [Int.tmod_eq_emod_of_nonneg (by omega)]; omega) (And.intro (show (j : Int) % 64 = (k : Int) by omega) (show IntKind.i64.wrap (k : Int) = (k : Int) by rw [IntWalk.i64_in _ (by omega)])))
      have hk64 : k < 64 := by omega
      have HB := Lib.hid hbit
      clear hq hk hbit
      go_upto_region 6 with (first | (refine wpList_load_H 3 hH rfl rfl 36 _ rfl rfl isRowNum (sizeNum4 _) ?_) | (go_at_call 25; refine (ct _).mono ?_; rintro e w5 ⟨rfl, hb⟩; have hH := hH.call hb; clear hb) | (refine wpList_store_H 3 hH rfl rfl 36 _ _ rfl rfl rfl (sizeNum4 _) (sizeEq4 _ _) (row64_one 4 _) ?_; clear hH; intro w6 hH; simp only [List.set_cons_zero, List.set_cons_succ] at hH))
      clear ct
      have c := (hH.cell 1 rfl q).trans (row64_get 4 (words e) q (by omega))
      unfold by64 at c
      rw [words_nat] at c
      generalize hwd : wd e q = ew at *
      have e1 := HQ.out.1; have e2 := HQ.out.2.1; have e3 := HR.out.1; have e4 := HR.out.2.1; have e5 := HR.out.2.2
      have hew : ew < 18446744073709551616 := by rw [← hwd]; exact wd_lt e q
      clear hwd
      rcases Nat.mod_two_eq_zero_or_one (e / 2 ^ j) with hb0 | hb1
      · have eb : bits .and .u64 ((ew : Int) / 2 ^ k) 1 = 0 := and1_of (by rw [HB.out]; exact hb0) hew
        have hst := rpow_next (a := a) (show j < 256 by omega) hb0
        rw [← hz.out, ← ht.out] at hst
        have HS := Lib.hid hst; clear hst hb0
        go_wp2
        go_roundw
        case rel => exact ⟨j, by omega, by go_num, by rw [HS.out]; exact hH⟩
        case measure => simp [intOf]
      · have eb : bits .and .u64 ((ew : Int) / 2 ^ k) 1 = 1 := and1_of (by rw [HB.out]; exact hb1) hew
        have hst := rpow_next (a := a) (show j < 256 by omega) hb1
        rw [← hz.out, ← ht.out, ← hu.out] at hst
        have HS := Lib.hid hst; clear hst hb1
        go_wp2_with (first | (refine wpList_load_H 3 hH rfl rfl 36 _ rfl rfl isRowNum (sizeNum4 _) ?_) | (refine wpList_load_H 0 hH rfl rfl 36 _ rfl rfl isRowNum (sizeNum4 _) ?_) | (go_at_call 25; refine (cu _).mono ?_; rintro e w5 ⟨rfl, hb⟩; have hH := hH.call hb; clear hb) | (refine wpList_store_H 3 hH rfl rfl 36 _ _ rfl rfl rfl (sizeNum4 _) (sizeEq4 _ _) (row64_one 4 _) ?_; clear hH; intro w7 hH; simp only [List.set_cons_zero, List.set_cons_succ] at hH))
        go_roundw
        case rel => exact ⟨j, by omega, by go_num, by rw [HS.out]; exact hH⟩
        case measure => simp [intOf]
    · subst hr0
      have ei : (((0 : Nat) : Int) - 1) = -1 := rfl
      rw [ei]; clear ei
      go_wp2_with (first | (refine wpList_load_H 3 hH rfl rfl 36 _ rfl rfl isRowNum (sizeNum4 _) ?_) | (refine wpList_store_H 2 hH rfl rfl 36 _ _ rfl rfl rfl (sizeNum4 _) (sizeEq4 _ _) (row64_one 4 _) ?_; clear hH; intro w8 hH; simp only [List.set_cons_zero, List.set_cons_succ] at hH))
      exact ret_H 2 hH rfl rfl rfl rfl isRowNum (sizeNum4 _) ⟨rfl, hH.toBelow⟩

theorem cell_p2 : (row64 4 (words pN)).setIfInBounds 0 (by64 18446744073709551595) = row64 4 (words (pN - 2)) := by kernel_rfl
theorem cell_p0 : (row64 4 (words pN))[0]? = some (.int .u64 18446744073709551597) := by kernel_rfl
/-- The inverse, as the document reckons it. -/
def riv (a : Nat) : Nat := rpow a (pN - 2) 256
theorem riv_lt {a : Nat} (ha : a < 2 ^ 256) : riv a < 2 ^ 256 := rpow_lt ha 256
theorem toF_riv (a : Nat) : toF (riv a) = ivF (toF a) := by
  have h := toF_rpow (a := a) (e := pN - 2) (by decide) 256 (Nat.le_refl _)
  rw [Nat.sub_self, Nat.pow_zero, Nat.div_one] at h
  exact h

set_option maxHeartbeats 4000000 in
theorem inverse_r (a : Nat) (ha : a < 2 ^ 256) (w : World) : Calls Try.prog 27 #[.agg (row64 4 (words a))] w fun x w' => x = .returned (.agg (row64 4 (words (riv a)))) ∧ Below w.heap.size w w' := by
  have cp : ∀ W, Calls Try.prog 29 #[] W fun e w' => e = .returned (.agg (row64 4 (words pN))) ∧ Below W.heap.size W w' := fun W => rp_c W
  obtain ⟨z, hz, cz⟩ : ∃ z, Hid (z = riv a) ∧ ∀ W, Calls Try.prog 40 #[(.agg (row64 4 (words a))), (.agg (row64 4 (words (pN - 2))))] W fun e w' => e = .returned (.agg (row64 4 (words z))) ∧ Below W.heap.size W w' := ⟨_, rfl, fun W => power_c a (pN - 2) ha W⟩
  go_enter Try.func27, Try.ntmps27
  have hH := Hold.init w
  go_upto_region 2 with (first | (refine wpList_box_H hH rfl (some 1) rfl 36 _ rfl _ rfl ?_; clear hH; intro g1 w2 hH; simp only [List.nil_append] at hH) | (refine wpList_alloc_H hH rfl (some 2) rfl 36 rfl _ zNum0 ?_; clear hH; intro g3 w4 hH; simp only [List.nil_append, List.cons_append] at hH) | (go_at_call 29; refine (cp _).mono ?_; rintro e w5 ⟨rfl, hb⟩; have hH := hH.call hb; clear hb) | (refine wpList_alloc_H hH rfl (some 3) rfl 36 rfl _ zNum0 ?_; clear hH; intro g5 w6 hH; simp only [List.nil_append, List.cons_append] at hH) | (refine wpList_store_H 2 hH rfl rfl 36 _ _ rfl rfl rfl (sizeNum4 _) (sizeEq4 _ _) (row64_one 4 _) ?_; clear hH; intro w7 hH; simp only [List.set_cons_zero, List.set_cons_succ] at hH))
  have c := (hH.cell 2 rfl 0).trans cell_p0
  go_upto_region 3 with (refine wpList_cell_H 2 hH rfl rfl 34 _ _ rfl (by64 18446744073709551595) rfl rfl size64 (by rw [row64_size]; omega) rfl ?_; clear hH c; intro w30 hH)
  simp only [List.set_cons_zero, List.set_cons_succ, cell_p2] at hH
  go_wp2_with (first | (refine wpList_load_H 0 hH rfl rfl 36 _ rfl rfl isRowNum (sizeNum4 _) ?_) | (refine wpList_load_H 2 hH rfl rfl 36 _ rfl rfl isRowNum (sizeNum4 _) ?_) | (go_at_call 40; refine (cz _).mono ?_; rintro e w5 ⟨rfl, hb⟩; have hH := hH.call hb; clear hb) | (refine wpList_store_H 1 hH rfl rfl 36 _ _ rfl rfl rfl (sizeNum4 _) (sizeEq4 _ _) (row64_one 4 _) ?_; clear hH; intro w8 hH; simp only [List.set_cons_zero, List.set_cons_succ] at hH))
  exact ret_H 1 hH rfl rfl rfl rfl isRowNum (sizeNum4 _) ⟨by rw [hz.out], hH.toBelow⟩
end Go.Proofs.Ytchojbhmfjibmaa

namespace Go.Proofs.Ytchojbhmfjibmaa
open Go Go.RowKit
set_option maxRecDepth 100000

theorem and248_int (x : UInt8) : bits .and .u8 (x.toNat : Int) 248 = ((x &&& 248).toNat : Int) := u8_each (Q := fun x => bits .and .u8 (x.toNat : Int) 248 = ((x &&& 248).toNat : Int)) (by decide +kernel) x
theorem and127_int' (x : UInt8) : bits .and .u8 (x.toNat : Int) 127 = ((x &&& 127).toNat : Int) := u8_each (Q := fun x => bits .and .u8 (x.toNat : Int) 127 = ((x &&& 127).toNat : Int)) (by decide +kernel) x
theorem Hold.first {w0 w : World} {R : List Nat} {L : List (Nat × Obj)} (h : Hold w0 R L w) (k : Nat) : Hold w0 R (L.take k) w := h.sub (List.take_sublist k L)
theorem lad_succ {u : Fin pF} {k j : Nat} (hj : j < 255) : ladTo aF u 255 k (255 - j) = ladStep aF u (k / 2 ^ j % 2 == 1) (ladTo aF u 255 k (255 - (j + 1))) := by
  have e : 255 - j = (255 - (j + 1)) + 1 := by omega
  have e2 : 255 - ((255 - (j + 1)) + 1) = j := by omega
  rw [e]
  show ladStep aF u (k / 2 ^ (255 - ((255 - (j + 1)) + 1)) % 2 == 1) _ = _
  rw [e2]
theorem aF_toF : toF 121665 = aF := by decide +kernel
theorem one_toF : toF 1 = 1 := by decide +kernel
theorem zero_toF : toF 0 = 0 := by decide +kernel

set_option maxHeartbeats 16000000 in
theorem rMul_c (s u : Nat → UInt8) (w : World) : Calls Try.prog 12 #[vB s, vB u] w fun e w' => e = .returned (vB (bF (xmul (kS s) (uS u)))) ∧ Below w.heap.size w w' := by
  obtain ⟨m0, n31, m31, u31, q1, q2, q3, q4, hs, hu⟩ : ∃ m0 n31 m31 u31 : UInt8, bits .and .u8 ((s 0).toNat : Int) 248 = (m0.toNat : Int) ∧ bits .and .u8 ((s 31).toNat : Int) 127 = (n31.toNat : Int) ∧ bits .or .u8 (n31.toNat : Int) 64 = (m31.toNat : Int) ∧ bits .and .u8 ((u 31).toNat : Int) 127 = (u31.toNat : Int) ∧ Hid (turnS s m0 m31 = numB s) ∧ Hid (turnU u u31 = ptB u) := ⟨_, _, _, _, and248_int _, and127_int' _, or64 _, and127_int' _, rfl, rfl⟩
  go_enter Try.func12, Try.ntmps12
  have hH := Hold.init w
  go_upto_region 1 with (first | (refine wpList_box_H hH rfl (some 2) rfl 22 _ rfl _ rfl ?_; clear hH; intro g1 w2 hH; simp only [List.nil_append] at hH) | (refine wpList_box_H hH rfl (some 3) rfl 22 _ rfl _ rfl ?_; clear hH; intro g3 w4 hH; simp only [List.nil_append, List.cons_append] at hH) | (refine wpList_alloc_H hH rfl (some 4) rfl 22 rfl _ z32B ?_; clear hH; intro g5 w6 hH; simp only [List.nil_append, List.cons_append] at hH))
  have c := (hH.cell 0 rfl 0).trans (row_get 32 s 0 (by omega))
  unfold by8 at c
  go_upto_region 2 with (refine wpList_cell_H 0 hH rfl rfl 5 _ _ rfl (by8 m0) rfl rfl size8 (by rw [row_size]; omega) rfl ?_; clear hH c; intro w20 hH)
  simp only [List.set_cons_zero, row_set] at hH
  have c := (hH.cell 0 rfl 31).trans (row_get 32 _ 31 (by omega))
  unfold by8 at c
  go_upto_region 3 with (refine wpList_cell_H 0 hH rfl rfl 5 _ _ rfl (by8 m31) rfl rfl size8 (by rw [row_size]; omega) rfl ?_; clear hH c; intro w30 hH)
  simp only [List.set_cons_zero, row_set] at hH
  have c := (hH.cell 1 rfl 31).trans (row_get 32 u 31 (by omega))
  unfold by8 at c
  go_upto_region 4 with (refine wpList_cell_H 1 hH rfl rfl 5 _ _ rfl (by8 u31) rfl rfl size8 (by rw [row_size]; omega) rfl ?_; clear hH c; intro w40 hH)
  simp only [List.set_cons_zero, List.set_cons_succ, row_set] at hH
  clear q1 q2 q3 q4
  have hH : Hold w [] [bl g1 22 (row 32 (turnS s m0 m31)), bl g3 22 (row 32 (turnU u u31)), bl g5 22 (row 32 fun _ => 0)] _ := hH
  obtain ⟨n, hn⟩ : ∃ n, Hid (n = numB s) := ⟨_, rfl⟩
  obtain ⟨p, hp⟩ : ∃ p, Hid (p = ptB u) := ⟨_, rfl⟩
  rw [hs.out, hu.out, ← hn.out, ← hp.out] at hH; clear hs hu
  obtain ⟨x, lx, ex, cx⟩ : ∃ x, x < 2 ^ 256 ∧ Hid (toF x = uS u) ∧ ∀ W, Calls Try.prog 21 #[vB p] W fun e w' => e = .returned (.agg (row64 4 (words x))) ∧ Below W.heap.size W w' := ⟨lv p 32, lv_lt32 p, (show toF (lv p 32) = uS u from by rw [hp.out]; rfl), fun W => rfrom_c p W⟩
  go_upto_region 5 with (first | (refine wpList_load_H 1 hH rfl rfl 22 _ rfl rfl isRowB (sizeRow _) ?_) | (go_at_call 21; refine (cx _).mono ?_; rintro e w5 ⟨rfl, hb⟩; have hH := hH.call hb; clear hb) | (refine wpList_alloc_H hH rfl (some 5) rfl 36 rfl _ zNum0 ?_; clear hH; intro g7 w8 hH; simp only [List.nil_append, List.cons_append] at hH) | (refine wpList_store_H 3 hH rfl rfl 36 _ _ rfl rfl rfl (sizeNum4 _) (sizeEq4 _ _) (row64_one 4 _) ?_; clear hH; intro w9 hH; simp only [List.set_cons_zero, List.set_cons_succ] at hH))
  obtain ⟨z10, lz10, ez10, cz10⟩ : ∃ z, z < 2 ^ 256 ∧ Hid (z = 1) ∧ ∀ W, Calls Try.prog 22 #[.int .u64 1] W fun e w' => e = .returned (.agg (row64 4 (words z))) ∧ Below W.heap.size W w' := ⟨1, by decide, rfl, fun W => rsmall_c 1 (by decide) W⟩
  obtain ⟨z11, lz11, ez11, cz11⟩ : ∃ z, z < 2 ^ 256 ∧ Hid (z = 0) ∧ ∀ W, Calls Try.prog 22 #[.int .u64 0] W fun e w' => e = .returned (.agg (row64 4 (words z))) ∧ Below W.heap.size W w' := ⟨0, by decide, rfl, fun W => rsmall_c 0 (by decide) W⟩
  refine region_rest mixedOrders ?_
  have hH := hH.drew
  refine Rest.phaseL (PH w [] (fun _ => _) [(4, (fun D => Obj.cells (if D 8 then row64 4 (words z10) else row64 4 (words 0)) 36 (0, 0))), (5, (fun D => Obj.cells (if D 9 then row64 4 (words z11) else row64 4 (words 0)) 36 (0, 0))), (6, (fun _ => Obj.cells (row64 4 (words 0)) 36 (0, 0))), (7, (fun _ => Obj.cells (row64 4 (words 0)) 36 (0, 0)))]) [4, 5, 6, 7, 8, 9] 10 (by kernel_rfl) (PH.start _ hH) ?_
  clear hH
  refine SeqH.next (.agg (row64 4 (words z10))) rfl rfl (fun π D _ => SureH.call cz10 rfl (fun w => by go_simp)) ?_
  simp only [Act.put, List.setIfInBounds_toArray, List.set_cons_zero, List.set_cons_succ]
  refine SeqH.next (.agg (row64 4 (words z11))) rfl rfl (fun π D _ => SureH.call cz11 rfl (fun w => by go_simp)) ?_
  simp only [Act.put, List.setIfInBounds_toArray, List.set_cons_zero, List.set_cons_succ]
  refine SeqH.next (.agg (row64 4 (words x))) rfl rfl (fun π D _ => SureH.load 3 rfl rfl 36 _ rfl rfl isRowNum (sizeNum4 _)) ?_
  simp only [Act.put, List.setIfInBounds_toArray, List.set_cons_zero, List.set_cons_succ]
  refine SeqH.next (.agg (row64 4 (words z10))) rfl rfl (fun π D _ => SureH.call cz10 rfl (fun w => by go_simp)) ?_
  simp only [Act.put, List.setIfInBounds_toArray, List.set_cons_zero, List.set_cons_succ]
  refine SeqH.make rfl rfl (fun π => MakesH.alloc 36 rfl _ zNum0 _ (List.Mem.head _) (fun D h => by have h := h.2 8 rfl (by kernel_rfl); (try dsimp only); rw [h]; rfl) ⟨fun _ => rfl, (List.forall_mem_cons.2 ⟨(fun _ => rfl), (List.forall_mem_cons.2 ⟨(fun _ => rfl), (List.forall_mem_cons.2 ⟨(fun _ => rfl), (List.forall_mem_cons.2 ⟨(fun _ => rfl), (List.forall_mem_nil _)⟩)⟩)⟩)⟩)⟩ (by simp) rfl) ?_
  simp only [Act.put, List.setIfInBounds_toArray, List.set_cons_zero, List.set_cons_succ]
  refine SeqH.make rfl rfl (fun π => MakesH.alloc 36 rfl _ zNum0 _ (List.Mem.tail _ (List.Mem.head _)) (fun D h => by have h := h.2 9 rfl (by kernel_rfl); (try dsimp only); rw [h]; rfl) ⟨fun _ => rfl, (List.forall_mem_cons.2 ⟨(fun _ => rfl), (List.forall_mem_cons.2 ⟨(fun _ => rfl), (List.forall_mem_cons.2 ⟨(fun _ => rfl), (List.forall_mem_cons.2 ⟨(fun _ => rfl), (List.forall_mem_nil _)⟩)⟩)⟩)⟩)⟩ (by simp) rfl) ?_
  simp only [Act.put, List.setIfInBounds_toArray, List.set_cons_zero, List.set_cons_succ]
  refine SeqH.make rfl rfl (fun π => MakesH.alloc 36 rfl _ zNum0 _ (List.Mem.tail _ (List.Mem.tail _ (List.Mem.head _))) (fun _ _ => rfl) ⟨fun _ => rfl, (List.forall_mem_cons.2 ⟨(fun _ => rfl), (List.forall_mem_cons.2 ⟨(fun _ => rfl), (List.forall_mem_cons.2 ⟨(fun _ => rfl), (List.forall_mem_cons.2 ⟨(fun _ => rfl), (List.forall_mem_nil _)⟩)⟩)⟩)⟩)⟩ (by simp) rfl) ?_
  simp only [Act.put, List.setIfInBounds_toArray, List.set_cons_zero, List.set_cons_succ]
  refine SeqH.make rfl rfl (fun π => MakesH.alloc 36 rfl _ zNum0 _ (List.Mem.tail _ (List.Mem.tail _ (List.Mem.tail _ (List.Mem.head _)))) (fun _ _ => rfl) ⟨fun _ => rfl, (List.forall_mem_cons.2 ⟨(fun _ => rfl), (List.forall_mem_cons.2 ⟨(fun _ => rfl), (List.forall_mem_cons.2 ⟨(fun _ => rfl), (List.forall_mem_cons.2 ⟨(fun _ => rfl), (List.forall_mem_nil _)⟩)⟩)⟩)⟩)⟩ (by simp) rfl) ?_
  simp only [Act.put, List.setIfInBounds_toArray, List.set_cons_zero, List.set_cons_succ]
  refine SeqH.make rfl rfl (fun π => MakesH.storeM (m := 4) (old := row64 4 (words 0)) (cs := row64 4 (words z10)) _ (List.Mem.head _) (by simp) (fun D h => h.1 4 rfl (by kernel_rfl)) (fun D h => by (try dsimp only); rw [h]; rfl) (fun D => rfl) (List.forall_mem_cons.2 ⟨(fun h => absurd rfl h), (List.forall_mem_cons.2 ⟨(fun _ _ => rfl), (List.forall_mem_cons.2 ⟨(fun _ _ => rfl), (List.forall_mem_cons.2 ⟨(fun _ _ => rfl), (List.forall_mem_nil _)⟩)⟩)⟩)⟩) (fun _ => rfl) (List.forall_mem_cons.2 ⟨(show (4 : Nat) ≠ 8 by decide), (List.forall_mem_cons.2 ⟨(show (5 : Nat) ≠ 8 by decide), (List.forall_mem_cons.2 ⟨(show (6 : Nat) ≠ 8 by decide), (List.forall_mem_cons.2 ⟨(show (7 : Nat) ≠ 8 by decide), (List.forall_mem_nil _)⟩)⟩)⟩)⟩) 36 _ _ rfl rfl rfl (sizeNum4 _) (sizeEq4 _ _) (row64_one 4 _) rfl) ?_
  simp only [Act.put]
  refine SeqH.make rfl rfl (fun π => MakesH.storeM (m := 5) (old := row64 4 (words 0)) (cs := row64 4 (words z11)) _ (List.Mem.tail _ (List.Mem.head _)) (by simp) (fun D h => h.1 5 rfl (by kernel_rfl)) (fun D h => by (try dsimp only); rw [h]; rfl) (fun D => rfl) (List.forall_mem_cons.2 ⟨(fun _ _ => rfl), (List.forall_mem_cons.2 ⟨(fun h => absurd rfl h), (List.forall_mem_cons.2 ⟨(fun _ _ => rfl), (List.forall_mem_cons.2 ⟨(fun _ _ => rfl), (List.forall_mem_nil _)⟩)⟩)⟩)⟩) (fun _ => rfl) (List.forall_mem_cons.2 ⟨(show (4 : Nat) ≠ 9 by decide), (List.forall_mem_cons.2 ⟨(show (5 : Nat) ≠ 9 by decide), (List.forall_mem_cons.2 ⟨(show (6 : Nat) ≠ 9 by decide), (List.forall_mem_cons.2 ⟨(show (7 : Nat) ≠ 9 by decide), (List.forall_mem_nil _)⟩)⟩)⟩)⟩) 36 _ _ rfl rfl rfl (sizeNum4 _) (sizeEq4 _ _) (row64_one 4 _) rfl) ?_
  simp only [Act.put]
  refine SeqH.store4 (L' := [bl g1 22 (row 32 n), bl g3 22 (row 32 p), bl g5 22 (row 32 (fun _ => 0)), bl g7 36 (row64 4 (words x))]) (ob := Obj.cells (row64 4 (words z10)) 36 (0, 0)) (ob2 := Obj.cells (row64 4 (words z11)) 36 (0, 0)) (ob3 := Obj.cells (row64 4 (words 0)) 36 (0, 0)) (ob4 := Obj.cells (row64 4 (words 0)) 36 (0, 0)) 6 (fun D h => by have h8 := h 8 rfl (by decide); have h9 := h 9 rfl (by decide); (try dsimp only); rw [h8, h9]; exact ⟨rfl, rfl, rfl, rfl, rfl⟩) (fun _ _ _ _ => rfl) rfl rfl rfl rfl (fun _ => rfl) 36 _ _ rfl (fun _ _ _ _ _ _ _ e _ => e) (fun _ => rfl) (sizeNum4 _) (sizeEq4 _ _) (row64_one 4 _) ?_
  intro g12 g13 g14 g15 π w16 pg12 pg13 pg14 pg15 hH
  simp only [pg12, pg13, pg14, pg15]
  clear pg12 pg13 pg14 pg15
  simp only [List.nil_append, List.cons_append] at hH
  simp only [List.set_cons_zero, List.set_cons_succ] at hH
  simp only [Act.put]
  refine Rest.phaseL (PH w [] (fun _ => _) []) [] 11 (by kernel_rfl) (PH.start _ hH) ?_
  clear hH
  refine SeqH.store0 7 (fun _ _ => rfl) rfl  (fun _ => rfl) 36 _ _ rfl (fun _ => rfl) (fun _ => rfl) (sizeNum4 _) (sizeEq4 _ _) (row64_one 4 _) ?_
  intro  π w17  hH
  simp only [List.set_cons_zero, List.set_cons_succ] at hH
  simp only [Act.put]
  refine Rest.done (by decide) ?_
  go_wp2
  go_loopw [10, 11, 12, 13, 14, 15, 16, 17, 18] (fun i_ _ _ _ _ _ _ _ _ wr => ∃ (r a b c d : Nat), r ≤ 255 ∧ i_ = .int .i64 ((r : Int) - 1) ∧ (a < 2 ^ 256 ∧ b < 2 ^ 256 ∧ c < 2 ^ 256 ∧ d < 2 ^ 256) ∧ Hid (((toF a, toF b), (toF c, toF d)) = ladTo aF (uS u) 255 (lv n 32) (255 - r)) ∧ Hold w [] [bl g1 22 (row 32 n), bl g3 22 (row 32 p), bl g5 22 (row 32 fun _ => 0), bl g7 36 (row64 4 (words x)), bl g12 36 (row64 4 (words a)), bl g13 36 (row64 4 (words b)), bl g14 36 (row64 4 (words c)), bl g15 36 (row64 4 (words d))] wr) (fun i_ _ _ _ _ _ _ _ _ _ => (intOf i_ + 1).toNat)
  case atStart => exact ⟨255, z10, z11, x, z10, by omega, rfl, ⟨lz10, lz11, lx, lz10⟩, (show ((toF z10, toF z11), (toF x, toF z10)) = ((1, 0), (uS u, 1)) from by rw [ez10.out, ez11.out, ex.out, one_toF, zero_toF]), hH⟩
  case round =>
    clear hH
    obtain ⟨r, a, b, c, d, hr, rfl, ⟨la, lb, lc, ld⟩, hSt, hH⟩ := hrel
    rcases Nat.eq_zero_or_pos r with hr0 | hr0
    rotate_left 1
    · obtain ⟨j, rfl⟩ : ∃ j, r = j + 1 := ⟨r - 1, by omega⟩
      have ei : (((j + 1 : Nat) : Int) - 1) = (j : Int) := by omega
      rw [ei]; clear ei
      have hj : j < 255 := by omega
      have hls := Lib.hid (lad_succ (u := uS u) (k := lv n 32) hj)
      obtain ⟨q, hq⟩ : ∃ q, q = j / 8 := ⟨_, rfl⟩
      obtain ⟨k, hk⟩ : ∃ k, k = j % 8 := ⟨_, rfl⟩
      have hbit : (n q).toNat / 2 ^ k % 2 = lv n 32 / 2 ^ j % 2 := by rw [hq, hk]; exact bit_lv n j (by omega)
      have hq1 : (q : Int) < 32 := by omega
      have HQ := Lib.hid (And.intro (show (j : Int).tdiv 8 = (q : Int) by rw [Int.tdiv_eq_ediv_of_nonneg (by omega)]; omega) (And.intro (show (j : Int) / 8 = (q : Int) by omega) (show IntKind.i64.wrap (q : Int) = (q : Int) by rw [IntWalk.i64_in _ (by omega)])))
      have HR := Lib.hid (And.intro (show (j : Int).tmod 8 = (k : Int) by rw [Int.tmod_eq_emod_of_nonneg (by omega)]; omega) (And.intro (show (j : Int) % 8 = (k : Int) by omega) (show IntKind.i64.wrap (k : Int) = (k : Int) by rw [IntWalk.i64_in _ (by omega)])))
      have hk8 : k < 8 := by omega
      have HB := Lib.hid hbit
      have cc := (hH.cell 0 rfl q).trans (row_get 32 n q (by omega))
      unfold by8 at cc
      clear hq hk hbit
      have e1 := HQ.out.1; have e2 := HQ.out.2.1; have e3 := HR.out.1; have e4 := HR.out.2.1
      rcases Nat.mod_two_eq_zero_or_one (lv n 32 / 2 ^ j) with hb | hb
      · have eb : bits .and .u8 (((n q).toNat : Int) / 2 ^ k) 1 = 0 := bit_int (v := lv n 32 / 2 ^ j) (bt := false) (by rw [hb]; rfl) HB.out
        obtain ⟨z18, lz18, ez18, cz18⟩ : ∃ z, z < 2 ^ 256 ∧ Hid (toF z = toF a + toF b) ∧ ∀ W, Calls Try.prog 23 #[(.agg (row64 4 (words a))), (.agg (row64 4 (words b)))] W fun e w' => e = .returned (.agg (row64 4 (words z))) ∧ Below W.heap.size W w' := ⟨fv (a + b), fv_lt (by omega), (show toF (fv (a + b)) = toF a + toF b from by rw [toF_fv, toF_add]), fun W => rplus_c a b la lb W⟩
        obtain ⟨z19, lz19, ez19, cz19⟩ : ∃ z, z < 2 ^ 256 ∧ Hid (toF z = toF a - toF b) ∧ ∀ W, Calls Try.prog 24 #[(.agg (row64 4 (words a))), (.agg (row64 4 (words b)))] W fun e w' => e = .returned (.agg (row64 4 (words z))) ∧ Below W.heap.size W w' := ⟨fv (a + (pN - b % pN)), fv_lt (by have : pN < 2 ^ 256 := (by decide); omega), (show toF (fv (a + (pN - b % pN))) = toF a - toF b from by rw [toF_minus]), fun W => rminus_c a b la lb W⟩
        obtain ⟨z20, lz20, ez20, cz20⟩ : ∃ z, z < 2 ^ 256 ∧ Hid (toF z = toF z18 * toF z18) ∧ ∀ W, Calls Try.prog 25 #[(.agg (row64 4 (words z18))), (.agg (row64 4 (words z18)))] W fun e w' => e = .returned (.agg (row64 4 (words z))) ∧ Below W.heap.size W w' := ⟨tm z18 z18, tm_lt lz18 lz18, (show toF (tm z18 z18) = toF z18 * toF z18 from by rw [toF_tm]), fun W => rtimes_c z18 z18 lz18 lz18 W⟩
        obtain ⟨z21, lz21, ez21, cz21⟩ : ∃ z, z < 2 ^ 256 ∧ Hid (toF z = toF z19 * toF z19) ∧ ∀ W, Calls Try.prog 25 #[(.agg (row64 4 (words z19))), (.agg (row64 4 (words z19)))] W fun e w' => e = .returned (.agg (row64 4 (words z))) ∧ Below W.heap.size W w' := ⟨tm z19 z19, tm_lt lz19 lz19, (show toF (tm z19 z19) = toF z19 * toF z19 from by rw [toF_tm]), fun W => rtimes_c z19 z19 lz19 lz19 W⟩
        obtain ⟨z22, lz22, ez22, cz22⟩ : ∃ z, z < 2 ^ 256 ∧ Hid (toF z = toF z20 - toF z21) ∧ ∀ W, Calls Try.prog 24 #[(.agg (row64 4 (words z20))), (.agg (row64 4 (words z21)))] W fun e w' => e = .returned (.agg (row64 4 (words z))) ∧ Below W.heap.size W w' := ⟨fv (z20 + (pN - z21 % pN)), fv_lt (by have : pN < 2 ^ 256 := (by decide); omega), (show toF (fv (z20 + (pN - z21 % pN))) = toF z20 - toF z21 from by rw [toF_minus]), fun W => rminus_c z20 z21 lz20 lz21 W⟩
        obtain ⟨z23, lz23, ez23, cz23⟩ : ∃ z, z < 2 ^ 256 ∧ Hid (toF z = toF c + toF d) ∧ ∀ W, Calls Try.prog 23 #[(.agg (row64 4 (words c))), (.agg (row64 4 (words d)))] W fun e w' => e = .returned (.agg (row64 4 (words z))) ∧ Below W.heap.size W w' := ⟨fv (c + d), fv_lt (by omega), (show toF (fv (c + d)) = toF c + toF d from by rw [toF_fv, toF_add]), fun W => rplus_c c d lc ld W⟩
        obtain ⟨z24, lz24, ez24, cz24⟩ : ∃ z, z < 2 ^ 256 ∧ Hid (toF z = toF z19 * toF z23) ∧ ∀ W, Calls Try.prog 25 #[(.agg (row64 4 (words z19))), (.agg (row64 4 (words z23)))] W fun e w' => e = .returned (.agg (row64 4 (words z))) ∧ Below W.heap.size W w' := ⟨tm z19 z23, tm_lt lz19 lz23, (show toF (tm z19 z23) = toF z19 * toF z23 from by rw [toF_tm]), fun W => rtimes_c z19 z23 lz19 lz23 W⟩
        obtain ⟨z25, lz25, ez25, cz25⟩ : ∃ z, z < 2 ^ 256 ∧ Hid (toF z = toF c - toF d) ∧ ∀ W, Calls Try.prog 24 #[(.agg (row64 4 (words c))), (.agg (row64 4 (words d)))] W fun e w' => e = .returned (.agg (row64 4 (words z))) ∧ Below W.heap.size W w' := ⟨fv (c + (pN - d % pN)), fv_lt (by have : pN < 2 ^ 256 := (by decide); omega), (show toF (fv (c + (pN - d % pN))) = toF c - toF d from by rw [toF_minus]), fun W => rminus_c c d lc ld W⟩
        obtain ⟨z26, lz26, ez26, cz26⟩ : ∃ z, z < 2 ^ 256 ∧ Hid (toF z = toF z18 * toF z25) ∧ ∀ W, Calls Try.prog 25 #[(.agg (row64 4 (words z18))), (.agg (row64 4 (words z25)))] W fun e w' => e = .returned (.agg (row64 4 (words z))) ∧ Below W.heap.size W w' := ⟨tm z18 z25, tm_lt lz18 lz25, (show toF (tm z18 z25) = toF z18 * toF z25 from by rw [toF_tm]), fun W => rtimes_c z18 z25 lz18 lz25 W⟩
        obtain ⟨z27, lz27, ez27, cz27⟩ : ∃ z, z < 2 ^ 256 ∧ Hid (toF z = toF z24 + toF z26) ∧ ∀ W, Calls Try.prog 23 #[(.agg (row64 4 (words z24))), (.agg (row64 4 (words z26)))] W fun e w' => e = .returned (.agg (row64 4 (words z))) ∧ Below W.heap.size W w' := ⟨fv (z24 + z26), fv_lt (by omega), (show toF (fv (z24 + z26)) = toF z24 + toF z26 from by rw [toF_fv, toF_add]), fun W => rplus_c z24 z26 lz24 lz26 W⟩
        obtain ⟨z28, lz28, ez28, cz28⟩ : ∃ z, z < 2 ^ 256 ∧ Hid (toF z = toF z27 * toF z27) ∧ ∀ W, Calls Try.prog 25 #[(.agg (row64 4 (words z27))), (.agg (row64 4 (words z27)))] W fun e w' => e = .returned (.agg (row64 4 (words z))) ∧ Below W.heap.size W w' := ⟨tm z27 z27, tm_lt lz27 lz27, (show toF (tm z27 z27) = toF z27 * toF z27 from by rw [toF_tm]), fun W => rtimes_c z27 z27 lz27 lz27 W⟩
        obtain ⟨z29, lz29, ez29, cz29⟩ : ∃ z, z < 2 ^ 256 ∧ Hid (toF z = toF z24 - toF z26) ∧ ∀ W, Calls Try.prog 24 #[(.agg (row64 4 (words z24))), (.agg (row64 4 (words z26)))] W fun e w' => e = .returned (.agg (row64 4 (words z))) ∧ Below W.heap.size W w' := ⟨fv (z24 + (pN - z26 % pN)), fv_lt (by have : pN < 2 ^ 256 := (by decide); omega), (show toF (fv (z24 + (pN - z26 % pN))) = toF z24 - toF z26 from by rw [toF_minus]), fun W => rminus_c z24 z26 lz24 lz26 W⟩
        obtain ⟨z30, lz30, ez30, cz30⟩ : ∃ z, z < 2 ^ 256 ∧ Hid (toF z = toF z29 * toF z29) ∧ ∀ W, Calls Try.prog 25 #[(.agg (row64 4 (words z29))), (.agg (row64 4 (words z29)))] W fun e w' => e = .returned (.agg (row64 4 (words z))) ∧ Below W.heap.size W w' := ⟨tm z29 z29, tm_lt lz29 lz29, (show toF (tm z29 z29) = toF z29 * toF z29 from by rw [toF_tm]), fun W => rtimes_c z29 z29 lz29 lz29 W⟩
        obtain ⟨z31, lz31, ez31, cz31⟩ : ∃ z, z < 2 ^ 256 ∧ Hid (toF z = toF x * toF z30) ∧ ∀ W, Calls Try.prog 25 #[(.agg (row64 4 (words x))), (.agg (row64 4 (words z30)))] W fun e w' => e = .returned (.agg (row64 4 (words z))) ∧ Below W.heap.size W w' := ⟨tm x z30, tm_lt lx lz30, (show toF (tm x z30) = toF x * toF z30 from by rw [toF_tm]), fun W => rtimes_c x z30 lx lz30 W⟩
        obtain ⟨z32, lz32, ez32, cz32⟩ : ∃ z, z < 2 ^ 256 ∧ Hid (toF z = toF z20 * toF z21) ∧ ∀ W, Calls Try.prog 25 #[(.agg (row64 4 (words z20))), (.agg (row64 4 (words z21)))] W fun e w' => e = .returned (.agg (row64 4 (words z))) ∧ Below W.heap.size W w' := ⟨tm z20 z21, tm_lt lz20 lz21, (show toF (tm z20 z21) = toF z20 * toF z21 from by rw [toF_tm]), fun W => rtimes_c z20 z21 lz20 lz21 W⟩
        obtain ⟨z33, lz33, ez33, cz33⟩ : ∃ z, z < 2 ^ 256 ∧ Hid (z = 121665) ∧ ∀ W, Calls Try.prog 22 #[.int .u64 121665] W fun e w' => e = .returned (.agg (row64 4 (words z))) ∧ Below W.heap.size W w' := ⟨121665, by decide, rfl, fun W => rsmall_c 121665 (by decide) W⟩
        obtain ⟨z34, lz34, ez34, cz34⟩ : ∃ z, z < 2 ^ 256 ∧ Hid (toF z = toF z33 * toF z22) ∧ ∀ W, Calls Try.prog 25 #[(.agg (row64 4 (words z33))), (.agg (row64 4 (words z22)))] W fun e w' => e = .returned (.agg (row64 4 (words z))) ∧ Below W.heap.size W w' := ⟨tm z33 z22, tm_lt lz33 lz22, (show toF (tm z33 z22) = toF z33 * toF z22 from by rw [toF_tm]), fun W => rtimes_c z33 z22 lz33 lz22 W⟩
        obtain ⟨z35, lz35, ez35, cz35⟩ : ∃ z, z < 2 ^ 256 ∧ Hid (toF z = toF z20 + toF z34) ∧ ∀ W, Calls Try.prog 23 #[(.agg (row64 4 (words z20))), (.agg (row64 4 (words z34)))] W fun e w' => e = .returned (.agg (row64 4 (words z))) ∧ Below W.heap.size W w' := ⟨fv (z20 + z34), fv_lt (by omega), (show toF (fv (z20 + z34)) = toF z20 + toF z34 from by rw [toF_fv, toF_add]), fun W => rplus_c z20 z34 lz20 lz34 W⟩
        obtain ⟨z36, lz36, ez36, cz36⟩ : ∃ z, z < 2 ^ 256 ∧ Hid (toF z = toF z22 * toF z35) ∧ ∀ W, Calls Try.prog 25 #[(.agg (row64 4 (words z22))), (.agg (row64 4 (words z35)))] W fun e w' => e = .returned (.agg (row64 4 (words z))) ∧ Below W.heap.size W w' := ⟨tm z22 z35, tm_lt lz22 lz35, (show toF (tm z22 z35) = toF z22 * toF z35 from by rw [toF_tm]), fun W => rtimes_c z22 z35 lz22 lz35 W⟩
        have hN : Hid (((toF z32, toF z36), (toF z28, toF z31)) = ladTo aF (uS u) 255 (lv n 32) (255 - j)) := (show ((toF z32, toF z36), (toF z28, toF z31)) = ladTo aF (uS u) 255 (lv n 32) (255 - j) from by rw [hls.out, hb, ← hSt.out]; show ((toF z32, toF z36), (toF z28, toF z31)) = (ladD aF (toF a) (toF b), ladA (uS u) (toF a) (toF b) (toF c) (toF d)); unfold ladD ladA; rw [ez32.out, ez36.out, ez28.out, ez31.out, ez30.out, ez35.out, ez34.out, ez27.out, ez29.out, ez24.out, ez26.out, ez23.out, ez25.out, ez22.out, ez20.out, ez21.out, ez18.out, ez19.out, ex.out, ez33.out, aF_toF])
        go_upto_region 12 with (fail)
        clear eb cc e1 e2 e3 e4
        refine region_rest mixedOrders ?_
        have hH := hH.drew
        refine Rest.phaseL (PH w [] (fun _ => _) [(6, (fun _ => Obj.cells (row64 4 (words 0)) 36 (0, 0))), (7, (fun _ => Obj.cells (row64 4 (words 0)) 36 (0, 0)))]) [6, 7] 8 (by kernel_rfl) (PH.start _ hH) ?_
        clear hH
        refine SeqH.next (.agg (row64 4 (words a))) rfl rfl (fun π D _ => SureH.load 4 rfl rfl 36 _ rfl rfl isRowNum (sizeNum4 _)) ?_
        simp only [Act.put, List.setIfInBounds_toArray, List.set_cons_zero, List.set_cons_succ]
        refine SeqH.next (.agg (row64 4 (words b))) rfl rfl (fun π D _ => SureH.load 5 rfl rfl 36 _ rfl rfl isRowNum (sizeNum4 _)) ?_
        simp only [Act.put, List.setIfInBounds_toArray, List.set_cons_zero, List.set_cons_succ]
        refine SeqH.next (.agg (row64 4 (words z18))) rfl rfl (fun π D _ => SureH.call cz18 rfl (fun w => by go_simp)) ?_
        simp only [Act.put, List.setIfInBounds_toArray, List.set_cons_zero, List.set_cons_succ]
        refine SeqH.next (.agg (row64 4 (words a))) rfl rfl (fun π D _ => SureH.load 4 rfl rfl 36 _ rfl rfl isRowNum (sizeNum4 _)) ?_
        simp only [Act.put, List.setIfInBounds_toArray, List.set_cons_zero, List.set_cons_succ]
        refine SeqH.next (.agg (row64 4 (words b))) rfl rfl (fun π D _ => SureH.load 5 rfl rfl 36 _ rfl rfl isRowNum (sizeNum4 _)) ?_
        simp only [Act.put, List.setIfInBounds_toArray, List.set_cons_zero, List.set_cons_succ]
        refine SeqH.next (.agg (row64 4 (words z19))) rfl rfl (fun π D _ => SureH.call cz19 rfl (fun w => by go_simp)) ?_
        simp only [Act.put, List.setIfInBounds_toArray, List.set_cons_zero, List.set_cons_succ]
        refine SeqH.make rfl rfl (fun π => MakesH.alloc 36 rfl _ zNum0 _ (List.Mem.head _) (fun _ _ => rfl) ⟨fun _ => rfl, (List.forall_mem_cons.2 ⟨(fun _ => rfl), (List.forall_mem_cons.2 ⟨(fun _ => rfl), (List.forall_mem_nil _)⟩)⟩)⟩ (by simp) rfl) ?_
        simp only [Act.put, List.setIfInBounds_toArray, List.set_cons_zero, List.set_cons_succ]
        refine SeqH.make rfl rfl (fun π => MakesH.alloc 36 rfl _ zNum0 _ (List.Mem.tail _ (List.Mem.head _)) (fun _ _ => rfl) ⟨fun _ => rfl, (List.forall_mem_cons.2 ⟨(fun _ => rfl), (List.forall_mem_cons.2 ⟨(fun _ => rfl), (List.forall_mem_nil _)⟩)⟩)⟩ (by simp) rfl) ?_
        simp only [Act.put, List.setIfInBounds_toArray, List.set_cons_zero, List.set_cons_succ]
        refine SeqH.store2 8 (fun _ _ => ⟨rfl, rfl, rfl⟩) (fun _ _ => rfl) rfl rfl (fun _ => rfl) 36 _ _ rfl (fun _ _ _ e _ => e) (fun _ => rfl) (sizeNum4 _) (sizeEq4 _ _) (row64_one 4 _) ?_
        intro g37 g38 π w39 pg37 pg38 hH
        simp only [pg37, pg38]
        clear pg37 pg38
        simp only [List.nil_append, List.cons_append] at hH
        simp only [List.set_cons_zero, List.set_cons_succ] at hH
        simp only [Act.put]
        refine Rest.phaseL (PH w [] (fun _ => _) []) [] 9 (by kernel_rfl) (PH.start _ hH) ?_
        clear hH
        refine SeqH.store0 9 (fun _ _ => rfl) rfl  (fun _ => rfl) 36 _ _ rfl (fun _ => rfl) (fun _ => rfl) (sizeNum4 _) (sizeEq4 _ _) (row64_one 4 _) ?_
        intro  π w40  hH
        simp only [List.set_cons_zero, List.set_cons_succ] at hH
        simp only [Act.put]
        refine Rest.done (by decide) ?_
        go_upto_region 13 with (fail)
        refine region_rest mixedOrders ?_
        have hH := hH.drew
        refine Rest.phaseL (PH w [] (fun _ => _) [(6, (fun _ => Obj.cells (row64 4 (words 0)) 36 (0, 0))), (7, (fun _ => Obj.cells (row64 4 (words 0)) 36 (0, 0)))]) [6, 7] 8 (by kernel_rfl) (PH.start _ hH) ?_
        clear hH
        refine SeqH.next (.agg (row64 4 (words z18))) rfl rfl (fun π D _ => SureH.load 8 rfl rfl 36 _ rfl rfl isRowNum (sizeNum4 _)) ?_
        simp only [Act.put, List.setIfInBounds_toArray, List.set_cons_zero, List.set_cons_succ]
        refine SeqH.next (.agg (row64 4 (words z18))) rfl rfl (fun π D _ => SureH.load 8 rfl rfl 36 _ rfl rfl isRowNum (sizeNum4 _)) ?_
        simp only [Act.put, List.setIfInBounds_toArray, List.set_cons_zero, List.set_cons_succ]
        refine SeqH.next (.agg (row64 4 (words z20))) rfl rfl (fun π D _ => SureH.call cz20 rfl (fun w => by go_simp)) ?_
        simp only [Act.put, List.setIfInBounds_toArray, List.set_cons_zero, List.set_cons_succ]
        refine SeqH.next (.agg (row64 4 (words z19))) rfl rfl (fun π D _ => SureH.load 9 rfl rfl 36 _ rfl rfl isRowNum (sizeNum4 _)) ?_
        simp only [Act.put, List.setIfInBounds_toArray, List.set_cons_zero, List.set_cons_succ]
        refine SeqH.next (.agg (row64 4 (words z19))) rfl rfl (fun π D _ => SureH.load 9 rfl rfl 36 _ rfl rfl isRowNum (sizeNum4 _)) ?_
        simp only [Act.put, List.setIfInBounds_toArray, List.set_cons_zero, List.set_cons_succ]
        refine SeqH.next (.agg (row64 4 (words z21))) rfl rfl (fun π D _ => SureH.call cz21 rfl (fun w => by go_simp)) ?_
        simp only [Act.put, List.setIfInBounds_toArray, List.set_cons_zero, List.set_cons_succ]
        refine SeqH.make rfl rfl (fun π => MakesH.alloc 36 rfl _ zNum0 _ (List.Mem.head _) (fun _ _ => rfl) ⟨fun _ => rfl, (List.forall_mem_cons.2 ⟨(fun _ => rfl), (List.forall_mem_cons.2 ⟨(fun _ => rfl), (List.forall_mem_nil _)⟩)⟩)⟩ (by simp) rfl) ?_
        simp only [Act.put, List.setIfInBounds_toArray, List.set_cons_zero, List.set_cons_succ]
        refine SeqH.make rfl rfl (fun π => MakesH.alloc 36 rfl _ zNum0 _ (List.Mem.tail _ (List.Mem.head _)) (fun _ _ => rfl) ⟨fun _ => rfl, (List.forall_mem_cons.2 ⟨(fun _ => rfl), (List.forall_mem_cons.2 ⟨(fun _ => rfl), (List.forall_mem_nil _)⟩)⟩)⟩ (by simp) rfl) ?_
        simp only [Act.put, List.setIfInBounds_toArray, List.set_cons_zero, List.set_cons_succ]
        refine SeqH.store2 10 (fun _ _ => ⟨rfl, rfl, rfl⟩) (fun _ _ => rfl) rfl rfl (fun _ => rfl) 36 _ _ rfl (fun _ _ _ e _ => e) (fun _ => rfl) (sizeNum4 _) (sizeEq4 _ _) (row64_one 4 _) ?_
        intro g41 g42 π w43 pg41 pg42 hH
        simp only [pg41, pg42]
        clear pg41 pg42
        simp only [List.nil_append, List.cons_append] at hH
        simp only [List.set_cons_zero, List.set_cons_succ] at hH
        simp only [Act.put]
        refine Rest.phaseL (PH w [] (fun _ => _) []) [] 9 (by kernel_rfl) (PH.start _ hH) ?_
        clear hH
        refine SeqH.store0 11 (fun _ _ => rfl) rfl  (fun _ => rfl) 36 _ _ rfl (fun _ => rfl) (fun _ => rfl) (sizeNum4 _) (sizeEq4 _ _) (row64_one 4 _) ?_
        intro  π w44  hH
        simp only [List.set_cons_zero, List.set_cons_succ] at hH
        simp only [Act.put]
        refine Rest.done (by decide) ?_
        go_upto_region 15 with (first | (refine wpList_load_H 10 hH rfl rfl 36 _ rfl rfl isRowNum (sizeNum4 _) ?_) | (refine wpList_load_H 11 hH rfl rfl 36 _ rfl rfl isRowNum (sizeNum4 _) ?_) | (go_at_call 24; refine (cz22 _).mono ?_; rintro e w5 ⟨rfl, hb⟩; have hH := hH.call hb; clear hb) | (refine wpList_alloc_H hH rfl (some 16) rfl 36 rfl _ zNum0 ?_; clear hH; intro g45 w46 hH; simp only [List.nil_append, List.cons_append] at hH) | (refine wpList_store_H 12 hH rfl rfl 36 _ _ rfl rfl rfl (sizeNum4 _) (sizeEq4 _ _) (row64_one 4 _) ?_; clear hH; intro w47 hH; simp only [List.set_cons_zero, List.set_cons_succ] at hH))
        refine region_rest mixedOrders ?_
        have hH := hH.drew
        refine Rest.phaseL (PH w [] (fun _ => _) [(10, (fun _ => Obj.cells (row64 4 (words 0)) 36 (0, 0))), (11, (fun _ => Obj.cells (row64 4 (words 0)) 36 (0, 0)))]) [10, 11] 12 (by kernel_rfl) (PH.start _ hH) ?_
        clear hH
        refine SeqH.next (.agg (row64 4 (words z19))) rfl rfl (fun π D _ => SureH.load 9 rfl rfl 36 _ rfl rfl isRowNum (sizeNum4 _)) ?_
        simp only [Act.put, List.setIfInBounds_toArray, List.set_cons_zero, List.set_cons_succ]
        refine SeqH.next (.agg (row64 4 (words c))) rfl rfl (fun π D _ => SureH.load 6 rfl rfl 36 _ rfl rfl isRowNum (sizeNum4 _)) ?_
        simp only [Act.put, List.setIfInBounds_toArray, List.set_cons_zero, List.set_cons_succ]
        refine SeqH.next (.agg (row64 4 (words d))) rfl rfl (fun π D _ => SureH.load 7 rfl rfl 36 _ rfl rfl isRowNum (sizeNum4 _)) ?_
        simp only [Act.put, List.setIfInBounds_toArray, List.set_cons_zero, List.set_cons_succ]
        refine SeqH.next (.agg (row64 4 (words z23))) rfl rfl (fun π D _ => SureH.call cz23 rfl (fun w => by go_simp)) ?_
        simp only [Act.put, List.setIfInBounds_toArray, List.set_cons_zero, List.set_cons_succ]
        refine SeqH.next (.agg (row64 4 (words z24))) rfl rfl (fun π D _ => SureH.call cz24 rfl (fun w => by go_simp)) ?_
        simp only [Act.put, List.setIfInBounds_toArray, List.set_cons_zero, List.set_cons_succ]
        refine SeqH.next (.agg (row64 4 (words z18))) rfl rfl (fun π D _ => SureH.load 8 rfl rfl 36 _ rfl rfl isRowNum (sizeNum4 _)) ?_
        simp only [Act.put, List.setIfInBounds_toArray, List.set_cons_zero, List.set_cons_succ]
        refine SeqH.next (.agg (row64 4 (words c))) rfl rfl (fun π D _ => SureH.load 6 rfl rfl 36 _ rfl rfl isRowNum (sizeNum4 _)) ?_
        simp only [Act.put, List.setIfInBounds_toArray, List.set_cons_zero, List.set_cons_succ]
        refine SeqH.next (.agg (row64 4 (words d))) rfl rfl (fun π D _ => SureH.load 7 rfl rfl 36 _ rfl rfl isRowNum (sizeNum4 _)) ?_
        simp only [Act.put, List.setIfInBounds_toArray, List.set_cons_zero, List.set_cons_succ]
        refine SeqH.next (.agg (row64 4 (words z25))) rfl rfl (fun π D _ => SureH.call cz25 rfl (fun w => by go_simp)) ?_
        simp only [Act.put, List.setIfInBounds_toArray, List.set_cons_zero, List.set_cons_succ]
        refine SeqH.next (.agg (row64 4 (words z26))) rfl rfl (fun π D _ => SureH.call cz26 rfl (fun w => by go_simp)) ?_
        simp only [Act.put, List.setIfInBounds_toArray, List.set_cons_zero, List.set_cons_succ]
        refine SeqH.make rfl rfl (fun π => MakesH.alloc 36 rfl _ zNum0 _ (List.Mem.head _) (fun _ _ => rfl) ⟨fun _ => rfl, (List.forall_mem_cons.2 ⟨(fun _ => rfl), (List.forall_mem_cons.2 ⟨(fun _ => rfl), (List.forall_mem_nil _)⟩)⟩)⟩ (by simp) rfl) ?_
        simp only [Act.put, List.setIfInBounds_toArray, List.set_cons_zero, List.set_cons_succ]
        refine SeqH.make rfl rfl (fun π => MakesH.alloc 36 rfl _ zNum0 _ (List.Mem.tail _ (List.Mem.head _)) (fun _ _ => rfl) ⟨fun _ => rfl, (List.forall_mem_cons.2 ⟨(fun _ => rfl), (List.forall_mem_cons.2 ⟨(fun _ => rfl), (List.forall_mem_nil _)⟩)⟩)⟩ (by simp) rfl) ?_
        simp only [Act.put, List.setIfInBounds_toArray, List.set_cons_zero, List.set_cons_succ]
        refine SeqH.store2 13 (fun _ _ => ⟨rfl, rfl, rfl⟩) (fun _ _ => rfl) rfl rfl (fun _ => rfl) 36 _ _ rfl (fun _ _ _ e _ => e) (fun _ => rfl) (sizeNum4 _) (sizeEq4 _ _) (row64_one 4 _) ?_
        intro g48 g49 π w50 pg48 pg49 hH
        simp only [pg48, pg49]
        clear pg48 pg49
        simp only [List.nil_append, List.cons_append] at hH
        simp only [List.set_cons_zero, List.set_cons_succ] at hH
        simp only [Act.put]
        refine Rest.phaseL (PH w [] (fun _ => _) []) [] 13 (by kernel_rfl) (PH.start _ hH) ?_
        clear hH
        refine SeqH.store0 14 (fun _ _ => rfl) rfl  (fun _ => rfl) 36 _ _ rfl (fun _ => rfl) (fun _ => rfl) (sizeNum4 _) (sizeEq4 _ _) (row64_one 4 _) ?_
        intro  π w51  hH
        simp only [List.set_cons_zero, List.set_cons_succ] at hH
        simp only [Act.put]
        refine Rest.done (by decide) ?_
        go_upto_region 16 with (fail)
        refine region_rest mixedOrders ?_
        have hH := hH.drew
        refine Rest.phaseL (PH w [] (fun _ => _) []) [] 16 (by kernel_rfl) (PH.start _ hH) ?_
        clear hH
        refine SeqH.next (.agg (row64 4 (words z24))) rfl rfl (fun π D _ => SureH.load 13 rfl rfl 36 _ rfl rfl isRowNum (sizeNum4 _)) ?_
        simp only [Act.put, List.setIfInBounds_toArray, List.set_cons_zero, List.set_cons_succ]
        refine SeqH.next (.agg (row64 4 (words z26))) rfl rfl (fun π D _ => SureH.load 14 rfl rfl 36 _ rfl rfl isRowNum (sizeNum4 _)) ?_
        simp only [Act.put, List.setIfInBounds_toArray, List.set_cons_zero, List.set_cons_succ]
        refine SeqH.next (.agg (row64 4 (words z27))) rfl rfl (fun π D _ => SureH.call cz27 rfl (fun w => by go_simp)) ?_
        simp only [Act.put, List.setIfInBounds_toArray, List.set_cons_zero, List.set_cons_succ]
        refine SeqH.next (.agg (row64 4 (words z24))) rfl rfl (fun π D _ => SureH.load 13 rfl rfl 36 _ rfl rfl isRowNum (sizeNum4 _)) ?_
        simp only [Act.put, List.setIfInBounds_toArray, List.set_cons_zero, List.set_cons_succ]
        refine SeqH.next (.agg (row64 4 (words z26))) rfl rfl (fun π D _ => SureH.load 14 rfl rfl 36 _ rfl rfl isRowNum (sizeNum4 _)) ?_
        simp only [Act.put, List.setIfInBounds_toArray, List.set_cons_zero, List.set_cons_succ]
        refine SeqH.next (.agg (row64 4 (words z27))) rfl rfl (fun π D _ => SureH.call cz27 rfl (fun w => by go_simp)) ?_
        simp only [Act.put, List.setIfInBounds_toArray, List.set_cons_zero, List.set_cons_succ]
        refine SeqH.next (.agg (row64 4 (words z28))) rfl rfl (fun π D _ => SureH.call cz28 rfl (fun w => by go_simp)) ?_
        simp only [Act.put, List.setIfInBounds_toArray, List.set_cons_zero, List.set_cons_succ]
        refine SeqH.next (.agg (row64 4 (words x))) rfl rfl (fun π D _ => SureH.load 3 rfl rfl 36 _ rfl rfl isRowNum (sizeNum4 _)) ?_
        simp only [Act.put, List.setIfInBounds_toArray, List.set_cons_zero, List.set_cons_succ]
        refine SeqH.next (.agg (row64 4 (words z24))) rfl rfl (fun π D _ => SureH.load 13 rfl rfl 36 _ rfl rfl isRowNum (sizeNum4 _)) ?_
        simp only [Act.put, List.setIfInBounds_toArray, List.set_cons_zero, List.set_cons_succ]
        refine SeqH.next (.agg (row64 4 (words z26))) rfl rfl (fun π D _ => SureH.load 14 rfl rfl 36 _ rfl rfl isRowNum (sizeNum4 _)) ?_
        simp only [Act.put, List.setIfInBounds_toArray, List.set_cons_zero, List.set_cons_succ]
        refine SeqH.next (.agg (row64 4 (words z29))) rfl rfl (fun π D _ => SureH.call cz29 rfl (fun w => by go_simp)) ?_
        simp only [Act.put, List.setIfInBounds_toArray, List.set_cons_zero, List.set_cons_succ]
        refine SeqH.next (.agg (row64 4 (words z24))) rfl rfl (fun π D _ => SureH.load 13 rfl rfl 36 _ rfl rfl isRowNum (sizeNum4 _)) ?_
        simp only [Act.put, List.setIfInBounds_toArray, List.set_cons_zero, List.set_cons_succ]
        refine SeqH.next (.agg (row64 4 (words z26))) rfl rfl (fun π D _ => SureH.load 14 rfl rfl 36 _ rfl rfl isRowNum (sizeNum4 _)) ?_
        simp only [Act.put, List.setIfInBounds_toArray, List.set_cons_zero, List.set_cons_succ]
        refine SeqH.next (.agg (row64 4 (words z29))) rfl rfl (fun π D _ => SureH.call cz29 rfl (fun w => by go_simp)) ?_
        simp only [Act.put, List.setIfInBounds_toArray, List.set_cons_zero, List.set_cons_succ]
        refine SeqH.next (.agg (row64 4 (words z30))) rfl rfl (fun π D _ => SureH.call cz30 rfl (fun w => by go_simp)) ?_
        simp only [Act.put, List.setIfInBounds_toArray, List.set_cons_zero, List.set_cons_succ]
        refine SeqH.next (.agg (row64 4 (words z31))) rfl rfl (fun π D _ => SureH.call cz31 rfl (fun w => by go_simp)) ?_
        simp only [Act.put, List.setIfInBounds_toArray, List.set_cons_zero, List.set_cons_succ]
        refine SeqH.store0 6 (fun _ _ => rfl) rfl  (fun _ => rfl) 36 _ _ rfl (fun _ => rfl) (fun _ => rfl) (sizeNum4 _) (sizeEq4 _ _) (row64_one 4 _) ?_
        intro  π w52  hH
        simp only [List.set_cons_zero, List.set_cons_succ] at hH
        simp only [Act.put]
        refine Rest.phaseL (PH w [] (fun _ => _) []) [] 17 (by kernel_rfl) (PH.start _ hH) ?_
        clear hH
        refine SeqH.store0 7 (fun _ _ => rfl) rfl  (fun _ => rfl) 36 _ _ rfl (fun _ => rfl) (fun _ => rfl) (sizeNum4 _) (sizeEq4 _ _) (row64_one 4 _) ?_
        intro  π w53  hH
        simp only [List.set_cons_zero, List.set_cons_succ] at hH
        simp only [Act.put]
        refine Rest.done (by decide) ?_
        go_upto_region 17 with (fail)
        refine region_rest mixedOrders ?_
        have hH := hH.drew
        refine Rest.phaseL (PH w [] (fun _ => _) []) [] 10 (by kernel_rfl) (PH.start _ hH) ?_
        clear hH
        refine SeqH.next (.agg (row64 4 (words z20))) rfl rfl (fun π D _ => SureH.load 10 rfl rfl 36 _ rfl rfl isRowNum (sizeNum4 _)) ?_
        simp only [Act.put, List.setIfInBounds_toArray, List.set_cons_zero, List.set_cons_succ]
        refine SeqH.next (.agg (row64 4 (words z21))) rfl rfl (fun π D _ => SureH.load 11 rfl rfl 36 _ rfl rfl isRowNum (sizeNum4 _)) ?_
        simp only [Act.put, List.setIfInBounds_toArray, List.set_cons_zero, List.set_cons_succ]
        refine SeqH.next (.agg (row64 4 (words z32))) rfl rfl (fun π D _ => SureH.call cz32 rfl (fun w => by go_simp)) ?_
        simp only [Act.put, List.setIfInBounds_toArray, List.set_cons_zero, List.set_cons_succ]
        refine SeqH.next (.agg (row64 4 (words z22))) rfl rfl (fun π D _ => SureH.load 12 rfl rfl 36 _ rfl rfl isRowNum (sizeNum4 _)) ?_
        simp only [Act.put, List.setIfInBounds_toArray, List.set_cons_zero, List.set_cons_succ]
        refine SeqH.next (.agg (row64 4 (words z20))) rfl rfl (fun π D _ => SureH.load 10 rfl rfl 36 _ rfl rfl isRowNum (sizeNum4 _)) ?_
        simp only [Act.put, List.setIfInBounds_toArray, List.set_cons_zero, List.set_cons_succ]
        refine SeqH.next (.agg (row64 4 (words z33))) rfl rfl (fun π D _ => SureH.call cz33 rfl (fun w => by go_simp)) ?_
        simp only [Act.put, List.setIfInBounds_toArray, List.set_cons_zero, List.set_cons_succ]
        refine SeqH.next (.agg (row64 4 (words z22))) rfl rfl (fun π D _ => SureH.load 12 rfl rfl 36 _ rfl rfl isRowNum (sizeNum4 _)) ?_
        simp only [Act.put, List.setIfInBounds_toArray, List.set_cons_zero, List.set_cons_succ]
        refine SeqH.next (.agg (row64 4 (words z34))) rfl rfl (fun π D _ => SureH.call cz34 rfl (fun w => by go_simp)) ?_
        simp only [Act.put, List.setIfInBounds_toArray, List.set_cons_zero, List.set_cons_succ]
        refine SeqH.next (.agg (row64 4 (words z35))) rfl rfl (fun π D _ => SureH.call cz35 rfl (fun w => by go_simp)) ?_
        simp only [Act.put, List.setIfInBounds_toArray, List.set_cons_zero, List.set_cons_succ]
        refine SeqH.next (.agg (row64 4 (words z36))) rfl rfl (fun π D _ => SureH.call cz36 rfl (fun w => by go_simp)) ?_
        simp only [Act.put, List.setIfInBounds_toArray, List.set_cons_zero, List.set_cons_succ]
        refine SeqH.store0 4 (fun _ _ => rfl) rfl  (fun _ => rfl) 36 _ _ rfl (fun _ => rfl) (fun _ => rfl) (sizeNum4 _) (sizeEq4 _ _) (row64_one 4 _) ?_
        intro  π w54  hH
        simp only [List.set_cons_zero, List.set_cons_succ] at hH
        simp only [Act.put]
        refine Rest.phaseL (PH w [] (fun _ => _) []) [] 11 (by kernel_rfl) (PH.start _ hH) ?_
        clear hH
        refine SeqH.store0 5 (fun _ _ => rfl) rfl  (fun _ => rfl) 36 _ _ rfl (fun _ => rfl) (fun _ => rfl) (sizeNum4 _) (sizeEq4 _ _) (row64_one 4 _) ?_
        intro  π w55  hH
        simp only [List.set_cons_zero, List.set_cons_succ] at hH
        simp only [Act.put]
        refine Rest.done (by decide) ?_
        go_wp2
        go_roundw
        case rel => exact ⟨j, z32, z36, z28, z31, by omega, by go_num, ⟨lz32, lz36, lz28, lz31⟩, hN, hH.first 8⟩
        case measure => simp [intOf]
      · have eb : bits .and .u8 (((n q).toNat : Int) / 2 ^ k) 1 = 1 := bit_int (v := lv n 32 / 2 ^ j) (bt := true) (by rw [hb]; rfl) HB.out
        obtain ⟨z56, lz56, ez56, cz56⟩ : ∃ z, z < 2 ^ 256 ∧ Hid (toF z = toF c + toF d) ∧ ∀ W, Calls Try.prog 23 #[(.agg (row64 4 (words c))), (.agg (row64 4 (words d)))] W fun e w' => e = .returned (.agg (row64 4 (words z))) ∧ Below W.heap.size W w' := ⟨fv (c + d), fv_lt (by omega), (show toF (fv (c + d)) = toF c + toF d from by rw [toF_fv, toF_add]), fun W => rplus_c c d lc ld W⟩
        obtain ⟨z57, lz57, ez57, cz57⟩ : ∃ z, z < 2 ^ 256 ∧ Hid (toF z = toF c - toF d) ∧ ∀ W, Calls Try.prog 24 #[(.agg (row64 4 (words c))), (.agg (row64 4 (words d)))] W fun e w' => e = .returned (.agg (row64 4 (words z))) ∧ Below W.heap.size W w' := ⟨fv (c + (pN - d % pN)), fv_lt (by have : pN < 2 ^ 256 := (by decide); omega), (show toF (fv (c + (pN - d % pN))) = toF c - toF d from by rw [toF_minus]), fun W => rminus_c c d lc ld W⟩
        obtain ⟨z58, lz58, ez58, cz58⟩ : ∃ z, z < 2 ^ 256 ∧ Hid (toF z = toF z56 * toF z56) ∧ ∀ W, Calls Try.prog 25 #[(.agg (row64 4 (words z56))), (.agg (row64 4 (words z56)))] W fun e w' => e = .returned (.agg (row64 4 (words z))) ∧ Below W.heap.size W w' := ⟨tm z56 z56, tm_lt lz56 lz56, (show toF (tm z56 z56) = toF z56 * toF z56 from by rw [toF_tm]), fun W => rtimes_c z56 z56 lz56 lz56 W⟩
        obtain ⟨z59, lz59, ez59, cz59⟩ : ∃ z, z < 2 ^ 256 ∧ Hid (toF z = toF z57 * toF z57) ∧ ∀ W, Calls Try.prog 25 #[(.agg (row64 4 (words z57))), (.agg (row64 4 (words z57)))] W fun e w' => e = .returned (.agg (row64 4 (words z))) ∧ Below W.heap.size W w' := ⟨tm z57 z57, tm_lt lz57 lz57, (show toF (tm z57 z57) = toF z57 * toF z57 from by rw [toF_tm]), fun W => rtimes_c z57 z57 lz57 lz57 W⟩
        obtain ⟨z60, lz60, ez60, cz60⟩ : ∃ z, z < 2 ^ 256 ∧ Hid (toF z = toF z58 - toF z59) ∧ ∀ W, Calls Try.prog 24 #[(.agg (row64 4 (words z58))), (.agg (row64 4 (words z59)))] W fun e w' => e = .returned (.agg (row64 4 (words z))) ∧ Below W.heap.size W w' := ⟨fv (z58 + (pN - z59 % pN)), fv_lt (by have : pN < 2 ^ 256 := (by decide); omega), (show toF (fv (z58 + (pN - z59 % pN))) = toF z58 - toF z59 from by rw [toF_minus]), fun W => rminus_c z58 z59 lz58 lz59 W⟩
        obtain ⟨z61, lz61, ez61, cz61⟩ : ∃ z, z < 2 ^ 256 ∧ Hid (toF z = toF a + toF b) ∧ ∀ W, Calls Try.prog 23 #[(.agg (row64 4 (words a))), (.agg (row64 4 (words b)))] W fun e w' => e = .returned (.agg (row64 4 (words z))) ∧ Below W.heap.size W w' := ⟨fv (a + b), fv_lt (by omega), (show toF (fv (a + b)) = toF a + toF b from by rw [toF_fv, toF_add]), fun W => rplus_c a b la lb W⟩
        obtain ⟨z62, lz62, ez62, cz62⟩ : ∃ z, z < 2 ^ 256 ∧ Hid (toF z = toF z57 * toF z61) ∧ ∀ W, Calls Try.prog 25 #[(.agg (row64 4 (words z57))), (.agg (row64 4 (words z61)))] W fun e w' => e = .returned (.agg (row64 4 (words z))) ∧ Below W.heap.size W w' := ⟨tm z57 z61, tm_lt lz57 lz61, (show toF (tm z57 z61) = toF z57 * toF z61 from by rw [toF_tm]), fun W => rtimes_c z57 z61 lz57 lz61 W⟩
        obtain ⟨z63, lz63, ez63, cz63⟩ : ∃ z, z < 2 ^ 256 ∧ Hid (toF z = toF a - toF b) ∧ ∀ W, Calls Try.prog 24 #[(.agg (row64 4 (words a))), (.agg (row64 4 (words b)))] W fun e w' => e = .returned (.agg (row64 4 (words z))) ∧ Below W.heap.size W w' := ⟨fv (a + (pN - b % pN)), fv_lt (by have : pN < 2 ^ 256 := (by decide); omega), (show toF (fv (a + (pN - b % pN))) = toF a - toF b from by rw [toF_minus]), fun W => rminus_c a b la lb W⟩
        obtain ⟨z64, lz64, ez64, cz64⟩ : ∃ z, z < 2 ^ 256 ∧ Hid (toF z = toF z56 * toF z63) ∧ ∀ W, Calls Try.prog 25 #[(.agg (row64 4 (words z56))), (.agg (row64 4 (words z63)))] W fun e w' => e = .returned (.agg (row64 4 (words z))) ∧ Below W.heap.size W w' := ⟨tm z56 z63, tm_lt lz56 lz63, (show toF (tm z56 z63) = toF z56 * toF z63 from by rw [toF_tm]), fun W => rtimes_c z56 z63 lz56 lz63 W⟩
        obtain ⟨z65, lz65, ez65, cz65⟩ : ∃ z, z < 2 ^ 256 ∧ Hid (toF z = toF z62 + toF z64) ∧ ∀ W, Calls Try.prog 23 #[(.agg (row64 4 (words z62))), (.agg (row64 4 (words z64)))] W fun e w' => e = .returned (.agg (row64 4 (words z))) ∧ Below W.heap.size W w' := ⟨fv (z62 + z64), fv_lt (by omega), (show toF (fv (z62 + z64)) = toF z62 + toF z64 from by rw [toF_fv, toF_add]), fun W => rplus_c z62 z64 lz62 lz64 W⟩
        obtain ⟨z66, lz66, ez66, cz66⟩ : ∃ z, z < 2 ^ 256 ∧ Hid (toF z = toF z65 * toF z65) ∧ ∀ W, Calls Try.prog 25 #[(.agg (row64 4 (words z65))), (.agg (row64 4 (words z65)))] W fun e w' => e = .returned (.agg (row64 4 (words z))) ∧ Below W.heap.size W w' := ⟨tm z65 z65, tm_lt lz65 lz65, (show toF (tm z65 z65) = toF z65 * toF z65 from by rw [toF_tm]), fun W => rtimes_c z65 z65 lz65 lz65 W⟩
        obtain ⟨z67, lz67, ez67, cz67⟩ : ∃ z, z < 2 ^ 256 ∧ Hid (toF z = toF z62 - toF z64) ∧ ∀ W, Calls Try.prog 24 #[(.agg (row64 4 (words z62))), (.agg (row64 4 (words z64)))] W fun e w' => e = .returned (.agg (row64 4 (words z))) ∧ Below W.heap.size W w' := ⟨fv (z62 + (pN - z64 % pN)), fv_lt (by have : pN < 2 ^ 256 := (by decide); omega), (show toF (fv (z62 + (pN - z64 % pN))) = toF z62 - toF z64 from by rw [toF_minus]), fun W => rminus_c z62 z64 lz62 lz64 W⟩
        obtain ⟨z68, lz68, ez68, cz68⟩ : ∃ z, z < 2 ^ 256 ∧ Hid (toF z = toF z67 * toF z67) ∧ ∀ W, Calls Try.prog 25 #[(.agg (row64 4 (words z67))), (.agg (row64 4 (words z67)))] W fun e w' => e = .returned (.agg (row64 4 (words z))) ∧ Below W.heap.size W w' := ⟨tm z67 z67, tm_lt lz67 lz67, (show toF (tm z67 z67) = toF z67 * toF z67 from by rw [toF_tm]), fun W => rtimes_c z67 z67 lz67 lz67 W⟩
        obtain ⟨z69, lz69, ez69, cz69⟩ : ∃ z, z < 2 ^ 256 ∧ Hid (toF z = toF x * toF z68) ∧ ∀ W, Calls Try.prog 25 #[(.agg (row64 4 (words x))), (.agg (row64 4 (words z68)))] W fun e w' => e = .returned (.agg (row64 4 (words z))) ∧ Below W.heap.size W w' := ⟨tm x z68, tm_lt lx lz68, (show toF (tm x z68) = toF x * toF z68 from by rw [toF_tm]), fun W => rtimes_c x z68 lx lz68 W⟩
        obtain ⟨z70, lz70, ez70, cz70⟩ : ∃ z, z < 2 ^ 256 ∧ Hid (toF z = toF z58 * toF z59) ∧ ∀ W, Calls Try.prog 25 #[(.agg (row64 4 (words z58))), (.agg (row64 4 (words z59)))] W fun e w' => e = .returned (.agg (row64 4 (words z))) ∧ Below W.heap.size W w' := ⟨tm z58 z59, tm_lt lz58 lz59, (show toF (tm z58 z59) = toF z58 * toF z59 from by rw [toF_tm]), fun W => rtimes_c z58 z59 lz58 lz59 W⟩
        obtain ⟨z71, lz71, ez71, cz71⟩ : ∃ z, z < 2 ^ 256 ∧ Hid (z = 121665) ∧ ∀ W, Calls Try.prog 22 #[.int .u64 121665] W fun e w' => e = .returned (.agg (row64 4 (words z))) ∧ Below W.heap.size W w' := ⟨121665, by decide, rfl, fun W => rsmall_c 121665 (by decide) W⟩
        obtain ⟨z72, lz72, ez72, cz72⟩ : ∃ z, z < 2 ^ 256 ∧ Hid (toF z = toF z71 * toF z60) ∧ ∀ W, Calls Try.prog 25 #[(.agg (row64 4 (words z71))), (.agg (row64 4 (words z60)))] W fun e w' => e = .returned (.agg (row64 4 (words z))) ∧ Below W.heap.size W w' := ⟨tm z71 z60, tm_lt lz71 lz60, (show toF (tm z71 z60) = toF z71 * toF z60 from by rw [toF_tm]), fun W => rtimes_c z71 z60 lz71 lz60 W⟩
        obtain ⟨z73, lz73, ez73, cz73⟩ : ∃ z, z < 2 ^ 256 ∧ Hid (toF z = toF z58 + toF z72) ∧ ∀ W, Calls Try.prog 23 #[(.agg (row64 4 (words z58))), (.agg (row64 4 (words z72)))] W fun e w' => e = .returned (.agg (row64 4 (words z))) ∧ Below W.heap.size W w' := ⟨fv (z58 + z72), fv_lt (by omega), (show toF (fv (z58 + z72)) = toF z58 + toF z72 from by rw [toF_fv, toF_add]), fun W => rplus_c z58 z72 lz58 lz72 W⟩
        obtain ⟨z74, lz74, ez74, cz74⟩ : ∃ z, z < 2 ^ 256 ∧ Hid (toF z = toF z60 * toF z73) ∧ ∀ W, Calls Try.prog 25 #[(.agg (row64 4 (words z60))), (.agg (row64 4 (words z73)))] W fun e w' => e = .returned (.agg (row64 4 (words z))) ∧ Below W.heap.size W w' := ⟨tm z60 z73, tm_lt lz60 lz73, (show toF (tm z60 z73) = toF z60 * toF z73 from by rw [toF_tm]), fun W => rtimes_c z60 z73 lz60 lz73 W⟩
        have hN : Hid (((toF z66, toF z69), (toF z70, toF z74)) = ladTo aF (uS u) 255 (lv n 32) (255 - j)) := (show ((toF z66, toF z69), (toF z70, toF z74)) = ladTo aF (uS u) 255 (lv n 32) (255 - j) from by rw [hls.out, hb, ← hSt.out]; show ((toF z66, toF z69), (toF z70, toF z74)) = (ladA (uS u) (toF c) (toF d) (toF a) (toF b), ladD aF (toF c) (toF d)); unfold ladD ladA; rw [ez70.out, ez74.out, ez66.out, ez69.out, ez68.out, ez73.out, ez72.out, ez65.out, ez67.out, ez62.out, ez64.out, ez61.out, ez63.out, ez60.out, ez58.out, ez59.out, ez56.out, ez57.out, ex.out, ez71.out, aF_toF])
        go_upto_region 11 with (fail)
        clear eb cc e1 e2 e3 e4
        refine region_rest mixedOrders ?_
        have hH := hH.drew
        refine Rest.phaseL (PH w [] (fun D => [bl g1 22 (row 32 n), bl g3 22 (row 32 p), bl g5 22 (row 32 (fun _ => 0)), bl g7 36 (row64 4 (words x)), bl g12 36 (if D 4 then row64 4 (words c) else row64 4 (words a)), bl g13 36 (row64 4 (words b)), bl g14 36 (row64 4 (words c)), bl g15 36 (row64 4 (words d))]) []) [4] 5 (by kernel_rfl) (PH.start _ hH) ?_
        clear hH
        refine SeqH.next (.agg (row64 4 (words c))) rfl rfl (fun π D _ => SureH.load 6 rfl rfl 36 _ rfl rfl isRowNum (sizeNum4 _)) ?_
        simp only [Act.put, List.setIfInBounds_toArray, List.set_cons_zero, List.set_cons_succ]
        refine SeqH.next (.agg (row64 4 (words d))) rfl rfl (fun π D _ => SureH.load 7 rfl rfl 36 _ rfl rfl isRowNum (sizeNum4 _)) ?_
        simp only [Act.put, List.setIfInBounds_toArray, List.set_cons_zero, List.set_cons_succ]
        refine SeqH.next (.agg (row64 4 (words a))) rfl rfl (fun π D hD => SureH.load 4 (by have h := hD.2 4 rfl (by kernel_rfl); (try dsimp only); rw [h]; rfl) rfl 36 _ rfl rfl isRowNum (sizeNum4 _)) ?_
        simp only [Act.put, List.setIfInBounds_toArray, List.set_cons_zero, List.set_cons_succ]
        refine SeqH.next (.agg (row64 4 (words b))) rfl rfl (fun π D _ => SureH.load 5 rfl rfl 36 _ rfl rfl isRowNum (sizeNum4 _)) ?_
        simp only [Act.put, List.setIfInBounds_toArray, List.set_cons_zero, List.set_cons_succ]
        refine SeqH.make rfl rfl (fun π => MakesH.store (i := 4) (old := row64 4 (words a)) (cs := row64 4 (words c)) (fun D _ h => by (try dsimp only); rw [h]; rfl) (fun D _ => rfl) (List.forall_mem_nil _) (List.forall_mem_nil _) 36 _ _ rfl rfl rfl (sizeNum4 _) (sizeEq4 _ _) (row64_one 4 _) rfl) ?_
        simp only [Act.put]
        refine SeqH.store0 (L' := [bl g1 22 (row 32 n), bl g3 22 (row 32 p), bl g5 22 (row 32 (fun _ => 0)), bl g7 36 (row64 4 (words x)), bl g12 36 (row64 4 (words c)), bl g13 36 (row64 4 (words b)), bl g14 36 (row64 4 (words c)), bl g15 36 (row64 4 (words d))]) 5 (fun D h => by have h4 := h 4 rfl (by decide); (try dsimp only); rw [h4]; exact rfl) rfl  (fun _ => rfl) 36 _ _ rfl (fun _ => rfl) (fun _ => rfl) (sizeNum4 _) (sizeEq4 _ _) (row64_one 4 _) ?_
        intro  π w75  hH
        simp only [List.set_cons_zero, List.set_cons_succ] at hH
        simp only [Act.put]
        refine Rest.phaseL (PH w [] (fun _ => _) []) [] 6 (by kernel_rfl) (PH.start _ hH) ?_
        clear hH
        refine SeqH.store0 6 (fun _ _ => rfl) rfl  (fun _ => rfl) 36 _ _ rfl (fun _ => rfl) (fun _ => rfl) (sizeNum4 _) (sizeEq4 _ _) (row64_one 4 _) ?_
        intro  π w76  hH
        simp only [List.set_cons_zero, List.set_cons_succ] at hH
        simp only [Act.put]
        refine Rest.phaseL (PH w [] (fun _ => _) []) [] 7 (by kernel_rfl) (PH.start _ hH) ?_
        clear hH
        refine SeqH.store0 7 (fun _ _ => rfl) rfl  (fun _ => rfl) 36 _ _ rfl (fun _ => rfl) (fun _ => rfl) (sizeNum4 _) (sizeEq4 _ _) (row64_one 4 _) ?_
        intro  π w77  hH
        simp only [List.set_cons_zero, List.set_cons_succ] at hH
        simp only [Act.put]
        refine Rest.done (by decide) ?_
        go_upto_region 12 with (fail)
        refine region_rest mixedOrders ?_
        have hH := hH.drew
        refine Rest.phaseL (PH w [] (fun _ => _) [(6, (fun _ => Obj.cells (row64 4 (words 0)) 36 (0, 0))), (7, (fun _ => Obj.cells (row64 4 (words 0)) 36 (0, 0)))]) [6, 7] 8 (by kernel_rfl) (PH.start _ hH) ?_
        clear hH
        refine SeqH.next (.agg (row64 4 (words c))) rfl rfl (fun π D _ => SureH.load 4 rfl rfl 36 _ rfl rfl isRowNum (sizeNum4 _)) ?_
        simp only [Act.put, List.setIfInBounds_toArray, List.set_cons_zero, List.set_cons_succ]
        refine SeqH.next (.agg (row64 4 (words d))) rfl rfl (fun π D _ => SureH.load 5 rfl rfl 36 _ rfl rfl isRowNum (sizeNum4 _)) ?_
        simp only [Act.put, List.setIfInBounds_toArray, List.set_cons_zero, List.set_cons_succ]
        refine SeqH.next (.agg (row64 4 (words z56))) rfl rfl (fun π D _ => SureH.call cz56 rfl (fun w => by go_simp)) ?_
        simp only [Act.put, List.setIfInBounds_toArray, List.set_cons_zero, List.set_cons_succ]
        refine SeqH.next (.agg (row64 4 (words c))) rfl rfl (fun π D _ => SureH.load 4 rfl rfl 36 _ rfl rfl isRowNum (sizeNum4 _)) ?_
        simp only [Act.put, List.setIfInBounds_toArray, List.set_cons_zero, List.set_cons_succ]
        refine SeqH.next (.agg (row64 4 (words d))) rfl rfl (fun π D _ => SureH.load 5 rfl rfl 36 _ rfl rfl isRowNum (sizeNum4 _)) ?_
        simp only [Act.put, List.setIfInBounds_toArray, List.set_cons_zero, List.set_cons_succ]
        refine SeqH.next (.agg (row64 4 (words z57))) rfl rfl (fun π D _ => SureH.call cz57 rfl (fun w => by go_simp)) ?_
        simp only [Act.put, List.setIfInBounds_toArray, List.set_cons_zero, List.set_cons_succ]
        refine SeqH.make rfl rfl (fun π => MakesH.alloc 36 rfl _ zNum0 _ (List.Mem.head _) (fun _ _ => rfl) ⟨fun _ => rfl, (List.forall_mem_cons.2 ⟨(fun _ => rfl), (List.forall_mem_cons.2 ⟨(fun _ => rfl), (List.forall_mem_nil _)⟩)⟩)⟩ (by simp) rfl) ?_
        simp only [Act.put, List.setIfInBounds_toArray, List.set_cons_zero, List.set_cons_succ]
        refine SeqH.make rfl rfl (fun π => MakesH.alloc 36 rfl _ zNum0 _ (List.Mem.tail _ (List.Mem.head _)) (fun _ _ => rfl) ⟨fun _ => rfl, (List.forall_mem_cons.2 ⟨(fun _ => rfl), (List.forall_mem_cons.2 ⟨(fun _ => rfl), (List.forall_mem_nil _)⟩)⟩)⟩ (by simp) rfl) ?_
        simp only [Act.put, List.setIfInBounds_toArray, List.set_cons_zero, List.set_cons_succ]
        refine SeqH.store2 8 (fun _ _ => ⟨rfl, rfl, rfl⟩) (fun _ _ => rfl) rfl rfl (fun _ => rfl) 36 _ _ rfl (fun _ _ _ e _ => e) (fun _ => rfl) (sizeNum4 _) (sizeEq4 _ _) (row64_one 4 _) ?_
        intro g78 g79 π w80 pg78 pg79 hH
        simp only [pg78, pg79]
        clear pg78 pg79
        simp only [List.nil_append, List.cons_append] at hH
        simp only [List.set_cons_zero, List.set_cons_succ] at hH
        simp only [Act.put]
        refine Rest.phaseL (PH w [] (fun _ => _) []) [] 9 (by kernel_rfl) (PH.start _ hH) ?_
        clear hH
        refine SeqH.store0 9 (fun _ _ => rfl) rfl  (fun _ => rfl) 36 _ _ rfl (fun _ => rfl) (fun _ => rfl) (sizeNum4 _) (sizeEq4 _ _) (row64_one 4 _) ?_
        intro  π w81  hH
        simp only [List.set_cons_zero, List.set_cons_succ] at hH
        simp only [Act.put]
        refine Rest.done (by decide) ?_
        go_upto_region 13 with (fail)
        refine region_rest mixedOrders ?_
        have hH := hH.drew
        refine Rest.phaseL (PH w [] (fun _ => _) [(6, (fun _ => Obj.cells (row64 4 (words 0)) 36 (0, 0))), (7, (fun _ => Obj.cells (row64 4 (words 0)) 36 (0, 0)))]) [6, 7] 8 (by kernel_rfl) (PH.start _ hH) ?_
        clear hH
        refine SeqH.next (.agg (row64 4 (words z56))) rfl rfl (fun π D _ => SureH.load 8 rfl rfl 36 _ rfl rfl isRowNum (sizeNum4 _)) ?_
        simp only [Act.put, List.setIfInBounds_toArray, List.set_cons_zero, List.set_cons_succ]
        refine SeqH.next (.agg (row64 4 (words z56))) rfl rfl (fun π D _ => SureH.load 8 rfl rfl 36 _ rfl rfl isRowNum (sizeNum4 _)) ?_
        simp only [Act.put, List.setIfInBounds_toArray, List.set_cons_zero, List.set_cons_succ]
        refine SeqH.next (.agg (row64 4 (words z58))) rfl rfl (fun π D _ => SureH.call cz58 rfl (fun w => by go_simp)) ?_
        simp only [Act.put, List.setIfInBounds_toArray, List.set_cons_zero, List.set_cons_succ]
        refine SeqH.next (.agg (row64 4 (words z57))) rfl rfl (fun π D _ => SureH.load 9 rfl rfl 36 _ rfl rfl isRowNum (sizeNum4 _)) ?_
        simp only [Act.put, List.setIfInBounds_toArray, List.set_cons_zero, List.set_cons_succ]
        refine SeqH.next (.agg (row64 4 (words z57))) rfl rfl (fun π D _ => SureH.load 9 rfl rfl 36 _ rfl rfl isRowNum (sizeNum4 _)) ?_
        simp only [Act.put, List.setIfInBounds_toArray, List.set_cons_zero, List.set_cons_succ]
        refine SeqH.next (.agg (row64 4 (words z59))) rfl rfl (fun π D _ => SureH.call cz59 rfl (fun w => by go_simp)) ?_
        simp only [Act.put, List.setIfInBounds_toArray, List.set_cons_zero, List.set_cons_succ]
        refine SeqH.make rfl rfl (fun π => MakesH.alloc 36 rfl _ zNum0 _ (List.Mem.head _) (fun _ _ => rfl) ⟨fun _ => rfl, (List.forall_mem_cons.2 ⟨(fun _ => rfl), (List.forall_mem_cons.2 ⟨(fun _ => rfl), (List.forall_mem_nil _)⟩)⟩)⟩ (by simp) rfl) ?_
        simp only [Act.put, List.setIfInBounds_toArray, List.set_cons_zero, List.set_cons_succ]
        refine SeqH.make rfl rfl (fun π => MakesH.alloc 36 rfl _ zNum0 _ (List.Mem.tail _ (List.Mem.head _)) (fun _ _ => rfl) ⟨fun _ => rfl, (List.forall_mem_cons.2 ⟨(fun _ => rfl), (List.forall_mem_cons.2 ⟨(fun _ => rfl), (List.forall_mem_nil _)⟩)⟩)⟩ (by simp) rfl) ?_
        simp only [Act.put, List.setIfInBounds_toArray, List.set_cons_zero, List.set_cons_succ]
        refine SeqH.store2 10 (fun _ _ => ⟨rfl, rfl, rfl⟩) (fun _ _ => rfl) rfl rfl (fun _ => rfl) 36 _ _ rfl (fun _ _ _ e _ => e) (fun _ => rfl) (sizeNum4 _) (sizeEq4 _ _) (row64_one 4 _) ?_
        intro g82 g83 π w84 pg82 pg83 hH
        simp only [pg82, pg83]
        clear pg82 pg83
        simp only [List.nil_append, List.cons_append] at hH
        simp only [List.set_cons_zero, List.set_cons_succ] at hH
        simp only [Act.put]
        refine Rest.phaseL (PH w [] (fun _ => _) []) [] 9 (by kernel_rfl) (PH.start _ hH) ?_
        clear hH
        refine SeqH.store0 11 (fun _ _ => rfl) rfl  (fun _ => rfl) 36 _ _ rfl (fun _ => rfl) (fun _ => rfl) (sizeNum4 _) (sizeEq4 _ _) (row64_one 4 _) ?_
        intro  π w85  hH
        simp only [List.set_cons_zero, List.set_cons_succ] at hH
        simp only [Act.put]
        refine Rest.done (by decide) ?_
        go_upto_region 15 with (first | (refine wpList_load_H 10 hH rfl rfl 36 _ rfl rfl isRowNum (sizeNum4 _) ?_) | (refine wpList_load_H 11 hH rfl rfl 36 _ rfl rfl isRowNum (sizeNum4 _) ?_) | (go_at_call 24; refine (cz60 _).mono ?_; rintro e w5 ⟨rfl, hb⟩; have hH := hH.call hb; clear hb) | (refine wpList_alloc_H hH rfl (some 16) rfl 36 rfl _ zNum0 ?_; clear hH; intro g86 w87 hH; simp only [List.nil_append, List.cons_append] at hH) | (refine wpList_store_H 12 hH rfl rfl 36 _ _ rfl rfl rfl (sizeNum4 _) (sizeEq4 _ _) (row64_one 4 _) ?_; clear hH; intro w88 hH; simp only [List.set_cons_zero, List.set_cons_succ] at hH))
        refine region_rest mixedOrders ?_
        have hH := hH.drew
        refine Rest.phaseL (PH w [] (fun _ => _) [(10, (fun _ => Obj.cells (row64 4 (words 0)) 36 (0, 0))), (11, (fun _ => Obj.cells (row64 4 (words 0)) 36 (0, 0)))]) [10, 11] 12 (by kernel_rfl) (PH.start _ hH) ?_
        clear hH
        refine SeqH.next (.agg (row64 4 (words z57))) rfl rfl (fun π D _ => SureH.load 9 rfl rfl 36 _ rfl rfl isRowNum (sizeNum4 _)) ?_
        simp only [Act.put, List.setIfInBounds_toArray, List.set_cons_zero, List.set_cons_succ]
        refine SeqH.next (.agg (row64 4 (words a))) rfl rfl (fun π D _ => SureH.load 6 rfl rfl 36 _ rfl rfl isRowNum (sizeNum4 _)) ?_
        simp only [Act.put, List.setIfInBounds_toArray, List.set_cons_zero, List.set_cons_succ]
        refine SeqH.next (.agg (row64 4 (words b))) rfl rfl (fun π D _ => SureH.load 7 rfl rfl 36 _ rfl rfl isRowNum (sizeNum4 _)) ?_
        simp only [Act.put, List.setIfInBounds_toArray, List.set_cons_zero, List.set_cons_succ]
        refine SeqH.next (.agg (row64 4 (words z61))) rfl rfl (fun π D _ => SureH.call cz61 rfl (fun w => by go_simp)) ?_
        simp only [Act.put, List.setIfInBounds_toArray, List.set_cons_zero, List.set_cons_succ]
        refine SeqH.next (.agg (row64 4 (words z62))) rfl rfl (fun π D _ => SureH.call cz62 rfl (fun w => by go_simp)) ?_
        simp only [Act.put, List.setIfInBounds_toArray, List.set_cons_zero, List.set_cons_succ]
        refine SeqH.next (.agg (row64 4 (words z56))) rfl rfl (fun π D _ => SureH.load 8 rfl rfl 36 _ rfl rfl isRowNum (sizeNum4 _)) ?_
        simp only [Act.put, List.setIfInBounds_toArray, List.set_cons_zero, List.set_cons_succ]
        refine SeqH.next (.agg (row64 4 (words a))) rfl rfl (fun π D _ => SureH.load 6 rfl rfl 36 _ rfl rfl isRowNum (sizeNum4 _)) ?_
        simp only [Act.put, List.setIfInBounds_toArray, List.set_cons_zero, List.set_cons_succ]
        refine SeqH.next (.agg (row64 4 (words b))) rfl rfl (fun π D _ => SureH.load 7 rfl rfl 36 _ rfl rfl isRowNum (sizeNum4 _)) ?_
        simp only [Act.put, List.setIfInBounds_toArray, List.set_cons_zero, List.set_cons_succ]
        refine SeqH.next (.agg (row64 4 (words z63))) rfl rfl (fun π D _ => SureH.call cz63 rfl (fun w => by go_simp)) ?_
        simp only [Act.put, List.setIfInBounds_toArray, List.set_cons_zero, List.set_cons_succ]
        refine SeqH.next (.agg (row64 4 (words z64))) rfl rfl (fun π D _ => SureH.call cz64 rfl (fun w => by go_simp)) ?_
        simp only [Act.put, List.setIfInBounds_toArray, List.set_cons_zero, List.set_cons_succ]
        refine SeqH.make rfl rfl (fun π => MakesH.alloc 36 rfl _ zNum0 _ (List.Mem.head _) (fun _ _ => rfl) ⟨fun _ => rfl, (List.forall_mem_cons.2 ⟨(fun _ => rfl), (List.forall_mem_cons.2 ⟨(fun _ => rfl), (List.forall_mem_nil _)⟩)⟩)⟩ (by simp) rfl) ?_
        simp only [Act.put, List.setIfInBounds_toArray, List.set_cons_zero, List.set_cons_succ]
        refine SeqH.make rfl rfl (fun π => MakesH.alloc 36 rfl _ zNum0 _ (List.Mem.tail _ (List.Mem.head _)) (fun _ _ => rfl) ⟨fun _ => rfl, (List.forall_mem_cons.2 ⟨(fun _ => rfl), (List.forall_mem_cons.2 ⟨(fun _ => rfl), (List.forall_mem_nil _)⟩)⟩)⟩ (by simp) rfl) ?_
        simp only [Act.put, List.setIfInBounds_toArray, List.set_cons_zero, List.set_cons_succ]
        refine SeqH.store2 13 (fun _ _ => ⟨rfl, rfl, rfl⟩) (fun _ _ => rfl) rfl rfl (fun _ => rfl) 36 _ _ rfl (fun _ _ _ e _ => e) (fun _ => rfl) (sizeNum4 _) (sizeEq4 _ _) (row64_one 4 _) ?_
        intro g89 g90 π w91 pg89 pg90 hH
        simp only [pg89, pg90]
        clear pg89 pg90
        simp only [List.nil_append, List.cons_append] at hH
        simp only [List.set_cons_zero, List.set_cons_succ] at hH
        simp only [Act.put]
        refine Rest.phaseL (PH w [] (fun _ => _) []) [] 13 (by kernel_rfl) (PH.start _ hH) ?_
        clear hH
        refine SeqH.store0 14 (fun _ _ => rfl) rfl  (fun _ => rfl) 36 _ _ rfl (fun _ => rfl) (fun _ => rfl) (sizeNum4 _) (sizeEq4 _ _) (row64_one 4 _) ?_
        intro  π w92  hH
        simp only [List.set_cons_zero, List.set_cons_succ] at hH
        simp only [Act.put]
        refine Rest.done (by decide) ?_
        go_upto_region 16 with (fail)
        refine region_rest mixedOrders ?_
        have hH := hH.drew
        refine Rest.phaseL (PH w [] (fun _ => _) []) [] 16 (by kernel_rfl) (PH.start _ hH) ?_
        clear hH
        refine SeqH.next (.agg (row64 4 (words z62))) rfl rfl (fun π D _ => SureH.load 13 rfl rfl 36 _ rfl rfl isRowNum (sizeNum4 _)) ?_
        simp only [Act.put, List.setIfInBounds_toArray, List.set_cons_zero, List.set_cons_succ]
        refine SeqH.next (.agg (row64 4 (words z64))) rfl rfl (fun π D _ => SureH.load 14 rfl rfl 36 _ rfl rfl isRowNum (sizeNum4 _)) ?_
        simp only [Act.put, List.setIfInBounds_toArray, List.set_cons_zero, List.set_cons_succ]
        refine SeqH.next (.agg (row64 4 (words z65))) rfl rfl (fun π D _ => SureH.call cz65 rfl (fun w => by go_simp)) ?_
        simp only [Act.put, List.setIfInBounds_toArray, List.set_cons_zero, List.set_cons_succ]
        refine SeqH.next (.agg (row64 4 (words z62))) rfl rfl (fun π D _ => SureH.load 13 rfl rfl 36 _ rfl rfl isRowNum (sizeNum4 _)) ?_
        simp only [Act.put, List.setIfInBounds_toArray, List.set_cons_zero, List.set_cons_succ]
        refine SeqH.next (.agg (row64 4 (words z64))) rfl rfl (fun π D _ => SureH.load 14 rfl rfl 36 _ rfl rfl isRowNum (sizeNum4 _)) ?_
        simp only [Act.put, List.setIfInBounds_toArray, List.set_cons_zero, List.set_cons_succ]
        refine SeqH.next (.agg (row64 4 (words z65))) rfl rfl (fun π D _ => SureH.call cz65 rfl (fun w => by go_simp)) ?_
        simp only [Act.put, List.setIfInBounds_toArray, List.set_cons_zero, List.set_cons_succ]
        refine SeqH.next (.agg (row64 4 (words z66))) rfl rfl (fun π D _ => SureH.call cz66 rfl (fun w => by go_simp)) ?_
        simp only [Act.put, List.setIfInBounds_toArray, List.set_cons_zero, List.set_cons_succ]
        refine SeqH.next (.agg (row64 4 (words x))) rfl rfl (fun π D _ => SureH.load 3 rfl rfl 36 _ rfl rfl isRowNum (sizeNum4 _)) ?_
        simp only [Act.put, List.setIfInBounds_toArray, List.set_cons_zero, List.set_cons_succ]
        refine SeqH.next (.agg (row64 4 (words z62))) rfl rfl (fun π D _ => SureH.load 13 rfl rfl 36 _ rfl rfl isRowNum (sizeNum4 _)) ?_
        simp only [Act.put, List.setIfInBounds_toArray, List.set_cons_zero, List.set_cons_succ]
        refine SeqH.next (.agg (row64 4 (words z64))) rfl rfl (fun π D _ => SureH.load 14 rfl rfl 36 _ rfl rfl isRowNum (sizeNum4 _)) ?_
        simp only [Act.put, List.setIfInBounds_toArray, List.set_cons_zero, List.set_cons_succ]
        refine SeqH.next (.agg (row64 4 (words z67))) rfl rfl (fun π D _ => SureH.call cz67 rfl (fun w => by go_simp)) ?_
        simp only [Act.put, List.setIfInBounds_toArray, List.set_cons_zero, List.set_cons_succ]
        refine SeqH.next (.agg (row64 4 (words z62))) rfl rfl (fun π D _ => SureH.load 13 rfl rfl 36 _ rfl rfl isRowNum (sizeNum4 _)) ?_
        simp only [Act.put, List.setIfInBounds_toArray, List.set_cons_zero, List.set_cons_succ]
        refine SeqH.next (.agg (row64 4 (words z64))) rfl rfl (fun π D _ => SureH.load 14 rfl rfl 36 _ rfl rfl isRowNum (sizeNum4 _)) ?_
        simp only [Act.put, List.setIfInBounds_toArray, List.set_cons_zero, List.set_cons_succ]
        refine SeqH.next (.agg (row64 4 (words z67))) rfl rfl (fun π D _ => SureH.call cz67 rfl (fun w => by go_simp)) ?_
        simp only [Act.put, List.setIfInBounds_toArray, List.set_cons_zero, List.set_cons_succ]
        refine SeqH.next (.agg (row64 4 (words z68))) rfl rfl (fun π D _ => SureH.call cz68 rfl (fun w => by go_simp)) ?_
        simp only [Act.put, List.setIfInBounds_toArray, List.set_cons_zero, List.set_cons_succ]
        refine SeqH.next (.agg (row64 4 (words z69))) rfl rfl (fun π D _ => SureH.call cz69 rfl (fun w => by go_simp)) ?_
        simp only [Act.put, List.setIfInBounds_toArray, List.set_cons_zero, List.set_cons_succ]
        refine SeqH.store0 6 (fun _ _ => rfl) rfl  (fun _ => rfl) 36 _ _ rfl (fun _ => rfl) (fun _ => rfl) (sizeNum4 _) (sizeEq4 _ _) (row64_one 4 _) ?_
        intro  π w93  hH
        simp only [List.set_cons_zero, List.set_cons_succ] at hH
        simp only [Act.put]
        refine Rest.phaseL (PH w [] (fun _ => _) []) [] 17 (by kernel_rfl) (PH.start _ hH) ?_
        clear hH
        refine SeqH.store0 7 (fun _ _ => rfl) rfl  (fun _ => rfl) 36 _ _ rfl (fun _ => rfl) (fun _ => rfl) (sizeNum4 _) (sizeEq4 _ _) (row64_one 4 _) ?_
        intro  π w94  hH
        simp only [List.set_cons_zero, List.set_cons_succ] at hH
        simp only [Act.put]
        refine Rest.done (by decide) ?_
        go_upto_region 17 with (fail)
        refine region_rest mixedOrders ?_
        have hH := hH.drew
        refine Rest.phaseL (PH w [] (fun _ => _) []) [] 10 (by kernel_rfl) (PH.start _ hH) ?_
        clear hH
        refine SeqH.next (.agg (row64 4 (words z58))) rfl rfl (fun π D _ => SureH.load 10 rfl rfl 36 _ rfl rfl isRowNum (sizeNum4 _)) ?_
        simp only [Act.put, List.setIfInBounds_toArray, List.set_cons_zero, List.set_cons_succ]
        refine SeqH.next (.agg (row64 4 (words z59))) rfl rfl (fun π D _ => SureH.load 11 rfl rfl 36 _ rfl rfl isRowNum (sizeNum4 _)) ?_
        simp only [Act.put, List.setIfInBounds_toArray, List.set_cons_zero, List.set_cons_succ]
        refine SeqH.next (.agg (row64 4 (words z70))) rfl rfl (fun π D _ => SureH.call cz70 rfl (fun w => by go_simp)) ?_
        simp only [Act.put, List.setIfInBounds_toArray, List.set_cons_zero, List.set_cons_succ]
        refine SeqH.next (.agg (row64 4 (words z60))) rfl rfl (fun π D _ => SureH.load 12 rfl rfl 36 _ rfl rfl isRowNum (sizeNum4 _)) ?_
        simp only [Act.put, List.setIfInBounds_toArray, List.set_cons_zero, List.set_cons_succ]
        refine SeqH.next (.agg (row64 4 (words z58))) rfl rfl (fun π D _ => SureH.load 10 rfl rfl 36 _ rfl rfl isRowNum (sizeNum4 _)) ?_
        simp only [Act.put, List.setIfInBounds_toArray, List.set_cons_zero, List.set_cons_succ]
        refine SeqH.next (.agg (row64 4 (words z71))) rfl rfl (fun π D _ => SureH.call cz71 rfl (fun w => by go_simp)) ?_
        simp only [Act.put, List.setIfInBounds_toArray, List.set_cons_zero, List.set_cons_succ]
        refine SeqH.next (.agg (row64 4 (words z60))) rfl rfl (fun π D _ => SureH.load 12 rfl rfl 36 _ rfl rfl isRowNum (sizeNum4 _)) ?_
        simp only [Act.put, List.setIfInBounds_toArray, List.set_cons_zero, List.set_cons_succ]
        refine SeqH.next (.agg (row64 4 (words z72))) rfl rfl (fun π D _ => SureH.call cz72 rfl (fun w => by go_simp)) ?_
        simp only [Act.put, List.setIfInBounds_toArray, List.set_cons_zero, List.set_cons_succ]
        refine SeqH.next (.agg (row64 4 (words z73))) rfl rfl (fun π D _ => SureH.call cz73 rfl (fun w => by go_simp)) ?_
        simp only [Act.put, List.setIfInBounds_toArray, List.set_cons_zero, List.set_cons_succ]
        refine SeqH.next (.agg (row64 4 (words z74))) rfl rfl (fun π D _ => SureH.call cz74 rfl (fun w => by go_simp)) ?_
        simp only [Act.put, List.setIfInBounds_toArray, List.set_cons_zero, List.set_cons_succ]
        refine SeqH.store0 4 (fun _ _ => rfl) rfl  (fun _ => rfl) 36 _ _ rfl (fun _ => rfl) (fun _ => rfl) (sizeNum4 _) (sizeEq4 _ _) (row64_one 4 _) ?_
        intro  π w95  hH
        simp only [List.set_cons_zero, List.set_cons_succ] at hH
        simp only [Act.put]
        refine Rest.phaseL (PH w [] (fun _ => _) []) [] 11 (by kernel_rfl) (PH.start _ hH) ?_
        clear hH
        refine SeqH.store0 5 (fun _ _ => rfl) rfl  (fun _ => rfl) 36 _ _ rfl (fun _ => rfl) (fun _ => rfl) (sizeNum4 _) (sizeEq4 _ _) (row64_one 4 _) ?_
        intro  π w96  hH
        simp only [List.set_cons_zero, List.set_cons_succ] at hH
        simp only [Act.put]
        refine Rest.done (by decide) ?_
        go_upto_region 19 with (fail)
        refine region_rest mixedOrders ?_
        have hH := hH.drew
        refine Rest.phaseL (PH w [] (fun D => [bl g1 22 (row 32 n), bl g3 22 (row 32 p), bl g5 22 (row 32 (fun _ => 0)), bl g7 36 (row64 4 (words x)), bl g12 36 (if D 4 then row64 4 (words z66) else row64 4 (words z70)), bl g13 36 (row64 4 (words z74)), bl g14 36 (row64 4 (words z66)), bl g15 36 (row64 4 (words z69)), bl g78 36 (row64 4 (words z56)), bl g79 36 (row64 4 (words z57)), bl g82 36 (row64 4 (words z58)), bl g83 36 (row64 4 (words z59)), bl g86 36 (row64 4 (words z60)), bl g89 36 (row64 4 (words z62)), bl g90 36 (row64 4 (words z64))]) []) [4] 5 (by kernel_rfl) (PH.start _ hH) ?_
        clear hH
        refine SeqH.next (.agg (row64 4 (words z66))) rfl rfl (fun π D _ => SureH.load 6 rfl rfl 36 _ rfl rfl isRowNum (sizeNum4 _)) ?_
        simp only [Act.put, List.setIfInBounds_toArray, List.set_cons_zero, List.set_cons_succ]
        refine SeqH.next (.agg (row64 4 (words z69))) rfl rfl (fun π D _ => SureH.load 7 rfl rfl 36 _ rfl rfl isRowNum (sizeNum4 _)) ?_
        simp only [Act.put, List.setIfInBounds_toArray, List.set_cons_zero, List.set_cons_succ]
        refine SeqH.next (.agg (row64 4 (words z70))) rfl rfl (fun π D hD => SureH.load 4 (by have h := hD.2 4 rfl (by kernel_rfl); (try dsimp only); rw [h]; rfl) rfl 36 _ rfl rfl isRowNum (sizeNum4 _)) ?_
        simp only [Act.put, List.setIfInBounds_toArray, List.set_cons_zero, List.set_cons_succ]
        refine SeqH.next (.agg (row64 4 (words z74))) rfl rfl (fun π D _ => SureH.load 5 rfl rfl 36 _ rfl rfl isRowNum (sizeNum4 _)) ?_
        simp only [Act.put, List.setIfInBounds_toArray, List.set_cons_zero, List.set_cons_succ]
        refine SeqH.make rfl rfl (fun π => MakesH.store (i := 4) (old := row64 4 (words z70)) (cs := row64 4 (words z66)) (fun D _ h => by (try dsimp only); rw [h]; rfl) (fun D _ => rfl) (List.forall_mem_nil _) (List.forall_mem_nil _) 36 _ _ rfl rfl rfl (sizeNum4 _) (sizeEq4 _ _) (row64_one 4 _) rfl) ?_
        simp only [Act.put]
        refine SeqH.store0 (L' := [bl g1 22 (row 32 n), bl g3 22 (row 32 p), bl g5 22 (row 32 (fun _ => 0)), bl g7 36 (row64 4 (words x)), bl g12 36 (row64 4 (words z66)), bl g13 36 (row64 4 (words z74)), bl g14 36 (row64 4 (words z66)), bl g15 36 (row64 4 (words z69)), bl g78 36 (row64 4 (words z56)), bl g79 36 (row64 4 (words z57)), bl g82 36 (row64 4 (words z58)), bl g83 36 (row64 4 (words z59)), bl g86 36 (row64 4 (words z60)), bl g89 36 (row64 4 (words z62)), bl g90 36 (row64 4 (words z64))]) 5 (fun D h => by have h4 := h 4 rfl (by decide); (try dsimp only); rw [h4]; exact rfl) rfl  (fun _ => rfl) 36 _ _ rfl (fun _ => rfl) (fun _ => rfl) (sizeNum4 _) (sizeEq4 _ _) (row64_one 4 _) ?_
        intro  π w97  hH
        simp only [List.set_cons_zero, List.set_cons_succ] at hH
        simp only [Act.put]
        refine Rest.phaseL (PH w [] (fun _ => _) []) [] 6 (by kernel_rfl) (PH.start _ hH) ?_
        clear hH
        refine SeqH.store0 6 (fun _ _ => rfl) rfl  (fun _ => rfl) 36 _ _ rfl (fun _ => rfl) (fun _ => rfl) (sizeNum4 _) (sizeEq4 _ _) (row64_one 4 _) ?_
        intro  π w98  hH
        simp only [List.set_cons_zero, List.set_cons_succ] at hH
        simp only [Act.put]
        refine Rest.phaseL (PH w [] (fun _ => _) []) [] 7 (by kernel_rfl) (PH.start _ hH) ?_
        clear hH
        refine SeqH.store0 7 (fun _ _ => rfl) rfl  (fun _ => rfl) 36 _ _ rfl (fun _ => rfl) (fun _ => rfl) (sizeNum4 _) (sizeEq4 _ _) (row64_one 4 _) ?_
        intro  π w99  hH
        simp only [List.set_cons_zero, List.set_cons_succ] at hH
        simp only [Act.put]
        refine Rest.done (by decide) ?_
        go_wp2
        go_roundw
        case rel => exact ⟨j, z66, z69, z70, z74, by omega, by go_num, ⟨lz66, lz69, lz70, lz74⟩, hN, hH.first 8⟩
        case measure => simp [intOf]
    · subst hr0
      have ei : (((0 : Nat) : Int) - 1) = -1 := rfl
      rw [ei]; clear ei
      obtain ⟨ib, lib, eib, cib⟩ : ∃ z, z < 2 ^ 256 ∧ Hid (toF z = ivF (toF b)) ∧ ∀ W, Calls Try.prog 27 #[(.agg (row64 4 (words b)))] W fun e w' => e = .returned (.agg (row64 4 (words z))) ∧ Below W.heap.size W w' := ⟨riv b, riv_lt lb, toF_riv b, fun W => inverse_r b lb W⟩
      obtain ⟨z100, lz100, ez100, cz100⟩ : ∃ z, z < 2 ^ 256 ∧ Hid (toF z = toF a * toF ib) ∧ ∀ W, Calls Try.prog 25 #[(.agg (row64 4 (words a))), (.agg (row64 4 (words ib)))] W fun e w' => e = .returned (.agg (row64 4 (words z))) ∧ Below W.heap.size W w' := ⟨tm a ib, tm_lt la lib, (show toF (tm a ib) = toF a * toF ib from by rw [toF_tm]), fun W => rtimes_c a ib la lib W⟩
      obtain ⟨y, hy, cy⟩ : ∃ y, Hid (y = bF (xmul (kS s) (uS u))) ∧ ∀ W, Calls Try.prog 26 #[(.agg (row64 4 (words z100)))] W fun e w' => e = .returned (vB y) ∧ Below W.heap.size W w' := ⟨_, rfl, fun W => by have h := rbytes_c z100 lz100 W; rw [← bF_toF, ez100.out, eib.out] at h; have h2 := hSt.out; rw [hn.out] at h2; have h3 : xmul (kS s) (uS u) = toF a * ivF (toF b) := (by show ladOut _ _ _ _ _ = _; unfold ladOut; show (ladTo aF (uS u) 255 (lv (numB s) 32) 255).1.1 * ivF (ladTo aF (uS u) 255 (lv (numB s) 32) 255).1.2 = _; rw [← h2]); rw [h3]; exact h⟩
      go_upto_region 20 with (fail)
      refine region_rest mixedOrders ?_
      have hH := hH.drew
      refine Rest.phaseL (PH w [] (fun _ => _) []) [] 5 (by kernel_rfl) (PH.start _ hH) ?_
      clear hH
      refine SeqH.next (.agg (row64 4 (words a))) rfl rfl (fun π D _ => SureH.load 4 rfl rfl 36 _ rfl rfl isRowNum (sizeNum4 _)) ?_
      simp only [Act.put, List.setIfInBounds_toArray, List.set_cons_zero, List.set_cons_succ]
      refine SeqH.next (.agg (row64 4 (words b))) rfl rfl (fun π D _ => SureH.load 5 rfl rfl 36 _ rfl rfl isRowNum (sizeNum4 _)) ?_
      simp only [Act.put, List.setIfInBounds_toArray, List.set_cons_zero, List.set_cons_succ]
      refine SeqH.next (.agg (row64 4 (words ib))) rfl rfl (fun π D _ => SureH.call cib rfl (fun w => by go_simp)) ?_
      simp only [Act.put, List.setIfInBounds_toArray, List.set_cons_zero, List.set_cons_succ]
      refine SeqH.next (.agg (row64 4 (words z100))) rfl rfl (fun π D _ => SureH.call cz100 rfl (fun w => by go_simp)) ?_
      simp only [Act.put, List.setIfInBounds_toArray, List.set_cons_zero, List.set_cons_succ]
      refine SeqH.next (.agg (row 32 y)) rfl rfl (fun π D _ => SureH.call cy rfl (fun w => by go_simp)) ?_
      simp only [Act.put, List.setIfInBounds_toArray, List.set_cons_zero, List.set_cons_succ]
      refine SeqH.store0 2 (fun _ _ => rfl) rfl  (fun _ => rfl) 22 _ _ rfl (fun _ => rfl) (fun _ => rfl) (sizeRow _) (sizeEq _ _) (row_one _ _) ?_
      intro  π w101  hH
      simp only [List.set_cons_zero, List.set_cons_succ] at hH
      simp only [Act.put]
      refine Rest.done (by decide) ?_
      go_wp2
      exact ret_H 2 hH rfl rfl rfl rfl isRowB (sizeRow _) ⟨by rw [hy.out], hH.toBelow⟩

theorem row_bF0 : row 32 (bF 0) = row 32 fun _ => 0 := row_congr fun i _ => bF_zero i
theorem rMulNine_c (s : Nat → UInt8) (w : World) : Calls Try.prog 12 #[vB s, vB nineB] w fun e w' => e = .returned (vB (bF (xmul (kS s) nineF))) ∧ Below w.heap.size w w' := by
  have h := rMul_c s nineB w
  rw [uS_nine] at h
  exact h

set_option maxHeartbeats 4000000 in
theorem rPublic_c (s : Nat → UInt8) (w : World) : Calls Try.prog 14 #[vB s] w fun e w' => e = .returned (vB (bF (xmul (kS s) nineF))) ∧ Below w.heap.size w w' := by
  obtain ⟨z1, ez1, cz1⟩ : ∃ z, Hid (z = bF (xmul (kS s) nineF)) ∧ ∀ W, Calls Try.prog 12 #[(.agg (row 32 s)), (.agg (row 32 nineB))] W fun e w' => e = .returned (.agg (row 32 z)) ∧ Below W.heap.size W w' := ⟨_, rfl, fun W => rMulNine_c s W⟩
  go_enter Try.func14, Try.ntmps14
  have hH := Hold.init w
  go_upto_region 1 with (first | (refine wpList_box_H hH rfl (some 1) rfl 22 _ rfl _ rfl ?_; clear hH; intro g2 w3 hH; simp only [List.nil_append] at hH) | (refine wpList_alloc_H hH rfl (some 2) rfl 22 rfl _ z32B ?_; clear hH; intro g4 w5 hH; simp only [List.nil_append, List.cons_append] at hH))
  go_wp2_with (first | (refine wpList_load_H 0 hH rfl rfl 22 _ rfl rfl isRowB (sizeRow _) ?_) | (refine wpList_build rfl 22 _ rfl (row 32 nineB) [(0, .int .u8 9)] (by simp only [List.map_toArray, List.map_cons, List.map_nil]; rfl) built_nine ?_) | (go_at_call 12; refine (cz1 _).mono ?_; rintro e w5 ⟨rfl, hb⟩; have hH := hH.call hb; clear hb) | (refine wpList_store_H 1 hH rfl rfl 22 _ _ rfl rfl rfl (sizeRow _) (sizeEq _ _) (row_one _ _) ?_; clear hH; intro w6 hH; simp only [List.set_cons_zero, List.set_cons_succ] at hH))
  exact ret_H 1 hH rfl rfl rfl rfl isRowB (sizeRow _) ⟨by rw [ez1.out], hH.toBelow⟩

set_option maxHeartbeats 4000000 in
theorem rshared_none (s u : Nat → UInt8) (h0 : xmul (kS s) (uS u) = 0) (w : World) : Calls Try.prog 10 #[vB s, vB u] w fun e w' => e = .returned (.tuple #[vB fun _ => 0, .int .i64 2]) ∧ Below w.heap.size w w' := by

  have cz1 : ∀ W, Calls Try.prog 12 #[vB s, vB u] W fun e w' => e = .returned (vB fun _ => 0) ∧ Below W.heap.size W w' := fun W => by have h := rMul_c s u W; rw [h0, show vB (bF 0) = vB fun _ => 0 from congrArg Value.agg row_bF0] at h; exact h
  have hE : ∀ w : World, (Op.equalIn 10000 22 (.agg (row 32 fun _ => 0)) (.agg (row 32 fun _ => 0))).run Try.prog w = .ok true w := fun w => by rw [run_sameIn _ 32 und32B, sameB_self]
  go_enter Try.func10, Try.ntmps10
  have hH := Hold.init w
  go_upto_region 1 with (first | (refine wpList_box_H hH rfl (some 2) rfl 22 _ rfl _ rfl ?_; clear hH; intro g2 w3 hH; simp only [List.nil_append] at hH) | (refine wpList_box_H hH rfl (some 3) rfl 22 _ rfl _ rfl ?_; clear hH; intro g4 w5 hH; simp only [List.nil_append, List.cons_append] at hH) | (refine wpList_alloc_H hH rfl (some 4) rfl 22 rfl _ z32B ?_; clear hH; intro g6 w7 hH; simp only [List.nil_append, List.cons_append] at hH))
  go_upto_region 2 with (first | (refine wpList_load_H 0 hH rfl rfl 22 _ rfl rfl isRowB (sizeRow _) ?_) | (refine wpList_load_H 1 hH rfl rfl 22 _ rfl rfl isRowB (sizeRow _) ?_) | (go_at_call 12; refine (cz1 _).mono ?_; rintro e w5 ⟨rfl, hb⟩; have hH := hH.call hb; clear hb) | (refine wpList_alloc_H hH rfl (some 6) rfl 22 rfl _ z32B ?_; clear hH; intro gp w6 hH; simp only [List.nil_append, List.cons_append] at hH) | (refine wpList_store_H 3 hH rfl rfl 22 _ _ rfl rfl rfl (sizeRow _) (sizeEq _ _) (row_one _ _) ?_; clear hH; intro w7 hH; simp only [List.set_cons_zero, List.set_cons_succ] at hH))
  have hz := nil32
  go_wp2_with (first | (refine wpList_load_H 3 hH rfl rfl 22 _ rfl rfl isRowB (sizeRow _) ?_) | (refine wpList_store_H 2 hH rfl rfl 22 _ _ rfl rfl rfl (sizeRow _) (sizeEq _ _) (row_one _ _) ?_; clear hH; intro w8 hH; simp only [List.set_cons_zero, List.set_cons_succ] at hH))
  exact ret_Ht 2 hH rfl _ rfl rfl rfl rfl isRowB (sizeRow _) ⟨rfl, hH.toBelow⟩

set_option maxHeartbeats 4000000 in
theorem rshared_some (s u : Nat → UInt8) (h0 : xmul (kS s) (uS u) ≠ 0) (w : World) : Calls Try.prog 10 #[vB s, vB u] w fun e w' => e = .returned (.tuple #[vB (bF (xmul (kS s) (uS u))), .int .i64 0]) ∧ Below w.heap.size w w' := by
  obtain ⟨z1, ez1, cz1⟩ : ∃ z, Hid (z = bF (xmul (kS s) (uS u))) ∧ ∀ W, Calls Try.prog 12 #[(.agg (row 32 s)), (.agg (row 32 u))] W fun e w' => e = .returned (.agg (row 32 z)) ∧ Below W.heap.size W w' := ⟨_, rfl, fun W => rMul_c s u W⟩
  have hE : ∀ w : World, (Op.equalIn 10000 22 (.agg (row 32 z1)) (.agg (row 32 fun _ => 0))).run Try.prog w = .ok false w := fun w => by rw [run_sameIn _ 32 und32B, ez1.out, bF_same0, decide_eq_false h0]
  go_enter Try.func10, Try.ntmps10
  have hH := Hold.init w
  go_upto_region 1 with (first | (refine wpList_box_H hH rfl (some 2) rfl 22 _ rfl _ rfl ?_; clear hH; intro g2 w3 hH; simp only [List.nil_append] at hH) | (refine wpList_box_H hH rfl (some 3) rfl 22 _ rfl _ rfl ?_; clear hH; intro g4 w5 hH; simp only [List.nil_append, List.cons_append] at hH) | (refine wpList_alloc_H hH rfl (some 4) rfl 22 rfl _ z32B ?_; clear hH; intro g6 w7 hH; simp only [List.nil_append, List.cons_append] at hH))
  go_upto_region 2 with (first | (refine wpList_load_H 0 hH rfl rfl 22 _ rfl rfl isRowB (sizeRow _) ?_) | (refine wpList_load_H 1 hH rfl rfl 22 _ rfl rfl isRowB (sizeRow _) ?_) | (go_at_call 12; refine (cz1 _).mono ?_; rintro e w5 ⟨rfl, hb⟩; have hH := hH.call hb; clear hb) | (refine wpList_alloc_H hH rfl (some 6) rfl 22 rfl _ z32B ?_; clear hH; intro gp w6 hH; simp only [List.nil_append, List.cons_append] at hH) | (refine wpList_store_H 3 hH rfl rfl 22 _ _ rfl rfl rfl (sizeRow _) (sizeEq _ _) (row_one _ _) ?_; clear hH; intro w7 hH; simp only [List.set_cons_zero, List.set_cons_succ] at hH))
  have hz := nil32
  go_wp2_with (first | (refine wpList_load_H 3 hH rfl rfl 22 _ rfl rfl isRowB (sizeRow _) ?_) | (refine wpList_store_H 2 hH rfl rfl 22 _ _ rfl rfl rfl (sizeRow _) (sizeEq _ _) (row_one _ _) ?_; clear hH; intro w8 hH; simp only [List.set_cons_zero, List.set_cons_succ] at hH))
  exact ret_Ht 2 hH rfl _ rfl rfl rfl rfl isRowB (sizeRow _) ⟨by rw [ez1.out]; rfl, hH.toBelow⟩
end Go.Proofs.Ytchojbhmfjibmaa

namespace Go.Proofs.Ytchojbhmfjibmaa
open Go Go.RowKit
set_option maxRecDepth 100000

set_option maxHeartbeats 4000000 in
theorem muls_w (s u : Nat → UInt8) (w : World) : Calls Try.prog 3 #[vB s, vB u] w fun e w' => e = .returned (.bool true) ∧ Below w.heap.size w w' := by
  obtain ⟨y, n, cS, cR⟩ : ∃ (y : Nat → UInt8) (n : Int), (∀ W, Calls Try.prog 9 #[vB s, vB u] W fun e w' => e = .returned (.tuple #[vB y, .int .i64 n]) ∧ Below W.heap.size W w') ∧ (∀ W, Calls Try.prog 10 #[vB s, vB u] W fun e w' => e = .returned (.tuple #[vB y, .int .i64 n]) ∧ Below W.heap.size W w') := by
    by_cases h0 : xmul (kS s) (uS u) = 0
    · exact ⟨_, _, fun W => shared_none s u h0 W, fun W => rshared_none s u h0 W⟩
    · exact ⟨_, _, fun W => shared_some s u h0 W, fun W => rshared_some s u h0 W⟩
  obtain ⟨z1, ez1, cz1⟩ : ∃ z, Hid (z = bF (xmul (kS s) (uS u))) ∧ ∀ W, Calls Try.prog 11 #[(.agg (row 32 s)), (.agg (row 32 u))] W fun e w' => e = .returned (.agg (row 32 z)) ∧ Below W.heap.size W w' := ⟨_, rfl, fun W => xMul_c s u W⟩
  have cM : ∀ W, Calls Try.prog 12 #[vB s, vB u] W fun e w' => e = .returned (vB z1) ∧ Below W.heap.size W w' := fun W => by have h := rMul_c s u W; rw [← ez1.out] at h; exact h
  obtain ⟨z2, ez2, cz2⟩ : ∃ z, Hid (z = bF (xmul (kS s) nineF)) ∧ ∀ W, Calls Try.prog 13 #[(.agg (row 32 s))] W fun e w' => e = .returned (.agg (row 32 z)) ∧ Below W.heap.size W w' := ⟨_, rfl, fun W => xPublic_c s W⟩
  have cP : ∀ W, Calls Try.prog 14 #[vB s] W fun e w' => e = .returned (vB z2) ∧ Below W.heap.size W w' := fun W => by have h := rPublic_c s W; rw [← ez2.out] at h; exact h
  have hE0 : ∀ w : World, (Op.equalIn 10000 22 (.agg (row 32 z1)) (.agg (row 32 z1))).run Try.prog w = .ok true w := fun w => by rw [run_sameIn _ 32 und32B, sameB_self]
  have hE1 : ∀ w : World, (Op.equalIn 10000 22 (.agg (row 32 z2)) (.agg (row 32 z2))).run Try.prog w = .ok true w := fun w => by rw [run_sameIn _ 32 und32B, sameB_self]
  have hE2 : ∀ w : World, (Op.equalIn 10000 22 (.agg (row 32 y)) (.agg (row 32 y))).run Try.prog w = .ok true w := fun w => by rw [run_sameIn _ 32 und32B, sameB_self]
  go_enter Try.func3, Try.ntmps3
  have hH := Hold.init w
  go_upto_region 3 with (first | (refine wpList_box_H hH rfl (some 2) rfl 22 _ rfl _ rfl ?_; clear hH; intro g21 w22 hH; simp only [List.nil_append] at hH) | (refine wpList_box_H hH rfl (some 3) rfl 22 _ rfl _ rfl ?_; clear hH; intro g23 w24 hH; simp only [List.nil_append, List.cons_append] at hH) | (go_at_call 8; refine (awake_c _).mono ?_; rintro e w5 ⟨rfl, hb⟩; have hH := hH.call hb; clear hb))
  go_upto_region 4 with (first | (refine wpList_load_H 0 hH rfl rfl 22 _ rfl rfl isRowB (sizeRow _) ?_) | (refine wpList_load_H 1 hH rfl rfl 22 _ rfl rfl isRowB (sizeRow _) ?_) | (go_at_call 9; refine (cS _).mono ?_; rintro e w5 ⟨rfl, hb⟩; have hH := hH.call hb; clear hb) | (refine wpList_alloc_H hH rfl (some 5) rfl 22 rfl _ z32B ?_; clear hH; intro g25 w26 hH; simp only [List.nil_append, List.cons_append] at hH) | (refine wpList_store_H 2 hH rfl rfl 22 _ _ rfl rfl rfl (sizeRow _) (sizeEq _ _) (row_one _ _) ?_; clear hH; intro w27 hH; simp only [List.set_cons_zero, List.set_cons_succ] at hH))
  go_upto_region 5 with (first | (refine wpList_load_H 0 hH rfl rfl 22 _ rfl rfl isRowB (sizeRow _) ?_) | (refine wpList_load_H 1 hH rfl rfl 22 _ rfl rfl isRowB (sizeRow _) ?_) | (go_at_call 10; refine (cR _).mono ?_; rintro e w5 ⟨rfl, hb⟩; have hH := hH.call hb; clear hb) | (refine wpList_alloc_H hH rfl (some 7) rfl 22 rfl _ z32B ?_; clear hH; intro g28 w29 hH; simp only [List.nil_append, List.cons_append] at hH) | (refine wpList_store_H 3 hH rfl rfl 22 _ _ rfl rfl rfl (sizeRow _) (sizeEq _ _) (row_one _ _) ?_; clear hH; intro w30 hH; simp only [List.set_cons_zero, List.set_cons_succ] at hH))
  refine region_rest mixedOrders ?_
  have hH := hH.drew
  refine Rest.phaseL (PH w [] (fun _ => _) []) [] 24 (by kernel_rfl) (PH.start _ hH) ?_
  clear hH
  refine SeqH.next (.agg (row 32 s)) rfl rfl (fun π D _ => SureH.load 0 rfl rfl 22 _ rfl rfl isRowB (sizeRow _)) ?_
  simp only [Act.put, List.setIfInBounds_toArray, List.set_cons_zero, List.set_cons_succ]
  refine SeqH.next (.agg (row 32 u)) rfl rfl (fun π D _ => SureH.load 1 rfl rfl 22 _ rfl rfl isRowB (sizeRow _)) ?_
  simp only [Act.put, List.setIfInBounds_toArray, List.set_cons_zero, List.set_cons_succ]
  refine SeqH.next (.agg (row 32 z1)) rfl rfl (fun π D _ => SureH.call cz1 rfl (fun w => by go_simp)) ?_
  simp only [Act.put, List.setIfInBounds_toArray, List.set_cons_zero, List.set_cons_succ]
  refine SeqH.next (.agg (row 32 s)) rfl rfl (fun π D _ => SureH.load 0 rfl rfl 22 _ rfl rfl isRowB (sizeRow _)) ?_
  simp only [Act.put, List.setIfInBounds_toArray, List.set_cons_zero, List.set_cons_succ]
  refine SeqH.next (.agg (row 32 u)) rfl rfl (fun π D _ => SureH.load 1 rfl rfl 22 _ rfl rfl isRowB (sizeRow _)) ?_
  simp only [Act.put, List.setIfInBounds_toArray, List.set_cons_zero, List.set_cons_succ]
  refine SeqH.next (.agg (row 32 z1)) rfl rfl (fun π D _ => SureH.call cM rfl (fun w => by go_simp)) ?_
  simp only [Act.put, List.setIfInBounds_toArray, List.set_cons_zero, List.set_cons_succ]
  refine SeqH.next (.bool true) rfl rfl (fun π D _ => SureH.pure rfl (fun w => by have hE := hE0 w; go_simp)) ?_
  simp only [Act.put, List.setIfInBounds_toArray, List.set_cons_zero, List.set_cons_succ]
  refine SeqH.next (.bool true) rfl rfl (fun π D _ => SureH.pure rfl (fun w => by go_simp)) ?_
  simp only [Act.put, List.setIfInBounds_toArray, List.set_cons_zero, List.set_cons_succ]
  refine SeqH.next (.agg (row 32 s)) rfl rfl (fun π D _ => SureH.load 0 rfl rfl 22 _ rfl rfl isRowB (sizeRow _)) ?_
  simp only [Act.put, List.setIfInBounds_toArray, List.set_cons_zero, List.set_cons_succ]
  refine SeqH.next (.agg (row 32 z2)) rfl rfl (fun π D _ => SureH.call cz2 rfl (fun w => by go_simp)) ?_
  simp only [Act.put, List.setIfInBounds_toArray, List.set_cons_zero, List.set_cons_succ]
  refine SeqH.next (.agg (row 32 s)) rfl rfl (fun π D _ => SureH.load 0 rfl rfl 22 _ rfl rfl isRowB (sizeRow _)) ?_
  simp only [Act.put, List.setIfInBounds_toArray, List.set_cons_zero, List.set_cons_succ]
  refine SeqH.next (.agg (row 32 z2)) rfl rfl (fun π D _ => SureH.call cP rfl (fun w => by go_simp)) ?_
  simp only [Act.put, List.setIfInBounds_toArray, List.set_cons_zero, List.set_cons_succ]
  refine SeqH.next (.bool true) rfl rfl (fun π D _ => SureH.pure rfl (fun w => by have hE := hE1 w; go_simp)) ?_
  simp only [Act.put, List.setIfInBounds_toArray, List.set_cons_zero, List.set_cons_succ]
  refine SeqH.next (.bool true) rfl rfl (fun π D _ => SureH.pure rfl (fun w => by go_simp)) ?_
  simp only [Act.put, List.setIfInBounds_toArray, List.set_cons_zero, List.set_cons_succ]
  refine SeqH.next (.bool true) rfl rfl (fun π D _ => SureH.pure rfl (fun w => by go_simp)) ?_
  simp only [Act.put, List.setIfInBounds_toArray, List.set_cons_zero, List.set_cons_succ]
  refine SeqH.next (.agg (row 32 y)) rfl rfl (fun π D _ => SureH.load 2 rfl rfl 22 _ rfl rfl isRowB (sizeRow _)) ?_
  simp only [Act.put, List.setIfInBounds_toArray, List.set_cons_zero, List.set_cons_succ]
  refine SeqH.next (.agg (row 32 y)) rfl rfl (fun π D _ => SureH.load 3 rfl rfl 22 _ rfl rfl isRowB (sizeRow _)) ?_
  simp only [Act.put, List.setIfInBounds_toArray, List.set_cons_zero, List.set_cons_succ]
  refine SeqH.next (.bool true) rfl rfl (fun π D _ => SureH.pure rfl (fun w => by have hE := hE2 w; go_simp)) ?_
  simp only [Act.put, List.setIfInBounds_toArray, List.set_cons_zero, List.set_cons_succ]
  refine SeqH.next (.bool true) rfl rfl (fun π D _ => SureH.pure rfl (fun w => by go_simp)) ?_
  simp only [Act.put, List.setIfInBounds_toArray, List.set_cons_zero, List.set_cons_succ]
  refine SeqH.next (.bool true) rfl rfl (fun π D _ => SureH.pure rfl (fun w => by go_simp)) ?_
  simp only [Act.put, List.setIfInBounds_toArray, List.set_cons_zero, List.set_cons_succ]
  refine SeqH.next (.int .i64 n) rfl rfl (fun π D _ => SureH.pure rfl (fun w => by go_simp)) ?_
  simp only [Act.put, List.setIfInBounds_toArray, List.set_cons_zero, List.set_cons_succ]
  refine SeqH.next (.int .i64 n) rfl rfl (fun π D _ => SureH.pure rfl (fun w => by go_simp)) ?_
  simp only [Act.put, List.setIfInBounds_toArray, List.set_cons_zero, List.set_cons_succ]
  refine SeqH.next (.bool true) rfl rfl (fun π D _ => SureH.pure rfl (fun w => by go_simp)) ?_
  simp only [Act.put, List.setIfInBounds_toArray, List.set_cons_zero, List.set_cons_succ]
  refine SeqH.next (.bool true) rfl rfl (fun π D _ => SureH.pure rfl (fun w => by go_simp)) ?_
  simp only [Act.put, List.setIfInBounds_toArray, List.set_cons_zero, List.set_cons_succ]
  refine SeqH.pure0 (.bool true) (fun _ _ => rfl) (fun _ => rfl) (fun π w => by go_simp) ?_
  intro π w31 hH
  simp only [Act.put]
  refine Rest.done (by decide) ?_
  go_wp2
  exact bodyPost_ret (results_tmp rfl _ _ _) rfl ⟨rfl, hH.toBelow⟩
end Go.Proofs.Ytchojbhmfjibmaa
