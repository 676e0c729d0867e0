/- The laws of layer 8 (mkxdw.py writes this text). -/
import Derived.Test.YtchojbhmfjibmaaXdM
import Derived.Test.YtchojbhmfjibmaaRApi
namespace Go.Proofs.Ytchojbhmfjibmaa
open Go Go.RowKit
set_option maxRecDepth 100000

theorem and248_8 (x : UInt8) : (x &&& 248).toNat % 8 = 0 := u8_each (Q := fun x => (x &&& 248).toNat % 8 = 0) (by decide +kernel) x
theorem top_bits (x : UInt8) : 64 ≤ ((x &&& 127) ||| 64).toNat ∧ ((x &&& 127) ||| 64).toNat < 128 := u8_each (Q := fun x => 64 ≤ ((x &&& 127) ||| 64).toNat ∧ ((x &&& 127) ||| 64).toNat < 128) (by decide +kernel) x
theorem lv_mod8 (b : Nat → UInt8) : ∀ m, lv b (m + 1) % 8 = (b 0).toNat % 8
  | 0 => by show (lv b 0 + (b 0).toNat * 256 ^ 0) % 8 = _; simp [lv]
  | m + 1 => by
    show (lv b (m + 1) + (b (m + 1)).toNat * 256 ^ (m + 1)) % 8 = _
    have h : (b (m + 1)).toNat * 256 ^ (m + 1) = 8 * ((b (m + 1)).toNat * 256 ^ m * 32) := by rw [Nat.pow_succ]; generalize 256 ^ m = x; generalize (b (m + 1)).toNat = y; rw [← Nat.mul_assoc, Nat.mul_comm 8, Nat.mul_assoc _ 32 8]
    rw [h, Nat.add_mul_mod_self_left, lv_mod8 b m]
theorem kS_facts (s : Nat → UInt8) : ∃ k, kS s = 8 * k ∧ 0 < k ∧ 8 * k < 2 ^ 255 := by
  have h8 : kS s % 8 = 0 := by unfold kS; rw [lv_mod8]; exact and248_8 (s 0)
  have e : kS s = lv (numB s) 31 + ((s 31 &&& 127) ||| 64).toNat * 256 ^ 31 := rfl
  have hl := lv_lt (numB s) 31
  have ht := top_bits (s 31)
  have hp : (256 : Nat) ^ 31 = 2 ^ 248 := by decide
  rw [hp] at e hl
  have h2 : (2 : Nat) ^ 255 = 128 * 2 ^ 248 := by decide
  have hpos : 0 < (2 : Nat) ^ 248 := Nat.pow_pos (by decide)
  refine ⟨kS s / 8, by omega, ?_, ?_⟩
  · have h3 : 64 * 2 ^ 248 ≤ ((s 31 &&& 127) ||| 64).toNat * 2 ^ 248 := Nat.mul_le_mul_right _ ht.1
    have h4 : (8 : Nat) ≤ 64 * 2 ^ 248 := by decide
    omega
  · have h3 : (((s 31 &&& 127) ||| 64).toNat + 1) * 2 ^ 248 ≤ 128 * 2 ^ 248 := Nat.mul_le_mul_right _ (by omega)
    rw [Nat.add_mul, Nat.one_mul] at h3
    omega
theorem kS_lt (s : Nat → UInt8) : kS s < 2 ^ 255 := by
  obtain ⟨k, h1, _, h2⟩ := kS_facts s
  omega
theorem both_never (s t : Nat → UInt8) : xmul (kS s) (xmul (kS t) nineF) ≠ 0 := by
  obtain ⟨k, h1, h2, h3⟩ := kS_facts s
  obtain ⟨l, h4, h5, h6⟩ := kS_facts t
  rw [h1, h4]
  exact nine_never _ _ (by omega) (by omega) (secrets_never k l h3 h6 h2 h5)
theorem public_never (s : Nat → UInt8) : xmul (kS s) nineF ≠ 0 := fun h => by
  have h2 := both_never s s
  rw [h, xmul_zero] at h2
  exact h2 rfl
/-- What is told stands for itself. -/
theorem uS_bF (x : Fin pF) : uS (bF x) = x := by
  unfold uS
  have h : ∀ i, i < 32 → ptB (bF x) i = bF x i := fun i hi => by
    unfold ptB
    split
    · rename_i e; subst e
      have hx := x.isLt
      have hb : (bF x 31).toNat < 128 := by
        show (byteN x.val 31).toNat < 128
        rw [byteN_nat]
        have : x.val / 256 ^ 31 < 128 := by
          refine (Nat.div_lt_iff_lt_mul (Nat.pow_pos (by decide))).2 (Nat.lt_trans hx (by decide))
        omega
      have := u8_each (Q := fun y => y.toNat < 128 → y &&& 127 = y) (by decide +kernel) (bF x 31)
      exact this hb
    · rfl
  have e : nF (ptB (bF x)) = nF (bF x) := by unfold nF; rw [lv_congr h]
  rw [e, nF_bF]
theorem one32 : (#[Value.int IntKind.u8 1, Value.int IntKind.u8 0, Value.int IntKind.u8 0, Value.int IntKind.u8 0, Value.int IntKind.u8 0, Value.int IntKind.u8 0, Value.int IntKind.u8 0, Value.int IntKind.u8 0, Value.int IntKind.u8 0, Value.int IntKind.u8 0, Value.int IntKind.u8 0, Value.int IntKind.u8 0, Value.int IntKind.u8 0, Value.int IntKind.u8 0, Value.int IntKind.u8 0, Value.int IntKind.u8 0, Value.int IntKind.u8 0, Value.int IntKind.u8 0, Value.int IntKind.u8 0, Value.int IntKind.u8 0, Value.int IntKind.u8 0, Value.int IntKind.u8 0, Value.int IntKind.u8 0, Value.int IntKind.u8 0, Value.int IntKind.u8 0, Value.int IntKind.u8 0, Value.int IntKind.u8 0, Value.int IntKind.u8 0, Value.int IntKind.u8 0, Value.int IntKind.u8 0, Value.int IntKind.u8 0, Value.int IntKind.u8 0] : Array Value) = row 32 oneB := by rfl

set_option maxHeartbeats 4000000 in
theorem awake_c (w : World) : Calls Try.prog 8 #[] w fun e w' => e = .returned (.bool true) ∧ Below w.heap.size w w' := by
  obtain ⟨z1, ez1, cz1⟩ : ∃ z, Hid (z = bF (xmul (kS oneB) nineF)) ∧ ∀ W, Calls Try.prog 13 #[vB oneB] W fun e w' => e = .returned (vB z) ∧ Below W.heap.size W w' := ⟨_, rfl, fun W => xPublic_c oneB W⟩
  have hE : ∀ w : World, (Op.equalIn 10000 22 (.agg (row 32 z1)) (.agg (row 32 fun _ => 0))).run Try.prog w = .ok false w := fun w => by rw [run_sameIn _ 32 und32B, ez1.out, bF_same0, decide_eq_false (public_never _)]
  go_enter Try.func8, Try.ntmps8
  have hH := Hold.init w
  go_upto_region 1 with (fail)
  have hz := nil32
  have ho := one32
  go_wp2_with (first | (go_at_call 13; refine (cz1 _).mono ?_; rintro e w5 ⟨rfl, hb⟩; have hH := hH.call hb; clear hb) | (refine wpList_alloc_H hH rfl (some 1) rfl 22 rfl _ z32B ?_; clear hH; intro g1 w1 hH; simp only [List.nil_append] at hH) | (refine wpList_store_H 0 hH rfl rfl 22 _ _ rfl rfl rfl (sizeRow _) (sizeEq _ _) (row_one _ _) ?_; clear hH; intro w2 hH; simp only [List.set_cons_zero] at hH) | (refine wpList_load_H 0 hH rfl rfl 22 _ rfl rfl isRowB (sizeRow _) ?_))
  exact bodyPost_ret (results_tmp rfl _ _ _) rfl ⟨rfl, hH.toBelow⟩

set_option maxHeartbeats 4000000 in
theorem three_w (a b u : Nat → UInt8) (w : World) : Calls Try.prog 5 #[vB a, vB b, vB u] w fun e w' => e = .returned (.bool true) ∧ Below w.heap.size w w' := by
  obtain ⟨z1, ez1, cz1⟩ : ∃ z, Hid (z = bF (xmul (kS b) (uS u))) ∧ ∀ W, Calls Try.prog 11 #[(.agg (row 32 b)), (.agg (row 32 u))] W fun e w' => e = .returned (.agg (row 32 z)) ∧ Below W.heap.size W w' := ⟨_, rfl, fun W => xMul_c b u W⟩
  obtain ⟨z2, ez2, cz2⟩ : ∃ z, Hid (z = bF (xmul (kS a) (uS z1))) ∧ ∀ W, Calls Try.prog 11 #[(.agg (row 32 a)), (.agg (row 32 z1))] W fun e w' => e = .returned (.agg (row 32 z)) ∧ Below W.heap.size W w' := ⟨_, rfl, fun W => xMul_c a z1 W⟩
  obtain ⟨z3, ez3, cz3⟩ : ∃ z, Hid (z = bF (xmul (kS a) (uS u))) ∧ ∀ W, Calls Try.prog 11 #[(.agg (row 32 a)), (.agg (row 32 u))] W fun e w' => e = .returned (.agg (row 32 z)) ∧ Below W.heap.size W w' := ⟨_, rfl, fun W => xMul_c a u W⟩
  obtain ⟨z4, ez4, cz4⟩ : ∃ z, Hid (z = bF (xmul (kS b) (uS z3))) ∧ ∀ W, Calls Try.prog 11 #[(.agg (row 32 b)), (.agg (row 32 z3))] W fun e w' => e = .returned (.agg (row 32 z)) ∧ Below W.heap.size W w' := ⟨_, rfl, fun W => xMul_c b z3 W⟩
  have he : z2 = z4 := by rw [ez2.out, ez4.out, ez1.out, ez3.out, uS_bF, uS_bF, xmul_comm _ _ (kS_lt a) (kS_lt b)]
  have hE : ∀ w : World, (Op.equalIn 10000 22 (.agg (row 32 z2)) (.agg (row 32 z4))).run Try.prog w = .ok true w := fun w => by rw [run_sameIn _ 32 und32B, he, sameB_self]
  clear he
  go_enter Try.func5, Try.ntmps5
  have hH := Hold.init w
  go_upto_region 3 with (first | (refine wpList_box_H hH rfl (some 3) rfl 22 _ rfl _ rfl ?_; clear hH; intro g5 w6 hH; simp only [List.nil_append] at hH) | (refine wpList_box_H hH rfl (some 4) rfl 22 _ rfl _ rfl ?_; clear hH; intro g7 w8 hH; simp only [List.nil_append, List.cons_append] at hH) | (refine wpList_box_H hH rfl (some 5) rfl 22 _ rfl _ rfl ?_; clear hH; intro g9 w10 hH; simp only [List.nil_append, List.cons_append] at hH) | (go_at_call 8; refine (awake_c _).mono ?_; rintro e w5 ⟨rfl, hb⟩; have hH := hH.call hb; clear hb))
  refine region_rest mixedOrders ?_
  have hH := hH.drew
  refine Rest.phaseL (PH w [] (fun _ => _) []) [] 11 (by kernel_rfl) (PH.start _ hH) ?_
  clear hH
  refine SeqH.next (.agg (row 32 a)) rfl rfl (fun π D _ => SureH.load 0 rfl rfl 22 _ rfl rfl isRowB (sizeRow _)) ?_
  simp only [Act.put, List.setIfInBounds_toArray, List.set_cons_zero, List.set_cons_succ]
  refine SeqH.next (.agg (row 32 b)) rfl rfl (fun π D _ => SureH.load 1 rfl rfl 22 _ rfl rfl isRowB (sizeRow _)) ?_
  simp only [Act.put, List.setIfInBounds_toArray, List.set_cons_zero, List.set_cons_succ]
  refine SeqH.next (.agg (row 32 u)) rfl rfl (fun π D _ => SureH.load 2 rfl rfl 22 _ rfl rfl isRowB (sizeRow _)) ?_
  simp only [Act.put, List.setIfInBounds_toArray, List.set_cons_zero, List.set_cons_succ]
  refine SeqH.next (.agg (row 32 z1)) rfl rfl (fun π D _ => SureH.call cz1 rfl (fun w => by go_simp)) ?_
  simp only [Act.put, List.setIfInBounds_toArray, List.set_cons_zero, List.set_cons_succ]
  refine SeqH.next (.agg (row 32 z2)) rfl rfl (fun π D _ => SureH.call cz2 rfl (fun w => by go_simp)) ?_
  simp only [Act.put, List.setIfInBounds_toArray, List.set_cons_zero, List.set_cons_succ]
  refine SeqH.next (.agg (row 32 b)) rfl rfl (fun π D _ => SureH.load 1 rfl rfl 22 _ rfl rfl isRowB (sizeRow _)) ?_
  simp only [Act.put, List.setIfInBounds_toArray, List.set_cons_zero, List.set_cons_succ]
  refine SeqH.next (.agg (row 32 a)) rfl rfl (fun π D _ => SureH.load 0 rfl rfl 22 _ rfl rfl isRowB (sizeRow _)) ?_
  simp only [Act.put, List.setIfInBounds_toArray, List.set_cons_zero, List.set_cons_succ]
  refine SeqH.next (.agg (row 32 u)) rfl rfl (fun π D _ => SureH.load 2 rfl rfl 22 _ rfl rfl isRowB (sizeRow _)) ?_
  simp only [Act.put, List.setIfInBounds_toArray, List.set_cons_zero, List.set_cons_succ]
  refine SeqH.next (.agg (row 32 z3)) rfl rfl (fun π D _ => SureH.call cz3 rfl (fun w => by go_simp)) ?_
  simp only [Act.put, List.setIfInBounds_toArray, List.set_cons_zero, List.set_cons_succ]
  refine SeqH.next (.agg (row 32 z4)) rfl rfl (fun π D _ => SureH.call cz4 rfl (fun w => by go_simp)) ?_
  simp only [Act.put, List.setIfInBounds_toArray, List.set_cons_zero, List.set_cons_succ]
  refine SeqH.next (.bool true) rfl rfl (fun π D _ => SureH.pure rfl (fun w => by have hE := hE w; go_simp)) ?_
  simp only [Act.put, List.setIfInBounds_toArray, List.set_cons_zero, List.set_cons_succ]
  refine SeqH.pure0 (.bool true) (fun _ _ => rfl) (fun _ => rfl) (fun π w => by go_simp) ?_
  intro π w11 hH
  simp only [Act.put]
  refine Rest.done (by decide) ?_
  go_wp2
  exact bodyPost_ret (results_tmp rfl _ _ _) rfl ⟨rfl, hH.toBelow⟩

set_option maxHeartbeats 4000000 in
theorem agree_w (a b : Nat → UInt8) (w : World) : Calls Try.prog 4 #[vB a, vB b] w fun e w' => e = .returned (.bool true) ∧ Below w.heap.size w w' := by
  obtain ⟨z1, ez1, cz1⟩ : ∃ z, Hid (z = bF (xmul (kS b) nineF)) ∧ ∀ W, Calls Try.prog 13 #[(.agg (row 32 b))] W fun e w' => e = .returned (.agg (row 32 z)) ∧ Below W.heap.size W w' := ⟨_, rfl, fun W => xPublic_c b W⟩
  obtain ⟨z2, ez2, cz2⟩ : ∃ z, Hid (z = bF (xmul (kS a) nineF)) ∧ ∀ W, Calls Try.prog 13 #[(.agg (row 32 a))] W fun e w' => e = .returned (.agg (row 32 z)) ∧ Below W.heap.size W w' := ⟨_, rfl, fun W => xPublic_c a W⟩
  obtain ⟨x, ex, cx⟩ : ∃ z, Hid (z = bF (xmul (kS a) (uS z1))) ∧ ∀ W, Calls Try.prog 9 #[vB a, vB z1] W fun e w' => e = .returned (.tuple #[vB z, .int .i64 0]) ∧ Below W.heap.size W w' := ⟨_, rfl, fun W => shared_some a z1 (by rw [ez1.out, uS_bF]; exact both_never a b) W⟩
  obtain ⟨y, ey, cy⟩ : ∃ z, Hid (z = bF (xmul (kS b) (uS z2))) ∧ ∀ W, Calls Try.prog 9 #[vB b, vB z2] W fun e w' => e = .returned (.tuple #[vB z, .int .i64 0]) ∧ Below W.heap.size W w' := ⟨_, rfl, fun W => shared_some b z2 (by rw [ez2.out, uS_bF]; exact both_never b a) W⟩
  have he : x = y := by rw [ex.out, ey.out, ez1.out, ez2.out, uS_bF, uS_bF, xmul_comm _ _ (kS_lt a) (kS_lt b)]
  have hE : ∀ w : World, (Op.equalIn 10000 22 (.agg (row 32 x)) (.agg (row 32 y))).run Try.prog w = .ok true w := fun w => by rw [run_sameIn _ 32 und32B, he, sameB_self]
  clear he
  go_enter Try.func4, Try.ntmps4
  have hH := Hold.init w
  go_upto_region 3 with (first | (refine wpList_box_H hH rfl (some 2) rfl 22 _ rfl _ rfl ?_; clear hH; intro g3 w4 hH; simp only [List.nil_append] at hH) | (refine wpList_box_H hH rfl (some 3) rfl 22 _ rfl _ rfl ?_; clear hH; intro g5 w6 hH; simp only [List.nil_append, List.cons_append] at hH) | (go_at_call 8; refine (awake_c _).mono ?_; rintro e w5 ⟨rfl, hb⟩; have hH := hH.call hb; clear hb))
  refine region_rest mixedOrders ?_
  have hH := hH.drew
  refine Rest.phaseL (PH w [] (fun _ => _) [(7, (fun D => Obj.cells (if D 8 then row 32 x else row 32 (fun _ => 0)) 22 (0, 0)))]) [7, 8] 9 (by kernel_rfl) (PH.start _ hH) ?_
  clear hH
  refine SeqH.next (.agg (row 32 a)) rfl rfl (fun π D _ => SureH.load 0 rfl rfl 22 _ rfl rfl isRowB (sizeRow _)) ?_
  simp only [Act.put, List.setIfInBounds_toArray, List.set_cons_zero, List.set_cons_succ]
  refine SeqH.next (.agg (row 32 b)) rfl rfl (fun π D _ => SureH.load 1 rfl rfl 22 _ rfl rfl isRowB (sizeRow _)) ?_
  simp only [Act.put, List.setIfInBounds_toArray, List.set_cons_zero, List.set_cons_succ]
  refine SeqH.next (.agg (row 32 z1)) rfl rfl (fun π D _ => SureH.call cz1 rfl (fun w => by go_simp)) ?_
  simp only [Act.put, List.setIfInBounds_toArray, List.set_cons_zero, List.set_cons_succ]
  refine SeqH.next (.tuple #[(.agg (row 32 x)), (.int .i64 0)]) rfl rfl (fun π D _ => SureH.call cx rfl (fun w => by go_simp)) ?_
  simp only [Act.put, List.setIfInBounds_toArray, List.set_cons_zero, List.set_cons_succ]
  refine SeqH.next (.tuple #[(.agg (row 32 x)), (.int .i64 0)]) rfl rfl (fun π D _ => SureH.pure rfl (fun w => by go_simp)) ?_
  simp only [Act.put, List.setIfInBounds_toArray, List.set_cons_zero, List.set_cons_succ]
  refine SeqH.next (.agg (row 32 x)) rfl rfl (fun π D _ => SureH.pure rfl (fun w => by go_simp)) ?_
  simp only [Act.put, List.setIfInBounds_toArray, List.set_cons_zero, List.set_cons_succ]
  refine SeqH.next (.int .i64 0) rfl rfl (fun π D _ => SureH.pure rfl (fun w => by go_simp)) ?_
  simp only [Act.put, List.setIfInBounds_toArray, List.set_cons_zero, List.set_cons_succ]
  refine SeqH.make rfl rfl (fun π => MakesH.alloc 22 rfl _ z32B _ (List.Mem.head _) (fun D h => by have h := h.2 8 rfl (by kernel_rfl); (try dsimp only); rw [h]; rfl) ⟨fun _ => rfl, (List.forall_mem_cons.2 ⟨(fun _ => rfl), (List.forall_mem_nil _)⟩)⟩ (by simp) rfl) ?_
  simp only [Act.put, List.setIfInBounds_toArray, List.set_cons_zero, List.set_cons_succ]
  refine SeqH.make rfl rfl (fun π => MakesH.storeM (m := 7) (old := row 32 (fun _ => 0)) (cs := row 32 x) _ (List.Mem.head _) (by simp) (fun D h => h.1 7 rfl (by kernel_rfl)) (fun D h => by (try dsimp only); rw [h]; rfl) (fun D => rfl) (List.forall_mem_cons.2 ⟨(fun h => absurd rfl h), (List.forall_mem_nil _)⟩) (fun _ => rfl) (List.forall_mem_cons.2 ⟨(show (7 : Nat) ≠ 8 by decide), (List.forall_mem_nil _)⟩) 22 _ _ rfl rfl rfl (sizeRow _) (sizeEq _ _) (row_one _ _) rfl) ?_
  simp only [Act.put]
  refine SeqH.pure1 (.int .i64 0) (L' := [bl g3 22 (row 32 a), bl g5 22 (row 32 b)]) (ob := Obj.cells (row 32 x) 22 (0, 0)) (fun D h => by have h8 := h 8 rfl (by decide); (try dsimp only); rw [h8]; exact ⟨rfl, rfl⟩) rfl (fun _ => rfl) (fun π w => by go_simp) ?_
  intro g7 π w8 pg7 hH
  simp only [pg7]
  clear pg7
  simp only [List.nil_append, List.cons_append] at hH
  simp only [Act.put]
  refine Rest.done (by decide) ?_
  go_upto_region 4 with (fail)
  refine region_rest mixedOrders ?_
  have hH := hH.drew
  refine Rest.phaseL (PH w [] (fun _ => _) [(7, (fun D => Obj.cells (if D 8 then row 32 y else row 32 (fun _ => 0)) 22 (0, 0)))]) [7, 8] 9 (by kernel_rfl) (PH.start _ hH) ?_
  clear hH
  refine SeqH.next (.agg (row 32 b)) rfl rfl (fun π D _ => SureH.load 1 rfl rfl 22 _ rfl rfl isRowB (sizeRow _)) ?_
  simp only [Act.put, List.setIfInBounds_toArray, List.set_cons_zero, List.set_cons_succ]
  refine SeqH.next (.agg (row 32 a)) rfl rfl (fun π D _ => SureH.load 0 rfl rfl 22 _ rfl rfl isRowB (sizeRow _)) ?_
  simp only [Act.put, List.setIfInBounds_toArray, List.set_cons_zero, List.set_cons_succ]
  refine SeqH.next (.agg (row 32 z2)) rfl rfl (fun π D _ => SureH.call cz2 rfl (fun w => by go_simp)) ?_
  simp only [Act.put, List.setIfInBounds_toArray, List.set_cons_zero, List.set_cons_succ]
  refine SeqH.next (.tuple #[(.agg (row 32 y)), (.int .i64 0)]) rfl rfl (fun π D _ => SureH.call cy rfl (fun w => by go_simp)) ?_
  simp only [Act.put, List.setIfInBounds_toArray, List.set_cons_zero, List.set_cons_succ]
  refine SeqH.next (.tuple #[(.agg (row 32 y)), (.int .i64 0)]) rfl rfl (fun π D _ => SureH.pure rfl (fun w => by go_simp)) ?_
  simp only [Act.put, List.setIfInBounds_toArray, List.set_cons_zero, List.set_cons_succ]
  refine SeqH.next (.agg (row 32 y)) rfl rfl (fun π D _ => SureH.pure rfl (fun w => by go_simp)) ?_
  simp only [Act.put, List.setIfInBounds_toArray, List.set_cons_zero, List.set_cons_succ]
  refine SeqH.next (.int .i64 0) rfl rfl (fun π D _ => SureH.pure rfl (fun w => by go_simp)) ?_
  simp only [Act.put, List.setIfInBounds_toArray, List.set_cons_zero, List.set_cons_succ]
  refine SeqH.make rfl rfl (fun π => MakesH.alloc 22 rfl _ z32B _ (List.Mem.head _) (fun D h => by have h := h.2 8 rfl (by kernel_rfl); (try dsimp only); rw [h]; rfl) ⟨fun _ => rfl, (List.forall_mem_cons.2 ⟨(fun _ => rfl), (List.forall_mem_nil _)⟩)⟩ (by simp) rfl) ?_
  simp only [Act.put, List.setIfInBounds_toArray, List.set_cons_zero, List.set_cons_succ]
  refine SeqH.make rfl rfl (fun π => MakesH.storeM (m := 7) (old := row 32 (fun _ => 0)) (cs := row 32 y) _ (List.Mem.head _) (by simp) (fun D h => h.1 7 rfl (by kernel_rfl)) (fun D h => by (try dsimp only); rw [h]; rfl) (fun D => rfl) (List.forall_mem_cons.2 ⟨(fun h => absurd rfl h), (List.forall_mem_nil _)⟩) (fun _ => rfl) (List.forall_mem_cons.2 ⟨(show (7 : Nat) ≠ 8 by decide), (List.forall_mem_nil _)⟩) 22 _ _ rfl rfl rfl (sizeRow _) (sizeEq _ _) (row_one _ _) rfl) ?_
  simp only [Act.put]
  refine SeqH.pure1 (.int .i64 0) (L' := [bl g3 22 (row 32 a), bl g5 22 (row 32 b), bl g7 22 (row 32 x)]) (ob := Obj.cells (row 32 y) 22 (0, 0)) (fun D h => by have h8 := h 8 rfl (by decide); (try dsimp only); rw [h8]; exact ⟨rfl, rfl⟩) rfl (fun _ => rfl) (fun π w => by go_simp) ?_
  intro g9 π w10 pg9 hH
  simp only [pg9]
  clear pg9
  simp only [List.nil_append, List.cons_append] at hH
  simp only [Act.put]
  refine Rest.done (by decide) ?_
  go_wp2_with (first | (refine wpList_load_HG 2 hH rfl 22 _ rfl rfl (by kernel_rfl) isRowB (sizeRow _) ?_) | (refine wpList_load_HG 3 hH rfl 22 _ rfl rfl (by kernel_rfl) isRowB (sizeRow _) ?_))
  exact bodyPost_ret (results_tmp rfl _ _ _) rfl ⟨rfl, hH.toBelow⟩

theorem uS_zero : uS (fun _ => 0) = 0 := by decide +kernel
theorem uS_one : uS oneB = 1 := by decide +kernel
theorem set32_0 : (row 32 fun _ => 0).setIfInBounds 0 (.int .u8 0) = row 32 fun _ => 0 := by rfl
theorem set32_1 : (row 32 fun _ => 0).setIfInBounds 0 (.int .u8 1) = row 32 oneB := by rfl
theorem none_zero (s : Nat → UInt8) : xmul (kS s) (uS fun _ => 0) = 0 := by rw [uS_zero, xmul_zero]
theorem none_one (s : Nat → UInt8) : xmul (kS s) (uS oneB) = 0 := by
  obtain ⟨k, h1, _, h2⟩ := kS_facts s
  rw [uS_one, h1, show 8 * k = 4 * (2 * k) by omega]
  exact small_one _ (by omega)
theorem none_less (s : Nat → UInt8) : xmul (kS s) (uS (bF (-1))) = 0 := by
  obtain ⟨k, h1, _, h2⟩ := kS_facts s
  rw [uS_bF, h1, show 8 * k = 4 * (2 * k) by omega]
  exact small_less _ (by omega)
theorem rsubF_c (a b : Nat → UInt8) (w : World) : Calls Try.prog 17 #[vB a, vB b] w fun e w' => e = .returned (vB (bF (nF a - nF b))) ∧ Below w.heap.size w w' := by
  have h := rsub_c a b w
  rw [← bF_toF, toF_minus] at h
  exact h
theorem raddF_c (a b : Nat → UInt8) (w : World) : Calls Try.prog 15 #[vB a, vB b] w fun e w' => e = .returned (vB (bF (nF a + nF b))) ∧ Below w.heap.size w w' := by
  have h := radd_c a b w
  rw [← bF_toF, toF_fv, toF_add] at h
  exact h
theorem less_one (w : World) : Calls Try.prog 17 #[vB fun _ => 0, vB oneB] w fun e w' => e = .returned (vB (bF (-1))) ∧ Below w.heap.size w w' := by
  have h := rsubF_c (fun _ => 0) oneB w
  have e : nF (fun _ => 0) - nF oneB = -1 := by rw [nF_nil, nF_one]; decide +kernel
  rw [e] at h
  exact h

set_option maxHeartbeats 4000000 in
theorem small_0_0 (s : Nat → UInt8) (x : UInt8) (h2 : x.toNat % 2 = 0) (h3 : x.toNat % 3 = 0) (w : World) : Calls Try.prog 7 #[vB s, .int .u8 (x.toNat : Int)] w fun e w' => e = .returned (.bool true) ∧ Below w.heap.size w w' := by
  have hc := fun W => shared_none s (fun _ => 0) (none_zero s) W
  have hE : ∀ w : World, (Op.equalIn 10000 22 (.agg (row 32 fun _ => 0)) (.agg (row 32 fun _ => 0))).run Try.prog w = .ok true w := fun w => by rw [run_sameIn _ 32 und32B, sameB_self]
  obtain ⟨v, hv⟩ : ∃ v : Int, v = (x.toNat : Int) := ⟨_, rfl⟩
  have hlt := x.toNat_lt
  have a1 : v.tmod 2 = 0 := by rw [hv, Int.tmod_eq_emod_of_nonneg (by omega)]; omega
  have a2 : v % 2 = 0 := by omega
  have a3 : v.tmod 3 = 0 := by rw [hv, Int.tmod_eq_emod_of_nonneg (by omega)]; omega
  have a4 : v % 3 = 0 := by omega
  rw [← hv]
  have hv0 : 0 ≤ v := by omega
  have hv1 : v < 256 := by omega
  clear hv h2 h3 hlt
  have hz := nil32
  have ho := set32_0
  go_enter Try.func7, Try.ntmps7
  have hH := Hold.init w
  go_upto_region 3 with (first | (refine wpList_box_H hH rfl (some 2) rfl 22 _ rfl _ rfl ?_; clear hH; intro g101 w102 hH; simp only [List.nil_append] at hH) | (go_at_call 8; refine (awake_c _).mono ?_; rintro e w5 ⟨rfl, hb⟩; have hH := hH.call hb; clear hb))
  go_upto_region 4 with (first | (refine wpList_alloc_H hH rfl (some 5) rfl 22 rfl _ z32B ?_; clear hH; intro gu w5 hH; simp only [List.nil_append, List.cons_append] at hH) | (refine wpList_store_H 1 hH rfl rfl 22 _ _ rfl rfl rfl (sizeRow _) (sizeEq _ _) (row_one _ _) ?_; clear hH; intro wu hH; simp only [List.set_cons_zero, List.set_cons_succ] at hH))
  go_upto_region 6 with (fail)
  go_upto_region 7 with (first | (refine wpList_load_H 0 hH rfl rfl 22 _ rfl rfl isRowB (sizeRow _) ?_) | (refine wpList_load_H 1 hH rfl rfl 22 _ rfl rfl isRowB (sizeRow _) ?_) | (go_at_call 9; refine (hc _).mono ?_; rintro e w5 ⟨rfl, hb⟩; have hH := hH.call hb; clear hb) | (refine wpList_alloc_H hH rfl (some 6) rfl 22 rfl _ z32B ?_; clear hH; intro gs w6 hH; simp only [List.nil_append, List.cons_append] at hH) | (refine wpList_store_H 2 hH rfl rfl 22 _ _ rfl rfl rfl (sizeRow _) (sizeEq _ _) (row_one _ _) ?_; clear hH; intro ws hH; simp only [List.set_cons_zero, List.set_cons_succ] at hH))
  go_wp2_with (refine wpList_load_HG 2 hH rfl 22 _ rfl rfl (by kernel_rfl) isRowB (sizeRow _) ?_)
  exact bodyPost_ret (results_tmp rfl _ _ _) rfl ⟨rfl, hH.toBelow⟩

set_option maxHeartbeats 4000000 in
theorem small_0_1 (s : Nat → UInt8) (x : UInt8) (h2 : x.toNat % 2 = 0) (h3 : x.toNat % 3 = 1) (w : World) : Calls Try.prog 7 #[vB s, .int .u8 (x.toNat : Int)] w fun e w' => e = .returned (.bool true) ∧ Below w.heap.size w w' := by
  have hc := fun W => shared_none s (fun _ => 0) (none_zero s) W
  have hE : ∀ w : World, (Op.equalIn 10000 22 (.agg (row 32 fun _ => 0)) (.agg (row 32 fun _ => 0))).run Try.prog w = .ok true w := fun w => by rw [run_sameIn _ 32 und32B, sameB_self]
  obtain ⟨v, hv⟩ : ∃ v : Int, v = (x.toNat : Int) := ⟨_, rfl⟩
  have hlt := x.toNat_lt
  have a1 : v.tmod 2 = 0 := by rw [hv, Int.tmod_eq_emod_of_nonneg (by omega)]; omega
  have a2 : v % 2 = 0 := by omega
  have a3 : v.tmod 3 = 1 := by rw [hv, Int.tmod_eq_emod_of_nonneg (by omega)]; omega
  have a4 : v % 3 = 1 := by omega
  rw [← hv]
  have hv0 : 0 ≤ v := by omega
  have hv1 : v < 256 := by omega
  clear hv h2 h3 hlt
  have hz := nil32
  have ho := set32_0
  go_enter Try.func7, Try.ntmps7
  have hH := Hold.init w
  go_upto_region 3 with (first | (refine wpList_box_H hH rfl (some 2) rfl 22 _ rfl _ rfl ?_; clear hH; intro g101 w102 hH; simp only [List.nil_append] at hH) | (go_at_call 8; refine (awake_c _).mono ?_; rintro e w5 ⟨rfl, hb⟩; have hH := hH.call hb; clear hb))
  go_upto_region 4 with (first | (refine wpList_alloc_H hH rfl (some 5) rfl 22 rfl _ z32B ?_; clear hH; intro gu w5 hH; simp only [List.nil_append, List.cons_append] at hH) | (refine wpList_store_H 1 hH rfl rfl 22 _ _ rfl rfl rfl (sizeRow _) (sizeEq _ _) (row_one _ _) ?_; clear hH; intro wu hH; simp only [List.set_cons_zero, List.set_cons_succ] at hH))
  go_upto_region 6 with (fail)
  go_upto_region 7 with (first | (refine wpList_load_H 0 hH rfl rfl 22 _ rfl rfl isRowB (sizeRow _) ?_) | (refine wpList_load_H 1 hH rfl rfl 22 _ rfl rfl isRowB (sizeRow _) ?_) | (go_at_call 9; refine (hc _).mono ?_; rintro e w5 ⟨rfl, hb⟩; have hH := hH.call hb; clear hb) | (refine wpList_alloc_H hH rfl (some 6) rfl 22 rfl _ z32B ?_; clear hH; intro gs w6 hH; simp only [List.nil_append, List.cons_append] at hH) | (refine wpList_store_H 2 hH rfl rfl 22 _ _ rfl rfl rfl (sizeRow _) (sizeEq _ _) (row_one _ _) ?_; clear hH; intro ws hH; simp only [List.set_cons_zero, List.set_cons_succ] at hH))
  go_wp2_with (refine wpList_load_HG 2 hH rfl 22 _ rfl rfl (by kernel_rfl) isRowB (sizeRow _) ?_)
  exact bodyPost_ret (results_tmp rfl _ _ _) rfl ⟨rfl, hH.toBelow⟩

set_option maxHeartbeats 4000000 in
theorem small_0_2 (s : Nat → UInt8) (x : UInt8) (h2 : x.toNat % 2 = 0) (h3 : x.toNat % 3 = 2) (w : World) : Calls Try.prog 7 #[vB s, .int .u8 (x.toNat : Int)] w fun e w' => e = .returned (.bool true) ∧ Below w.heap.size w w' := by
  have hc := fun W => shared_none s (bF (-1)) (none_less s) W
  have hE : ∀ w : World, (Op.equalIn 10000 22 (.agg (row 32 fun _ => 0)) (.agg (row 32 fun _ => 0))).run Try.prog w = .ok true w := fun w => by rw [run_sameIn _ 32 und32B, sameB_self]
  obtain ⟨v, hv⟩ : ∃ v : Int, v = (x.toNat : Int) := ⟨_, rfl⟩
  have hlt := x.toNat_lt
  have a1 : v.tmod 2 = 0 := by rw [hv, Int.tmod_eq_emod_of_nonneg (by omega)]; omega
  have a2 : v % 2 = 0 := by omega
  have a3 : v.tmod 3 = 2 := by rw [hv, Int.tmod_eq_emod_of_nonneg (by omega)]; omega
  have a4 : v % 3 = 2 := by omega
  rw [← hv]
  have hv0 : 0 ≤ v := by omega
  have hv1 : v < 256 := by omega
  clear hv h2 h3 hlt
  have hz := nil32
  have ho := set32_0
  go_enter Try.func7, Try.ntmps7
  have hH := Hold.init w
  go_upto_region 3 with (first | (refine wpList_box_H hH rfl (some 2) rfl 22 _ rfl _ rfl ?_; clear hH; intro g101 w102 hH; simp only [List.nil_append] at hH) | (go_at_call 8; refine (awake_c _).mono ?_; rintro e w5 ⟨rfl, hb⟩; have hH := hH.call hb; clear hb))
  go_upto_region 4 with (first | (refine wpList_alloc_H hH rfl (some 5) rfl 22 rfl _ z32B ?_; clear hH; intro gu w5 hH; simp only [List.nil_append, List.cons_append] at hH) | (refine wpList_store_H 1 hH rfl rfl 22 _ _ rfl rfl rfl (sizeRow _) (sizeEq _ _) (row_one _ _) ?_; clear hH; intro wu hH; simp only [List.set_cons_zero, List.set_cons_succ] at hH))
  have ho := set32_1
  go_upto_region 6 with (first | (go_at_call 17; refine (less_one _).mono ?_; rintro e w5 ⟨rfl, hb⟩; have hH := hH.call hb; clear hb) | (refine wpList_store_H 1 hH rfl rfl 22 _ _ rfl rfl rfl (sizeRow _) (sizeEq _ _) (row_one _ _) ?_; clear hH; intro wv hH; simp only [List.set_cons_zero, List.set_cons_succ] at hH))
  go_upto_region 7 with (first | (refine wpList_load_H 0 hH rfl rfl 22 _ rfl rfl isRowB (sizeRow _) ?_) | (refine wpList_load_H 1 hH rfl rfl 22 _ rfl rfl isRowB (sizeRow _) ?_) | (go_at_call 9; refine (hc _).mono ?_; rintro e w5 ⟨rfl, hb⟩; have hH := hH.call hb; clear hb) | (refine wpList_alloc_H hH rfl (some 6) rfl 22 rfl _ z32B ?_; clear hH; intro gs w6 hH; simp only [List.nil_append, List.cons_append] at hH) | (refine wpList_store_H 2 hH rfl rfl 22 _ _ rfl rfl rfl (sizeRow _) (sizeEq _ _) (row_one _ _) ?_; clear hH; intro ws hH; simp only [List.set_cons_zero, List.set_cons_succ] at hH))
  go_wp2_with (refine wpList_load_HG 2 hH rfl 22 _ rfl rfl (by kernel_rfl) isRowB (sizeRow _) ?_)
  exact bodyPost_ret (results_tmp rfl _ _ _) rfl ⟨rfl, hH.toBelow⟩

set_option maxHeartbeats 4000000 in
theorem small_1_0 (s : Nat → UInt8) (x : UInt8) (h2 : x.toNat % 2 = 1) (h3 : x.toNat % 3 = 0) (w : World) : Calls Try.prog 7 #[vB s, .int .u8 (x.toNat : Int)] w fun e w' => e = .returned (.bool true) ∧ Below w.heap.size w w' := by
  have hc := fun W => shared_none s oneB (none_one s) W
  have hE : ∀ w : World, (Op.equalIn 10000 22 (.agg (row 32 fun _ => 0)) (.agg (row 32 fun _ => 0))).run Try.prog w = .ok true w := fun w => by rw [run_sameIn _ 32 und32B, sameB_self]
  obtain ⟨v, hv⟩ : ∃ v : Int, v = (x.toNat : Int) := ⟨_, rfl⟩
  have hlt := x.toNat_lt
  have a1 : v.tmod 2 = 1 := by rw [hv, Int.tmod_eq_emod_of_nonneg (by omega)]; omega
  have a2 : v % 2 = 1 := by omega
  have a3 : v.tmod 3 = 0 := by rw [hv, Int.tmod_eq_emod_of_nonneg (by omega)]; omega
  have a4 : v % 3 = 0 := by omega
  rw [← hv]
  have hv0 : 0 ≤ v := by omega
  have hv1 : v < 256 := by omega
  clear hv h2 h3 hlt
  have hz := nil32
  have ho := set32_1
  go_enter Try.func7, Try.ntmps7
  have hH := Hold.init w
  go_upto_region 3 with (first | (refine wpList_box_H hH rfl (some 2) rfl 22 _ rfl _ rfl ?_; clear hH; intro g101 w102 hH; simp only [List.nil_append] at hH) | (go_at_call 8; refine (awake_c _).mono ?_; rintro e w5 ⟨rfl, hb⟩; have hH := hH.call hb; clear hb))
  go_upto_region 4 with (first | (refine wpList_alloc_H hH rfl (some 5) rfl 22 rfl _ z32B ?_; clear hH; intro gu w5 hH; simp only [List.nil_append, List.cons_append] at hH) | (refine wpList_store_H 1 hH rfl rfl 22 _ _ rfl rfl rfl (sizeRow _) (sizeEq _ _) (row_one _ _) ?_; clear hH; intro wu hH; simp only [List.set_cons_zero, List.set_cons_succ] at hH))
  go_upto_region 6 with (fail)
  go_upto_region 7 with (first | (refine wpList_load_H 0 hH rfl rfl 22 _ rfl rfl isRowB (sizeRow _) ?_) | (refine wpList_load_H 1 hH rfl rfl 22 _ rfl rfl isRowB (sizeRow _) ?_) | (go_at_call 9; refine (hc _).mono ?_; rintro e w5 ⟨rfl, hb⟩; have hH := hH.call hb; clear hb) | (refine wpList_alloc_H hH rfl (some 6) rfl 22 rfl _ z32B ?_; clear hH; intro gs w6 hH; simp only [List.nil_append, List.cons_append] at hH) | (refine wpList_store_H 2 hH rfl rfl 22 _ _ rfl rfl rfl (sizeRow _) (sizeEq _ _) (row_one _ _) ?_; clear hH; intro ws hH; simp only [List.set_cons_zero, List.set_cons_succ] at hH))
  go_wp2_with (refine wpList_load_HG 2 hH rfl 22 _ rfl rfl (by kernel_rfl) isRowB (sizeRow _) ?_)
  exact bodyPost_ret (results_tmp rfl _ _ _) rfl ⟨rfl, hH.toBelow⟩

set_option maxHeartbeats 4000000 in
theorem small_1_1 (s : Nat → UInt8) (x : UInt8) (h2 : x.toNat % 2 = 1) (h3 : x.toNat % 3 = 1) (w : World) : Calls Try.prog 7 #[vB s, .int .u8 (x.toNat : Int)] w fun e w' => e = .returned (.bool true) ∧ Below w.heap.size w w' := by
  have hc := fun W => shared_none s oneB (none_one s) W
  have hE : ∀ w : World, (Op.equalIn 10000 22 (.agg (row 32 fun _ => 0)) (.agg (row 32 fun _ => 0))).run Try.prog w = .ok true w := fun w => by rw [run_sameIn _ 32 und32B, sameB_self]
  obtain ⟨v, hv⟩ : ∃ v : Int, v = (x.toNat : Int) := ⟨_, rfl⟩
  have hlt := x.toNat_lt
  have a1 : v.tmod 2 = 1 := by rw [hv, Int.tmod_eq_emod_of_nonneg (by omega)]; omega
  have a2 : v % 2 = 1 := by omega
  have a3 : v.tmod 3 = 1 := by rw [hv, Int.tmod_eq_emod_of_nonneg (by omega)]; omega
  have a4 : v % 3 = 1 := by omega
  rw [← hv]
  have hv0 : 0 ≤ v := by omega
  have hv1 : v < 256 := by omega
  clear hv h2 h3 hlt
  have hz := nil32
  have ho := set32_1
  go_enter Try.func7, Try.ntmps7
  have hH := Hold.init w
  go_upto_region 3 with (first | (refine wpList_box_H hH rfl (some 2) rfl 22 _ rfl _ rfl ?_; clear hH; intro g101 w102 hH; simp only [List.nil_append] at hH) | (go_at_call 8; refine (awake_c _).mono ?_; rintro e w5 ⟨rfl, hb⟩; have hH := hH.call hb; clear hb))
  go_upto_region 4 with (first | (refine wpList_alloc_H hH rfl (some 5) rfl 22 rfl _ z32B ?_; clear hH; intro gu w5 hH; simp only [List.nil_append, List.cons_append] at hH) | (refine wpList_store_H 1 hH rfl rfl 22 _ _ rfl rfl rfl (sizeRow _) (sizeEq _ _) (row_one _ _) ?_; clear hH; intro wu hH; simp only [List.set_cons_zero, List.set_cons_succ] at hH))
  go_upto_region 6 with (fail)
  go_upto_region 7 with (first | (refine wpList_load_H 0 hH rfl rfl 22 _ rfl rfl isRowB (sizeRow _) ?_) | (refine wpList_load_H 1 hH rfl rfl 22 _ rfl rfl isRowB (sizeRow _) ?_) | (go_at_call 9; refine (hc _).mono ?_; rintro e w5 ⟨rfl, hb⟩; have hH := hH.call hb; clear hb) | (refine wpList_alloc_H hH rfl (some 6) rfl 22 rfl _ z32B ?_; clear hH; intro gs w6 hH; simp only [List.nil_append, List.cons_append] at hH) | (refine wpList_store_H 2 hH rfl rfl 22 _ _ rfl rfl rfl (sizeRow _) (sizeEq _ _) (row_one _ _) ?_; clear hH; intro ws hH; simp only [List.set_cons_zero, List.set_cons_succ] at hH))
  go_wp2_with (refine wpList_load_HG 2 hH rfl 22 _ rfl rfl (by kernel_rfl) isRowB (sizeRow _) ?_)
  exact bodyPost_ret (results_tmp rfl _ _ _) rfl ⟨rfl, hH.toBelow⟩

set_option maxHeartbeats 4000000 in
theorem small_1_2 (s : Nat → UInt8) (x : UInt8) (h2 : x.toNat % 2 = 1) (h3 : x.toNat % 3 = 2) (w : World) : Calls Try.prog 7 #[vB s, .int .u8 (x.toNat : Int)] w fun e w' => e = .returned (.bool true) ∧ Below w.heap.size w w' := by
  have hc := fun W => shared_none s (bF (-1)) (none_less s) W
  have hE : ∀ w : World, (Op.equalIn 10000 22 (.agg (row 32 fun _ => 0)) (.agg (row 32 fun _ => 0))).run Try.prog w = .ok true w := fun w => by rw [run_sameIn _ 32 und32B, sameB_self]
  obtain ⟨v, hv⟩ : ∃ v : Int, v = (x.toNat : Int) := ⟨_, rfl⟩
  have hlt := x.toNat_lt
  have a1 : v.tmod 2 = 1 := by rw [hv, Int.tmod_eq_emod_of_nonneg (by omega)]; omega
  have a2 : v % 2 = 1 := by omega
  have a3 : v.tmod 3 = 2 := by rw [hv, Int.tmod_eq_emod_of_nonneg (by omega)]; omega
  have a4 : v % 3 = 2 := by omega
  rw [← hv]
  have hv0 : 0 ≤ v := by omega
  have hv1 : v < 256 := by omega
  clear hv h2 h3 hlt
  have hz := nil32
  have ho := set32_1
  go_enter Try.func7, Try.ntmps7
  have hH := Hold.init w
  go_upto_region 3 with (first | (refine wpList_box_H hH rfl (some 2) rfl 22 _ rfl _ rfl ?_; clear hH; intro g101 w102 hH; simp only [List.nil_append] at hH) | (go_at_call 8; refine (awake_c _).mono ?_; rintro e w5 ⟨rfl, hb⟩; have hH := hH.call hb; clear hb))
  go_upto_region 4 with (first | (refine wpList_alloc_H hH rfl (some 5) rfl 22 rfl _ z32B ?_; clear hH; intro gu w5 hH; simp only [List.nil_append, List.cons_append] at hH) | (refine wpList_store_H 1 hH rfl rfl 22 _ _ rfl rfl rfl (sizeRow _) (sizeEq _ _) (row_one _ _) ?_; clear hH; intro wu hH; simp only [List.set_cons_zero, List.set_cons_succ] at hH))
  go_upto_region 6 with (first | (go_at_call 17; refine (less_one _).mono ?_; rintro e w5 ⟨rfl, hb⟩; have hH := hH.call hb; clear hb) | (refine wpList_store_H 1 hH rfl rfl 22 _ _ rfl rfl rfl (sizeRow _) (sizeEq _ _) (row_one _ _) ?_; clear hH; intro wv hH; simp only [List.set_cons_zero, List.set_cons_succ] at hH))
  go_upto_region 7 with (first | (refine wpList_load_H 0 hH rfl rfl 22 _ rfl rfl isRowB (sizeRow _) ?_) | (refine wpList_load_H 1 hH rfl rfl 22 _ rfl rfl isRowB (sizeRow _) ?_) | (go_at_call 9; refine (hc _).mono ?_; rintro e w5 ⟨rfl, hb⟩; have hH := hH.call hb; clear hb) | (refine wpList_alloc_H hH rfl (some 6) rfl 22 rfl _ z32B ?_; clear hH; intro gs w6 hH; simp only [List.nil_append, List.cons_append] at hH) | (refine wpList_store_H 2 hH rfl rfl 22 _ _ rfl rfl rfl (sizeRow _) (sizeEq _ _) (row_one _ _) ?_; clear hH; intro ws hH; simp only [List.set_cons_zero, List.set_cons_succ] at hH))
  go_wp2_with (refine wpList_load_HG 2 hH rfl 22 _ rfl rfl (by kernel_rfl) isRowB (sizeRow _) ?_)
  exact bodyPost_ret (results_tmp rfl _ _ _) rfl ⟨rfl, hH.toBelow⟩

theorem small_w (s : Nat → UInt8) (x : UInt8) (w : World) : Calls Try.prog 7 #[vB s, .int .u8 (x.toNat : Int)] w fun e w' => e = .returned (.bool true) ∧ Below w.heap.size w w' := by
  have h2 : x.toNat % 2 = 0 ∨ x.toNat % 2 = 1 := by omega
  have h3 : x.toNat % 3 = 0 ∨ x.toNat % 3 = 1 ∨ x.toNat % 3 = 2 := by omega
  rcases h2 with h2 | h2 <;> rcases h3 with h3 | h3 | h3
  · exact small_0_0 s x h2 h3 w
  · exact small_0_1 s x h2 h3 w
  · exact small_0_2 s x h2 h3 w
  · exact small_1_0 s x h2 h3 w
  · exact small_1_1 s x h2 h3 w
  · exact small_1_2 s x h2 h3 w
end Go.Proofs.Ytchojbhmfjibmaa
