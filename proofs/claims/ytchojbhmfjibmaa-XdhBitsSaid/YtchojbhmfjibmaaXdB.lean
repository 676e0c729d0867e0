/- The law of bits, of layer 8 (mkxdw.py writes this text). -/
import Derived.Test.YtchojbhmfjibmaaXdW
namespace Go.Proofs.Ytchojbhmfjibmaa
open Go Go.RowKit
set_option maxRecDepth 100000

theorem low_of (l : UInt8) : ∃ c : Fin 8, l &&& 7 = UInt8.ofNat c.val := u8_each (Q := fun l => ∃ c : Fin 8, l &&& 7 = UInt8.ofNat c.val) (by decide +kernel) l
theorem high_of (l : UInt8) : ∃ c : Fin 4, l &&& 192 = UInt8.ofNat (64 * c.val) := u8_each (Q := fun l => ∃ c : Fin 4, l &&& 192 = UInt8.ofNat (64 * c.val)) (by decide +kernel) l
theorem bits_lo (x l : UInt8) : xr x (l &&& 7) &&& 248 = x &&& 248 := by
  obtain ⟨c, hc⟩ := low_of l
  rw [hc]
  have h : ∀ c : Fin 8, ∀ n : Fin 256, (UInt8.ofNat n.val ^^^ UInt8.ofNat c.val) &&& 248 = UInt8.ofNat n.val &&& 248 := by decide +kernel
  exact u8_each (Q := fun x => (x ^^^ UInt8.ofNat c.val) &&& 248 = x &&& 248) (h c) x
theorem bits_hi (x l : UInt8) : (xr x (l &&& 192) &&& 127) ||| 64 = (x &&& 127) ||| 64 := by
  obtain ⟨c, hc⟩ := high_of l
  rw [hc]
  have h : ∀ c : Fin 4, ∀ n : Fin 256, ((UInt8.ofNat n.val ^^^ UInt8.ofNat (64 * c.val)) &&& 127) ||| 64 = (UInt8.ofNat n.val &&& 127) ||| 64 := by decide +kernel
  exact u8_each (Q := fun x => ((x ^^^ UInt8.ofNat (64 * c.val)) &&& 127) ||| 64 = (x &&& 127) ||| 64) (h c) x
theorem bits_top (x : UInt8) : xr x 128 &&& 127 = x &&& 127 := u8_each (Q := fun x => xr x 128 &&& 127 = x &&& 127) (by decide +kernel) x
theorem and7_int (x : UInt8) : bits .and .u8 (x.toNat : Int) 7 = ((x &&& 7).toNat : Int) := u8_each (Q := fun x => bits .and .u8 (x.toNat : Int) 7 = ((x &&& 7).toNat : Int)) (by decide +kernel) x
theorem and192_int (x : UInt8) : bits .and .u8 (x.toNat : Int) 192 = ((x &&& 192).toNat : Int) := u8_each (Q := fun x => bits .and .u8 (x.toNat : Int) 192 = ((x &&& 192).toNat : Int)) (by decide +kernel) x
theorem and127_int (x : UInt8) : bits .and .u8 (x.toNat : Int) 127 = ((x &&& 127).toNat : Int) := u8_each (Q := fun x => bits .and .u8 (x.toNat : Int) 127 = ((x &&& 127).toNat : Int)) (by decide +kernel) x
theorem xor128_int (x : UInt8) : bits .xor .u8 (x.toNat : Int) 128 = ((xr x 128).toNat : Int) := u8_each (Q := fun x => bits .xor .u8 (x.toNat : Int) 128 = ((xr x 128).toNat : Int)) (by decide +kernel) x
/-- A secret with bits of those turned; a point with the highest one turned; cleared. -/
def turnS (s : Nat → UInt8) (x y : UInt8) : Nat → UInt8 := fun j => if j = 31 then y else if j = 0 then x else s j
def turnU (u : Nat → UInt8) (x : UInt8) : Nat → UInt8 := fun j => if j = 31 then x else u j
theorem kS_turn (s : Nat → UInt8) (lo hi : UInt8) : kS (turnS s (xr (s 0) (lo &&& 7)) (xr (s 31) (hi &&& 192))) = kS s := by
  unfold kS
  refine lv_congr fun i _ => ?_
  unfold numB turnS
  by_cases h1 : i = 31
  · subst h1; simp only [if_true]; exact bits_hi _ _
  · by_cases h2 : i = 0
    · subst h2; simp only [if_true, if_neg (show ¬ (0 : Nat) = 31 by decide)]; exact bits_lo _ _
    · simp only [if_neg h1, if_neg h2]
theorem uS_turn (u : Nat → UInt8) : uS (turnU u (xr (u 31) 128)) = uS u := by
  have h : ptB (turnU u (xr (u 31) 128)) = ptB u := by
    funext i
    unfold ptB turnU
    by_cases h1 : i = 31
    · subst h1; simp only [if_true]; exact bits_top _
    · simp only [if_neg h1]
  unfold uS
  rw [h]
theorem nF_clear (u : Nat → UInt8) : nF (turnU u (u 31 &&& 127)) = uS u := rfl

set_option maxHeartbeats 4000000 in
theorem bits_w (s u : Nat → UInt8) (lo hi : UInt8) (w : World) : Calls Try.prog 6 #[vB s, vB u, .int .u8 (lo.toNat : Int), .int .u8 (hi.toNat : Int)] w fun e w' => e = .returned (.bool true) ∧ Below w.heap.size w w' := by
  obtain ⟨sl, sh, uh, uc, n1, n2, q1, q2, q3, q4, q5, q6, hs, hv, hu⟩ : ∃ sl sh uh uc n1 n2 : UInt8, bits .and .u8 (lo.toNat : Int) 7 = (n1.toNat : Int) ∧ bits .xor .u8 ((s 0).toNat : Int) (n1.toNat : Int) = (sl.toNat : Int) ∧ bits .and .u8 (hi.toNat : Int) 192 = (n2.toNat : Int) ∧ bits .xor .u8 ((s 31).toNat : Int) (n2.toNat : Int) = (sh.toNat : Int) ∧ bits .xor .u8 ((u 31).toNat : Int) 128 = (uh.toNat : Int) ∧ bits .and .u8 ((u 31).toNat : Int) 127 = (uc.toNat : Int) ∧ Hid (kS (turnS s sl sh) = kS s) ∧ Hid (uS (turnU u uh) = uS u) ∧ Hid (nF (turnU u uc) = uS u) :=
    ⟨_, _, _, _, _, _, and7_int lo, xor8 _ _, and192_int hi, xor8 _ _, xor128_int _, and127_int _, kS_turn s lo hi, uS_turn u, nF_clear u⟩
  obtain ⟨z201, ez201, cz201⟩ : ∃ z, Hid (z = bF (xmul (kS s) (uS u))) ∧ ∀ W, Calls Try.prog 11 #[(.agg (row 32 s)), (.agg (row 32 u))] W fun e w' => e = .returned (.agg (row 32 z)) ∧ Below W.heap.size W w' := ⟨_, rfl, fun W => xMul_c s u W⟩
  obtain ⟨z2, ez2, cz2⟩ : ∃ z, Hid (z = bF (xmul (kS s) (uS u))) ∧ ∀ W, Calls Try.prog 11 #[vB (turnS s sl sh), vB (turnU u uh)] W fun e w' => e = .returned (vB z) ∧ Below W.heap.size W w' := ⟨_, rfl, fun W => by have h := xMul_c (turnS s sl sh) (turnU u uh) W; rw [hs.out, hv.out] at h; exact h⟩
  obtain ⟨z3, ez3, cz3⟩ : ∃ z, Hid (z = bF (uS u)) ∧ ∀ W, Calls Try.prog 15 #[vB (turnU u uc), vB fun _ => 0] W fun e w' => e = .returned (vB z) ∧ Below W.heap.size W w' := ⟨_, rfl, fun W => by have h := raddF_c (turnU u uc) (fun _ => 0) W; rw [hu.out, nF_nil, show uS u + 0 = uS u by grind] at h; exact h⟩
  obtain ⟨z4, ez4, cz4⟩ : ∃ z, Hid (z = bF (xmul (kS s) (uS u))) ∧ ∀ W, Calls Try.prog 11 #[vB s, vB z3] W fun e w' => e = .returned (vB z) ∧ Below W.heap.size W w' := ⟨_, rfl, fun W => by have h := xMul_c s z3 W; rw [ez3.out, uS_bF] at h; rw [ez3.out]; exact h⟩
  have cz5 : ∀ W, Calls Try.prog 16 #[vB z201] W fun e w' => e = .returned (.bool true) ∧ Below W.heap.size W w' := fun W => by have h := rcanon_c z201 W; rw [ez201.out, lv_bF, decide_eq_true (by rw [pN_pF]; exact (xmul (kS s) (uS u)).isLt)] at h; rw [ez201.out]; exact h
  have hE2 : ∀ w : World, (Op.equalIn 10000 22 (.agg (row 32 z201)) (.agg (row 32 z2))).run Try.prog w = .ok true w := fun w => by rw [run_sameIn _ 32 und32B, ez201.out, ez2.out, sameB_self]
  have hE4 : ∀ w : World, (Op.equalIn 10000 22 (.agg (row 32 z201)) (.agg (row 32 z4))).run Try.prog w = .ok true w := fun w => by rw [run_sameIn _ 32 und32B, ez201.out, ez4.out, sameB_self]
  clear hs hv hu
  go_enter Try.func6, Try.ntmps6
  have hH := Hold.init w
  go_upto_region 3 with (first | (refine wpList_box_H hH rfl (some 4) rfl 22 _ rfl _ rfl ?_; clear hH; intro g202 w203 hH; simp only [List.nil_append] at hH) | (refine wpList_box_H hH rfl (some 5) rfl 22 _ rfl _ rfl ?_; clear hH; intro g204 w205 hH; simp only [List.nil_append, List.cons_append] at hH) | (go_at_call 8; refine (awake_c _).mono ?_; rintro e w5 ⟨rfl, hb⟩; have hH := hH.call hb; clear hb))
  refine region_rest mixedOrders ?_
  have hH := hH.drew
  refine Rest.phaseL (PH w [] (fun _ => _) [(2, (fun D => Obj.cells (if D 4 then row 32 s else row 32 (fun _ => 0)) 22 (0, 0))), (3, (fun _ => Obj.cells (row 32 (fun _ => 0)) 22 (0, 0)))]) [2, 3, 4] 5 (by kernel_rfl) (PH.start _ hH) ?_
  clear hH
  refine SeqH.next (.agg (row 32 s)) rfl rfl (fun π D _ => SureH.load 0 rfl rfl 22 _ rfl rfl isRowB (sizeRow _)) ?_
  simp only [Act.put, List.setIfInBounds_toArray, List.set_cons_zero, List.set_cons_succ]
  refine SeqH.next (.agg (row 32 u)) rfl rfl (fun π D _ => SureH.load 1 rfl rfl 22 _ rfl rfl isRowB (sizeRow _)) ?_
  simp only [Act.put, List.setIfInBounds_toArray, List.set_cons_zero, List.set_cons_succ]
  refine SeqH.make rfl rfl (fun π => MakesH.alloc 22 rfl _ z32B _ (List.Mem.head _) (fun D h => by have h := h.2 4 rfl (by kernel_rfl); (try dsimp only); rw [h]; rfl) ⟨fun _ => rfl, (List.forall_mem_cons.2 ⟨(fun _ => rfl), (List.forall_mem_cons.2 ⟨(fun _ => rfl), (List.forall_mem_nil _)⟩)⟩)⟩ (by simp) rfl) ?_
  simp only [Act.put, List.setIfInBounds_toArray, List.set_cons_zero, List.set_cons_succ]
  refine SeqH.make rfl rfl (fun π => MakesH.alloc 22 rfl _ z32B _ (List.Mem.tail _ (List.Mem.head _)) (fun _ _ => rfl) ⟨fun _ => rfl, (List.forall_mem_cons.2 ⟨(fun _ => rfl), (List.forall_mem_cons.2 ⟨(fun _ => rfl), (List.forall_mem_nil _)⟩)⟩)⟩ (by simp) rfl) ?_
  simp only [Act.put, List.setIfInBounds_toArray, List.set_cons_zero, List.set_cons_succ]
  refine SeqH.make rfl rfl (fun π => MakesH.storeM (m := 2) (old := row 32 (fun _ => 0)) (cs := row 32 s) _ (List.Mem.head _) (by simp) (fun D h => h.1 2 rfl (by kernel_rfl)) (fun D h => by (try dsimp only); rw [h]; rfl) (fun D => rfl) (List.forall_mem_cons.2 ⟨(fun h => absurd rfl h), (List.forall_mem_cons.2 ⟨(fun _ _ => rfl), (List.forall_mem_nil _)⟩)⟩) (fun _ => rfl) (List.forall_mem_cons.2 ⟨(show (2 : Nat) ≠ 4 by decide), (List.forall_mem_cons.2 ⟨(show (3 : Nat) ≠ 4 by decide), (List.forall_mem_nil _)⟩)⟩) 22 _ _ rfl rfl rfl (sizeRow _) (sizeEq _ _) (row_one _ _) rfl) ?_
  simp only [Act.put]
  refine SeqH.store2 (L' := [bl g202 22 (row 32 s), bl g204 22 (row 32 u)]) (ob := Obj.cells (row 32 s) 22 (0, 0)) (ob2 := Obj.cells (row 32 (fun _ => 0)) 22 (0, 0)) 3 (fun D h => by have h4 := h 4 rfl (by decide); (try dsimp only); rw [h4]; exact ⟨rfl, rfl, rfl⟩) (fun _ _ => rfl) rfl rfl (fun _ => rfl) 22 _ _ rfl (fun _ _ _ _ e => e) (fun _ => rfl) (sizeRow _) (sizeEq _ _) (row_one _ _) ?_
  intro g206 g207 π w208 pg206 pg207 hH
  simp only [pg206, pg207]
  clear pg206 pg207
  simp only [List.nil_append, List.cons_append] at hH
  simp only [List.set_cons_zero, List.set_cons_succ] at hH
  simp only [Act.put]
  refine Rest.done (by decide) ?_
  have c := (hH.cell 2 rfl 0).trans (row_get 32 s 0 (by omega))
  unfold by8 at c
  go_upto_region 5 with (refine wpList_cell_H 2 hH rfl rfl 5 _ _ rfl (by8 sl) rfl rfl size8 (by rw [row_size]; omega) rfl ?_; clear hH c; intro w50 hH)
  simp only [List.set_cons_zero, List.set_cons_succ, row_set] at hH
  have c := (hH.cell 2 rfl 31).trans (row_get 32 _ 31 (by omega))
  unfold by8 at c
  go_upto_region 6 with (refine wpList_cell_H 2 hH rfl rfl 5 _ _ rfl (by8 sh) rfl rfl size8 (by rw [row_size]; omega) rfl ?_; clear hH c; intro w60 hH)
  simp only [List.set_cons_zero, List.set_cons_succ, row_set] at hH
  have c := (hH.cell 3 rfl 31).trans (row_get 32 u 31 (by omega))
  unfold by8 at c
  go_upto_region 7 with (refine wpList_cell_H 3 hH rfl rfl 5 _ _ rfl (by8 uh) rfl rfl size8 (by rw [row_size]; omega) rfl ?_; clear hH c; intro w70 hH)
  simp only [List.set_cons_zero, List.set_cons_succ, row_set] at hH
  clear q1 q2 q3 q4 q5
  go_upto_region 8 with (first | (refine wpList_load_H 0 hH rfl rfl 22 _ rfl rfl isRowB (sizeRow _) ?_) | (refine wpList_load_H 1 hH rfl rfl 22 _ rfl rfl isRowB (sizeRow _) ?_) | (go_at_call 11; refine (cz201 _).mono ?_; rintro e w5 ⟨rfl, hb⟩; have hH := hH.call hb; clear hb) | (refine wpList_alloc_H hH rfl (some 11) rfl 22 rfl _ z32B ?_; clear hH; intro ga w11 hH; simp only [List.nil_append, List.cons_append] at hH) | (refine wpList_store_H 4 hH rfl rfl 22 _ _ rfl rfl rfl (sizeRow _) (sizeEq _ _) (row_one _ _) ?_; clear hH; intro wa hH; simp only [List.set_cons_zero, List.set_cons_succ] at hH))
  have c := (hH.cell 1 rfl 31).trans (row_get 32 u 31 (by omega))
  unfold by8 at c
  go_upto_region 9 with (refine wpList_cell_H 1 hH rfl rfl 5 _ _ rfl (by8 uc) rfl rfl size8 (by rw [row_size]; omega) rfl ?_; clear hH c; intro w90 hH)
  simp only [List.set_cons_zero, List.set_cons_succ, row_set] at hH
  clear q6
  have hz := nil32
  go_upto_region 10 with (first | (refine wpList_load_H 1 hH rfl rfl 22 _ rfl rfl isRowB (sizeRow _) ?_) | (go_at_call 15; refine (cz3 _).mono ?_; rintro e w5 ⟨rfl, hb⟩; have hH := hH.call hb; clear hb) | (refine wpList_alloc_H hH rfl (some 12) rfl 22 rfl _ z32B ?_; clear hH; intro gw w12 hH; simp only [List.nil_append, List.cons_append] at hH) | (refine wpList_store_H 5 hH rfl rfl 22 _ _ rfl rfl rfl (sizeRow _) (sizeEq _ _) (row_one _ _) ?_; clear hH; intro ww hH; simp only [List.set_cons_zero, List.set_cons_succ] at hH))
  clear hz
  have hH : Hold w [] [bl g202 22 (row 32 s), bl g204 22 (row 32 (turnU u uc)), bl g206 22 (row 32 (turnS s sl sh)), bl g207 22 (row 32 (turnU u uh)), bl ga 22 (row 32 z201), bl gw 22 (row 32 z3)] _ := hH
  refine region_rest mixedOrders ?_
  have hH := hH.drew
  refine Rest.phaseL (PH w [] (fun _ => _) []) [] 16 (by kernel_rfl) (PH.start _ hH) ?_
  clear hH
  refine SeqH.next (.agg (row 32 z201)) rfl rfl (fun π D _ => SureH.load 4 rfl rfl 22 _ rfl rfl isRowB (sizeRow _)) ?_
  simp only [Act.put, List.setIfInBounds_toArray, List.set_cons_zero, List.set_cons_succ]
  refine SeqH.next (.agg (row 32 (turnS s sl sh))) rfl rfl (fun π D _ => SureH.load 2 rfl rfl 22 _ rfl rfl isRowB (sizeRow _)) ?_
  simp only [Act.put, List.setIfInBounds_toArray, List.set_cons_zero, List.set_cons_succ]
  refine SeqH.next (.agg (row 32 (turnU u uh))) rfl rfl (fun π D _ => SureH.load 3 rfl rfl 22 _ rfl rfl isRowB (sizeRow _)) ?_
  simp only [Act.put, List.setIfInBounds_toArray, List.set_cons_zero, List.set_cons_succ]
  refine SeqH.next (.agg (row 32 z2)) rfl rfl (fun π D _ => SureH.call cz2 rfl (fun w => by go_simp)) ?_
  simp only [Act.put, List.setIfInBounds_toArray, List.set_cons_zero, List.set_cons_succ]
  refine SeqH.next (.bool true) rfl rfl (fun π D _ => SureH.pure rfl (fun w => by have hE := hE2 w; go_simp)) ?_
  simp only [Act.put, List.setIfInBounds_toArray, List.set_cons_zero, List.set_cons_succ]
  refine SeqH.next (.bool true) rfl rfl (fun π D _ => SureH.pure rfl (fun w => by go_simp)) ?_
  simp only [Act.put, List.setIfInBounds_toArray, List.set_cons_zero, List.set_cons_succ]
  refine SeqH.next (.agg (row 32 z201)) rfl rfl (fun π D _ => SureH.load 4 rfl rfl 22 _ rfl rfl isRowB (sizeRow _)) ?_
  simp only [Act.put, List.setIfInBounds_toArray, List.set_cons_zero, List.set_cons_succ]
  refine SeqH.next (.agg (row 32 s)) rfl rfl (fun π D _ => SureH.load 0 rfl rfl 22 _ rfl rfl isRowB (sizeRow _)) ?_
  simp only [Act.put, List.setIfInBounds_toArray, List.set_cons_zero, List.set_cons_succ]
  refine SeqH.next (.agg (row 32 z3)) rfl rfl (fun π D _ => SureH.load 5 rfl rfl 22 _ rfl rfl isRowB (sizeRow _)) ?_
  simp only [Act.put, List.setIfInBounds_toArray, List.set_cons_zero, List.set_cons_succ]
  refine SeqH.next (.agg (row 32 z4)) rfl rfl (fun π D _ => SureH.call cz4 rfl (fun w => by go_simp)) ?_
  simp only [Act.put, List.setIfInBounds_toArray, List.set_cons_zero, List.set_cons_succ]
  refine SeqH.next (.bool true) rfl rfl (fun π D _ => SureH.pure rfl (fun w => by have hE := hE4 w; go_simp)) ?_
  simp only [Act.put, List.setIfInBounds_toArray, List.set_cons_zero, List.set_cons_succ]
  refine SeqH.next (.bool true) rfl rfl (fun π D _ => SureH.pure rfl (fun w => by go_simp)) ?_
  simp only [Act.put, List.setIfInBounds_toArray, List.set_cons_zero, List.set_cons_succ]
  refine SeqH.next (.bool true) rfl rfl (fun π D _ => SureH.pure rfl (fun w => by go_simp)) ?_
  simp only [Act.put, List.setIfInBounds_toArray, List.set_cons_zero, List.set_cons_succ]
  refine SeqH.next (.agg (row 32 z201)) rfl rfl (fun π D _ => SureH.load 4 rfl rfl 22 _ rfl rfl isRowB (sizeRow _)) ?_
  simp only [Act.put, List.setIfInBounds_toArray, List.set_cons_zero, List.set_cons_succ]
  refine SeqH.next (.bool true) rfl rfl (fun π D _ => SureH.call cz5 rfl (fun w => by go_simp)) ?_
  simp only [Act.put, List.setIfInBounds_toArray, List.set_cons_zero, List.set_cons_succ]
  refine SeqH.next (.bool true) rfl rfl (fun π D _ => SureH.pure rfl (fun w => by go_simp)) ?_
  simp only [Act.put, List.setIfInBounds_toArray, List.set_cons_zero, List.set_cons_succ]
  refine SeqH.pure0 (.bool true) (fun _ _ => rfl) (fun _ => rfl) (fun π w => by go_simp) ?_
  intro π w209 hH
  simp only [Act.put]
  refine Rest.done (by decide) ?_
  go_wp2
  exact bodyPost_ret (results_tmp rfl _ _ _) rfl ⟨rfl, hH.toBelow⟩
end Go.Proofs.Ytchojbhmfjibmaa
