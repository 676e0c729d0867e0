/- xdh's swapIf. -/
import Derived.Test.YtchojbhmfjibmaaXdP
import Derived.IntWalk
import Derived.Deep.DeepCutAuto
namespace Go.Proofs.Ytchojbhmfjibmaa
open Go Go.RowKit
set_option maxRecDepth 100000

/-- Of 64 cells, those of the first m of both halves. -/
def halves (m : Nat) (T A : Nat → UInt8) : Nat → UInt8 := fun j => if j % 32 < m then T j else A j
theorem halves_lo {m : Nat} (h : m < 32) (T A : Nat → UInt8) : halves m T A m = A m := by unfold halves; rw [if_neg (by omega)]
theorem halves_hi {m : Nat} (h : m < 32) (T A : Nat → UInt8) : halves m T A (32 + m) = A (32 + m) := by unfold halves; rw [if_neg (by omega)]
theorem halves_hi' {m : Nat} (h : m < 32) (T A : Nat → UInt8) (x : UInt8) : (fun j => if j = m then x else halves m T A j) (32 + m) = A (32 + m) := by
  show (if 32 + m = m then x else halves m T A (32 + m)) = _
  rw [if_neg (by omega), halves_hi h]
theorem halves_next {m : Nat} (h : m < 32) (T A : Nat → UInt8) (x y : UInt8) (hx : x = T m) (hy : y = T (32 + m)) : ∀ j, j < 64 → (fun j => if j = 32 + m then y else (fun j => if j = m then x else halves m T A j) j) j = halves (m + 1) T A j := by
  intro j hj
  subst hx hy
  show (if j = 32 + m then T (32 + m) else if j = m then T m else halves m T A j) = _
  unfold halves
  split
  · rename_i e; subst e; rw [if_pos (by omega)]
  · split
    · rename_i e; subst e; rw [if_pos (by omega)]
    · split
      · rw [if_pos (by omega)]
      · rw [if_neg (by omega)]
theorem halves_zero (T A : Nat → UInt8) : halves 0 T A = A := by funext j; unfold halves; rw [if_neg (by omega)]
theorem halves_all (T A : Nat → UInt8) (j : Nat) : halves 32 T A j = T j := by unfold halves; rw [if_pos (by omega)]

set_option maxHeartbeats 4000000 in
theorem swap_gen (bv M : Int) (A B TA TB Y : Nat → UInt8) (hM : IntKind.u8.wrap (-bv) = M) (hY : ∀ i, bits .and .u8 M ((xr (A i) (B i)).toNat : Int) = ((Y i).toNat : Int)) (hA : ∀ i, xr (A i) (Y i) = TA i) (hB : ∀ i, xr (B i) (Y i) = TB i) (w : World) :
    Calls Try.prog 30 #[.int .u8 bv, .agg (row 64 A), .agg (row 64 B)] w fun e w' => e = .returned (.tuple #[.agg (row 64 TA), .agg (row 64 TB)]) ∧ Below w.heap.size w w' := by
  go_enter Try.func30, Try.ntmps30
  have hH := Hold.init w
  go_upto_region 1 with (first | (refine wpList_box_H hH rfl (some 4) rfl 45 _ rfl _ rfl ?_; clear hH; intro g4 w1 hH; simp only [List.nil_append] at hH) | (refine wpList_box_H hH rfl (some 5) rfl 45 _ rfl _ rfl ?_; clear hH; intro g5 w2 hH; simp only [List.nil_append, List.cons_append] at hH) | (refine wpList_alloc_H hH rfl (some 6) rfl 45 rfl _ zeroP ?_; clear hH; intro g6 w3 hH; simp only [List.nil_append, List.cons_append] at hH) | (refine wpList_alloc_H hH rfl (some 7) rfl 45 rfl _ zeroP ?_; clear hH; intro g7 w4 hH; simp only [List.nil_append, List.cons_append] at hH))
  go_wp2
  go_loopw [9, 10, 11, 14] (fun _ _ _ i_ wr => ∃ m : Nat, m ≤ 32 ∧ i_ = .int .i64 m ∧ Hold w [] [bl g4 45 (row 64 (halves m TA A)), bl g5 45 (row 64 (halves m TB B)), bl g6 45 (row 64 (cat (fun _ => 0) fun _ => 0)), bl g7 45 (row 64 (cat (fun _ => 0) fun _ => 0))] wr) (fun _ _ _ i_ _ => 32 - (intOf i_).toNat)
  case atStart => exact ⟨0, by omega, rfl, by rw [halves_zero, halves_zero]; exact hH⟩
  case round =>
    clear hH
    obtain ⟨m, hm, rfl, hH⟩ := hrel
    by_cases hm32 : m < 32
    · have i1 : (m : Int) < 32 := by omega
      have l0 : (row 64 (halves m TA A))[m]? = some (by8 (A m)) := by rw [row_get _ _ _ (by omega), halves_lo hm32]
      have l1 : (row 64 (halves m TB B))[m]? = some (by8 (B m)) := by rw [row_get _ _ _ (by omega), halves_lo hm32]
      have l2 : (row 64 (halves m TA A))[32 + m]? = some (by8 (A (32 + m))) := by rw [row_get _ _ _ (by omega), halves_hi hm32]
      have l3 : (row 64 (halves m TB B))[32 + m]? = some (by8 (B (32 + m))) := by rw [row_get _ _ _ (by omega), halves_hi hm32]
      go_wp2
      refine region_rest mixedOrders ?_
      have hH := hH.drew
      refine Rest.phaseL (PH w [] (fun _ => _) []) [] 23 (by kernel_rfl) (PH.start _ hH) ?_
      clear hH
      refine SeqH.next ?_ rfl rfl (fun π D _ => SureH.pure rfl (fun w => ?_)) ?_
      rotate_left 1
      · go_simp
        rfl
      simp only [Act.put, List.setIfInBounds_toArray, List.set_cons_zero, List.set_cons_succ]
      refine SeqH.next ?_ rfl rfl (fun π D _ => SureH.pure rfl (fun w => ?_)) ?_
      rotate_left 1
      · go_simp
        rfl
      simp only [Act.put, List.setIfInBounds_toArray, List.set_cons_zero, List.set_cons_succ]
      refine SeqH.next ?_ rfl rfl (fun π D _ => SureH.pure rfl (fun w => ?_)) ?_
      rotate_left 1
      · go_simp
        rfl
      simp only [Act.put, List.setIfInBounds_toArray, List.set_cons_zero, List.set_cons_succ]
      refine SeqH.next ?_ rfl rfl (fun π D _ => SureH.pure rfl (fun w => ?_)) ?_
      rotate_left 1
      · go_simp
        rfl
      simp only [Act.put, List.setIfInBounds_toArray, List.set_cons_zero, List.set_cons_succ]
      refine SeqH.next (.int .u8 ((A m).toNat : Int)) rfl rfl (fun π D _ => SureH.cell 0 (.int .u8 ((A m).toNat : Int)) (off := m) rfl l0 rfl (fun w h => by go_simp)) ?_
      simp only [Act.put, List.setIfInBounds_toArray, List.set_cons_zero, List.set_cons_succ]
      refine SeqH.next ?_ rfl rfl (fun π D _ => SureH.pure rfl (fun w => ?_)) ?_
      rotate_left 1
      · go_simp
        rfl
      simp only [Act.put, List.setIfInBounds_toArray, List.set_cons_zero, List.set_cons_succ]
      refine SeqH.next ?_ rfl rfl (fun π D _ => SureH.pure rfl (fun w => ?_)) ?_
      rotate_left 1
      · go_simp
        rfl
      simp only [Act.put, List.setIfInBounds_toArray, List.set_cons_zero, List.set_cons_succ]
      refine SeqH.next ?_ rfl rfl (fun π D _ => SureH.pure rfl (fun w => ?_)) ?_
      rotate_left 1
      · go_simp
        rfl
      simp only [Act.put, List.setIfInBounds_toArray, List.set_cons_zero, List.set_cons_succ]
      refine SeqH.next (.int .u8 ((B m).toNat : Int)) rfl rfl (fun π D _ => SureH.cell 1 (.int .u8 ((B m).toNat : Int)) (off := m) rfl l1 rfl (fun w h => by go_simp)) ?_
      simp only [Act.put, List.setIfInBounds_toArray, List.set_cons_zero, List.set_cons_succ]
      refine SeqH.next (.int .u8 ((xr (A m) (B m)).toNat : Int)) rfl rfl (fun π D _ => SureH.pure rfl (fun w => ?_)) ?_
      · have e := xor8 (A m) (B m)
        go_simp
      simp only [Act.put, List.setIfInBounds_toArray, List.set_cons_zero, List.set_cons_succ]
      refine SeqH.next (.int .u8 ((Y m).toNat : Int)) rfl rfl (fun π D _ => SureH.pure rfl (fun w => ?_)) ?_
      · have e := hY m
        go_simp
      simp only [Act.put, List.setIfInBounds_toArray, List.set_cons_zero, List.set_cons_succ]
      refine SeqH.next ?_ rfl rfl (fun π D _ => SureH.pure rfl (fun w => ?_)) ?_
      rotate_left 1
      · go_simp
        rfl
      simp only [Act.put, List.setIfInBounds_toArray, List.set_cons_zero, List.set_cons_succ]
      refine SeqH.next ?_ rfl rfl (fun π D _ => SureH.pure rfl (fun w => ?_)) ?_
      rotate_left 1
      · go_simp
        rfl
      simp only [Act.put, List.setIfInBounds_toArray, List.set_cons_zero, List.set_cons_succ]
      refine SeqH.next ?_ rfl rfl (fun π D _ => SureH.pure rfl (fun w => ?_)) ?_
      rotate_left 1
      · go_simp
        rfl
      simp only [Act.put, List.setIfInBounds_toArray, List.set_cons_zero, List.set_cons_succ]
      refine SeqH.next ?_ rfl rfl (fun π D _ => SureH.pure rfl (fun w => ?_)) ?_
      rotate_left 1
      · go_simp
        rfl
      simp only [Act.put, List.setIfInBounds_toArray, List.set_cons_zero, List.set_cons_succ]
      refine SeqH.next (.int .u8 ((A (32 + m)).toNat : Int)) rfl rfl (fun π D _ => SureH.cell 0 (.int .u8 ((A (32 + m)).toNat : Int)) (off := (32 + m)) rfl l2 rfl (fun w h => by go_simp)) ?_
      simp only [Act.put, List.setIfInBounds_toArray, List.set_cons_zero, List.set_cons_succ]
      refine SeqH.next ?_ rfl rfl (fun π D _ => SureH.pure rfl (fun w => ?_)) ?_
      rotate_left 1
      · go_simp
        rfl
      simp only [Act.put, List.setIfInBounds_toArray, List.set_cons_zero, List.set_cons_succ]
      refine SeqH.next ?_ rfl rfl (fun π D _ => SureH.pure rfl (fun w => ?_)) ?_
      rotate_left 1
      · go_simp
        rfl
      simp only [Act.put, List.setIfInBounds_toArray, List.set_cons_zero, List.set_cons_succ]
      refine SeqH.next ?_ rfl rfl (fun π D _ => SureH.pure rfl (fun w => ?_)) ?_
      rotate_left 1
      · go_simp
        rfl
      simp only [Act.put, List.setIfInBounds_toArray, List.set_cons_zero, List.set_cons_succ]
      refine SeqH.next (.int .u8 ((B (32 + m)).toNat : Int)) rfl rfl (fun π D _ => SureH.cell 1 (.int .u8 ((B (32 + m)).toNat : Int)) (off := (32 + m)) rfl l3 rfl (fun w h => by go_simp)) ?_
      simp only [Act.put, List.setIfInBounds_toArray, List.set_cons_zero, List.set_cons_succ]
      refine SeqH.next (.int .u8 ((xr (A (32 + m)) (B (32 + m))).toNat : Int)) rfl rfl (fun π D _ => SureH.pure rfl (fun w => ?_)) ?_
      · have e := xor8 (A (32 + m)) (B (32 + m))
        go_simp
      simp only [Act.put, List.setIfInBounds_toArray, List.set_cons_zero, List.set_cons_succ]
      refine SeqH.next (.int .u8 ((Y (32 + m)).toNat : Int)) rfl rfl (fun π D _ => SureH.pure rfl (fun w => ?_)) ?_
      · have e := hY (32 + m)
        go_simp
      simp only [Act.put, List.setIfInBounds_toArray, List.set_cons_zero, List.set_cons_succ]
      refine SeqH.next ?_ rfl rfl (fun π D _ => SureH.pure rfl (fun w => ?_)) ?_
      rotate_left 1
      · go_simp
        rfl
      simp only [Act.put, List.setIfInBounds_toArray, List.set_cons_zero, List.set_cons_succ]
      refine SeqH.pure0 _ (fun _ _ => rfl) (fun _ => rfl) (fun π w => by go_simp; rfl) ?_
      intro π w5 hH
      simp only [Act.put]
      refine Rest.done (by decide) ?_
      have c := (hH.cell 0 rfl m).trans l0
      have ex : bits .xor .u8 ((A m).toNat : Int) ((Y m).toNat : Int) = ((TA m).toNat : Int) := by rw [xor8, hA]
      unfold by8 at c
      go_upto_region 7 with (refine wpList_cell_H 0 hH rfl rfl 5 _ _ rfl (by8 (TA m)) rfl rfl size8 (by rw [row_size]; omega) rfl ?_; clear hH c; intro w6 hH)
      clear ex
      simp only [List.set_cons_zero, row_set] at hH
      have lh0 : (row 64 fun j => if j = m then TA m else halves m TA A j)[32 + m]? = some (by8 (A (32 + m))) := by rw [row_get _ _ _ (by omega)]; exact congrArg (fun x => some (by8 x)) (halves_hi' hm32 _ _ _)
      have c := (hH.cell 1 rfl m).trans l1
      have ex : bits .xor .u8 ((B m).toNat : Int) ((Y m).toNat : Int) = ((TB m).toNat : Int) := by rw [xor8, hB]
      unfold by8 at c
      go_upto_region 8 with (refine wpList_cell_H 1 hH rfl rfl 5 _ _ rfl (by8 (TB m)) rfl rfl size8 (by rw [row_size]; omega) rfl ?_; clear hH c; intro w7 hH)
      clear ex
      simp only [List.set_cons_zero, List.set_cons_succ, row_set] at hH
      have lh1 : (row 64 fun j => if j = m then TB m else halves m TB B j)[32 + m]? = some (by8 (B (32 + m))) := by rw [row_get _ _ _ (by omega)]; exact congrArg (fun x => some (by8 x)) (halves_hi' hm32 _ _ _)
      have l := lh0
      have c := (hH.cell 0 rfl (32 + m)).trans lh0
      have ex : bits .xor .u8 ((A (32 + m)).toNat : Int) ((Y (32 + m)).toNat : Int) = ((TA (32 + m)).toNat : Int) := by rw [xor8, hA]
      unfold by8 at c
      go_upto_region 9 with (refine wpList_cell_H 0 hH rfl rfl 5 _ _ rfl (by8 (TA (32 + m))) rfl rfl size8 (by rw [row_size]; omega) rfl ?_; clear hH c; intro w8 hH)
      clear ex
      simp only [List.set_cons_zero, row_set] at hH
      have l := lh1
      have c := (hH.cell 1 rfl (32 + m)).trans lh1
      have ex : bits .xor .u8 ((B (32 + m)).toNat : Int) ((Y (32 + m)).toNat : Int) = ((TB (32 + m)).toNat : Int) := by rw [xor8, hB]
      unfold by8 at c
      go_upto_region 10 with (refine wpList_cell_H 1 hH rfl rfl 5 _ _ rfl (by8 (TB (32 + m))) rfl rfl size8 (by rw [row_size]; omega) rfl ?_; clear hH c; intro w9 hH)
      clear ex
      simp only [List.set_cons_zero, List.set_cons_succ, row_set] at hH
      have eA := row_congr (halves_next hm32 TA A (TA m) (TA (32 + m)) rfl rfl)
      have eB := row_congr (halves_next hm32 TB B (TB m) (TB (32 + m)) rfl rfl)
      rw [eA, eB] at hH
      clear eA eB l0 l1 l2 l3 lh0 lh1
      go_wp2
      go_roundw
      case rel => exact ⟨m + 1, by omega, by go_num, hH⟩
      case measure => simp [intOf]; omega
    · obtain rfl : m = 32 := by omega
      rw [show ((32 : Nat) : Int) = 32 from rfl]
      rw [row_congr (fun j _ => halves_all TA A j), row_congr (fun j _ => halves_all TB B j)] at hH
      go_upto_region 11 with (fail)
      refine region_chain (fun q _ W' => Hold w [] [bl g4 45 (row 64 TA), bl g5 45 (row 64 TB), bl g6 45 (row 64 (match q with | 0 => (cat (fun _ => 0) fun _ => 0) | _ + 1 => TA)), bl g7 45 (row 64 (cat (fun _ => 0) fun _ => 0))] W') (fun k => k == 2) mixedOrders (by kernel_rfl) (by kernel_rfl) (by simp) hH.drew ?_
      clear hH
      refine SeqP.next (.agg (row 64 TA)) (fun π q => Sure.load_W4 rfl 45 _ rfl g4 rfl 45 _ (fun w' hS => hS.get 0 rfl) isRowP (sizeP _)) ?_
      simp only [Act.put, List.setIfInBounds_toArray, List.set_cons_zero, List.set_cons_succ]
      refine SeqP.next (.agg (row 64 TB)) (fun π q => Sure.load_W4 rfl 45 _ rfl g5 rfl 45 _ (fun w' hS => hS.get 1 rfl) isRowP (sizeP _)) ?_
      simp only [Act.put, List.setIfInBounds_toArray, List.set_cons_zero, List.set_cons_succ]
      refine SeqP.store rfl (fun π => rfl) (fun π w' hS => exec_store_H 2 hS rfl 45 _ _ rfl rfl rfl (sizeP _) (sizeEqP _ _) (row_one _ _)) ?_
      simp only [Act.put]
      refine SeqP.last_H _ (fun _ _ h => h) 3 rfl (fun π => rfl) 45 _ _ rfl (fun _ => rfl) (fun _ => rfl) (sizeP _) (sizeEqP _ _) (row_one _ _) ?_
      intro _ w6 hH
      simp only [List.set_cons_zero, List.set_cons_succ] at hH
      simp only [Act.put]
      go_wp2
      exact ret_H2 2 3 hH rfl rfl rfl rfl rfl rfl isRowP (sizeP _) isRowP (sizeP _) ⟨rfl, hH.toBelow⟩

theorem u8_each {Q : UInt8 → Prop} (h : ∀ n : Fin 256, Q (UInt8.ofNat n.val)) (x : UInt8) : Q x := by
  have := h ⟨x.toNat, x.toNat_lt⟩
  simpa using this
theorem swap0_c (A B : Nat → UInt8) (w : World) : Calls Try.prog 30 #[.int .u8 0, .agg (row 64 A), .agg (row 64 B)] w fun e w' => e = .returned (.tuple #[.agg (row 64 A), .agg (row 64 B)]) ∧ Below w.heap.size w w' :=
  swap_gen 0 0 A B A B (fun _ => 0) rfl (fun i => by
    have h : ∀ x : UInt8, bits .and .u8 0 (x.toNat : Int) = (((0 : UInt8)).toNat : Int) := u8_each (Q := fun x => bits .and .u8 0 (x.toNat : Int) = (((0 : UInt8)).toNat : Int)) (by decide +kernel)
    exact h _) (fun i => by unfold xr; exact UInt8.xor_zero) (fun i => by unfold xr; exact UInt8.xor_zero) w
theorem swap1_c (A B : Nat → UInt8) (w : World) : Calls Try.prog 30 #[.int .u8 1, .agg (row 64 A), .agg (row 64 B)] w fun e w' => e = .returned (.tuple #[.agg (row 64 B), .agg (row 64 A)]) ∧ Below w.heap.size w w' :=
  swap_gen 1 255 A B B A (fun i => xr (A i) (B i)) rfl (fun i => by
    have h : ∀ x : UInt8, bits .and .u8 255 (x.toNat : Int) = (x.toNat : Int) := u8_each (Q := fun x => bits .and .u8 255 (x.toNat : Int) = (x.toNat : Int)) (by decide +kernel)
    exact h _) (fun i => by unfold xr; rw [← UInt8.xor_assoc, UInt8.xor_self, UInt8.zero_xor]) (fun i => by unfold xr; rw [UInt8.xor_comm, UInt8.xor_assoc, UInt8.xor_self, UInt8.xor_zero]) w
end Go.Proofs.Ytchojbhmfjibmaa
