/- A block decrypted. -/
import Derived.Test.YtajifdnfibojfaaDoorEnc
namespace Go.Proofs.YtajifdnfibojfaaDoor
open Go Go.RowKit
set_option maxRecDepth 100000

set_option maxRecDepth 100000 in
set_option maxHeartbeats 8000000 in
theorem decrypt_c (s W b : Nat → UInt8) (g kb q : Nat) (w : World) (hq : q ≤ 20) (hs : Row w kb 76 256 s) (hW : Row w g 32 (16 * (q + 2)) W) :
    Calls Tryd.prog 50 #[.slice (some ⟨g, 0, none⟩) (q + 2) (q + 2), .pointer (some ⟨kb, 0, none⟩), .agg (row 16 b)] w fun e w' => e = .returned (.agg (row 16 (dec s (q + 1) W b))) ∧ Below w.heap.size w w' := by
  have hz0 := hs.lt
  have hg0 := hW.lt
  go_enter Tryd.func50, Tryd.ntmps50
  go_wp2
  rw [zero16]
  obtain ⟨h0, h1, h3⟩ := two_new w 32 b (fun _ => 0) 16 16 32
  have hS0 : EncS kb w g q s W b ((w.alloc (.cells (row 16 b) 32)).alloc (.cells (row 16 fun _ => 0) 32)) := ⟨hs.below h3 hz0, hW.below h3 hg0, h0, h1, h3⟩
  clear h0 h1 h3 hs hW
  revert hS0
  generalize (w.alloc (.cells (row 16 b) 32)).alloc (.cells (row 16 fun _ => 0) 32) = w1
  intro hS0
  rw [show ((q : Int) + 2 - 1) = (q : Int) + 1 by omega]
  refine region_seq (fun w' => EncS kb w g q s W b w') mixedOrders (by kernel_rfl) (by simp) hS0.drew ?_
  clear hS0
  refine Seq.next ?_ (Sure.val rfl (fun w' hS => ?_)) ?_
  rotate_left 1
  · clear hS
    go_simp
    rfl
  simp only [Act.put, List.setIfInBounds_toArray, List.set_cons_zero, List.set_cons_succ]
  refine Seq.next (.agg (row 16 b)) (Sure.load_Row rfl 32 _ rfl w.heap.size rfl 32 16 _ _ (fun w' hS => hS.2.2.1) und16 size16) ?_
  simp only [Act.put, List.setIfInBounds_toArray, List.set_cons_zero, List.set_cons_succ]
  refine Seq.next ?_ (Sure.val rfl (fun w' hS => ?_)) ?_
  rotate_left 1
  · clear hS
    have i0 : (0 : Int) ≤ (q : Int) + 1 := by omega
    have i1 : ((q : Int) + 1) < (q : Int) + 2 := by omega
    have i2 : ((q : Int) + 1).toNat = q + 1 := by omega
    go_simp
    rfl
  simp only [Act.put, List.setIfInBounds_toArray, List.set_cons_zero, List.set_cons_succ]
  refine Seq.next ?_ (Sure.val rfl (fun w' hS => ?_)) ?_
  rotate_left 1
  · clear hS
    have i0 : (0 : Int) ≤ (q : Int) + 1 := by omega
    have i1 : ((q : Int) + 1) < (q : Int) + 2 := by omega
    have i2 : ((q : Int) + 1).toNat = q + 1 := by omega
    go_simp
    rfl
  simp only [Act.put, List.setIfInBounds_toArray, List.set_cons_zero, List.set_cons_succ]
  refine Seq.next ?_ (Sure.val rfl (fun w' hS => ?_)) ?_
  rotate_left 1
  · clear hS
    have i0 : (0 : Int) ≤ (q : Int) + 1 := by omega
    have i1 : ((q : Int) + 1) < (q : Int) + 2 := by omega
    have i2 : ((q : Int) + 1).toNat = q + 1 := by omega
    go_simp
    rfl
  simp only [Act.put, List.setIfInBounds_toArray, List.set_cons_zero, List.set_cons_succ]
  refine Seq.next (.agg (row 16 fun j => W ((q + 1) * 16 + j))) (Sure.load_Mid rfl 32 _ rfl g ((q + 1) * 16) rfl 32 (16 * (q + 2)) 16 W _ (fun w' hS => hS.2.1) (by omega) und16 size16) ?_
  simp only [Act.put, List.setIfInBounds_toArray, List.set_cons_zero, List.set_cons_succ]
  refine Seq.next (.agg (row 16 (added b (fun j => W ((q + 1) * 16 + j))))) (Sure.call (f := 52) (args := #[.agg (row 16 (b)), .agg (row 16 (fun j => W ((q + 1) * 16 + j)))]) rfl (fun w' => by go_simp) (fun w' hS => (added_c _ _ w').mono fun e w'' h => ⟨h.1, hS.below h.2⟩)) ?_
  simp only [Act.put, List.setIfInBounds_toArray, List.set_cons_zero, List.set_cons_succ]
  refine Seq.next (.agg (row 16 (unshifted (added b (fun j => W ((q + 1) * 16 + j)))))) (Sure.call (f := 58) (args := #[.agg (row 16 (added b (fun j => W ((q + 1) * 16 + j))))]) rfl (fun w' => by go_simp) (fun w' hS => (unshifted_c _ w').mono fun e w'' h => ⟨h.1, hS.below h.2⟩)) ?_
  simp only [Act.put, List.setIfInBounds_toArray, List.set_cons_zero, List.set_cons_succ]
  refine Seq.next (.agg (row 16 (boxed s (unshifted (added b (fun j => W ((q + 1) * 16 + j))))))) (Sure.call (f := 57) (args := #[.pointer (some ⟨kb, 0, none⟩), .agg (row 16 (unshifted (added b (fun j => W ((q + 1) * 16 + j)))))]) rfl (fun w' => by go_simp) (fun w' hS => (unboxed_c s _ kb w' hS.1).mono fun e w'' h => ⟨h.1, hS.below h.2⟩)) ?_
  simp only [Act.put, List.setIfInBounds_toArray, List.set_cons_zero, List.set_cons_succ]
  refine Seq.store_Row rfl 32 _ _ rfl w.heap.size rfl 32 16 (b) (boxed s (unshifted (added b (fun j => W ((q + 1) * 16 + j))))) rfl (fun w' hS => hS.2.2.1) size16 fun w' hS => ?_
  have hS1 := hS.put hz0 hg0 (boxed s (unshifted (added b (fun j => W ((q + 1) * 16 + j)))))
  clear hS
  revert hS1
  generalize w'.setRow w.heap.size (row 16 (boxed s (unshifted (added b (fun j => W ((q + 1) * 16 + j)))))) = w2
  rw [show boxed s (unshifted (added b (fun j => W ((q + 1) * 16 + j)))) = decR s (q + 1) W b 0 by
    show _ = boxed s (unshifted (added b (rk W (q + 1))))
    rw [show (fun j => W ((q + 1) * 16 + j)) = rk W (q + 1) by funext j; unfold rk; rw [Nat.mul_comm]]]
  intro hS0
  simp only [Act.put]
  go_wp2_with (fail)
  go_loopw [8] (fun i_ wr => ∃ m i : Nat, m + i = q ∧ i_ = .int .i64 i ∧ EncS kb w g q s W (decR s (q + 1) W b m) wr) (fun i_ _ => (intOf i_).toNat)
  case atStart => exact ⟨0, q, by omega, rfl, hS0⟩
  case round =>
    obtain ⟨m, i, hmi, rfl, hS⟩ := hrel
    clear hS0
    have hiq : i ≤ q := by omega
    have HM := Lib.hid hmi
    clear hmi
    by_cases hlt : 0 < i
    · go_wp2_with (fail)
      obtain ⟨cur, hcur⟩ : ∃ cur : Nat → UInt8, cur = decR s (q + 1) W b m := ⟨_, rfl⟩
      rw [← hcur] at hS
      have HC := Lib.hid hcur
      clear hcur
      refine region_seq (fun w' => EncS kb w g q s W cur w') mixedOrders (by kernel_rfl) (by simp) hS.drew ?_
      clear hS
      refine Seq.next ?_ (Sure.val rfl (fun w' hS => ?_)) ?_
      rotate_left 1
      · clear hS
        go_simp
        rfl
      simp only [Act.put, List.setIfInBounds_toArray, List.set_cons_zero, List.set_cons_succ]
      refine Seq.next (.agg (row 16 cur)) (Sure.load_Row rfl 32 _ rfl w.heap.size rfl 32 16 _ _ (fun w' hS => hS.2.2.1) und16 size16) ?_
      simp only [Act.put, List.setIfInBounds_toArray, List.set_cons_zero, List.set_cons_succ]
      refine Seq.next ?_ (Sure.val rfl (fun w' hS => ?_)) ?_
      rotate_left 1
      · clear hS
        have i1 : (i : Int) < (q : Int) + 2 := by omega
        go_simp
        rfl
      simp only [Act.put, List.setIfInBounds_toArray, List.set_cons_zero, List.set_cons_succ]
      refine Seq.next ?_ (Sure.val rfl (fun w' hS => ?_)) ?_
      rotate_left 1
      · clear hS
        have i1 : (i : Int) < (q : Int) + 2 := by omega
        go_simp
        rfl
      simp only [Act.put, List.setIfInBounds_toArray, List.set_cons_zero, List.set_cons_succ]
      refine Seq.next ?_ (Sure.val rfl (fun w' hS => ?_)) ?_
      rotate_left 1
      · clear hS
        have i1 : (i : Int) < (q : Int) + 2 := by omega
        go_simp
        rfl
      simp only [Act.put, List.setIfInBounds_toArray, List.set_cons_zero, List.set_cons_succ]
      refine Seq.next (.agg (row 16 fun j => W (i * 16 + j))) (Sure.load_Mid rfl 32 _ rfl g (i * 16) rfl 32 (16 * (q + 2)) 16 W _ (fun w' hS => hS.2.1) (by omega) und16 size16) ?_
      simp only [Act.put, List.setIfInBounds_toArray, List.set_cons_zero, List.set_cons_succ]
      refine Seq.next (.agg (row 16 (added cur (fun j => W (i * 16 + j))))) (Sure.call (f := 52) (args := #[.agg (row 16 (cur)), .agg (row 16 (fun j => W (i * 16 + j)))]) rfl (fun w' => by go_simp) (fun w' hS => (added_c _ _ w').mono fun e w'' h => ⟨h.1, hS.below h.2⟩)) ?_
      simp only [Act.put, List.setIfInBounds_toArray, List.set_cons_zero, List.set_cons_succ]
      refine Seq.next (.agg (row 16 (unmixed (added cur (fun j => W (i * 16 + j)))))) (Sure.call (f := 59) (args := #[.agg (row 16 (added cur (fun j => W (i * 16 + j))))]) rfl (fun w' => by go_simp) (fun w' hS => (unmixed_c _ w').mono fun e w'' h => ⟨h.1, hS.below h.2⟩)) ?_
      simp only [Act.put, List.setIfInBounds_toArray, List.set_cons_zero, List.set_cons_succ]
      refine Seq.next (.agg (row 16 (unshifted (unmixed (added cur (fun j => W (i * 16 + j))))))) (Sure.call (f := 58) (args := #[.agg (row 16 (unmixed (added cur (fun j => W (i * 16 + j)))))]) rfl (fun w' => by go_simp) (fun w' hS => (unshifted_c _ w').mono fun e w'' h => ⟨h.1, hS.below h.2⟩)) ?_
      simp only [Act.put, List.setIfInBounds_toArray, List.set_cons_zero, List.set_cons_succ]
      refine Seq.next (.agg (row 16 (boxed s (unshifted (unmixed (added cur (fun j => W (i * 16 + j)))))))) (Sure.call (f := 57) (args := #[.pointer (some ⟨kb, 0, none⟩), .agg (row 16 (unshifted (unmixed (added cur (fun j => W (i * 16 + j))))))]) rfl (fun w' => by go_simp) (fun w' hS => (unboxed_c s _ kb w' hS.1).mono fun e w'' h => ⟨h.1, hS.below h.2⟩)) ?_
      simp only [Act.put, List.setIfInBounds_toArray, List.set_cons_zero, List.set_cons_succ]
      refine Seq.store_Row rfl 32 _ _ rfl w.heap.size rfl 32 16 (cur) (boxed s (unshifted (unmixed (added cur (fun j => W (i * 16 + j)))))) rfl (fun w' hS => hS.2.2.1) size16 fun w' hS => ?_
      have hS2 := hS.put hz0 hg0 (boxed s (unshifted (unmixed (added cur (fun j => W (i * 16 + j))))))
      rw [show boxed s (unshifted (unmixed (added cur (fun j => W (i * 16 + j))))) = decR s (q + 1) W b (m + 1) by
        rw [HC.out]
        show _ = boxed s (unshifted (unmixed (added (decR s (q + 1) W b m) (rk W (q + 1 - 1 - m)))))
        rw [show (fun j => W (i * 16 + j)) = rk W (q + 1 - 1 - m) by funext j; unfold rk; rw [show q + 1 - 1 - m = i by have := HM.out; omega, Nat.mul_comm]]] at hS2 ⊢
      clear hS
      revert hS2
      generalize w'.setRow w.heap.size (row 16 (decR s (q + 1) W b (m + 1))) = w4
      intro hS2
      simp only [Act.put]
      go_wp2
      go_roundw
      case rel => exact ⟨m + 1, i - 1, by have := HM.out; omega, by congr 1; omega, hS2⟩
      case measure => simp [intOf]; omega
    · obtain rfl : i = 0 := by omega
      go_wp2_with (fail)
      obtain ⟨cur, hcur⟩ : ∃ cur : Nat → UInt8, cur = decR s (q + 1) W b m := ⟨_, rfl⟩
      rw [← hcur] at hS
      have HC := Lib.hid hcur
      clear hcur
      refine region_seq (fun w' => EncS kb w g q s W cur w') mixedOrders (by kernel_rfl) (by simp) hS.drew ?_
      clear hS
      refine Seq.next (.agg (row 16 cur)) (Sure.load_Row rfl 32 _ rfl w.heap.size rfl 32 16 _ _ (fun w' hS => hS.2.2.1) und16 size16) ?_
      simp only [Act.put, List.setIfInBounds_toArray, List.set_cons_zero, List.set_cons_succ]
      refine Seq.next ?_ (Sure.val rfl (fun w' hS => ?_)) ?_
      rotate_left 1
      · clear hS
        have i0 : (0 : Int) < (q : Int) + 2 := by omega
        go_simp
        rfl
      simp only [Act.put, List.setIfInBounds_toArray, List.set_cons_zero, List.set_cons_succ]
      refine Seq.next ?_ (Sure.val rfl (fun w' hS => ?_)) ?_
      rotate_left 1
      · clear hS
        have i0 : (0 : Int) < (q : Int) + 2 := by omega
        go_simp
        rfl
      simp only [Act.put, List.setIfInBounds_toArray, List.set_cons_zero, List.set_cons_succ]
      refine Seq.next (.agg (row 16 fun j => W (0 + j))) (Sure.load_Mid rfl 32 _ rfl g (0) rfl 32 (16 * (q + 2)) 16 W _ (fun w' hS => hS.2.1) (by omega) und16 size16) ?_
      simp only [Act.put, List.setIfInBounds_toArray, List.set_cons_zero, List.set_cons_succ]
      refine Seq.next (.agg (row 16 (added cur (fun j => W (0 + j))))) (Sure.call (f := 52) (args := #[.agg (row 16 (cur)), .agg (row 16 (fun j => W (0 + j)))]) rfl (fun w' => by go_simp) (fun w' hS => (added_c _ _ w').mono fun e w'' h => ⟨h.1, hS.below h.2⟩)) ?_
      simp only [Act.put, List.setIfInBounds_toArray, List.set_cons_zero, List.set_cons_succ]
      refine Seq.store_Row rfl 32 _ _ rfl (w.heap.size + 1) rfl 32 16 (fun _ => 0) (added cur (fun j => W (0 + j))) rfl (fun w' hS => hS.2.2.2.1) size16 fun w' hS => ?_
      have hr := hS.2.2.2.1.setRow (added cur (fun j => W (0 + j)))
      have hb := below_setRow8 hS.2.2.2.2 (k := w.heap.size + 1) (by omega) (row 16 (added cur (fun j => W (0 + j))))
      clear hS
      revert hr hb
      generalize w'.setRow (w.heap.size + 1) (row 16 (added cur (fun j => W (0 + j)))) = w4
      intro hr hb
      simp only [Act.put]
      go_wp2
      refine ret_Row rfl rfl _ _ 16 _ _ rfl hr und16 size16 ⟨?_, hb⟩
      rw [HC.out, show (fun j => W (0 + j)) = rk W 0 by funext j; unfold rk; simp]
      unfold dec
      rw [show q + 1 - 1 = m by have := HM.out; omega]

end Go.Proofs.YtajifdnfibojfaaDoor
