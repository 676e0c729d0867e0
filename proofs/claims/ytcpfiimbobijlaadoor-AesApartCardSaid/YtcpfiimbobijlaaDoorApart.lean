/- AesApart: two blocks that differ are encrypted to two that differ, by any one key: the walk. -/
import Derived.Test.YtcpfiimbobijlaaDoorAwake
namespace Go.Proofs.YtcpfiimbobijlaaDoor
open Go Go.RowKit
set_option maxRecDepth 100000

set_option maxHeartbeats 4000000 in
theorem apart_walk0 (A : Option Addr) (n c : Nat) (f1 f2 : Nat → UInt8) (o : (Nat → UInt8) → Nat → UInt8) (HE : Hid (eqb 16 (o f1) (o f2) = eqb 16 f1 f2)) (W : World) (hs : Row W 0 48 256 boxF)
    (henc : ∀ (inp : Nat → UInt8) (w : World), Below W.heap.size W w → Calls Tryd.prog 14 #[.slice A n c, .agg (row 16 inp)] w fun e w' => e = .returned (.tuple #[.agg (row 16 (o inp)), .int .i64 0]) ∧ Below w.heap.size w w') :
    Calls Tryd.prog 5 #[.slice A n c, .agg (row 16 f1), .agg (row 16 f2)] W fun e w' => e = .returned (.bool true) ∧ Below W.heap.size W w' := by
  have hz0 := hs.lt
  have HENC := Lib.hid henc
  clear henc
  go_enter Tryd.func5, Tryd.ntmps5
  go_wp2_with (fail)
  obtain ⟨r1, r2, hb⟩ := two_new W 23 f1 f2 16 16 23
  have hs1 := hs.below hb hz0
  revert r1 r2 hb hs1
  generalize (W.alloc (.cells (row 16 f1) 23)).alloc (.cells (row 16 f2) 23) = w0
  intro r1 r2 hb hs1
  refine (awake_c w0 hs1).mono ?_
  rintro e w1 ⟨rfl, hb1⟩
  have r1 := r1.below hb1 r1.lt
  have r2 := r2.below hb1 r2.lt
  have hb := hb.trans (hb1.mono hb.size)
  clear hb1 hs1 hs
  go_wp2_with (refine wpList_load_Row rfl 23 _ rfl W.heap.size rfl 23 16 f1 _ r1 und16 size16 ?_)
  refine (HENC.out f1 w1 hb).mono ?_
  rintro e w2 ⟨rfl, hb1⟩
  have r1 := r1.below hb1 r1.lt
  have r2 := r2.below hb1 r2.lt
  have hb := hb.trans (hb1.mono hb.size)
  have l2 := r2.lt
  clear hb1
  go_wp2_with (first | (refine wpList_alloc_Row rfl 23 rfl 16 zero16z ?_) | (refine wpList_store_Row rfl 23 _ _ rfl _ rfl 23 16 (fun _ => 0) _ rfl (Row.new _ _ _ _) size16 ?_) | (refine wpList_load_Row rfl 23 _ rfl (W.heap.size + 1) rfl 23 16 f2 _ ((r2.alloc _).setRow_far (by omega) _) und16 size16 ?_))
  have r1 := (r1.alloc (.cells (row 16 fun _ => 0) 23)).setRow_far (k := w2.heap.size) (by omega) (row 16 (o f1))
  have r2 := (r2.alloc (.cells (row 16 fun _ => 0) 23)).setRow_far (k := w2.heap.size) (by omega) (row 16 (o f1))
  have rx := (Row.new w2 23 16 (fun _ => 0)).setRow (o f1)
  have hb := below_setRow8 (hb.alloc hb.size (.cells (row 16 fun _ => 0) 23)) (k := w2.heap.size) hb.size (row 16 (o f1))
  revert r1 r2 rx hb
  generalize (w2.alloc (.cells (row 16 fun _ => 0) 23)).setRow w2.heap.size (row 16 (o f1)) = w2'
  intro r1 r2 rx hb
  refine (HENC.out f2 w2' hb).mono ?_
  rintro e w3 ⟨rfl, hb1⟩
  have r1 := r1.below hb1 r1.lt
  have r2 := r2.below hb1 r2.lt
  have rx := rx.below hb1 rx.lt
  have hb := hb.trans (hb1.mono hb.size)
  have l3 := rx.lt
  clear hb1
  go_wp2_with (first | (refine wpList_alloc_Row rfl 23 rfl 16 zero16z ?_) | (refine wpList_store_Row rfl 23 _ _ rfl _ rfl 23 16 (fun _ => 0) _ rfl (Row.new _ _ _ _) size16 ?_))
  have r1 := (r1.alloc (.cells (row 16 fun _ => 0) 23)).setRow_far (k := w3.heap.size) (by omega) (row 16 (o f2))
  have r2 := (r2.alloc (.cells (row 16 fun _ => 0) 23)).setRow_far (k := w3.heap.size) (by omega) (row 16 (o f2))
  have rx := (rx.alloc (.cells (row 16 fun _ => 0) 23)).setRow_far (k := w3.heap.size) (by omega) (row 16 (o f2))
  have ry := (Row.new w3 23 16 (fun _ => 0)).setRow (o f2)
  have hb := below_setRow8 (hb.alloc hb.size (.cells (row 16 fun _ => 0) 23)) (k := w3.heap.size) hb.size (row 16 (o f2))
  revert r1 r2 rx ry hb
  generalize (w3.alloc (.cells (row 16 fun _ => 0) 23)).setRow w3.heap.size (row 16 (o f2)) = w4
  intro r1 r2 rx ry hb
  clear HENC
  refine region_seq (fun w' => Row w' w2.heap.size 23 16 (o f1) ∧ Row w' w3.heap.size 23 16 (o f2) ∧ Row w' W.heap.size 23 16 f1 ∧ Row w' (W.heap.size + 1) 23 16 f2 ∧ Below W.heap.size W w') mixedOrders (by kernel_rfl) (by simp) ⟨rx.drew, ry.drew, r1.drew, r2.drew, hb.drew⟩ ?_
  clear r1 r2 rx ry hb
  refine Seq.next ?_ (Sure.val rfl (fun w' hS => ?_)) ?_
  rotate_left 1
  · clear hS
    go_simp
    rfl
  simp only [Act.put, List.setIfInBounds_toArray, List.set_cons_zero, List.set_cons_succ]
  refine Seq.next ?_ (Sure.val rfl (fun w' hS => ?_)) ?_
  rotate_left 1
  · clear hS
    go_simp
    rfl
  simp only [Act.put, List.setIfInBounds_toArray, List.set_cons_zero, List.set_cons_succ]
  refine Seq.next ?_ (Sure.val rfl (fun w' hS => ?_)) ?_
  rotate_left 1
  · clear hS
    go_simp
    rfl
  simp only [Act.put, List.setIfInBounds_toArray, List.set_cons_zero, List.set_cons_succ]
  refine Seq.next ?_ (Sure.val rfl (fun w' hS => ?_)) ?_
  rotate_left 1
  · clear hS
    go_simp
    rfl
  simp only [Act.put, List.setIfInBounds_toArray, List.set_cons_zero, List.set_cons_succ]
  refine Seq.next ?_ (Sure.val rfl (fun w' hS => ?_)) ?_
  rotate_left 1
  · clear hS
    go_simp
    rfl
  simp only [Act.put, List.setIfInBounds_toArray, List.set_cons_zero, List.set_cons_succ]
  refine Seq.next ?_ (Sure.val rfl (fun w' hS => ?_)) ?_
  rotate_left 1
  · clear hS
    go_simp
    rfl
  simp only [Act.put, List.setIfInBounds_toArray, List.set_cons_zero, List.set_cons_succ]
  refine Seq.next ?_ (Sure.val rfl (fun w' hS => ?_)) ?_
  rotate_left 1
  · clear hS
    go_simp
    rfl
  simp only [Act.put, List.setIfInBounds_toArray, List.set_cons_zero, List.set_cons_succ]
  refine Seq.next (.agg (row 16 (o f1))) (Sure.load_Row rfl 23 _ rfl w2.heap.size rfl 23 16 _ _ (fun w' hS => hS.1) und16 size16) ?_
  simp only [Act.put, List.setIfInBounds_toArray, List.set_cons_zero, List.set_cons_succ]
  refine Seq.next (.agg (row 16 (o f2))) (Sure.load_Row rfl 23 _ rfl w3.heap.size rfl 23 16 _ _ (fun w' hS => hS.2.1) und16 size16) ?_
  simp only [Act.put, List.setIfInBounds_toArray, List.set_cons_zero, List.set_cons_succ]
  refine Seq.next ?_ (Sure.val rfl (fun w' hS => ?_)) ?_
  rotate_left 1
  · have e := run_eql16 (o f1) (o f2)
    clear hS
    go_simp
    rfl
  simp only [Act.put, List.setIfInBounds_toArray, List.set_cons_zero, List.set_cons_succ]
  refine Seq.next (.agg (row 16 f1)) (Sure.load_Row rfl 23 _ rfl W.heap.size rfl 23 16 _ _ (fun w' hS => hS.2.2.1) und16 size16) ?_
  simp only [Act.put, List.setIfInBounds_toArray, List.set_cons_zero, List.set_cons_succ]
  refine Seq.next (.agg (row 16 f2)) (Sure.load_Row rfl 23 _ rfl (W.heap.size + 1) rfl 23 16 _ _ (fun w' hS => hS.2.2.2.1) und16 size16) ?_
  simp only [Act.put, List.setIfInBounds_toArray, List.set_cons_zero, List.set_cons_succ]
  refine Seq.next ?_ (Sure.val rfl (fun w' hS => ?_)) ?_
  rotate_left 1
  · have e := run_eql16 f1 f2
    clear hS
    go_simp
    rfl
  simp only [Act.put, List.setIfInBounds_toArray, List.set_cons_zero, List.set_cons_succ]
  refine Seq.next ?_ (Sure.val rfl (fun w' hS => ?_)) ?_
  rotate_left 1
  · have e := HE.out
    clear hS
    go_simp
    rfl
  simp only [Act.put, List.setIfInBounds_toArray, List.set_cons_zero, List.set_cons_succ]
  refine Seq.next ?_ (Sure.val rfl (fun w' hS => ?_)) ?_
  rotate_left 1
  · clear hS
    go_simp
    rfl
  simp only [Act.put, List.setIfInBounds_toArray, List.set_cons_zero, List.set_cons_succ]
  refine Seq.next ?_ (Sure.val rfl (fun w' hS => ?_)) ?_
  rotate_left 1
  · clear hS
    go_simp
    rfl
  simp only [Act.put, List.setIfInBounds_toArray, List.set_cons_zero, List.set_cons_succ]
  refine Seq.last rfl fun w' hS => ?_
  have hb := hS.2.2.2.2
  clear hS
  go_simp
  go_wp2
  go_ret
  exact ⟨rfl, hb⟩

set_option maxHeartbeats 4000000 in
theorem apart_walk1 (A : Option Addr) (n c : Nat) (f1 f2 : Nat → UInt8) (o : (Nat → UInt8) → Nat → UInt8) (W : World) (hs : Row W 0 48 256 boxF)
    (henc : ∀ (inp : Nat → UInt8) (w : World), Below W.heap.size W w → Calls Tryd.prog 14 #[.slice A n c, .agg (row 16 inp)] w fun e w' => e = .returned (.tuple #[.agg (row 16 (o inp)), .int .i64 1]) ∧ Below w.heap.size w w') :
    Calls Tryd.prog 5 #[.slice A n c, .agg (row 16 f1), .agg (row 16 f2)] W fun e w' => e = .returned (.bool true) ∧ Below W.heap.size W w' := by
  have hz0 := hs.lt
  have HENC := Lib.hid henc
  clear henc
  go_enter Tryd.func5, Tryd.ntmps5
  go_wp2_with (fail)
  obtain ⟨r1, r2, hb⟩ := two_new W 23 f1 f2 16 16 23
  have hs1 := hs.below hb hz0
  revert r1 r2 hb hs1
  generalize (W.alloc (.cells (row 16 f1) 23)).alloc (.cells (row 16 f2) 23) = w0
  intro r1 r2 hb hs1
  refine (awake_c w0 hs1).mono ?_
  rintro e w1 ⟨rfl, hb1⟩
  have r1 := r1.below hb1 r1.lt
  have r2 := r2.below hb1 r2.lt
  have hb := hb.trans (hb1.mono hb.size)
  clear hb1 hs1 hs
  go_wp2_with (refine wpList_load_Row rfl 23 _ rfl W.heap.size rfl 23 16 f1 _ r1 und16 size16 ?_)
  refine (HENC.out f1 w1 hb).mono ?_
  rintro e w2 ⟨rfl, hb1⟩
  have r1 := r1.below hb1 r1.lt
  have r2 := r2.below hb1 r2.lt
  have hb := hb.trans (hb1.mono hb.size)
  have l2 := r2.lt
  clear hb1
  go_wp2_with (first | (refine wpList_alloc_Row rfl 23 rfl 16 zero16z ?_) | (refine wpList_store_Row rfl 23 _ _ rfl _ rfl 23 16 (fun _ => 0) _ rfl (Row.new _ _ _ _) size16 ?_) | (refine wpList_load_Row rfl 23 _ rfl (W.heap.size + 1) rfl 23 16 f2 _ ((r2.alloc _).setRow_far (by omega) _) und16 size16 ?_))
  have r1 := (r1.alloc (.cells (row 16 fun _ => 0) 23)).setRow_far (k := w2.heap.size) (by omega) (row 16 (o f1))
  have r2 := (r2.alloc (.cells (row 16 fun _ => 0) 23)).setRow_far (k := w2.heap.size) (by omega) (row 16 (o f1))
  have rx := (Row.new w2 23 16 (fun _ => 0)).setRow (o f1)
  have hb := below_setRow8 (hb.alloc hb.size (.cells (row 16 fun _ => 0) 23)) (k := w2.heap.size) hb.size (row 16 (o f1))
  revert r1 r2 rx hb
  generalize (w2.alloc (.cells (row 16 fun _ => 0) 23)).setRow w2.heap.size (row 16 (o f1)) = w2'
  intro r1 r2 rx hb
  refine (HENC.out f2 w2' hb).mono ?_
  rintro e w3 ⟨rfl, hb1⟩
  have r1 := r1.below hb1 r1.lt
  have r2 := r2.below hb1 r2.lt
  have rx := rx.below hb1 rx.lt
  have hb := hb.trans (hb1.mono hb.size)
  have l3 := rx.lt
  clear hb1
  go_wp2_with (first | (refine wpList_alloc_Row rfl 23 rfl 16 zero16z ?_) | (refine wpList_store_Row rfl 23 _ _ rfl _ rfl 23 16 (fun _ => 0) _ rfl (Row.new _ _ _ _) size16 ?_))
  have r1 := (r1.alloc (.cells (row 16 fun _ => 0) 23)).setRow_far (k := w3.heap.size) (by omega) (row 16 (o f2))
  have r2 := (r2.alloc (.cells (row 16 fun _ => 0) 23)).setRow_far (k := w3.heap.size) (by omega) (row 16 (o f2))
  have rx := (rx.alloc (.cells (row 16 fun _ => 0) 23)).setRow_far (k := w3.heap.size) (by omega) (row 16 (o f2))
  have ry := (Row.new w3 23 16 (fun _ => 0)).setRow (o f2)
  have hb := below_setRow8 (hb.alloc hb.size (.cells (row 16 fun _ => 0) 23)) (k := w3.heap.size) hb.size (row 16 (o f2))
  revert r1 r2 rx ry hb
  generalize (w3.alloc (.cells (row 16 fun _ => 0) 23)).setRow w3.heap.size (row 16 (o f2)) = w4
  intro r1 r2 rx ry hb
  clear HENC
  refine region_seq (fun w' => Row w' w2.heap.size 23 16 (o f1) ∧ Row w' w3.heap.size 23 16 (o f2) ∧ Row w' W.heap.size 23 16 f1 ∧ Row w' (W.heap.size + 1) 23 16 f2 ∧ Below W.heap.size W w') mixedOrders (by kernel_rfl) (by simp) ⟨rx.drew, ry.drew, r1.drew, r2.drew, hb.drew⟩ ?_
  clear r1 r2 rx ry hb
  refine Seq.next ?_ (Sure.val rfl (fun w' hS => ?_)) ?_
  rotate_left 1
  · clear hS
    go_simp
    rfl
  simp only [Act.put, List.setIfInBounds_toArray, List.set_cons_zero, List.set_cons_succ]
  refine Seq.next ?_ (Sure.val rfl (fun w' hS => ?_)) ?_
  rotate_left 1
  · clear hS
    go_simp
    rfl
  simp only [Act.put, List.setIfInBounds_toArray, List.set_cons_zero, List.set_cons_succ]
  refine Seq.next ?_ (Sure.val rfl (fun w' hS => ?_)) ?_
  rotate_left 1
  · clear hS
    go_simp
    rfl
  simp only [Act.put, List.setIfInBounds_toArray, List.set_cons_zero, List.set_cons_succ]
  refine Seq.next ?_ (Sure.val rfl (fun w' hS => ?_)) ?_
  rotate_left 1
  · clear hS
    go_simp
    rfl
  simp only [Act.put, List.setIfInBounds_toArray, List.set_cons_zero, List.set_cons_succ]
  refine Seq.next ?_ (Sure.val rfl (fun w' hS => ?_)) ?_
  rotate_left 1
  · clear hS
    go_simp
    rfl
  simp only [Act.put, List.setIfInBounds_toArray, List.set_cons_zero, List.set_cons_succ]
  refine Seq.next ?_ (Sure.val rfl (fun w' hS => ?_)) ?_
  rotate_left 1
  · clear hS
    go_simp
    rfl
  simp only [Act.put, List.setIfInBounds_toArray, List.set_cons_zero, List.set_cons_succ]
  refine Seq.next ?_ (Sure.val rfl (fun w' hS => ?_)) ?_
  rotate_left 1
  · clear hS
    go_simp
    rfl
  simp only [Act.put, List.setIfInBounds_toArray, List.set_cons_zero, List.set_cons_succ]
  refine Seq.next undef (Sure.not rfl) ?_
  simp only [Act.put, List.setIfInBounds_toArray, List.set_cons_zero, List.set_cons_succ]
  refine Seq.next undef (Sure.not rfl) ?_
  simp only [Act.put, List.setIfInBounds_toArray, List.set_cons_zero, List.set_cons_succ]
  refine Seq.next undef (Sure.not rfl) ?_
  simp only [Act.put, List.setIfInBounds_toArray, List.set_cons_zero, List.set_cons_succ]
  refine Seq.next undef (Sure.not rfl) ?_
  simp only [Act.put, List.setIfInBounds_toArray, List.set_cons_zero, List.set_cons_succ]
  refine Seq.next undef (Sure.not rfl) ?_
  simp only [Act.put, List.setIfInBounds_toArray, List.set_cons_zero, List.set_cons_succ]
  refine Seq.next undef (Sure.not rfl) ?_
  simp only [Act.put, List.setIfInBounds_toArray, List.set_cons_zero, List.set_cons_succ]
  refine Seq.next undef (Sure.not rfl) ?_
  simp only [Act.put, List.setIfInBounds_toArray, List.set_cons_zero, List.set_cons_succ]
  refine Seq.next ?_ (Sure.val rfl (fun w' hS => ?_)) ?_
  rotate_left 1
  · clear hS
    go_simp
    rfl
  simp only [Act.put, List.setIfInBounds_toArray, List.set_cons_zero, List.set_cons_succ]
  refine Seq.next ?_ (Sure.val rfl (fun w' hS => ?_)) ?_
  rotate_left 1
  · clear hS
    go_simp
    rfl
  simp only [Act.put, List.setIfInBounds_toArray, List.set_cons_zero, List.set_cons_succ]
  refine Seq.last rfl fun w' hS => ?_
  have hb := hS.2.2.2.2
  clear hS
  go_simp
  go_wp2
  go_ret
  exact ⟨rfl, hb⟩

end Go.Proofs.YtcpfiimbobijlaaDoor
