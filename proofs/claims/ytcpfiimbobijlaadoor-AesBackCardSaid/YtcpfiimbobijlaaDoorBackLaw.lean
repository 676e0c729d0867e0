/- AesBack: what was encrypted is decrypted, and the other way round: the walk. -/
import Derived.Test.YtcpfiimbobijlaaDoorAwake
import Derived.Test.YtcpfiimbobijlaaDoorGuard
namespace Go.Proofs.YtcpfiimbobijlaaDoor
open Go Go.RowKit
set_option maxRecDepth 100000

set_option maxHeartbeats 8000000 in
theorem back_walk16 (A : Option Addr) (c : Nat) (f1 : Nat → UInt8) (oe od : (Nat → UInt8) → Nat → UInt8) (HB : Hid (∀ w : World, (binOp .eql 23 (.agg (row 16 (od (oe f1)))) (.agg (row 16 f1))).run Tryd.prog w = .ok (.bool true) w)) (HD : Hid (∀ w : World, (binOp .eql 23 (.agg (row 16 (oe (od f1)))) (.agg (row 16 f1))).run Tryd.prog w = .ok (.bool true) w)) (W : World) (hs : Row W 0 48 256 boxF)
    (henc : ∀ (inp : Nat → UInt8) (w : World), Below W.heap.size W w → Calls Tryd.prog 14 #[.slice A 16 c, .agg (row 16 inp)] w fun e w' => e = .returned (.tuple #[.agg (row 16 (oe inp)), .int .i64 0]) ∧ Below w.heap.size w w')
    (hdec : ∀ (inp : Nat → UInt8) (w : World), Below W.heap.size W w → Calls Tryd.prog 16 #[.slice A 16 c, .agg (row 16 inp)] w fun e w' => e = .returned (.tuple #[.agg (row 16 (od inp)), .int .i64 0]) ∧ Below w.heap.size w w') :
    Calls Tryd.prog 4 #[.slice A 16 c, .agg (row 16 f1)] W fun e w' => e = .returned (.bool true) ∧ Below W.heap.size W w' := by
  have hz0 := hs.lt
  have HENC := Lib.hid henc
  have HDEC := Lib.hid hdec
  clear henc hdec
  go_enter Tryd.func4, Tryd.ntmps4
  go_wp2_with (fail)
  have r1 := Row.new W 23 16 f1
  have hb : Below W.heap.size W (W.alloc (.cells (row 16 f1) 23)) := (Below.refl _ _).alloc (Nat.le_refl _) _
  have hs1 := hs.alloc (.cells (row 16 f1) 23)
  revert r1 hb hs1
  generalize W.alloc (.cells (row 16 f1) 23) = w0
  intro r1 hb hs1
  refine (awake_c w0 hs1).mono ?_
  rintro e w1 ⟨rfl, hb1⟩
  have r1 := r1.below hb1 r1.lt
  have hb := hb.trans (hb1.mono hb.size)
  have lr1 := r1.lt
  clear hb1
  clear hs1 hs
  go_wp2_with (refine wpList_load_Row rfl 23 _ rfl W.heap.size rfl 23 16 f1 _ r1 und16 size16 ?_)
  refine (HENC.out f1 w1 hb).mono ?_
  rintro e w2 ⟨rfl, hb1⟩
  have r1 := r1.below hb1 r1.lt
  have hb := hb.trans (hb1.mono hb.size)
  have lr1 := r1.lt
  clear hb1
  go_wp2_with (first | (refine wpList_alloc_Row rfl 23 rfl 16 zero16z ?_) | (refine wpList_store_Row rfl 23 _ _ rfl _ rfl 23 16 (fun _ => 0) _ rfl (Row.new _ _ _ _) size16 ?_) | (refine wpList_load_Row rfl 23 _ rfl w2.heap.size rfl 23 16 (oe f1) _ ((Row.new w2 23 16 (fun _ => 0)).setRow _) und16 size16 ?_))
  have r1 := (r1.alloc (.cells (row 16 fun _ => 0) 23)).setRow_far (k := w2.heap.size) (by omega) (row 16 (oe f1))
  have ra := (Row.new w2 23 16 (fun _ => 0)).setRow (oe f1)
  have hb := below_setRow8 (hb.alloc hb.size (.cells (row 16 fun _ => 0) 23)) (k := w2.heap.size) hb.size (row 16 (oe f1))
  revert r1 ra hb
  generalize (w2.alloc (.cells (row 16 fun _ => 0) 23)).setRow w2.heap.size (row 16 (oe f1)) = w2'
  intro r1 ra hb
  refine (HDEC.out (oe f1) w2' hb).mono ?_
  rintro e w3 ⟨rfl, hb1⟩
  have r1 := r1.below hb1 r1.lt
  have ra := ra.below hb1 ra.lt
  have hb := hb.trans (hb1.mono hb.size)
  have lr1 := r1.lt
  have lra := ra.lt
  clear hb1
  go_wp2_with (first | (refine wpList_alloc_Row rfl 23 rfl 16 zero16z ?_) | (refine wpList_store_Row rfl 23 _ _ rfl _ rfl 23 16 (fun _ => 0) _ rfl (Row.new _ _ _ _) size16 ?_) | (refine wpList_load_Row rfl 23 _ rfl W.heap.size rfl 23 16 (f1) _ ((r1.alloc _).setRow_far (by omega) _) und16 size16 ?_))
  have r1 := (r1.alloc (.cells (row 16 fun _ => 0) 23)).setRow_far (k := w3.heap.size) (by omega) (row 16 (od (oe f1)))
  have ra := (ra.alloc (.cells (row 16 fun _ => 0) 23)).setRow_far (k := w3.heap.size) (by omega) (row 16 (od (oe f1)))
  have rb := (Row.new w3 23 16 (fun _ => 0)).setRow (od (oe f1))
  have hb := below_setRow8 (hb.alloc hb.size (.cells (row 16 fun _ => 0) 23)) (k := w3.heap.size) hb.size (row 16 (od (oe f1)))
  revert r1 ra rb hb
  generalize (w3.alloc (.cells (row 16 fun _ => 0) 23)).setRow w3.heap.size (row 16 (od (oe f1))) = w3'
  intro r1 ra rb hb
  refine (HDEC.out f1 w3' hb).mono ?_
  rintro e w4 ⟨rfl, hb1⟩
  have r1 := r1.below hb1 r1.lt
  have ra := ra.below hb1 ra.lt
  have rb := rb.below hb1 rb.lt
  have hb := hb.trans (hb1.mono hb.size)
  have lr1 := r1.lt
  have lra := ra.lt
  have lrb := rb.lt
  clear hb1
  go_wp2_with (first | (refine wpList_alloc_Row rfl 23 rfl 16 zero16z ?_) | (refine wpList_store_Row rfl 23 _ _ rfl _ rfl 23 16 (fun _ => 0) _ rfl (Row.new _ _ _ _) size16 ?_) | (refine wpList_load_Row rfl 23 _ rfl w4.heap.size rfl 23 16 (od f1) _ ((Row.new w4 23 16 (fun _ => 0)).setRow _) und16 size16 ?_))
  have r1 := (r1.alloc (.cells (row 16 fun _ => 0) 23)).setRow_far (k := w4.heap.size) (by omega) (row 16 (od f1))
  have ra := (ra.alloc (.cells (row 16 fun _ => 0) 23)).setRow_far (k := w4.heap.size) (by omega) (row 16 (od f1))
  have rb := (rb.alloc (.cells (row 16 fun _ => 0) 23)).setRow_far (k := w4.heap.size) (by omega) (row 16 (od f1))
  have rc := (Row.new w4 23 16 (fun _ => 0)).setRow (od f1)
  have hb := below_setRow8 (hb.alloc hb.size (.cells (row 16 fun _ => 0) 23)) (k := w4.heap.size) hb.size (row 16 (od f1))
  revert r1 ra rb rc hb
  generalize (w4.alloc (.cells (row 16 fun _ => 0) 23)).setRow w4.heap.size (row 16 (od f1)) = w4'
  intro r1 ra rb rc hb
  refine (HENC.out (od f1) w4' hb).mono ?_
  rintro e w5 ⟨rfl, hb1⟩
  have r1 := r1.below hb1 r1.lt
  have ra := ra.below hb1 ra.lt
  have rb := rb.below hb1 rb.lt
  have rc := rc.below hb1 rc.lt
  have hb := hb.trans (hb1.mono hb.size)
  have lr1 := r1.lt
  have lra := ra.lt
  have lrb := rb.lt
  have lrc := rc.lt
  clear hb1
  clear HENC HDEC
  have eB := HB.out
  have eD := HD.out
  go_wp2_with (first | (refine wpList_alloc_Row rfl 23 rfl 16 zero16z ?_) | (refine wpList_store_Row rfl 23 _ _ rfl _ rfl 23 16 (fun _ => 0) _ rfl (Row.new _ _ _ _) size16 ?_) | (refine wpList_load_RowG 23 _ rfl (by kernel_rfl) w3.heap.size rfl 23 16 (od (oe f1)) _ ((rb.alloc _).setRow_far (by omega) _) und16 size16 ?_) | (refine wpList_load_RowG 23 _ rfl (by kernel_rfl) W.heap.size rfl 23 16 f1 _ ((r1.alloc _).setRow_far (by omega) _) und16 size16 ?_) | (refine wpList_load_RowG 23 _ rfl (by kernel_rfl) w5.heap.size rfl 23 16 (oe (od f1)) _ ((Row.new w5 23 16 (fun _ => 0)).setRow _) und16 size16 ?_))
  go_ret
  exact ⟨rfl, below_setRow8 (hb.alloc hb.size _) hb.size _⟩

set_option maxHeartbeats 8000000 in
theorem back_walk32 (A : Option Addr) (c : Nat) (f1 : Nat → UInt8) (oe od : (Nat → UInt8) → Nat → UInt8) (HB : Hid (∀ w : World, (binOp .eql 23 (.agg (row 16 (od (oe f1)))) (.agg (row 16 f1))).run Tryd.prog w = .ok (.bool true) w)) (HD : Hid (∀ w : World, (binOp .eql 23 (.agg (row 16 (oe (od f1)))) (.agg (row 16 f1))).run Tryd.prog w = .ok (.bool true) w)) (W : World) (hs : Row W 0 48 256 boxF)
    (henc : ∀ (inp : Nat → UInt8) (w : World), Below W.heap.size W w → Calls Tryd.prog 14 #[.slice A 32 c, .agg (row 16 inp)] w fun e w' => e = .returned (.tuple #[.agg (row 16 (oe inp)), .int .i64 0]) ∧ Below w.heap.size w w')
    (hdec : ∀ (inp : Nat → UInt8) (w : World), Below W.heap.size W w → Calls Tryd.prog 16 #[.slice A 32 c, .agg (row 16 inp)] w fun e w' => e = .returned (.tuple #[.agg (row 16 (od inp)), .int .i64 0]) ∧ Below w.heap.size w w') :
    Calls Tryd.prog 4 #[.slice A 32 c, .agg (row 16 f1)] W fun e w' => e = .returned (.bool true) ∧ Below W.heap.size W w' := by
  have hz0 := hs.lt
  have HENC := Lib.hid henc
  have HDEC := Lib.hid hdec
  clear henc hdec
  go_enter Tryd.func4, Tryd.ntmps4
  go_wp2_with (fail)
  have r1 := Row.new W 23 16 f1
  have hb : Below W.heap.size W (W.alloc (.cells (row 16 f1) 23)) := (Below.refl _ _).alloc (Nat.le_refl _) _
  have hs1 := hs.alloc (.cells (row 16 f1) 23)
  revert r1 hb hs1
  generalize W.alloc (.cells (row 16 f1) 23) = w0
  intro r1 hb hs1
  refine (awake_c w0 hs1).mono ?_
  rintro e w1 ⟨rfl, hb1⟩
  have r1 := r1.below hb1 r1.lt
  have hb := hb.trans (hb1.mono hb.size)
  have lr1 := r1.lt
  clear hb1
  clear hs1 hs
  go_wp2_with (refine wpList_load_Row rfl 23 _ rfl W.heap.size rfl 23 16 f1 _ r1 und16 size16 ?_)
  refine (HENC.out f1 w1 hb).mono ?_
  rintro e w2 ⟨rfl, hb1⟩
  have r1 := r1.below hb1 r1.lt
  have hb := hb.trans (hb1.mono hb.size)
  have lr1 := r1.lt
  clear hb1
  go_wp2_with (first | (refine wpList_alloc_Row rfl 23 rfl 16 zero16z ?_) | (refine wpList_store_Row rfl 23 _ _ rfl _ rfl 23 16 (fun _ => 0) _ rfl (Row.new _ _ _ _) size16 ?_) | (refine wpList_load_Row rfl 23 _ rfl w2.heap.size rfl 23 16 (oe f1) _ ((Row.new w2 23 16 (fun _ => 0)).setRow _) und16 size16 ?_))
  have r1 := (r1.alloc (.cells (row 16 fun _ => 0) 23)).setRow_far (k := w2.heap.size) (by omega) (row 16 (oe f1))
  have ra := (Row.new w2 23 16 (fun _ => 0)).setRow (oe f1)
  have hb := below_setRow8 (hb.alloc hb.size (.cells (row 16 fun _ => 0) 23)) (k := w2.heap.size) hb.size (row 16 (oe f1))
  revert r1 ra hb
  generalize (w2.alloc (.cells (row 16 fun _ => 0) 23)).setRow w2.heap.size (row 16 (oe f1)) = w2'
  intro r1 ra hb
  refine (HDEC.out (oe f1) w2' hb).mono ?_
  rintro e w3 ⟨rfl, hb1⟩
  have r1 := r1.below hb1 r1.lt
  have ra := ra.below hb1 ra.lt
  have hb := hb.trans (hb1.mono hb.size)
  have lr1 := r1.lt
  have lra := ra.lt
  clear hb1
  go_wp2_with (first | (refine wpList_alloc_Row rfl 23 rfl 16 zero16z ?_) | (refine wpList_store_Row rfl 23 _ _ rfl _ rfl 23 16 (fun _ => 0) _ rfl (Row.new _ _ _ _) size16 ?_) | (refine wpList_load_Row rfl 23 _ rfl W.heap.size rfl 23 16 (f1) _ ((r1.alloc _).setRow_far (by omega) _) und16 size16 ?_))
  have r1 := (r1.alloc (.cells (row 16 fun _ => 0) 23)).setRow_far (k := w3.heap.size) (by omega) (row 16 (od (oe f1)))
  have ra := (ra.alloc (.cells (row 16 fun _ => 0) 23)).setRow_far (k := w3.heap.size) (by omega) (row 16 (od (oe f1)))
  have rb := (Row.new w3 23 16 (fun _ => 0)).setRow (od (oe f1))
  have hb := below_setRow8 (hb.alloc hb.size (.cells (row 16 fun _ => 0) 23)) (k := w3.heap.size) hb.size (row 16 (od (oe f1)))
  revert r1 ra rb hb
  generalize (w3.alloc (.cells (row 16 fun _ => 0) 23)).setRow w3.heap.size (row 16 (od (oe f1))) = w3'
  intro r1 ra rb hb
  refine (HDEC.out f1 w3' hb).mono ?_
  rintro e w4 ⟨rfl, hb1⟩
  have r1 := r1.below hb1 r1.lt
  have ra := ra.below hb1 ra.lt
  have rb := rb.below hb1 rb.lt
  have hb := hb.trans (hb1.mono hb.size)
  have lr1 := r1.lt
  have lra := ra.lt
  have lrb := rb.lt
  clear hb1
  go_wp2_with (first | (refine wpList_alloc_Row rfl 23 rfl 16 zero16z ?_) | (refine wpList_store_Row rfl 23 _ _ rfl _ rfl 23 16 (fun _ => 0) _ rfl (Row.new _ _ _ _) size16 ?_) | (refine wpList_load_Row rfl 23 _ rfl w4.heap.size rfl 23 16 (od f1) _ ((Row.new w4 23 16 (fun _ => 0)).setRow _) und16 size16 ?_))
  have r1 := (r1.alloc (.cells (row 16 fun _ => 0) 23)).setRow_far (k := w4.heap.size) (by omega) (row 16 (od f1))
  have ra := (ra.alloc (.cells (row 16 fun _ => 0) 23)).setRow_far (k := w4.heap.size) (by omega) (row 16 (od f1))
  have rb := (rb.alloc (.cells (row 16 fun _ => 0) 23)).setRow_far (k := w4.heap.size) (by omega) (row 16 (od f1))
  have rc := (Row.new w4 23 16 (fun _ => 0)).setRow (od f1)
  have hb := below_setRow8 (hb.alloc hb.size (.cells (row 16 fun _ => 0) 23)) (k := w4.heap.size) hb.size (row 16 (od f1))
  revert r1 ra rb rc hb
  generalize (w4.alloc (.cells (row 16 fun _ => 0) 23)).setRow w4.heap.size (row 16 (od f1)) = w4'
  intro r1 ra rb rc hb
  refine (HENC.out (od f1) w4' hb).mono ?_
  rintro e w5 ⟨rfl, hb1⟩
  have r1 := r1.below hb1 r1.lt
  have ra := ra.below hb1 ra.lt
  have rb := rb.below hb1 rb.lt
  have rc := rc.below hb1 rc.lt
  have hb := hb.trans (hb1.mono hb.size)
  have lr1 := r1.lt
  have lra := ra.lt
  have lrb := rb.lt
  have lrc := rc.lt
  clear hb1
  clear HENC HDEC
  have eB := HB.out
  have eD := HD.out
  go_wp2_with (first | (refine wpList_alloc_Row rfl 23 rfl 16 zero16z ?_) | (refine wpList_store_Row rfl 23 _ _ rfl _ rfl 23 16 (fun _ => 0) _ rfl (Row.new _ _ _ _) size16 ?_) | (refine wpList_load_RowG 23 _ rfl (by kernel_rfl) w3.heap.size rfl 23 16 (od (oe f1)) _ ((rb.alloc _).setRow_far (by omega) _) und16 size16 ?_) | (refine wpList_load_RowG 23 _ rfl (by kernel_rfl) W.heap.size rfl 23 16 f1 _ ((r1.alloc _).setRow_far (by omega) _) und16 size16 ?_) | (refine wpList_load_RowG 23 _ rfl (by kernel_rfl) w5.heap.size rfl 23 16 (oe (od f1)) _ ((Row.new w5 23 16 (fun _ => 0)).setRow _) und16 size16 ?_))
  go_ret
  exact ⟨rfl, below_setRow8 (hb.alloc hb.size _) hb.size _⟩

set_option maxHeartbeats 8000000 in
theorem back_walkNo (A : Option Addr) (n c : Nat) (f1 : Nat → UInt8) (h1 : n ≠ 16) (h2 : n ≠ 32) (W : World) (hs : Row W 0 48 256 boxF)
    (henc : ∀ (inp : Nat → UInt8) (w : World), Below W.heap.size W w → Calls Tryd.prog 14 #[.slice A n c, .agg (row 16 inp)] w fun e w' => e = .returned (.tuple #[.agg (row 16 (fun _ => 0)), .int .i64 1]) ∧ Below w.heap.size w w')
    (hdec : ∀ (inp : Nat → UInt8) (w : World), Below W.heap.size W w → Calls Tryd.prog 16 #[.slice A n c, .agg (row 16 inp)] w fun e w' => e = .returned (.tuple #[.agg (row 16 (fun _ => 0)), .int .i64 1]) ∧ Below w.heap.size w w') :
    Calls Tryd.prog 4 #[.slice A n c, .agg (row 16 f1)] W fun e w' => e = .returned (.bool true) ∧ Below W.heap.size W w' := by
  have hz0 := hs.lt
  have HENC := Lib.hid henc
  have HDEC := Lib.hid hdec
  clear henc hdec
  have h1' : ((n : Int) != 16) = true := by simpa using (show ¬ (n : Int) = 16 by omega)
  have h2' : ((n : Int) != 32) = true := by simpa using (show ¬ (n : Int) = 32 by omega)
  clear h1 h2
  go_enter Tryd.func4, Tryd.ntmps4
  go_wp2_with (fail)
  have r1 := Row.new W 23 16 f1
  have hb : Below W.heap.size W (W.alloc (.cells (row 16 f1) 23)) := (Below.refl _ _).alloc (Nat.le_refl _) _
  have hs1 := hs.alloc (.cells (row 16 f1) 23)
  revert r1 hb hs1
  generalize W.alloc (.cells (row 16 f1) 23) = w0
  intro r1 hb hs1
  refine (awake_c w0 hs1).mono ?_
  rintro e w1 ⟨rfl, hb1⟩
  have r1 := r1.below hb1 r1.lt
  have hb := hb.trans (hb1.mono hb.size)
  have lr1 := r1.lt
  clear hb1
  clear hs1 hs
  go_wp2_with (refine wpList_load_Row rfl 23 _ rfl W.heap.size rfl 23 16 f1 _ r1 und16 size16 ?_)
  refine (HENC.out f1 w1 hb).mono ?_
  rintro e w2 ⟨rfl, hb1⟩
  have r1 := r1.below hb1 r1.lt
  have hb := hb.trans (hb1.mono hb.size)
  have lr1 := r1.lt
  clear hb1
  go_wp2_with (first | (refine wpList_alloc_Row rfl 23 rfl 16 zero16z ?_) | (refine wpList_store_Row rfl 23 _ _ rfl _ rfl 23 16 (fun _ => 0) _ rfl (Row.new _ _ _ _) size16 ?_) | (refine wpList_load_Row rfl 23 _ rfl w2.heap.size rfl 23 16 (fun _ => 0) _ ((Row.new w2 23 16 (fun _ => 0)).setRow _) und16 size16 ?_))
  have r1 := (r1.alloc (.cells (row 16 fun _ => 0) 23)).setRow_far (k := w2.heap.size) (by omega) (row 16 (fun _ => 0))
  have ra := (Row.new w2 23 16 (fun _ => 0)).setRow (fun _ => 0)
  have hb := below_setRow8 (hb.alloc hb.size (.cells (row 16 fun _ => 0) 23)) (k := w2.heap.size) hb.size (row 16 (fun _ => 0))
  revert r1 ra hb
  generalize (w2.alloc (.cells (row 16 fun _ => 0) 23)).setRow w2.heap.size (row 16 (fun _ => 0)) = w2'
  intro r1 ra hb
  refine (HDEC.out (fun _ => 0) w2' hb).mono ?_
  rintro e w3 ⟨rfl, hb1⟩
  have r1 := r1.below hb1 r1.lt
  have ra := ra.below hb1 ra.lt
  have hb := hb.trans (hb1.mono hb.size)
  have lr1 := r1.lt
  have lra := ra.lt
  clear hb1
  go_wp2_with (first | (refine wpList_alloc_Row rfl 23 rfl 16 zero16z ?_) | (refine wpList_store_Row rfl 23 _ _ rfl _ rfl 23 16 (fun _ => 0) _ rfl (Row.new _ _ _ _) size16 ?_) | (refine wpList_load_Row rfl 23 _ rfl W.heap.size rfl 23 16 (f1) _ ((r1.alloc _).setRow_far (by omega) _) und16 size16 ?_))
  have r1 := (r1.alloc (.cells (row 16 fun _ => 0) 23)).setRow_far (k := w3.heap.size) (by omega) (row 16 (fun _ => 0))
  have ra := (ra.alloc (.cells (row 16 fun _ => 0) 23)).setRow_far (k := w3.heap.size) (by omega) (row 16 (fun _ => 0))
  have rb := (Row.new w3 23 16 (fun _ => 0)).setRow (fun _ => 0)
  have hb := below_setRow8 (hb.alloc hb.size (.cells (row 16 fun _ => 0) 23)) (k := w3.heap.size) hb.size (row 16 (fun _ => 0))
  revert r1 ra rb hb
  generalize (w3.alloc (.cells (row 16 fun _ => 0) 23)).setRow w3.heap.size (row 16 (fun _ => 0)) = w3'
  intro r1 ra rb hb
  refine (HDEC.out f1 w3' hb).mono ?_
  rintro e w4 ⟨rfl, hb1⟩
  have r1 := r1.below hb1 r1.lt
  have ra := ra.below hb1 ra.lt
  have rb := rb.below hb1 rb.lt
  have hb := hb.trans (hb1.mono hb.size)
  have lr1 := r1.lt
  have lra := ra.lt
  have lrb := rb.lt
  clear hb1
  go_wp2_with (first | (refine wpList_alloc_Row rfl 23 rfl 16 zero16z ?_) | (refine wpList_store_Row rfl 23 _ _ rfl _ rfl 23 16 (fun _ => 0) _ rfl (Row.new _ _ _ _) size16 ?_) | (refine wpList_load_Row rfl 23 _ rfl w4.heap.size rfl 23 16 (fun _ => 0) _ ((Row.new w4 23 16 (fun _ => 0)).setRow _) und16 size16 ?_))
  have r1 := (r1.alloc (.cells (row 16 fun _ => 0) 23)).setRow_far (k := w4.heap.size) (by omega) (row 16 (fun _ => 0))
  have ra := (ra.alloc (.cells (row 16 fun _ => 0) 23)).setRow_far (k := w4.heap.size) (by omega) (row 16 (fun _ => 0))
  have rb := (rb.alloc (.cells (row 16 fun _ => 0) 23)).setRow_far (k := w4.heap.size) (by omega) (row 16 (fun _ => 0))
  have rc := (Row.new w4 23 16 (fun _ => 0)).setRow (fun _ => 0)
  have hb := below_setRow8 (hb.alloc hb.size (.cells (row 16 fun _ => 0) 23)) (k := w4.heap.size) hb.size (row 16 (fun _ => 0))
  revert r1 ra rb rc hb
  generalize (w4.alloc (.cells (row 16 fun _ => 0) 23)).setRow w4.heap.size (row 16 (fun _ => 0)) = w4'
  intro r1 ra rb rc hb
  refine (HENC.out (fun _ => 0) w4' hb).mono ?_
  rintro e w5 ⟨rfl, hb1⟩
  have r1 := r1.below hb1 r1.lt
  have ra := ra.below hb1 ra.lt
  have rb := rb.below hb1 rb.lt
  have rc := rc.below hb1 rc.lt
  have hb := hb.trans (hb1.mono hb.size)
  have lr1 := r1.lt
  have lra := ra.lt
  have lrb := rb.lt
  have lrc := rc.lt
  clear hb1
  clear HENC HDEC
  have eZ : ∀ w : World, (binOp .eql 23 (.agg (row 16 fun _ => 0)) (.agg #[Value.int IntKind.u8 0, Value.int IntKind.u8 0, Value.int IntKind.u8 0, Value.int IntKind.u8 0, Value.int IntKind.u8 0, Value.int IntKind.u8 0, Value.int IntKind.u8 0, Value.int IntKind.u8 0, Value.int IntKind.u8 0, Value.int IntKind.u8 0, Value.int IntKind.u8 0, Value.int IntKind.u8 0, Value.int IntKind.u8 0, Value.int IntKind.u8 0, Value.int IntKind.u8 0, Value.int IntKind.u8 0])).run Tryd.prog w = .ok (.bool true) w := fun w => run_eql16 (fun _ => 0) (fun _ => 0) w
  go_wp2_with (first | (refine wpList_alloc_Row rfl 23 rfl 16 zero16z ?_) | (refine wpList_store_Row rfl 23 _ _ rfl _ rfl 23 16 (fun _ => 0) _ rfl (Row.new _ _ _ _) size16 ?_) | (refine wpList_load_RowG 23 _ rfl (by kernel_rfl) w2.heap.size rfl 23 16 (fun _ => 0) _ ((ra.alloc _).setRow_far (by omega) _) und16 size16 ?_) | (refine wpList_load_RowG 23 _ rfl (by kernel_rfl) w3.heap.size rfl 23 16 (fun _ => 0) _ ((rb.alloc _).setRow_far (by omega) _) und16 size16 ?_))
  go_ret
  exact ⟨rfl, below_setRow8 (hb.alloc hb.size _) hb.size _⟩

end Go.Proofs.YtcpfiimbobijlaaDoor
