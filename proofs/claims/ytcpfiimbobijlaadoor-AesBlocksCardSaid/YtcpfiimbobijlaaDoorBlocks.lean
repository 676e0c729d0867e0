/- AesBlocks: any block is encrypted and decrypted as FIPS 197 says: the walk. -/
import Derived.Test.YtcpfiimbobijlaaDoorRTop
import Derived.Test.YtcpfiimbobijlaaDoorGuard
namespace Go.Proofs.YtcpfiimbobijlaaDoor
open Go Go.RowKit
set_option maxRecDepth 100000

theorem eqb_self (n : Nat) (f : Nat → UInt8) : eqb n f f = true := eqb_true.2 fun _ _ => rfl
set_option maxHeartbeats 8000000 in
theorem blocks_walk (A : Option Addr) (n c : Nat) (f1 X Y : Nat → UInt8) (er : Int) (W : World) (hs : Row W 0 48 256 boxF)
    (k1 : ∀ w : World, Below W.heap.size W w → Calls Tryd.prog 14 #[.slice A n c, .agg (row 16 f1)] w fun e w' => e = .returned (.tuple #[.agg (row 16 X), .int .i64 er]) ∧ Below w.heap.size w w')
    (k2 : ∀ w : World, Below W.heap.size W w → Calls Tryd.prog 15 #[.slice A n c, .agg (row 16 f1)] w fun e w' => e = .returned (.tuple #[.agg (row 16 X), .int .i64 er]) ∧ Below w.heap.size w w')
    (k3 : ∀ w : World, Below W.heap.size W w → Calls Tryd.prog 16 #[.slice A n c, .agg (row 16 f1)] w fun e w' => e = .returned (.tuple #[.agg (row 16 Y), .int .i64 er]) ∧ Below w.heap.size w w')
    (k4 : ∀ w : World, Below W.heap.size W w → Calls Tryd.prog 17 #[.slice A n c, .agg (row 16 f1)] w fun e w' => e = .returned (.tuple #[.agg (row 16 Y), .int .i64 er]) ∧ Below w.heap.size w w') :
    Calls Tryd.prog 3 #[.slice A n c, .agg (row 16 f1)] W fun e w' => e = .returned (.bool true) ∧ Below W.heap.size W w' := by
  have hz0 := hs.lt
  have K1 := Lib.hid k1
  have K2 := Lib.hid k2
  have K3 := Lib.hid k3
  have K4 := Lib.hid k4
  clear k1 k2 k3 k4
  go_enter Tryd.func3, Tryd.ntmps3
  go_wp2_with (fail)
  have r1 := Row.new W 23 16 f1
  have hb : Below W.heap.size W (W.alloc (.cells (row 16 f1) 23)) := (Below.refl _ _).alloc (Nat.le_refl _) _
  have hs1 := hs.alloc (.cells (row 16 f1) 23)
  revert r1 hb hs1
  generalize W.alloc (.cells (row 16 f1) 23) = w0
  intro r1 hb hs1
  refine (awake_c w0 hs1).mono ?_
  rintro e w1 ⟨rfl, hb1⟩
  have r1 := r1.below hb1 r1.lt
  have hb := hb.trans (hb1.mono hb.size)
  have lr1 := r1.lt
  clear hb1
  clear hs1 hs
  go_wp2_with (refine wpList_load_Row rfl 23 _ rfl W.heap.size rfl 23 16 f1 _ r1 und16 size16 ?_)
  refine (K1.out w1 hb).mono ?_
  rintro e w2 ⟨rfl, hb1⟩
  have r1 := r1.below hb1 r1.lt
  have hb := hb.trans (hb1.mono hb.size)
  have lr1 := r1.lt
  clear hb1
  go_wp2_with (first | (refine wpList_alloc_Row rfl 23 rfl 16 zero16z ?_) | (refine wpList_store_Row rfl 23 _ _ rfl _ rfl 23 16 (fun _ => 0) _ rfl (Row.new _ _ _ _) size16 ?_) | (refine wpList_load_Row rfl 23 _ rfl W.heap.size rfl 23 16 f1 _ ((r1.alloc _).setRow_far (by omega) _) und16 size16 ?_))
  have r1 := (r1.alloc (.cells (row 16 fun _ => 0) 23)).setRow_far (k := w2.heap.size) (by omega) (row 16 (X))
  have ra := (Row.new w2 23 16 (fun _ => 0)).setRow (X)
  have hb := below_setRow8 (hb.alloc hb.size (.cells (row 16 fun _ => 0) 23)) (k := w2.heap.size) hb.size (row 16 (X))
  revert r1 ra hb
  generalize (w2.alloc (.cells (row 16 fun _ => 0) 23)).setRow w2.heap.size (row 16 (X)) = w2'
  intro r1 ra hb
  refine (K2.out w2' hb).mono ?_
  rintro e w3 ⟨rfl, hb1⟩
  have r1 := r1.below hb1 r1.lt
  have ra := ra.below hb1 ra.lt
  have hb := hb.trans (hb1.mono hb.size)
  have lr1 := r1.lt
  have lra := ra.lt
  clear hb1
  go_wp2_with (first | (refine wpList_alloc_Row rfl 23 rfl 16 zero16z ?_) | (refine wpList_store_Row rfl 23 _ _ rfl _ rfl 23 16 (fun _ => 0) _ rfl (Row.new _ _ _ _) size16 ?_) | (refine wpList_load_Row rfl 23 _ rfl W.heap.size rfl 23 16 f1 _ ((r1.alloc _).setRow_far (by omega) _) und16 size16 ?_))
  have r1 := (r1.alloc (.cells (row 16 fun _ => 0) 23)).setRow_far (k := w3.heap.size) (by omega) (row 16 (X))
  have ra := (ra.alloc (.cells (row 16 fun _ => 0) 23)).setRow_far (k := w3.heap.size) (by omega) (row 16 (X))
  have rb := (Row.new w3 23 16 (fun _ => 0)).setRow (X)
  have hb := below_setRow8 (hb.alloc hb.size (.cells (row 16 fun _ => 0) 23)) (k := w3.heap.size) hb.size (row 16 (X))
  revert r1 ra rb hb
  generalize (w3.alloc (.cells (row 16 fun _ => 0) 23)).setRow w3.heap.size (row 16 (X)) = w3'
  intro r1 ra rb hb
  refine (K3.out w3' hb).mono ?_
  rintro e w4 ⟨rfl, hb1⟩
  have r1 := r1.below hb1 r1.lt
  have ra := ra.below hb1 ra.lt
  have rb := rb.below hb1 rb.lt
  have hb := hb.trans (hb1.mono hb.size)
  have lr1 := r1.lt
  have lra := ra.lt
  have lrb := rb.lt
  clear hb1
  go_wp2_with (first | (refine wpList_alloc_Row rfl 23 rfl 16 zero16z ?_) | (refine wpList_store_Row rfl 23 _ _ rfl _ rfl 23 16 (fun _ => 0) _ rfl (Row.new _ _ _ _) size16 ?_) | (refine wpList_load_Row rfl 23 _ rfl W.heap.size rfl 23 16 f1 _ ((r1.alloc _).setRow_far (by omega) _) und16 size16 ?_))
  have r1 := (r1.alloc (.cells (row 16 fun _ => 0) 23)).setRow_far (k := w4.heap.size) (by omega) (row 16 (Y))
  have ra := (ra.alloc (.cells (row 16 fun _ => 0) 23)).setRow_far (k := w4.heap.size) (by omega) (row 16 (Y))
  have rb := (rb.alloc (.cells (row 16 fun _ => 0) 23)).setRow_far (k := w4.heap.size) (by omega) (row 16 (Y))
  have rc := (Row.new w4 23 16 (fun _ => 0)).setRow (Y)
  have hb := below_setRow8 (hb.alloc hb.size (.cells (row 16 fun _ => 0) 23)) (k := w4.heap.size) hb.size (row 16 (Y))
  revert r1 ra rb rc hb
  generalize (w4.alloc (.cells (row 16 fun _ => 0) 23)).setRow w4.heap.size (row 16 (Y)) = w4'
  intro r1 ra rb rc hb
  refine (K4.out w4' hb).mono ?_
  rintro e w5 ⟨rfl, hb1⟩
  have r1 := r1.below hb1 r1.lt
  have ra := ra.below hb1 ra.lt
  have rb := rb.below hb1 rb.lt
  have rc := rc.below hb1 rc.lt
  have hb := hb.trans (hb1.mono hb.size)
  have lr1 := r1.lt
  have lra := ra.lt
  have lrb := rb.lt
  have lrc := rc.lt
  clear hb1
  clear K1 K2 K3 K4
  have eX : ∀ w : World, (binOp .eql 23 (.agg (row 16 X)) (.agg (row 16 X))).run Tryd.prog w = .ok (.bool true) w := fun w => by rw [run_eql16, eqb_self]
  have eY : ∀ w : World, (binOp .eql 23 (.agg (row 16 Y)) (.agg (row 16 Y))).run Tryd.prog w = .ok (.bool true) w := fun w => by rw [run_eql16, eqb_self]
  go_wp2_with (first | (refine wpList_alloc_Row rfl 23 rfl 16 zero16z ?_) | (refine wpList_store_Row rfl 23 _ _ rfl _ rfl 23 16 (fun _ => 0) _ rfl (Row.new _ _ _ _) size16 ?_) | (refine wpList_load_Row rfl 23 _ rfl w2.heap.size rfl 23 16 X _ ((ra.alloc _).setRow_far (by omega) _) und16 size16 ?_) | (refine wpList_load_Row rfl 23 _ rfl w3.heap.size rfl 23 16 X _ ((rb.alloc _).setRow_far (by omega) _) und16 size16 ?_) | (refine wpList_load_RowG 23 _ rfl (by kernel_rfl) w4.heap.size rfl 23 16 Y _ ((rc.alloc _).setRow_far (by omega) _) und16 size16 ?_) | (refine wpList_load_RowG 23 _ rfl (by kernel_rfl) w5.heap.size rfl 23 16 Y _ ((Row.new w5 23 16 (fun _ => 0)).setRow _) und16 size16 ?_))
  go_ret
  exact ⟨rfl, below_setRow8 (hb.alloc hb.size _) hb.size _⟩

end Go.Proofs.YtcpfiimbobijlaaDoor
