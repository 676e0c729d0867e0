/- The box turned round. -/
import Derived.Test.YtajifdnfibojfaaDoorLeaf
namespace Go.Proofs.YtajifdnfibojfaaDoor
open Go Go.RowKit
set_option maxRecDepth 100000

theorem und256 : Tryd.prog.underlying 76 = some (.array 256 5) := by kernel_rfl
theorem size256 : (Tryd.prog.info? 76).map (·.size) = some 256 := by kernel_rfl
theorem zero256 : (Tryd.prog.info? 76).bind (·.zero) = some (.agg (row 256 fun _ => 0)) := by kernel_rfl

set_option maxHeartbeats 1000000 in
set_option maxRecDepth 100000 in
theorem boxBack_c (s : Nat → UInt8) (w : World) (hs : Row w 0 76 256 s) :
    Calls Tryd.prog 49 #[] w fun e w' => e = .returned (.agg (row 256 (bk s 256))) ∧ Below w.heap.size w w' := by
  have hz0 := hs.lt
  go_enter Tryd.func49, Tryd.ntmps49
  go_wp2_with (first | (refine wpList_alloc_Row rfl 76 rfl 256 zero256 ?_) | (refine wpList_load_Row rfl 76 _ rfl 0 rfl 76 256 s _ ((hs.alloc _).alloc _) und256 size256 ?_))
  go_loopw [2, 3, 5] (fun _ _ i wr => ∃ m : Nat, m ≤ 256 ∧ i = .int .i64 m ∧ Row wr w.heap.size 76 256 (fun _ => 0) ∧ Row wr (w.heap.size + 1) 76 256 (bk s m) ∧ Below w.heap.size w wr) (fun _ _ i _ => 256 - (intOf i).toNat)
  case atStart =>
    obtain ⟨h0, h1, h3⟩ := two_new w 76 (fun _ => 0) (fun _ => 0) 256 256 76
    exact ⟨0, by omega, rfl, h0, h1, h3⟩
  case round =>
    obtain ⟨m, hm, rfl, hz, hb, hbel⟩ := hrel
    by_cases hlt : m < 256
    · have e0 := run_index_row (P := Tryd.prog) 76 5 256 m s und256 und8 size8 hlt
      have e4 := (s m).toNat_lt
      have e1 := hb.cell (s m).toNat (by omega)
      have e2 := hb.frozen (s m).toNat
      go_wp2
      clear e0 e1 e2
      have h8 : ((UInt8.ofNat m).toNat : Int) = m := by
        rw [UInt8.toNat_ofNat']; omega
      have H8 := Lib.hid h8
      clear h8
      go_roundw
      case rel =>
        have hb' := hb.set_ (s m).toNat (UInt8.ofNat m)
        rw [H8.out] at hb'
        exact ⟨m + 1, by omega, by go_num, hz.far (by simp) _, hb', hbel.setCell (by simp) _⟩
      case measure => simp [intOf]; omega
    · obtain rfl : m = 256 := by omega
      go_wp2_with (first | (refine wpList_load_Row rfl 76 _ rfl _ rfl _ 256 _ _ hb und256 size256 ?_) | (refine wpList_store_Row rfl 76 _ _ rfl _ rfl _ 256 _ _ rfl hz size256 ?_))
      exact ret_Row rfl rfl _ _ 256 _ _ rfl (hz.setRow _) und256 size256 ⟨rfl, below_setRow8 hbel (by omega) _⟩

end Go.Proofs.YtajifdnfibojfaaDoor
