/- The statements of layer 2's blocks: the call that each begins with. -/
import Derived.Test.YtcpfiimbobijlaaDoorLaw
namespace Go.Proofs.YtcpfiimbobijlaaDoor
open Go Go.RowKit
set_option maxRecDepth 100000

theorem make16 (w : World) : (Instr.makeSlice 22 (.int .i64 16) (.int .i64 16)).run Tryd.prog w = .ok (.slice (some ⟨w.heap.size, 0, none⟩) 16 16) (w.alloc (.cells (row 16 fun _ => 0) 5)) :=
  run_make_Row (P := Tryd.prog) 22 5 16 1 1 undB info8 (by omega) (by omega) (by omega) w

set_option maxHeartbeats 1000000 in
theorem awake_c (w : World) (hs : Row w 0 48 256 boxF) : Calls Tryd.prog 13 #[] w fun e w' => e = .returned (.bool true) ∧ Below w.heap.size w w' := by
  obtain ⟨W4, hW4⟩ := sched_exists boxF 4 zF (by omega)
  have hz0 := hs.lt
  have hmk := make16
  go_enter Tryd.func13, Tryd.ntmps13
  go_wp2_with (fail)
  rw [zero16]
  have hr := Row.new w 5 16 (fun _ => 0)
  have hb : Below w.heap.size w (w.alloc (.cells (row 16 fun _ => 0) 5)) := (Below.refl _ _).alloc (Nat.le_refl _) _
  refine (Encrypt16 boxF zF W4 (fun _ => 0) w.heap.size 0 16 _ (hs.alloc _) (fun j hj => by rw [Nat.zero_add]; exact hr.cell j hj) hW4).mono ?_
  rintro e w2 ⟨rfl, hb2⟩
  have hbel := hb.trans (hb2.mono (by simp))
  have hw2 := hbel.size
  have hc : ((w2.alloc (.cells (row 16 fun _ => 0) 23)).setRow w2.heap.size (row 16 (enc boxF 10 W4 fun _ => 0))).cell? ⟨w2.heap.size, 0, none⟩ = some (.int .u8 102) := by
    rw [((Row.new w2 23 16 (fun _ => 0)).setRow (enc boxF 10 W4 fun _ => 0)).cell 0 (by omega), show enc boxF 10 W4 (fun _ => 0) 0 = 0x66 from awake_byte hW4]
    rfl
  go_wp2_with (first | (refine wpList_alloc_Row rfl 23 rfl 16 zero16z ?_) | (refine wpList_store_Row rfl 23 _ _ rfl _ rfl 23 16 (fun _ => 0) _ rfl (Row.new _ _ _ _) size16 ?_))
  go_ret
  exact ⟨rfl, below_setRow8 (hbel.alloc hw2 _) hw2 _⟩

end Go.Proofs.YtcpfiimbobijlaaDoor
