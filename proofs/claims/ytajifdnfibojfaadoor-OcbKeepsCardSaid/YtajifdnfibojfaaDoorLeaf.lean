/- The leaves of package aes: a block's steps, each by a contract. -/
import Derived.Test.YtajifdnfibojfaaDoorProg
import Derived.Test.YtajifdnfibojfaaDoorKit
import Derived.LoopTactic
import Derived.Outline
namespace Go.Proofs.YtajifdnfibojfaaDoor
open Go Go.RowKit
set_option maxRecDepth 100000

theorem mixedOrders : Tryd.prog.follows .mixedOrders = true := by kernel_rfl
theorem und16 : Tryd.prog.underlying 32 = some (.array 16 5) := by kernel_rfl
theorem size16 : (Tryd.prog.info? 32).map (·.size) = some 16 := by kernel_rfl
theorem und8 : Tryd.prog.underlying 5 = some (.int .u8) := by kernel_rfl
theorem size8 : (Tryd.prog.info? 5).map (·.size) = some 1 := by kernel_rfl

theorem dbl_int (x : UInt8) : bits .xor .u8 ((x.toNat : Int) * 2 % 256) ((x.toNat : Int) / 128 * 27) = ((dbl x).toNat : Int) := by
  have h := x.toNat_lt
  rw [dbl_toNat, show ((x.toNat : Int) * 2 % 256) = ((x.toNat * 2 % 256 : Nat) : Int) by omega, show ((x.toNat : Int) / 128 * 27) = ((x.toNat / 128 * 27 : Nat) : Int) by omega]
  exact u8_xor_nat _ _ (by omega) (by omega)

theorem doubled_c (x : UInt8) (w : World) : Calls Tryd.prog 56 #[.int .u8 (x.toNat : Int)] w fun e w' => e = .returned (.int .u8 ((dbl x).toNat : Int)) ∧ w' = w := by
  have h1 := lt8 x
  go_enter Tryd.func56, Tryd.ntmps56
  go_wp2
  go_ret
  refine ⟨?_, rfl⟩
  rw [← dbl_int]
  rfl

theorem zero16 : (#[Value.int IntKind.u8 0, Value.int IntKind.u8 0, Value.int IntKind.u8 0, Value.int IntKind.u8 0,
      Value.int IntKind.u8 0, Value.int IntKind.u8 0, Value.int IntKind.u8 0, Value.int IntKind.u8 0,
      Value.int IntKind.u8 0, Value.int IntKind.u8 0, Value.int IntKind.u8 0, Value.int IntKind.u8 0,
      Value.int IntKind.u8 0, Value.int IntKind.u8 0, Value.int IntKind.u8 0, Value.int IntKind.u8 0] : Array Value) = row 16 (fun _ => 0) := by rfl

theorem two_new (w : World) (t : TypeId) (f g : Nat → UInt8) (n n' : Nat) (t' : TypeId) :
    Row ((w.alloc (.cells (row n f) t)).alloc (.cells (row n' g) t')) w.heap.size t n f ∧ Row ((w.alloc (.cells (row n f) t)).alloc (.cells (row n' g) t')) (w.heap.size + 1) t' n' g ∧
      Below w.heap.size w ((w.alloc (.cells (row n f) t)).alloc (.cells (row n' g) t')) := by
  have h := Row.new (w.alloc (.cells (row n f) t)) t' n' g
  simp only [World.size_alloc] at h
  exact ⟨(Row.new w t n f).alloc _, h, ((Below.refl _ _).alloc (Nat.le_refl _) _).alloc (by simp) _⟩
theorem three_new (w : World) (t : TypeId) (f g k : Nat → UInt8) (n n' n'' : Nat) (t' t'' : TypeId) :
    Row (((w.alloc (.cells (row n f) t)).alloc (.cells (row n' g) t')).alloc (.cells (row n'' k) t'')) w.heap.size t n f ∧
      Row (((w.alloc (.cells (row n f) t)).alloc (.cells (row n' g) t')).alloc (.cells (row n'' k) t'')) (w.heap.size + 1) t' n' g ∧
      Row (((w.alloc (.cells (row n f) t)).alloc (.cells (row n' g) t')).alloc (.cells (row n'' k) t'')) (w.heap.size + 1 + 1) t'' n'' k ∧
      Below w.heap.size w (((w.alloc (.cells (row n f) t)).alloc (.cells (row n' g) t')).alloc (.cells (row n'' k) t'')) := by
  obtain ⟨h1, h2, h3⟩ := two_new w t f g n n' t'
  have h := Row.new ((w.alloc (.cells (row n f) t)).alloc (.cells (row n' g) t')) t'' n'' k
  simp only [World.size_alloc] at h
  exact ⟨h1.alloc _, h2.alloc _, h, h3.alloc (by simp; omega) _⟩

set_option maxHeartbeats 1000000 in
theorem added_c (b k : Nat → UInt8) (w : World) : Calls Tryd.prog 52 #[.agg (row 16 b), .agg (row 16 k)] w fun e w' => e = .returned (.agg (row 16 (added b k))) ∧ Below w.heap.size w w' := by
  go_enter Tryd.func52, Tryd.ntmps52
  go_wp2
  rw [zero16]
  go_loopw [5, 6] (fun _ i wr => ∃ m : Nat, m ≤ 16 ∧ i = .int .i64 m ∧ Row wr w.heap.size 32 16 (upto m (added b k) b) ∧ Row wr (w.heap.size + 1) 32 16 k ∧ Row wr (w.heap.size + 1 + 1) 32 16 (fun _ => 0) ∧ Below w.heap.size w wr) (fun _ i _ => 16 - (intOf i).toNat)
  case atStart =>
    obtain ⟨h0, h1, h2, h3⟩ := three_new w 32 b k (fun _ => 0) 16 16 16 32 32
    exact ⟨0, by omega, rfl, by rw [upto_zero]; exact h0, h1, h2, h3⟩
  case round =>
    obtain ⟨m, hm, rfl, hb, hk, hz, hbel⟩ := hrel
    by_cases hlt : m < 16
    · go_wp2
      refine region_seq (fun w' => Row w' w.heap.size 32 16 (upto m (added b k) b) ∧ Row w' (w.heap.size + 1) 32 16 k ∧ Row w' (w.heap.size + 1 + 1) 32 16 (fun _ => 0) ∧ Below w.heap.size w w') mixedOrders (by kernel_rfl) (by simp) ⟨hb.drew, hk.drew, hz.drew, hbel.drew⟩ ?_
      clear hb hk hz hbel
      iterate 8
        refine Seq.next ?_ (Sure.val rfl (fun w' hS => ?_)) ?_
        rotate_left 1
        · obtain ⟨hb, hk, hz, hbel⟩ := hS
          have e1 := hb.cell m hlt
          have e2 := hk.cell m hlt
          rw [upto_at] at e1
          clear hb hk hz hbel
          go_simp
          rfl
        simp only [Act.put, List.setIfInBounds_toArray, List.set_cons_zero, List.set_cons_succ, xor8]
      refine Seq.last rfl fun w' hS => ?_
      obtain ⟨hb, hk, hz, hbel⟩ := hS
      have e1 := hb.cell m hlt
      have e3 := hb.frozen m
      go_simp
      clear e1 e3
      go_wp2
      go_roundw
      case rel => exact ⟨m + 1, by omega, by go_num, by rw [← upto_succ]; exact hb.set_ m (added b k m), hk.far (by simp) _, hz.far (by simp; omega) _, hbel.setCell (by simp) _⟩
      case measure => simp [intOf]; omega
    · go_wp2_with (first | (refine wpList_load_Row rfl 32 _ rfl _ rfl _ 16 _ _ hb und16 size16 ?_) | (refine wpList_store_Row rfl 32 _ _ rfl _ rfl _ 16 _ _ rfl hz size16 ?_))
      refine ret_Row rfl rfl _ _ 16 _ _ rfl (hz.setRow _) und16 size16 ⟨?_, below_setRow8 hbel (by omega) _⟩
      congr 2
      obtain rfl : m = 16 := by omega
      exact row_congr fun i hi => upto_all _ _ i hi

end Go.Proofs.YtajifdnfibojfaaDoor
