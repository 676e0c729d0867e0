/- The leaves of ocb: blocks xored, doubled, padded, stretched, cut. -/
import Derived.Test.YtajifdnfibojfaaDoorOPure
import Derived.Test.YtajifdnfibojfaaDoorRLeaf
import Derived.Test.YtajifdnfibojfaaDoorGuard
import Derived.Test.YtajifdnfibojfaaDoorBoxes
import Derived.Test.YtajifdnfibojfaaDoorKeys
import Derived.IntWalk
import Derived.Deep.DeepCutAuto
namespace Go.Proofs.YtajifdnfibojfaaDoor
open Go Go.RowKit
set_option maxRecDepth 100000

theorem undBk : Tryd.prog.underlying 44 = some (.array 16 5) := by kernel_rfl
theorem sizeBk : (Tryd.prog.info? 44).map (·.size) = some 16 := by kernel_rfl
theorem zeroBk : (Tryd.prog.info? 44).bind (·.zero) = some (.agg (row 16 fun _ => 0)) := by kernel_rfl

set_option maxHeartbeats 1000000 in
theorem xored_c (b k : Nat → UInt8) (w : World) : Calls Tryd.prog 27 #[.agg (row 16 b), .agg (row 16 k)] w fun e w' => e = .returned (.agg (row 16 (added b k))) ∧ Below w.heap.size w w' := by
  go_enter Tryd.func27, Tryd.ntmps27
  go_wp2
  rw [zero16]
  go_loopw [5, 6] (fun _ i wr => ∃ m : Nat, m ≤ 16 ∧ i = .int .i64 m ∧ Row wr w.heap.size 32 16 (upto m (added b k) b) ∧ Row wr (w.heap.size + 1) 32 16 k ∧ Row wr (w.heap.size + 1 + 1) 32 16 (fun _ => 0) ∧ Below w.heap.size w wr) (fun _ i _ => 16 - (intOf i).toNat)
  case atStart =>
    obtain ⟨h0, h1, h2, h3⟩ := three_new w 32 b k (fun _ => 0) 16 16 16 32 32
    exact ⟨0, by omega, rfl, by rw [upto_zero]; exact h0, h1, h2, h3⟩
  case round =>
    obtain ⟨m, hm, rfl, hb, hk, hz, hbel⟩ := hrel
    by_cases hlt : m < 16
    · go_wp2
      refine region_seq (fun w' => Row w' w.heap.size 32 16 (upto m (added b k) b) ∧ Row w' (w.heap.size + 1) 32 16 k ∧ Row w' (w.heap.size + 1 + 1) 32 16 (fun _ => 0) ∧ Below w.heap.size w w') mixedOrders (by kernel_rfl) (by simp) ⟨hb.drew, hk.drew, hz.drew, hbel.drew⟩ ?_
      clear hb hk hz hbel
      iterate 8
        refine Seq.next ?_ (Sure.val rfl (fun w' hS => ?_)) ?_
        rotate_left 1
        · obtain ⟨hb, hk, hz, hbel⟩ := hS
          have e1 := hb.cell m hlt
          have e2 := hk.cell m hlt
          rw [upto_at] at e1
          clear hb hk hz hbel
          go_simp
          rfl
        simp only [Act.put, List.setIfInBounds_toArray, List.set_cons_zero, List.set_cons_succ, xor8]
      refine Seq.last rfl fun w' hS => ?_
      obtain ⟨hb, hk, hz, hbel⟩ := hS
      have e1 := hb.cell m hlt
      have e3 := hb.frozen m
      go_simp
      clear e1 e3
      go_wp2
      go_roundw
      case rel => exact ⟨m + 1, by omega, by go_num, by rw [← upto_succ]; exact hb.set_ m (added b k m), hk.far (by simp) _, hz.far (by simp; omega) _, hbel.setCell (by simp) _⟩
      case measure => simp [intOf]; omega
    · go_wp2_with (first | (refine wpList_load_Row rfl 32 _ rfl _ rfl _ 16 _ _ hb und16 size16 ?_) | (refine wpList_store_Row rfl 32 _ _ rfl _ rfl _ 16 _ _ rfl hz size16 ?_))
      refine ret_Row rfl rfl _ _ 16 _ _ rfl (hz.setRow _) und16 size16 ⟨?_, below_setRow8 hbel (by omega) _⟩
      congr 2
      obtain rfl : m = 16 := by omega
      exact row_congr fun i hi => upto_all _ _ i hi

set_option maxHeartbeats 1000000 in
theorem rxor_c (b k : Nat → UInt8) (w : World) : Calls Tryd.prog 19 #[.agg (row 16 b), .agg (row 16 k)] w fun e w' => e = .returned (.agg (row 16 (added b k))) ∧ Below w.heap.size w w' := by
  go_enter Tryd.func19, Tryd.ntmps19
  go_wp2
  rw [zero16]
  go_loopw [5, 6] (fun _ i wr => ∃ m : Nat, m ≤ 16 ∧ i = .int .i64 m ∧ Row wr w.heap.size 44 16 (upto m (added b k) b) ∧ Row wr (w.heap.size + 1) 44 16 k ∧ Row wr (w.heap.size + 1 + 1) 44 16 (fun _ => 0) ∧ Below w.heap.size w wr) (fun _ i _ => 16 - (intOf i).toNat)
  case atStart =>
    obtain ⟨h0, h1, h2, h3⟩ := three_new w 44 b k (fun _ => 0) 16 16 16 44 44
    exact ⟨0, by omega, rfl, by rw [upto_zero]; exact h0, h1, h2, h3⟩
  case round =>
    obtain ⟨m, hm, rfl, hb, hk, hz, hbel⟩ := hrel
    by_cases hlt : m < 16
    · go_wp2
      refine region_seq (fun w' => Row w' w.heap.size 44 16 (upto m (added b k) b) ∧ Row w' (w.heap.size + 1) 44 16 k ∧ Row w' (w.heap.size + 1 + 1) 44 16 (fun _ => 0) ∧ Below w.heap.size w w') mixedOrders (by kernel_rfl) (by simp) ⟨hb.drew, hk.drew, hz.drew, hbel.drew⟩ ?_
      clear hb hk hz hbel
      iterate 9
        refine Seq.next ?_ (Sure.val rfl (fun w' hS => ?_)) ?_
        rotate_left 1
        · obtain ⟨hb, hk, hz, hbel⟩ := hS
          have e1 := hb.cell m hlt
          have e2 := hk.cell m hlt
          rw [upto_at] at e1
          clear hb hk hz hbel
          go_simp
          rfl
        simp only [Act.put, List.setIfInBounds_toArray, List.set_cons_zero, List.set_cons_succ, xor8]
      refine Seq.last rfl fun w' hS => ?_
      obtain ⟨hb, hk, hz, hbel⟩ := hS
      have e1 := hb.cell m hlt
      have e3 := hb.frozen m
      go_simp
      clear e1 e3
      go_wp2
      go_roundw
      case rel => exact ⟨m + 1, by omega, by go_num, by rw [← upto_succ]; exact hb.set_ m (added b k m), hk.far (by simp) _, hz.far (by simp; omega) _, hbel.setCell (by simp) _⟩
      case measure => simp [intOf]; omega
    · go_wp2_with (first | (refine wpList_load_Row rfl 44 _ rfl _ rfl _ 16 _ _ hb undBk sizeBk ?_) | (refine wpList_store_Row rfl 44 _ _ rfl _ rfl _ 16 _ _ rfl hz sizeBk ?_))
      refine ret_Row rfl rfl _ _ 16 _ _ rfl (hz.setRow _) undBk sizeBk ⟨?_, below_setRow8 hbel (by omega) _⟩
      congr 2
      obtain rfl : m = 16 := by omega
      exact row_congr fun i hi => upto_all _ _ i hi

theorem shr7_int (x : UInt8) : (x.toNat : Int) / (128 : Int) = ((x >>> 7).toNat : Int) := shr_int x 7 (by omega)
theorem shl1_int (x : UInt8) : (x.toNat : Int) * (2 : Int) % (256 : Int) = ((x <<< 1).toNat : Int) := shl_int x 1 (by omega)
theorem dblo_int (x y : UInt8) : bits .or .u8 ((x.toNat : Int) * 2 % 256) ((y.toNat : Int) / 128) = ((x <<< 1 ||| y >>> 7).toNat : Int) := by
  rw [shr7_int, shl1_int, or8]
theorem mul135 (x : UInt8) : ((x >>> 7).toNat : Int) * (135 : Int) = (((x >>> 7) * 135).toNat : Int) := by
  rcases bit7 x with h | h <;> rw [h] <;> rfl
theorem dbll_int (x y : UInt8) : bits .xor .u8 ((x.toNat : Int) * 2 % 256) ((y.toNat : Int) / 128 * 135) = ((xr (x <<< 1) ((y >>> 7) * 135)).toNat : Int) := by
  rw [shr7_int, shl1_int, mul135, xor8]
theorem dbll_int2 (x y : UInt8) : bits .xor .u8 ((x.toNat : Int) * 2 % 256) (135 * ((y.toNat : Int) / 128)) = ((xr (x <<< 1) ((y >>> 7) * 135)).toNat : Int) := by
  rw [Int.mul_comm 135, dbll_int]

set_option maxHeartbeats 1000000 in
theorem odoubled_c (b : Nat → UInt8) (w : World) : Calls Tryd.prog 38 #[.agg (row 16 b)] w fun e w' => e = .returned (.agg (row 16 (dblB b))) ∧ Below w.heap.size w w' := by
  go_enter Tryd.func38, Tryd.ntmps38
  go_wp2
  rw [zero16]
  obtain ⟨h0, h1, h2, h3⟩ := three_new w 32 b (fun _ => 0) (fun _ => 0) 16 16 16 32 32
  revert h0 h1 h2 h3
  generalize ((w.alloc (.cells (row 16 b) 32)).alloc (.cells (row 16 fun _ => 0) 32)).alloc (.cells (row 16 fun _ => 0) 32) = w1
  intro h0 h1 h2 h3
  go_loopw [4, 5] (fun _ i wr => ∃ m : Nat, m ≤ 15 ∧ i = .int .i64 m ∧ Row wr w.heap.size 32 16 b ∧ Row wr (w.heap.size + 1) 32 16 (fun _ => 0) ∧ Row wr (w.heap.size + 1 + 1) 32 16 (upto m (dblB b) (fun _ => 0)) ∧ Below w.heap.size w wr) (fun _ i _ => 15 - (intOf i).toNat)
  case atStart => exact ⟨0, by omega, rfl, h0, h1, by rw [upto_zero]; exact h2, h3⟩
  case round =>
    obtain ⟨m, hm, rfl, hb, hz, hd, hbel⟩ := hrel
    clear h0 h1 h2 h3
    by_cases hlt : m < 15
    · go_wp2
      refine region_seq (fun w' => Row w' w.heap.size 32 16 b ∧ Row w' (w.heap.size + 1) 32 16 (fun _ => 0) ∧ Row w' (w.heap.size + 1 + 1) 32 16 (upto m (dblB b) (fun _ => 0)) ∧ Below w.heap.size w w') mixedOrders (by kernel_rfl) (by simp) ⟨hb.drew, hz.drew, hd.drew, hbel.drew⟩ ?_
      clear hb hz hd hbel
      iterate 12
        refine Seq.next ?_ (Sure.val rfl (fun w' hS => ?_)) ?_
        rotate_left 1
        · obtain ⟨hb, hz, hd, hbel⟩ := hS
          have e1 := hb.cell m (by omega)
          have e2 := hb.cell (m + 1) (by omega)
          have b1 := lt8 (b m)
          have b2 := lt8 (b (m + 1))
          have i1 := IntWalk.i64_in ((m : Int) + 1) (by omega)
          have a1 : 0 ≤ (m : Int) + 1 := by omega
          have a2 : (m : Int) + 1 < 16 := by omega
          have a3 : ((m : Int) + 1).toNat = m + 1 := by omega
          have a4 : (m : Int) < 16 := by omega
          clear hb hz hd hbel
          go_simp
          rfl
        simp only [Act.put, List.setIfInBounds_toArray, List.set_cons_zero, List.set_cons_succ]
      rw [IntKind.wrap_u8', dblo_int, show b m <<< 1 ||| b (m + 1) >>> 7 = dblB b m by unfold dblB; rw [if_neg (by omega)]]
      refine Seq.last rfl fun w' hS => ?_
      obtain ⟨hb, hz, hd, hbel⟩ := hS
      have e1 := hd.cell m (by omega)
      have e3 := hd.frozen m
      go_simp
      clear e1 e3
      go_wp2
      go_roundw
      case rel => exact ⟨m + 1, by omega, by go_num, hb.far (by simp; omega) _, hz.far (by simp) _, by rw [← upto_succ]; exact hd.set_ m (dblB b m), hbel.setCell (by simp; omega) _⟩
      case measure => simp [intOf]; omega
    · obtain rfl : m = 15 := by omega
      have e1 := hb.cell 15 (by omega)
      have e2 := hb.cell 0 (by omega)
      have e3 := hd.frozen 15
      have e4 := hd.cell 15 (by omega)
      have b1 := lt8 (b 15)
      have b2 := lt8 (b 0)
      go_upto_region 8 with (fail)
      rw [dbll_int]
      clear e1 e2 e3 e4
      have hd2 : Row (wr.setCell ⟨w.heap.size + 1 + 1, 15, none⟩ (.int .u8 ((dblB b 15).toNat : Int))) (w.heap.size + 1 + 1) 32 16 (dblB b) := by
        have h := hd.set_ 15 (dblB b 15)
        rw [upto_succ] at h
        exact h.congr fun i hi => upto_all _ _ i hi
      have hz2 := hz.far (p := ⟨w.heap.size + 1 + 1, 15, none⟩) (by simp) (.int .u8 ((dblB b 15).toNat : Int))
      have hb2 := hbel.setCell (p := ⟨w.heap.size + 1 + 1, 15, none⟩) (by simp; omega) (.int .u8 ((dblB b 15).toNat : Int))
      rw [show xr (b 15 <<< 1) ((b 0 >>> 7) * 135) = dblB b 15 from (if_pos rfl).symm]
      go_wp2_with (first | (refine wpList_load_Row rfl 32 _ rfl _ rfl _ 16 _ _ hd2 und16 size16 ?_) | (refine wpList_store_Row rfl 32 _ _ rfl _ rfl _ 16 _ _ rfl hz2 size16 ?_))
      exact ret_Row rfl rfl _ _ 16 _ _ rfl (hz2.setRow _) und16 size16 ⟨rfl, below_setRow8 hb2 (by omega) _⟩

set_option maxHeartbeats 1000000 in
theorem rdouble_c (b : Nat → UInt8) (w : World) : Calls Tryd.prog 33 #[.agg (row 16 b)] w fun e w' => e = .returned (.agg (row 16 (dblB b))) ∧ Below w.heap.size w w' := by
  go_enter Tryd.func33, Tryd.ntmps33
  go_wp2
  rw [zero16]
  obtain ⟨h0, h1, h2, h3⟩ := three_new w 44 b (fun _ => 0) (fun _ => 0) 16 16 16 44 44
  revert h0 h1 h2 h3
  generalize ((w.alloc (.cells (row 16 b) 44)).alloc (.cells (row 16 fun _ => 0) 44)).alloc (.cells (row 16 fun _ => 0) 44) = w1
  intro h0 h1 h2 h3
  go_loopw [4, 5] (fun _ i wr => ∃ m : Nat, m ≤ 15 ∧ i = .int .i64 m ∧ Row wr w.heap.size 44 16 b ∧ Row wr (w.heap.size + 1) 44 16 (fun _ => 0) ∧ Row wr (w.heap.size + 1 + 1) 44 16 (upto m (dblB b) (fun _ => 0)) ∧ Below w.heap.size w wr) (fun _ i _ => 15 - (intOf i).toNat)
  case atStart => exact ⟨0, by omega, rfl, h0, h1, by rw [upto_zero]; exact h2, h3⟩
  case round =>
    obtain ⟨m, hm, rfl, hb, hz, hd, hbel⟩ := hrel
    clear h0 h1 h2 h3
    by_cases hlt : m < 15
    · go_wp2
      refine region_seq (fun w' => Row w' w.heap.size 44 16 b ∧ Row w' (w.heap.size + 1) 44 16 (fun _ => 0) ∧ Row w' (w.heap.size + 1 + 1) 44 16 (upto m (dblB b) (fun _ => 0)) ∧ Below w.heap.size w w') mixedOrders (by kernel_rfl) (by simp) ⟨hb.drew, hz.drew, hd.drew, hbel.drew⟩ ?_
      clear hb hz hd hbel
      iterate 12
        refine Seq.next ?_ (Sure.val rfl (fun w' hS => ?_)) ?_
        rotate_left 1
        · obtain ⟨hb, hz, hd, hbel⟩ := hS
          have e1 := hb.cell m (by omega)
          have e2 := hb.cell (m + 1) (by omega)
          have b1 := lt8 (b m)
          have b2 := lt8 (b (m + 1))
          have i1 := IntWalk.i64_in ((m : Int) + 1) (by omega)
          have a1 : 0 ≤ (m : Int) + 1 := by omega
          have a2 : (m : Int) + 1 < 16 := by omega
          have a3 : ((m : Int) + 1).toNat = m + 1 := by omega
          have a4 : (m : Int) < 16 := by omega
          clear hb hz hd hbel
          go_simp
          rfl
        simp only [Act.put, List.setIfInBounds_toArray, List.set_cons_zero, List.set_cons_succ]
      rw [IntKind.wrap_u8', dblo_int, show b m <<< 1 ||| b (m + 1) >>> 7 = dblB b m by unfold dblB; rw [if_neg (by omega)]]
      refine Seq.last rfl fun w' hS => ?_
      obtain ⟨hb, hz, hd, hbel⟩ := hS
      have e1 := hd.cell m (by omega)
      have e3 := hd.frozen m
      go_simp
      clear e1 e3
      go_wp2
      go_roundw
      case rel => exact ⟨m + 1, by omega, by go_num, hb.far (by simp; omega) _, hz.far (by simp) _, by rw [← upto_succ]; exact hd.set_ m (dblB b m), hbel.setCell (by simp; omega) _⟩
      case measure => simp [intOf]; omega
    · obtain rfl : m = 15 := by omega
      have e1 := hb.cell 15 (by omega)
      have e2 := hb.cell 0 (by omega)
      have e3 := hd.frozen 15
      have e4 := hd.cell 15 (by omega)
      have b1 := lt8 (b 15)
      have b2 := lt8 (b 0)
      go_upto_region 8 with (fail)
      rw [dbll_int2]
      clear e1 e2 e3 e4
      have hd2 : Row (wr.setCell ⟨w.heap.size + 1 + 1, 15, none⟩ (.int .u8 ((dblB b 15).toNat : Int))) (w.heap.size + 1 + 1) 44 16 (dblB b) := by
        have h := hd.set_ 15 (dblB b 15)
        rw [upto_succ] at h
        exact h.congr fun i hi => upto_all _ _ i hi
      have hz2 := hz.far (p := ⟨w.heap.size + 1 + 1, 15, none⟩) (by simp) (.int .u8 ((dblB b 15).toNat : Int))
      have hb2 := hbel.setCell (p := ⟨w.heap.size + 1 + 1, 15, none⟩) (by simp; omega) (.int .u8 ((dblB b 15).toNat : Int))
      rw [show xr (b 15 <<< 1) ((b 0 >>> 7) * 135) = dblB b 15 from (if_pos rfl).symm]
      go_wp2_with (first | (refine wpList_load_Row rfl 44 _ rfl _ rfl _ 16 _ _ hd2 undBk sizeBk ?_) | (refine wpList_store_Row rfl 44 _ _ rfl _ rfl _ 16 _ _ rfl hz2 sizeBk ?_))
      exact ret_Row rfl rfl _ _ 16 _ _ rfl (hz2.setRow _) undBk sizeBk ⟨rfl, below_setRow8 hb2 (by omega) _⟩

set_option maxHeartbeats 1000000 in
theorem opadded_c (g off n c : Nat) (f : Nat → UInt8) (w : World) (hn : 0 < n) (hn2 : n ≤ 16) (hd : ∀ j, j < n → w.cell? ⟨g, off + j, none⟩ = some (.int .u8 ((f j).toNat : Int))) :
    Calls Tryd.prog 44 #[.slice (some ⟨g, off, none⟩) n c] w fun e w' => e = .returned (.agg (row 16 (padB n f))) ∧ Below w.heap.size w w' := by
  have hg : g < w.heap.size := block_lt_of_cell (hd 0 hn)
  have hmin : n = Nat.min n 16 := (Nat.min_eq_left (by omega)).symm
  have HMIN := Lib.hid hmin
  clear hmin
  go_enter Tryd.func44, Tryd.ntmps44
  go_upto_region 2 with (fail)
  rw [zero16]
  obtain ⟨h0, h1, hbel⟩ := two_new w 32 (fun _ => 0) (fun _ => 0) 16 16 32
  revert h0 h1 hbel
  generalize (w.alloc (.cells (row 16 fun _ => 0) 32)).alloc (.cells (row 16 fun _ => 0) 32) = w1
  intro h0 h1 hbel
  go_upto_region 3 with (refine wpList_copy_Row rfl _ _ 22 22 rfl 5 undB size8 (w.heap.size + 1) 0 16 16 ⟨g, off, none⟩ n c rfl rfl 32 16 (fun _ => 0) h1 n f HMIN.out (fun j hj => by rw [Addr.add_mid]; exact (hbel.cell (p := ⟨g, off + j, none⟩) hg).trans (hd j hj)) (by omega) ?_)
  have hr := h1.setRow (cpy 0 n (fun _ => 0) f)
  have hz := h0.setRow_far (k := w.heap.size + 1) (by omega) (row 16 (cpy 0 n (fun _ => 0) f))
  have hb2 := below_setRow8 hbel (k := w.heap.size + 1) (by omega) (row 16 (cpy 0 n (fun _ => 0) f))
  clear h0 h1 hbel hd
  revert hr hz hb2
  generalize w1.setRow (w.heap.size + 1) (row 16 (cpy 0 n (fun _ => 0) f)) = w2
  intro hr hz hb2
  by_cases hlt : n < 16
  · have hr3 := hr.set_ n 128
    have hz3 := hz.far (p := ⟨w.heap.size + 1, n, none⟩) (by simp) (.int .u8 (((128 : UInt8).toNat : Nat) : Int))
    have hb3 := hb2.setCell (p := ⟨w.heap.size + 1, n, none⟩) (by simp) (.int .u8 (((128 : UInt8).toNat : Nat) : Int))
    have e3 := hr.frozen n
    have e4 := hr.cell n (by omega)
    have a1 : (n : Int) < 16 := by omega
    go_upto_region 5 with (fail)
    clear e3 e4
    revert hr3 hz3 hb3
    rw [show (((128 : UInt8).toNat : Nat) : Int) = 128 from rfl]
    generalize w2.setCell ⟨w.heap.size + 1, n, none⟩ (.int .u8 128) = w3
    intro hr3 hz3 hb3
    go_wp2_with (first | (refine wpList_load_Row rfl 32 _ rfl (w.heap.size + 1) rfl 32 16 _ _ hr3 und16 size16 ?_) | (refine wpList_store_Row rfl 32 _ _ rfl w.heap.size rfl 32 16 _ _ rfl hz3 size16 ?_))
    refine ret_Row rfl rfl _ _ 16 _ _ rfl (hz3.setRow _) und16 size16 ⟨?_, below_setRow8 hb3 (Nat.le_refl _) _⟩
    congr 2
    refine row_congr fun i hi => ?_
    unfold cpy padB
    by_cases h : i < n
    · rw [if_neg (by omega), if_pos (by omega), if_pos h, Nat.sub_zero]
    · by_cases h2 : i = n
      · rw [if_pos h2, if_neg h, if_pos h2]
      · rw [if_neg h2, if_neg (by omega), if_neg h, if_neg h2]
  · obtain rfl : n = 16 := by omega
    go_wp2_with (first | (refine wpList_load_Row rfl 32 _ rfl (w.heap.size + 1) rfl 32 16 _ _ hr und16 size16 ?_) | (refine wpList_store_Row rfl 32 _ _ rfl w.heap.size rfl 32 16 _ _ rfl hz size16 ?_))
    refine ret_Row rfl rfl _ _ 16 _ _ rfl (hz.setRow _) und16 size16 ⟨?_, below_setRow8 hb2 (Nat.le_refl _) _⟩
    rw [row_congr (f := cpy 0 16 (fun _ => 0) f) (g := padB 16 f) fun i hi => by
      unfold cpy padB
      rw [if_pos (by omega), if_pos hi, Nat.sub_zero]]

set_option maxHeartbeats 1000000 in
theorem rpadded_c (g off n c : Nat) (f : Nat → UInt8) (w : World) (hn : 0 < n) (hn2 : n < 16) (hd : ∀ j, j < n → w.cell? ⟨g, off + j, none⟩ = some (.int .u8 ((f j).toNat : Int))) :
    Calls Tryd.prog 36 #[.slice (some ⟨g, off, none⟩) n c] w fun e w' => e = .returned (.agg (row 16 (padB n f))) ∧ Below w.heap.size w w' := by
  have hg : g < w.heap.size := block_lt_of_cell (hd 0 hn)
  have hmin : n = Nat.min n 16 := (Nat.min_eq_left (by omega)).symm
  have HMIN := Lib.hid hmin
  clear hmin
  go_enter Tryd.func36, Tryd.ntmps36
  go_upto_region 2 with (fail)
  rw [zero16]
  obtain ⟨h0, h1, hbel⟩ := two_new w 44 (fun _ => 0) (fun _ => 0) 16 16 44
  revert h0 h1 hbel
  generalize (w.alloc (.cells (row 16 fun _ => 0) 44)).alloc (.cells (row 16 fun _ => 0) 44) = w1
  intro h0 h1 hbel
  go_upto_region 3 with (refine wpList_copy_Row rfl _ _ 22 22 rfl 5 undB size8 (w.heap.size + 1) 0 16 16 ⟨g, off, none⟩ n c rfl rfl 44 16 (fun _ => 0) h1 n f HMIN.out (fun j hj => by rw [Addr.add_mid]; exact (hbel.cell (p := ⟨g, off + j, none⟩) hg).trans (hd j hj)) (by omega) ?_)
  have hr := h1.setRow (cpy 0 n (fun _ => 0) f)
  have hz := h0.setRow_far (k := w.heap.size + 1) (by omega) (row 16 (cpy 0 n (fun _ => 0) f))
  have hb2 := below_setRow8 hbel (k := w.heap.size + 1) (by omega) (row 16 (cpy 0 n (fun _ => 0) f))
  clear h0 h1 hbel hd
  revert hr hz hb2
  generalize w1.setRow (w.heap.size + 1) (row 16 (cpy 0 n (fun _ => 0) f)) = w2
  intro hr hz hb2
  have hr3 := hr.set_ n 128
  have hz3 := hz.far (p := ⟨w.heap.size + 1, n, none⟩) (by simp) (.int .u8 (((128 : UInt8).toNat : Nat) : Int))
  have hb3 := hb2.setCell (p := ⟨w.heap.size + 1, n, none⟩) (by simp) (.int .u8 (((128 : UInt8).toNat : Nat) : Int))
  have e3 := hr.frozen n
  have e4 := hr.cell n (by omega)
  have a1 : (n : Int) < 16 := by omega
  go_upto_region 4 with (fail)
  clear e3 e4
  revert hr3 hz3 hb3
  rw [show (((128 : UInt8).toNat : Nat) : Int) = 128 from rfl]
  generalize w2.setCell ⟨w.heap.size + 1, n, none⟩ (.int .u8 128) = w3
  intro hr3 hz3 hb3
  go_wp2_with (first | (refine wpList_load_Row rfl 44 _ rfl (w.heap.size + 1) rfl 44 16 _ _ hr3 undBk sizeBk ?_) | (refine wpList_store_Row rfl 44 _ _ rfl w.heap.size rfl 44 16 _ _ rfl hz3 sizeBk ?_))
  refine ret_Row rfl rfl _ _ 16 _ _ rfl (hz3.setRow _) undBk sizeBk ⟨?_, below_setRow8 hb3 (Nat.le_refl _) _⟩
  congr 2
  refine row_congr fun i hi => ?_
  unfold cpy padB
  by_cases h : i < n
  · rw [if_neg (by omega), if_pos (by omega), if_pos h, Nat.sub_zero]
  · by_cases h2 : i = n
    · rw [if_pos h2, if_neg h, if_pos h2]
    · rw [if_neg h2, if_neg (by omega), if_neg h, if_neg h2]

end Go.Proofs.YtajifdnfibojfaaDoor
