/- The leaves of package aes: boxes and rows. -/
import Derived.Test.YtajifdnfibojfaaDoorLeaf
namespace Go.Proofs.YtajifdnfibojfaaDoor
open Go Go.RowKit
set_option maxRecDepth 100000

set_option maxHeartbeats 1000000 in
theorem shifted_c (b : Nat → UInt8) (w : World) : Calls Tryd.prog 54 #[.agg (row 16 b)] w fun e w' => e = .returned (.agg (row 16 (shifted b))) ∧ Below w.heap.size w w' := by
  go_enter Tryd.func54, Tryd.ntmps54
  go_wp2
  rw [zero16]
  go_loopw [4, 5] (fun _ i wr => ∃ m : Nat, m ≤ 16 ∧ i = .int .i64 m ∧ Row wr w.heap.size 32 16 b ∧ Row wr (w.heap.size + 1) 32 16 (fun _ => 0) ∧ Row wr (w.heap.size + 1 + 1) 32 16 (upto m (shifted b) (fun _ => 0)) ∧ Below w.heap.size w wr) (fun _ i _ => 16 - (intOf i).toNat)
  case atStart =>
    obtain ⟨h0, h1, h2, h3⟩ := three_new w 32 b (fun _ => 0) (fun _ => 0) 16 16 16 32 32
    exact ⟨0, by omega, rfl, h0, h1, h2.congr (fun i _ => by rw [upto_zero]), h3⟩
  case round =>
    obtain ⟨m, hm, rfl, hb, hz, hs, hbel⟩ := hrel
    by_cases hlt : m < 16
    · have e1 := hb.cell ((m + m % 4 * 4) % 16) (by omega)
      have e2 := hs.cell m hlt
      have e3 := hs.frozen m
      go_wp2
      clear e1 e2 e3
      go_roundw
      case rel => exact ⟨m + 1, by omega, by go_num, hb.far (by simp; omega) _, hz.far (by simp) _, by rw [← upto_succ]; exact hs.set_ m (shifted b m), hbel.setCell (by simp; omega) _⟩
      case measure => simp [intOf]; omega
    · go_wp2_with (first | (refine wpList_load_Row rfl 32 _ rfl _ rfl _ 16 _ _ hs und16 size16 ?_) | (refine wpList_store_Row rfl 32 _ _ rfl _ rfl _ 16 _ _ rfl hz size16 ?_))
      refine ret_Row rfl rfl _ _ 16 _ _ rfl (hz.setRow _) und16 size16 ⟨?_, below_setRow8 hbel (by omega) _⟩
      congr 2
      obtain rfl : m = 16 := by omega
      exact row_congr fun i hi => upto_all _ _ i hi

theorem unshifted_step (b : Nat → UInt8) (m : Nat) (hm : m < 16) (j : Nat) (hj : j < 16) :
    (if j = (m + m % 4 * 4) % 16 then b m else if (j + j % 4 * 12) % 16 < m then unshifted b j else 0) = if (j + j % 4 * 12) % 16 < m + 1 then unshifted b j else 0 := by
  by_cases h : j = (m + m % 4 * 4) % 16
  · have e : (j + j % 4 * 12) % 16 = m := by omega
    rw [if_pos h, if_pos (by omega)]
    unfold unshifted
    rw [e]
  · have e : (j + j % 4 * 12) % 16 ≠ m := by omega
    rw [if_neg h]
    by_cases h2 : (j + j % 4 * 12) % 16 < m
    · rw [if_pos h2, if_pos (by omega)]
    · rw [if_neg h2, if_neg (by omega)]

set_option maxHeartbeats 1000000 in
theorem unshifted_c (b : Nat → UInt8) (w : World) : Calls Tryd.prog 58 #[.agg (row 16 b)] w fun e w' => e = .returned (.agg (row 16 (unshifted b))) ∧ Below w.heap.size w w' := by
  go_enter Tryd.func58, Tryd.ntmps58
  go_wp2
  rw [zero16]
  go_loopw [4, 5] (fun _ i wr => ∃ m : Nat, m ≤ 16 ∧ i = .int .i64 m ∧ Row wr w.heap.size 32 16 b ∧ Row wr (w.heap.size + 1) 32 16 (fun _ => 0) ∧ Row wr (w.heap.size + 1 + 1) 32 16 (fun j => if (j + j % 4 * 12) % 16 < m then unshifted b j else 0) ∧ Below w.heap.size w wr) (fun _ i _ => 16 - (intOf i).toNat)
  case atStart =>
    obtain ⟨h0, h1, h2, h3⟩ := three_new w 32 b (fun _ => 0) (fun _ => 0) 16 16 16 32 32
    exact ⟨0, by omega, rfl, h0, h1, h2.congr (fun i _ => by simp), h3⟩
  case round =>
    obtain ⟨m, hm, rfl, hb, hz, hs, hbel⟩ := hrel
    by_cases hlt : m < 16
    · have e1 := hb.cell m hlt
      have e2 := hs.cell ((m + m % 4 * 4) % 16) (by omega)
      have e3 := hs.frozen ((m + m % 4 * 4) % 16)
      go_wp2
      clear e1 e2 e3
      go_roundw
      case rel => exact ⟨m + 1, by omega, by go_num, hb.far (by simp; omega) _, hz.far (by simp) _, (hs.set_ ((m + m % 4 * 4) % 16) (b m)).congr (unshifted_step b m hlt), hbel.setCell (by simp; omega) _⟩
      case measure => simp [intOf]; omega
    · go_wp2_with (first | (refine wpList_load_Row rfl 32 _ rfl _ rfl _ 16 _ _ hs und16 size16 ?_) | (refine wpList_store_Row rfl 32 _ _ rfl _ rfl _ 16 _ _ rfl hz size16 ?_))
      refine ret_Row rfl rfl _ _ 16 _ _ rfl (hz.setRow _) und16 size16 ⟨?_, below_setRow8 hbel (by omega) _⟩
      congr 2
      obtain rfl : m = 16 := by omega
      exact row_congr fun i hi => by unfold unshifted; rw [if_pos (by omega)]

set_option maxHeartbeats 1000000 in
theorem boxed_c (s b : Nat → UInt8) (w : World) (hs : Row w 0 76 256 s) :
    Calls Tryd.prog 55 #[.agg (row 16 b)] w fun e w' => e = .returned (.agg (row 16 (boxed s b))) ∧ Below w.heap.size w w' := by
  have hz0 := hs.lt
  go_enter Tryd.func55, Tryd.ntmps55
  go_wp2_with (refine wpList_load_Row rfl 32 _ rfl _ rfl _ 16 b _ ((Row.new w 32 16 b).alloc _) und16 size16 ?_)
  rw [zero16]
  go_loopw [3, 4, 6] (fun _ _ i wr => ∃ m : Nat, m ≤ 16 ∧ i = .int .i64 m ∧ Row wr 0 76 256 s ∧ Row wr w.heap.size 32 16 (upto m (boxed s b) b) ∧ Row wr (w.heap.size + 1) 32 16 (fun _ => 0) ∧ Below w.heap.size w wr) (fun _ _ i _ => 16 - (intOf i).toNat)
  case atStart =>
    obtain ⟨h0, h1, h3⟩ := two_new w 32 b (fun _ => 0) 16 16 32
    exact ⟨0, by omega, rfl, hs.below h3 hz0, by rw [upto_zero]; exact h0, h1, h3⟩
  case round =>
    obtain ⟨m, hm, rfl, hs', hb, hz, hbel⟩ := hrel
    by_cases hlt : m < 16
    · have e0 := run_index_row (P := Tryd.prog) 32 5 16 m b und16 und8 size8 hlt
      have e1 := hb.cell m hlt
      have e2 := hb.frozen m
      have e4 := (b m).toNat_lt
      have e3 := hs'.cell (b m).toNat (by omega)
      go_wp2
      clear e0 e1 e2 e3
      go_roundw
      case rel => exact ⟨m + 1, by omega, by go_num, hs'.far (by simp; omega) _, by rw [← upto_succ]; exact hb.set_ m (boxed s b m), hz.far (by simp) _, hbel.setCell (by simp) _⟩
      case measure => simp [intOf]; omega
    · go_wp2_with (first | (refine wpList_load_Row rfl 32 _ rfl _ rfl _ 16 _ _ hb und16 size16 ?_) | (refine wpList_store_Row rfl 32 _ _ rfl _ rfl _ 16 _ _ rfl hz size16 ?_))
      refine ret_Row rfl rfl _ _ 16 _ _ rfl (hz.setRow _) und16 size16 ⟨?_, below_setRow8 hbel (by omega) _⟩
      congr 2
      obtain rfl : m = 16 := by omega
      exact row_congr fun i hi => upto_all _ _ i hi

set_option maxHeartbeats 1000000 in
theorem unboxed_c (s b : Nat → UInt8) (g : Nat) (w : World) (hs : Row w g 76 256 s) :
    Calls Tryd.prog 57 #[.pointer (some ⟨g, 0, none⟩), .agg (row 16 b)] w fun e w' => e = .returned (.agg (row 16 (boxed s b))) ∧ Below w.heap.size w w' := by
  have hz0 := hs.lt
  go_enter Tryd.func57, Tryd.ntmps57
  go_wp2_with (refine wpList_load_Row rfl 32 _ rfl _ rfl _ 16 b _ ((Row.new w 32 16 b).alloc _) und16 size16 ?_)
  rw [zero16]
  go_loopw [5, 6, 8] (fun _ _ i wr => ∃ m : Nat, m ≤ 16 ∧ i = .int .i64 m ∧ Row wr g 76 256 s ∧ Row wr w.heap.size 32 16 (upto m (boxed s b) b) ∧ Row wr (w.heap.size + 1) 32 16 (fun _ => 0) ∧ Below w.heap.size w wr) (fun _ _ i _ => 16 - (intOf i).toNat)
  case atStart =>
    obtain ⟨h0, h1, h3⟩ := two_new w 32 b (fun _ => 0) 16 16 32
    exact ⟨0, by omega, rfl, hs.below h3 hz0, by rw [upto_zero]; exact h0, h1, h3⟩
  case round =>
    obtain ⟨m, hm, rfl, hs', hb, hz, hbel⟩ := hrel
    by_cases hlt : m < 16
    · have e0 := run_index_row (P := Tryd.prog) 32 5 16 m b und16 und8 size8 hlt
      have e1 := hb.cell m hlt
      have e2 := hb.frozen m
      have e4 := (b m).toNat_lt
      have e3 := hs'.cell (b m).toNat (by omega)
      go_wp2
      clear e0 e1 e2 e3
      go_roundw
      case rel => exact ⟨m + 1, by omega, by go_num, hs'.far (by simp; omega) _, by rw [← upto_succ]; exact hb.set_ m (boxed s b m), hz.far (by simp) _, hbel.setCell (by simp) _⟩
      case measure => simp [intOf]; omega
    · go_wp2_with (first | (refine wpList_load_Row rfl 32 _ rfl _ rfl _ 16 _ _ hb und16 size16 ?_) | (refine wpList_store_Row rfl 32 _ _ rfl _ rfl _ 16 _ _ rfl hz size16 ?_))
      refine ret_Row rfl rfl _ _ 16 _ _ rfl (hz.setRow _) und16 size16 ⟨?_, below_setRow8 hbel (by omega) _⟩
      congr 2
      obtain rfl : m = 16 := by omega
      exact row_congr fun i hi => upto_all _ _ i hi

end Go.Proofs.YtajifdnfibojfaaDoor
