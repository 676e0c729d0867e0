/- The leaves of package aes: columns mixed. -/
import Derived.Test.YtajifdnfibojfaaDoorLeaf
import Derived.IntWalk
namespace Go.Proofs.YtajifdnfibojfaaDoor
open Go Go.RowKit
set_option maxRecDepth 100000

set_option maxHeartbeats 2000000 in
theorem mixed_c (b : Nat → UInt8) (w : World) : Calls Tryd.prog 53 #[.agg (row 16 b)] w fun e w' => e = .returned (.agg (row 16 (mixed b))) ∧ Below w.heap.size w w' := by
  go_enter Tryd.func53, Tryd.ntmps53
  go_wp2
  rw [zero16]
  go_loopw [4, 7] (fun _ i wr => ∃ m : Nat, m ≤ 16 ∧ i = .int .i64 m ∧ Row wr w.heap.size 32 16 b ∧ Row wr (w.heap.size + 1) 32 16 (fun _ => 0) ∧ Row wr (w.heap.size + 1 + 1) 32 16 (upto m (mixed b) (fun _ => 0)) ∧ Below w.heap.size w wr) (fun _ i _ => 16 - (intOf i).toNat)
  case atStart =>
    obtain ⟨h0, h1, h2, h3⟩ := three_new w 32 b (fun _ => 0) (fun _ => 0) 16 16 16 32 32
    exact ⟨0, by omega, rfl, h0, h1, by rw [upto_zero]; exact h2, h3⟩
  case round =>
    obtain ⟨m, hm, rfl, hb, hz, hs, hbel⟩ := hrel
    by_cases hlt : m < 16
    · obtain ⟨q, hq⟩ : ∃ q, q = m - m % 4 := ⟨_, rfl⟩
      have hq4 : q + 3 < 16 := by omega
      have hqi : ((m : Int) - (m : Int) % 4) = (q : Int) := by omega
      have HQ := Lib.hid hqi
      have HQ2 := Lib.hid hq
      clear hqi hq
      obtain ⟨r, hr⟩ : ∃ r, r = (m + 1) % 4 := ⟨_, rfl⟩
      have hr4 : r < 4 := by omega
      have hri : ((m : Int) + 1).tmod 4 = (r : Int) := by rw [Int.tmod_eq_emod_of_nonneg (by omega)]; omega
      have HR := Lib.hid hri
      have HR2 := Lib.hid hr
      clear hri hr
      go_wp2
      rw [HQ.out]
      refine region_seq (fun w' => Row w' w.heap.size 32 16 b ∧ Row w' (w.heap.size + 1) 32 16 (fun _ => 0) ∧ Row w' (w.heap.size + 1 + 1) 32 16 (upto m (mixed b) (fun _ => 0)) ∧ Below w.heap.size w w') mixedOrders (by kernel_rfl) (by simp) ⟨hb.drew, hz.drew, hs.drew, hbel.drew⟩ ?_
      clear hb hz hs hbel
      iterate 18
        refine Seq.next ?_ (Sure.val rfl (fun w' hS => ?_)) ?_
        rotate_left 1
        · obtain ⟨hb, hz, hs, hbel⟩ := hS
          have e0 := hb.cell (q) (by omega)
          have e1 := hb.cell (q + 1) (by omega)
          have e2 := hb.cell (q + 2) (by omega)
          have e3 := hb.cell (q + 3) (by omega)
          have b0 : (q : Int) < 16 := by omega
          have b1 : 0 ≤ (q : Int) + 1 := by omega
          have c1 : (q : Int) + 1 < 16 := by omega
          have d1 : ((q : Int) + 1).toNat = q + 1 := by omega
          have i1 := IntWalk.i64_in ((q : Int) + 1) (by omega)
          have b2 : 0 ≤ (q : Int) + 2 := by omega
          have c2 : (q : Int) + 2 < 16 := by omega
          have d2 : ((q : Int) + 2).toNat = q + 2 := by omega
          have i2 := IntWalk.i64_in ((q : Int) + 2) (by omega)
          have b3 : 0 ≤ (q : Int) + 3 := by omega
          have c3 : (q : Int) + 3 < 16 := by omega
          have d3 : ((q : Int) + 3).toNat = q + 3 := by omega
          have i3 := IntWalk.i64_in ((q : Int) + 3) (by omega)
          clear hb hz hs hbel
          go_simp
          rfl
        simp only [Act.put, List.setIfInBounds_toArray, List.set_cons_zero, List.set_cons_succ, xor8]
      refine Seq.last rfl fun w' hS => ?_
      obtain ⟨hb, hz, hs, hbel⟩ := hS
      go_wp2
      refine region_seq (fun w' => Row w' w.heap.size 32 16 b ∧ Row w' (w.heap.size + 1) 32 16 (fun _ => 0) ∧ Row w' (w.heap.size + 1 + 1) 32 16 (upto m (mixed b) (fun _ => 0)) ∧ Below w.heap.size w w') mixedOrders (by kernel_rfl) (by simp) ⟨hb.drew, hz.drew, hs.drew, hbel.drew⟩ ?_
      clear hb hz hs hbel
      iterate 17
        refine Seq.next ?_ (Sure.val rfl (fun w' hS => ?_)) ?_
        rotate_left 1
        · obtain ⟨hb, hz, hs, hbel⟩ := hS
          have e0 := hb.cell m hlt
          have e1 := hb.cell (q + r) (by omega)
          have a0 : (m : Int) < 16 := by omega
          have b0 : 0 ≤ (q : Int) + (r : Int) := by omega
          have b1 : (q : Int) + (r : Int) < 16 := by omega
          have d0 : ((q : Int) + (r : Int)).toNat = q + r := by omega
          have i0 := IntWalk.i64_in ((m : Int) + 1) (by omega)
          have i1 := IntWalk.i64_in ((q : Int) + (r : Int)) (by omega)
          have i2 := IntWalk.i64_in (r : Int) (by omega)
          have i3 := HR.out
          clear hb hz hs hbel
          go_simp
          rfl
        simp only [Act.put, List.setIfInBounds_toArray, List.set_cons_zero, List.set_cons_succ, xor8]
      refine Seq.next (.int .u8 ((dbl (xr (b m) (b (q + r)))).toNat : Int)) (Sure.call (f := 56) (args := #[.int .u8 ((xr (b m) (b (q + r))).toNat : Int)]) rfl (fun w' => by go_simp) (fun w' hS => (doubled_c _ w').mono fun e w'' h => ⟨h.1, h.2 ▸ hS⟩)) ?_
      simp only [Act.put, List.setIfInBounds_toArray, List.set_cons_zero, List.set_cons_succ]
      iterate 2
        refine Seq.next ?_ (Sure.val rfl (fun w' hS => ?_)) ?_
        rotate_left 1
        · obtain ⟨hb, hz, hs, hbel⟩ := hS
          have e0 := hb.cell m hlt
          have e1 := hb.cell (q + r) (by omega)
          have a0 : (m : Int) < 16 := by omega
          have b0 : 0 ≤ (q : Int) + (r : Int) := by omega
          have b1 : (q : Int) + (r : Int) < 16 := by omega
          have d0 : ((q : Int) + (r : Int)).toNat = q + r := by omega
          have i0 := IntWalk.i64_in ((m : Int) + 1) (by omega)
          have i1 := IntWalk.i64_in ((q : Int) + (r : Int)) (by omega)
          have i2 := IntWalk.i64_in (r : Int) (by omega)
          have i3 := HR.out
          clear hb hz hs hbel
          go_simp
          rfl
        simp only [Act.put, List.setIfInBounds_toArray, List.set_cons_zero, List.set_cons_succ, xor8]
      refine Seq.last rfl fun w' hS => ?_
      obtain ⟨hb, hz, hs, hbel⟩ := hS
      have e1 := hs.cell m hlt
      have e3 := hs.frozen m
      go_simp
      clear e1 e3
      go_wp2
      go_roundw
      case rel => exact ⟨m + 1, by omega, by go_num, hb.far (by simp; omega) _, hz.far (by simp) _, by rw [← upto_succ]; have h := HQ2.out; have h2 := HR2.out; subst h h2; exact hs.set_ m (mixed b m), hbel.setCell (by simp; omega) _⟩
      case measure => simp [intOf]; omega
    · go_wp2_with (first | (refine wpList_load_Row rfl 32 _ rfl _ rfl _ 16 _ _ hs und16 size16 ?_) | (refine wpList_store_Row rfl 32 _ _ rfl _ rfl _ 16 _ _ rfl hz size16 ?_))
      refine ret_Row rfl rfl _ _ 16 _ _ rfl (hz.setRow _) und16 size16 ⟨?_, below_setRow8 hbel (by omega) _⟩
      congr 2
      obtain rfl : m = 16 := by omega
      exact row_congr fun i hi => upto_all _ _ i hi

set_option maxHeartbeats 2000000 in
theorem unmixed_c (b : Nat → UInt8) (w : World) : Calls Tryd.prog 59 #[.agg (row 16 b)] w fun e w' => e = .returned (.agg (row 16 (unmixed b))) ∧ Below w.heap.size w w' := by
  go_enter Tryd.func59, Tryd.ntmps59
  go_wp2
  rw [zero16]
  go_loopw [4, 5] (fun _ i wr => ∃ m : Nat, m ≤ 16 ∧ i = .int .i64 m ∧ Row wr w.heap.size 32 16 b ∧ Row wr (w.heap.size + 1) 32 16 (fun _ => 0) ∧ Row wr (w.heap.size + 1 + 1) 32 16 (upto m (premixed b) (fun _ => 0)) ∧ Below w.heap.size w wr) (fun _ i _ => 16 - (intOf i).toNat)
  case atStart =>
    obtain ⟨h0, h1, h2, h3⟩ := three_new w 32 b (fun _ => 0) (fun _ => 0) 16 16 16 32 32
    exact ⟨0, by omega, rfl, h0, h1, by rw [upto_zero]; exact h2, h3⟩
  case round =>
    obtain ⟨m, hm, rfl, hb, hz, hs, hbel⟩ := hrel
    by_cases hlt : m < 16
    · obtain ⟨q, hq⟩ : ∃ q, q = m - m % 4 := ⟨_, rfl⟩
      have hq4 : q + 3 < 16 := by omega
      have hqi : ((m : Int) - (m : Int) % 4) = (q : Int) := by omega
      have HQ := Lib.hid hqi
      have HQ2 := Lib.hid hq
      clear hqi hq
      obtain ⟨r, hr⟩ : ∃ r, r = (m + 2) % 4 := ⟨_, rfl⟩
      have hr4 : r < 4 := by omega
      have hri : ((m : Int) + 2).tmod 4 = (r : Int) := by rw [Int.tmod_eq_emod_of_nonneg (by omega)]; omega
      have HR := Lib.hid hri
      have HR2 := Lib.hid hr
      clear hri hr
      go_wp2
      refine region_seq (fun w' => Row w' w.heap.size 32 16 b ∧ Row w' (w.heap.size + 1) 32 16 (fun _ => 0) ∧ Row w' (w.heap.size + 1 + 1) 32 16 (upto m (premixed b) (fun _ => 0)) ∧ Below w.heap.size w w') mixedOrders (by kernel_rfl) (by simp) ⟨hb.drew, hz.drew, hs.drew, hbel.drew⟩ ?_
      clear hb hz hs hbel
      iterate 18
        refine Seq.next ?_ (Sure.val rfl (fun w' hS => ?_)) ?_
        rotate_left 1
        · obtain ⟨hb, hz, hs, hbel⟩ := hS
          have e0 := hb.cell m hlt
          have e1 := hb.cell (q + r) (by omega)
          have a0 : (m : Int) < 16 := by omega
          have b0 : 0 ≤ (q : Int) + (r : Int) := by omega
          have b1 : (q : Int) + (r : Int) < 16 := by omega
          have d0 : ((q : Int) + (r : Int)).toNat = q + r := by omega
          have i0 := IntWalk.i64_in ((m : Int) + 2) (by omega)
          have i1 := IntWalk.i64_in ((q : Int) + (r : Int)) (by omega)
          have i2 := IntWalk.i64_in (r : Int) (by omega)
          have i3 := HR.out
          have i4 := HQ.out
          have i5 := IntWalk.i64_in (q : Int) (by omega)
          have i6 : (m : Int).tmod 4 = (m : Int) % 4 := Int.tmod_eq_emod_of_nonneg (by omega)
          clear hb hz hs hbel
          go_simp
          rfl
        simp only [Act.put, List.setIfInBounds_toArray, List.set_cons_zero, List.set_cons_succ, xor8]
      refine Seq.next (.int .u8 ((dbl (xr (b m) (b (q + r)))).toNat : Int)) (Sure.call (f := 56) (args := #[.int .u8 ((xr (b m) (b (q + r))).toNat : Int)]) rfl (fun w' => by go_simp) (fun w' hS => (doubled_c _ w').mono fun e w'' h => ⟨h.1, h.2 ▸ hS⟩)) ?_
      simp only [Act.put, List.setIfInBounds_toArray, List.set_cons_zero, List.set_cons_succ]
      refine Seq.next (.int .u8 ((dbl (dbl (xr (b m) (b (q + r))))).toNat : Int)) (Sure.call (f := 56) (args := #[.int .u8 ((dbl (xr (b m) (b (q + r)))).toNat : Int)]) rfl (fun w' => by go_simp) (fun w' hS => (doubled_c _ w').mono fun e w'' h => ⟨h.1, h.2 ▸ hS⟩)) ?_
      simp only [Act.put, List.setIfInBounds_toArray, List.set_cons_zero, List.set_cons_succ]
      iterate 2
        refine Seq.next ?_ (Sure.val rfl (fun w' hS => ?_)) ?_
        rotate_left 1
        · obtain ⟨hb, hz, hs, hbel⟩ := hS
          have e0 := hb.cell m hlt
          have e1 := hb.cell (q + r) (by omega)
          have a0 : (m : Int) < 16 := by omega
          have b0 : 0 ≤ (q : Int) + (r : Int) := by omega
          have b1 : (q : Int) + (r : Int) < 16 := by omega
          have d0 : ((q : Int) + (r : Int)).toNat = q + r := by omega
          have i0 := IntWalk.i64_in ((m : Int) + 2) (by omega)
          have i1 := IntWalk.i64_in ((q : Int) + (r : Int)) (by omega)
          have i2 := IntWalk.i64_in (r : Int) (by omega)
          have i3 := HR.out
          have i4 := HQ.out
          have i5 := IntWalk.i64_in (q : Int) (by omega)
          have i6 : (m : Int).tmod 4 = (m : Int) % 4 := Int.tmod_eq_emod_of_nonneg (by omega)
          clear hb hz hs hbel
          go_simp
          rfl
        simp only [Act.put, List.setIfInBounds_toArray, List.set_cons_zero, List.set_cons_succ, xor8]
      refine Seq.last rfl fun w' hS => ?_
      obtain ⟨hb, hz, hs, hbel⟩ := hS
      have e1 := hs.cell m hlt
      have e3 := hs.frozen m
      go_simp
      clear e1 e3
      go_wp2
      go_roundw
      case rel => exact ⟨m + 1, by omega, by go_num, hb.far (by simp; omega) _, hz.far (by simp) _, by rw [← upto_succ]; have h := HQ2.out; have h2 := HR2.out; subst h h2; exact hs.set_ m (premixed b m), hbel.setCell (by simp; omega) _⟩
      case measure => simp [intOf]; omega
    · obtain rfl : m = 16 := by omega
      have hs' := hs.congr (fun i hi => upto_all _ _ i hi)
      clear hs hb
      go_wp2_with (refine wpList_load_Row rfl 32 _ rfl _ rfl _ 16 _ _ hs' und16 size16 ?_)
      refine (mixed_c (premixed b) _).mono ?_
      rintro e w1 ⟨rfl, hb1⟩
      have hz1 := hz.below hb1 hz.lt
      have hbel1 := hbel.trans (hb1.mono hbel.size)
      go_wp2_with (refine wpList_store_Row rfl 32 _ _ rfl _ rfl _ 16 _ _ rfl hz1 size16 ?_)
      exact ret_Row rfl rfl _ _ 16 _ _ rfl (hz1.setRow _) und16 size16 ⟨rfl, below_setRow8 hbel1 (by omega) _⟩

end Go.Proofs.YtajifdnfibojfaaDoor
