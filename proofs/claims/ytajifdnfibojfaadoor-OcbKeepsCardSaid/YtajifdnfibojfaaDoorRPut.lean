/- The document's put: a round's words put in. -/
import Derived.Test.YtajifdnfibojfaaDoorRNewA
import Derived.Test.YtajifdnfibojfaaDoorMix
namespace Go.Proofs.YtajifdnfibojfaaDoor
open Go Go.RowKit
set_option maxRecDepth 100000

set_option maxHeartbeats 2000000 in
theorem put_c (W b : Nat → UInt8) (g M : Nat) (R : Int) (rd : Nat) (w : World) (hr : 16 * (rd + 1) ≤ M) (hr2 : rd < 15) (hC : Ci w g 80 (ciF W M) R) :
    Calls Tryd.prog 48 #[.pointer (some ⟨g, 0, none⟩), .agg (row 16 b), .int .i64 (rd : Int)] w fun e w' => e = .returned (.agg (row 16 (added b (rk W rd)))) ∧ Below w.heap.size w w' := by
  have hg0 := hC.lt
  obtain ⟨f, hf⟩ : ∃ f, f = added b (rk W rd) := ⟨_, rfl⟩
  rw [← hf]
  have HF := Lib.hid hf
  clear hf
  go_enter Tryd.func48, Tryd.ntmps48
  go_wp2
  rw [zero16]
  obtain ⟨h0, h1, h3⟩ := two_new w 32 b (fun _ => 0) 16 16 32
  have hC1 := hC.below h3 hg0
  clear hC
  revert h0 h1 h3 hC1
  generalize (w.alloc (.cells (row 16 b) 32)).alloc (.cells (row 16 fun _ => 0) 32) = w1
  intro h0 h1 h3 hC1
  go_loopw [7, 8] (fun _ i wr => ∃ m : Nat, m ≤ 16 ∧ i = .int .i64 m ∧ Ci wr g 80 (ciF W M) R ∧ Row wr w.heap.size 32 16 (upto m f b) ∧ Row wr (w.heap.size + 1) 32 16 (fun _ => 0) ∧ Below w.heap.size w wr) (fun _ i _ => 16 - (intOf i).toNat)
  case atStart => exact ⟨0, by omega, rfl, hC1, by rw [upto_zero]; exact h0, h1, h3⟩
  case round =>
    obtain ⟨m, hm, rfl, hC, hb, hz, hbel⟩ := hrel
    clear h0 h1 h3 hC1
    by_cases hlt : m < 16
    · obtain ⟨q, hq⟩ : ∃ q, q = m / 4 := ⟨_, rfl⟩
      obtain ⟨r, hr_⟩ : ∃ r, r = m % 4 := ⟨_, rfl⟩
      obtain ⟨fr, hfr⟩ : ∃ fr, fr = 4 * rd := ⟨_, rfl⟩
      obtain ⟨pw, hpw⟩ : ∃ pw, pw = fr + q := ⟨_, rfl⟩
      have hr4 : r < 4 := by omega
      have hpw60 : pw < 60 := by omega
      have e1 : (m : Int).tdiv 4 = (q : Int) := by rw [Int.tdiv_eq_ediv_of_nonneg (by omega)]; omega
      have e2 : (m : Int).tmod 4 = (r : Int) := by rw [Int.tmod_eq_emod_of_nonneg (by omega)]; omega
      have e3 : IntKind.i64.wrap (4 * (rd : Int)) = (fr : Int) := by rw [IntWalk.i64_in _ (by omega)]; omega
      have e4 : IntKind.i64.wrap ((fr : Int) + (q : Int)) = (pw : Int) := by rw [IntWalk.i64_in _ (by omega)]; omega
      have e5 : IntKind.i64.wrap (q : Int) = (q : Int) := IntWalk.i64_in _ (by omega)
      have e6 : IntKind.i64.wrap (r : Int) = (r : Int) := IntWalk.i64_in _ (by omega)
      have hpl : 512 + pw * 4 + r = 512 + (16 * rd + m) := by omega
      have E1 := Lib.hid e1
      have E2 := Lib.hid e2
      have E3 := Lib.hid e3
      have E4 := Lib.hid e4
      have E5 := Lib.hid e5
      have E6 := Lib.hid e6
      have HPL := Lib.hid hpl
      clear e1 e2 e3 e4 e5 e6 hpl hq hr_ hfr hpw
      go_wp2
      refine region_seq (fun w' => Ci w' g 80 (ciF W M) R ∧ Row w' w.heap.size 32 16 (upto m f b) ∧ Row w' (w.heap.size + 1) 32 16 (fun _ => 0) ∧ Below w.heap.size w w') mixedOrders (by kernel_rfl) (by simp) ⟨hC.drew, hb.drew, hz.drew, hbel.drew⟩ ?_
      clear hC hb hz hbel
      iterate 19
        refine Seq.next ?_ (Sure.val rfl (fun w' hS => ?_)) ?_
        rotate_left 1
        · obtain ⟨hC, hb, hz, hbel⟩ := hS
          have c1 := hb.cell m hlt
          rw [upto_at] at c1
          have c2 := hC.cell (512 + pw * 4 + r) (by omega)
          have e1 := E1.out
          have e2 := E2.out
          have e3 := E3.out
          have e4 := E4.out
          have e5 := E5.out
          have e6 := E6.out
          have a1 : 0 ≤ (pw : Int) := by omega
          have a2 : (pw : Int) < 60 := by omega
          have a3 : 0 ≤ (r : Int) := by omega
          have a4 : (r : Int) < 4 := by omega
          clear hC hb hz hbel
          go_simp
          rfl
        simp only [Act.put, List.setIfInBounds_toArray, List.set_cons_zero, List.set_cons_succ, xor8]
      refine Seq.last rfl fun w' hS => ?_
      obtain ⟨hC, hb, hz, hbel⟩ := hS
      have c1 := hb.cell m hlt
      have c3 := hb.frozen m
      go_simp
      clear c1 c3
      rw [show ciF W M (512 + pw * 4 + r) = W (16 * rd + m) by rw [HPL.out, ciF_w W M _ (by omega)], show xr (b m) (W (16 * rd + m)) = f m by rw [HF.out]; rfl]
      go_wp2
      go_roundw
      case rel => exact ⟨m + 1, by omega, by go_num, hC.far (by simp; omega) _, by rw [← upto_succ]; exact hb.set_ m (f m), hz.far (by simp) _, hbel.setCell (by simp) _⟩
      case measure => simp [intOf]; omega
    · go_wp2_with (first | (refine wpList_load_Row rfl 32 _ rfl _ rfl _ 16 _ _ hb und16 size16 ?_) | (refine wpList_store_Row rfl 32 _ _ rfl _ rfl _ 16 _ _ rfl hz size16 ?_))
      refine ret_Row rfl rfl _ _ 16 _ _ rfl (hz.setRow _) und16 size16 ⟨?_, below_setRow8 hbel (by omega) _⟩
      congr 2
      obtain rfl : m = 16 := by omega
      exact row_congr fun i hi => upto_all _ _ i hi
theorem put_0 (W b : Nat → UInt8) (g M : Nat) (R : Int) (w : World) (hr : 16 ≤ M) (hC : Ci w g 80 (ciF W M) R) :
    Calls Tryd.prog 48 #[.pointer (some ⟨g, 0, none⟩), .agg (row 16 b), .int .i64 0] w fun e w' => e = .returned (.agg (row 16 (added b (rk W 0)))) ∧ Below w.heap.size w w' :=
  put_c W b g M R 0 w (by omega) (by omega) hC
theorem put_1 (W b : Nat → UInt8) (g M : Nat) (R : Int) (rd : Nat) (w : World) (hr : 16 * (rd + 2) ≤ M) (hr2 : rd + 1 < 15) (hC : Ci w g 80 (ciF W M) R) :
    Calls Tryd.prog 48 #[.pointer (some ⟨g, 0, none⟩), .agg (row 16 b), .int .i64 ((rd : Int) + 1)] w fun e w' => e = .returned (.agg (row 16 (added b (rk W (rd + 1))))) ∧ Below w.heap.size w w' :=
  put_c W b g M R (rd + 1) w (by omega) (by omega) hC

end Go.Proofs.YtajifdnfibojfaaDoor
