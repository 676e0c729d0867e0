/- The document's New: of a key of 32 bytes. -/
import Derived.Test.YtajifdnfibojfaaDoorRNewA
namespace Go.Proofs.YtajifdnfibojfaaDoor
open Go Go.RowKit
set_option maxRecDepth 100000


set_option maxHeartbeats 8000000 in
theorem New32 (key W : Nat → UInt8) (b off c : Nat) (w : World) (hkey : ∀ j, j < 32 → w.cell? ⟨b, off + j, none⟩ = some (.int .u8 ((key j).toNat : Int))) (hW : Sched boxF 8 key W) :
    Calls Tryd.prog 31 #[.slice (some ⟨b, off, none⟩) 32 c] w (Made 8 W w) := by
  have hb0 : b < w.heap.size := block_lt_of_cell (hkey 0 (by omega))
  go_enter Tryd.func31, Tryd.ntmps31
  go_upto_region 3 with (fail)
  iterate 13 go_step
  refine wpList_build_eq rfl 80 _ rfl (ciRow (fun _ => 0) 14) ?_ ?_
  · simp only [List.map_toArray, List.map_cons, List.map_nil]
    exact infoCi14
  simp only [Act.put, List.setIfInBounds_toArray, List.set_cons_zero, List.set_cons_succ]
  refine wpList_box_agg rfl 80 _ rfl (ciRow (fun _ => 0) 14) rfl ?_
  have hci : Ci (w.alloc (.cells (ciRow (fun _ => 0) 14) 80)) w.heap.size 80 (ciA 0) 14 := (Ci.new w 80 (fun _ => 0) 14).congr fun i _ => by rw [ciA_zero]
  have hbel : Below w.heap.size w (w.alloc (.cells (ciRow (fun _ => 0) 14) 80)) := (Below.refl _ _).alloc (Nat.le_refl _) _
  revert hci hbel
  generalize w.alloc (.cells (ciRow (fun _ => 0) 14) 80) = w1
  intro hci hbel
  simp only [Act.put, List.setIfInBounds_toArray, List.set_cons_zero, List.set_cons_succ]
  go_wp2
  go_loopw [5, 26] (fun _ i wr => ∃ m : Nat, m ≤ 256 ∧ i = .int .i64 m ∧ Ci wr w.heap.size 80 (ciA m) 14 ∧ Below w.heap.size w wr) (fun _ i _ => 256 - (intOf i).toNat)
  case atStart => exact ⟨0, by omega, rfl, hci, hbel⟩
  case round =>
    obtain ⟨m, hm, rfl, hci, hbel⟩ := hrel
    by_cases hlt : m < 256
    · go_wp2
      refine region_seq (fun w' => Ci w' w.heap.size 80 (ciA m) 14 ∧ Below w.heap.size w w') mixedOrders (by kernel_rfl) (by simp) ⟨hci.drew, hbel.drew⟩ ?_
      clear hci hbel
      iterate 4
        refine Seq.next ?_ (Sure.val rfl (fun w' hS => ?_)) ?_
        rotate_left 1
        · clear hS
          go_simp
          rfl
        simp only [Act.put, List.setIfInBounds_toArray, List.set_cons_zero, List.set_cons_succ]
      rw [show IntKind.u8.wrap (m : Int) = ((UInt8.ofNat m).toNat : Int) by rw [IntKind.wrap_u8', UInt8.toNat_ofNat']; omega]
      refine Seq.next (.int .u8 ((boxF m).toNat : Int)) (Sure.call (f := 45) (args := #[.int .u8 ((UInt8.ofNat m).toNat : Int)]) rfl (fun w' => by go_simp) (fun w' hS => (sub_c _ w').mono fun e w'' h => ⟨by rw [h.1, sub_box m hlt], h.2 ▸ hS⟩)) ?_
      simp only [Act.put, List.setIfInBounds_toArray, List.set_cons_zero, List.set_cons_succ]
      iterate 3
        refine Seq.next ?_ (Sure.val rfl (fun w' hS => ?_)) ?_
        rotate_left 1
        · clear hS
          go_simp
          rfl
        simp only [Act.put, List.setIfInBounds_toArray, List.set_cons_zero, List.set_cons_succ]
      refine Seq.last rfl fun w' hS => ?_
      obtain ⟨hci, hbel⟩ := hS
      have e1 := hci.cell m (by omega)
      have e3 := hci.frozen m
      go_simp
      clear e1 e3
      have hc1 : Ci (w'.setCell ⟨w.heap.size, m, none⟩ (.int .u8 ((boxF m).toNat : Int))) w.heap.size 80 (ciA1 m) 14 := hci.set_ m (by omega) (boxF m)
      have hb1 := hbel.setCell (p := ⟨w.heap.size, m, none⟩) (Nat.le_refl _) (.int .u8 ((boxF m).toNat : Int))
      clear hci hbel
      revert hc1 hb1
      generalize w'.setCell ⟨w.heap.size, m, none⟩ (.int .u8 ((boxF m).toNat : Int)) = w2
      intro hc1 hb1
      go_wp2
      have hlb := lt8 (boxF m)
      refine region_seq (fun w' => Ci w' w.heap.size 80 (ciA1 m) 14 ∧ Below w.heap.size w w') mixedOrders (by kernel_rfl) (by simp) ⟨hc1.drew, hb1.drew⟩ ?_
      clear hc1 hb1 w2
      iterate 12
        refine Seq.next ?_ (Sure.val rfl (fun w' hS => ?_)) ?_
        rotate_left 1
        · obtain ⟨hci, hbel⟩ := hS
          have e1 := hci.cell m (by omega)
          rw [ciA1_at] at e1
          clear hci hbel
          go_simp
          rfl
        simp only [Act.put, List.setIfInBounds_toArray, List.set_cons_zero, List.set_cons_succ]
      refine Seq.last rfl fun w' hS => ?_
      obtain ⟨hci, hbel⟩ := hS
      have e1 := hci.cell (256 + (boxF m).toNat) (by omega)
      have e3 := hci.frozen (256 + (boxF m).toNat)
      rw [show (m : Int) % 256 = (m : Int) by omega]
      go_simp
      rw [show IntKind.u8.wrap (m : Int) = (m : Int) by rw [IntKind.wrap_u8']; omega]
      clear e1 e3
      have hc2 := (hci.set_ (256 + (boxF m).toNat) (by omega) (UInt8.ofNat m)).congr (F' := ciA (m + 1)) fun i _ => congrFun (ciA_succ m hlt) i
      have hb2 := hbel.setCell (p := ⟨w.heap.size, 256 + (boxF m).toNat, none⟩) (Nat.le_refl _) (.int .u8 (m : Int))
      rw [show (((UInt8.ofNat m).toNat : Nat) : Int) = (m : Int) by rw [UInt8.toNat_ofNat']; omega] at hc2
      clear hci hbel
      revert hc2 hb2
      generalize w'.setCell ⟨w.heap.size, 256 + (boxF m).toNat, none⟩ (.int .u8 (m : Int)) = w2
      intro hc2 hb2
      go_wp2
      go_roundw
      case rel => exact ⟨m + 1, by omega, by go_num, hc2, hb2⟩
      case measure => simp [intOf]; omega
    · obtain rfl : m = 256 := by omega
      rw [show ((256 : Nat) : Int) = 256 from rfl]
      have hc1 : Ci wr w.heap.size 80 (ciF W 0) 14 := hci.congr fun i _ => by rw [ciA_all W]
      clear hci
      go_wp2
      go_loopw [7, 55] (fun _ i wr => ∃ m : Nat, m ≤ 32 ∧ i = .int .i64 m ∧ Ci wr w.heap.size 80 (ciF W m) 14 ∧ Below w.heap.size w wr) (fun _ i _ => 32 - (intOf i).toNat)
      case atStart => exact ⟨0, by omega, rfl, hc1, hbel⟩
      case round =>
        obtain ⟨m, hm, rfl, hci, hbel⟩ := hrel
        clear hc1
        by_cases hlt : m < 32
        · have hkm := hkey m hlt
          have hwm := hW.1 m (by omega)
          have HKM := Lib.hid hkm
          have HWM := Lib.hid hwm
          clear hkm hwm
          obtain ⟨q, hq⟩ : ∃ q, q = m / 4 := ⟨_, rfl⟩
          obtain ⟨r, hr⟩ : ∃ r, r = m % 4 := ⟨_, rfl⟩
          have hq8 : q < 60 := by omega
          have hr4 : r < 4 := by omega
          have hqi : (m : Int).tdiv 4 = (q : Int) := by rw [Int.tdiv_eq_ediv_of_nonneg (by omega)]; omega
          have hri : (m : Int).tmod 4 = (r : Int) := by rw [Int.tmod_eq_emod_of_nonneg (by omega)]; omega
          have hqr : q * 4 + r = m := by omega
          have HQ := Lib.hid hqi
          have HR := Lib.hid hri
          have HQR := Lib.hid hqr
          clear hqi hri hqr hq hr
          have HKEY := Lib.hid hkey
          have HW' := Lib.hid hW
          clear hkey hW
          go_wp2
          refine region_seq (fun w' => Ci w' w.heap.size 80 (ciF W m) 14 ∧ Below w.heap.size w w') mixedOrders (by kernel_rfl) (by simp) ⟨hci.drew, hbel.drew⟩ ?_
          clear hci hbel
          iterate 13
            refine Seq.next ?_ (Sure.val rfl (fun w' hS => ?_)) ?_
            rotate_left 1
            · obtain ⟨hci, hbel⟩ := hS
              have e1 := (hbel.cell (p := ⟨b, off + m, none⟩) hb0).trans HKM.out
              have e2 := HQ.out
              have e3 := HR.out
              have i1 := IntWalk.i64_in (q : Int) (by omega)
              have i2 := IntWalk.i64_in (r : Int) (by omega)
              have b1 : 0 ≤ (q : Int) := by omega
              have b2 : (q : Int) < 60 := by omega
              have b3 : 0 ≤ (r : Int) := by omega
              have b4 : (r : Int) < 4 := by omega
              clear hci hbel
              go_simp
              rfl
            simp only [Act.put, List.setIfInBounds_toArray, List.set_cons_zero, List.set_cons_succ]
          refine Seq.last rfl fun w' hS => ?_
          obtain ⟨hci, hbel⟩ := hS
          have e1 := hci.cell (512 + q * 4 + r) (by omega)
          have e3 := hci.frozen (512 + q * 4 + r)
          go_simp
          clear e1 e3
          have hc2 := (hci.set_ (512 + q * 4 + r) (by omega) (key m)).congr (F' := ciF W (m + 1)) fun i _ => congrFun (show (fun j => if j = 512 + q * 4 + r then key m else ciF W m j) = ciF W (m + 1) by rw [show 512 + q * 4 + r = 512 + m by have := HQR.out; omega]; exact ciF_put W m (key m) HWM.out.symm) i
          have hb2 := hbel.setCell (p := ⟨w.heap.size, 512 + q * 4 + r, none⟩) (Nat.le_refl _) (.int .u8 ((key m).toNat : Int))
          clear hci hbel
          revert hc2 hb2
          generalize w'.setCell ⟨w.heap.size, 512 + q * 4 + r, none⟩ (.int .u8 ((key m).toNat : Int)) = w2
          intro hc2 hb2
          go_wp2
          go_roundw
          case rel => exact ⟨m + 1, by omega, by go_num, hc2, hb2⟩
          case measure => simp [intOf]; omega
        · obtain rfl : m = 32 := by omega
          rw [show ((32 : Nat) : Int) = 32 from rfl]
          have HW := Lib.hid hW
          clear hkey hW
          go_wp2
          go_loopw [8, 9] (fun x_ i wr => ∃ d p : Nat, d ≤ 52 ∧ p = d + 7 ∧ i = .int .i64 ((p : Int) + 1) ∧ x_ = .int .u8 ((rc ((d + 7) / 8)).toNat : Int) ∧ Ci wr w.heap.size 80 (ciF W (4 * (p + 1))) 14 ∧ Below w.heap.size w wr) (fun _ i _ => 59 + 1 - (intOf i).toNat)
          case atStart => exact ⟨0, 7, by omega, rfl, rfl, rfl, hci, hbel⟩
          case round =>
            obtain ⟨d, p, hd, hp, rfl, rfl, hci2, hbel2⟩ := hrel
            clear hci hbel
            have hp1 : 7 ≤ p := by omega
            have hp2 : p ≤ 59 := by omega
            by_cases hlt : p < 59
            · have HD := Lib.hid hd
              have HP := Lib.hid hp
              clear hd hp
              have elast := hci2.last
              have hgl := hci2.lt
              have hsz := hbel2.size
              obtain ⟨x, hx⟩ : ∃ x : Nat → UInt8, x = fun j => W (4 * p + j) := ⟨_, rfl⟩
              have hxl : ∀ j, j < 4 → wr.cell? ⟨w.heap.size, 512 + p * 4 + j, none⟩ = some (.int .u8 ((x j).toNat : Int)) := fun j hj => by
                rw [hci2.cell (512 + p * 4 + j) (by omega), show 512 + p * 4 + j = 512 + (4 * p + j) by omega, ciF_w W _ _ (by omega), hx]
              have HXL := Lib.hid hxl
              have HX := Lib.hid hx
              clear hx hxl
              obtain ⟨pn, hpn⟩ : ∃ pn, pn = p + 1 - 8 := ⟨_, rfl⟩
              have hpn2 : pn < 60 := by omega
              have hpi : (p : Int) + 1 - 8 = (pn : Int) := by omega
              have HPI := Lib.hid hpi
              have HPN := Lib.hid hpn
              clear hpi hpn
              rcases Classical.em (((p : Int) + 1) % 8 = 0) with hA | hA
              · have hmod : (d + 8) % 8 = 0 := by have := HP.out; omega
                have HS := Lib.hid (sched_A (nk := 8) (by omega) HW.out d (4 * p) (by have := HP.out; have := HD.out; omega) (by have := HP.out; omega) hmod)
                have HC := Lib.hid (show dbl (rc ((d + 7) / 8)) = rc ((d + 1 + 7) / 8) by rw [show (d + 1 + 7) / 8 = (d + 7) / 8 + 1 by have := HP.out; omega]; rfl)
                clear hmod
                have hA' : (((p : Int) + 1) % 8 == 0) = true := by simpa using hA
                clear hA
                go_wp2_with (first | (refine wpList_load_Cells rfl 77 _ rfl w.heap.size (512 + p * 4) rfl 4 x _ HXL.out und4 size4 ?_) | (refine wpList_alloc_Row rfl 77 rfl 4 zero4 ?_) | (refine wpList_store_Row rfl 77 _ _ rfl _ rfl 77 4 (fun _ => 0) _ rfl (Row.new _ _ _ _) size4 ?_))
                have hc1 := (hci2.alloc (.cells (row 4 fun _ => 0) 77)).setRow_far (k := wr.heap.size) (by omega) (row 4 x)
                have ht1 := (Row.new wr 77 4 (fun _ => 0)).setRow x
                have hb1 := below_setRow8 (hbel2.alloc hsz (.cells (row 4 fun _ => 0) 77)) (k := wr.heap.size) hsz (row 4 x)
                clear hci2 hbel2 elast
                revert hc1 ht1 hb1
                generalize (wr.alloc (.cells (row 4 fun _ => 0) 77)).setRow wr.heap.size (row 4 x) = w1
                clear HXL
                generalize wr.heap.size = gt at *
                intro hc1 ht1 hb1
                obtain ⟨y, hy⟩ : ∃ y : Nat → UInt8, y = fun k => if k = 0 then xr (boxF (x 1).toNat) (rc ((d + 7) / 8)) else boxF (x ((k + 1) % 4)).toNat := ⟨_, rfl⟩
                have HY := Lib.hid hy
                clear hy
                refine region_seq (fun w' => Ci w' w.heap.size 80 (ciF W (4 * (p + 1))) 14 ∧ Row w' gt 77 4 x ∧ Below w.heap.size w w') mixedOrders (by kernel_rfl) (by simp) ⟨hc1.drew, ht1.drew, hb1.drew⟩ ?_
                clear hc1 ht1 hb1
                iterate 31
                  refine Seq.next ?_ (Sure.val rfl (fun w' hS => ?_)) ?_
                  rotate_left 1
                  · obtain ⟨hc1, ht1, hb1⟩ := hS
                    have e0 := ht1.cell 0 (by omega)
                    have e1 := ht1.cell 1 (by omega)
                    have e2 := ht1.cell 2 (by omega)
                    have e3 := ht1.cell 3 (by omega)
                    have b0 := lt8 (x 0)
                    have b1 := lt8 (x 1)
                    have b2 := lt8 (x 2)
                    have b3 := lt8 (x 3)
                    have f0 := hc1.cell (x 0).toNat (by omega)
                    have f1 := hc1.cell (x 1).toNat (by omega)
                    have f2 := hc1.cell (x 2).toNat (by omega)
                    have f3 := hc1.cell (x 3).toNat (by omega)
                    rw [ciF_s W _ _ (x 0).toNat_lt] at f0
                    rw [ciF_s W _ _ (x 1).toNat_lt] at f1
                    rw [ciF_s W _ _ (x 2).toNat_lt] at f2
                    rw [ciF_s W _ _ (x 3).toNat_lt] at f3
                    clear hc1 ht1 hb1
                    go_simp
                    rfl
                  simp only [Act.put, List.setIfInBounds_toArray, List.set_cons_zero, List.set_cons_succ, xor8]
                refine Seq.last rfl fun w' hS => ?_
                obtain ⟨hc1, ht1, hb1⟩ := hS
                refine wp_store_Row 77 _ _ rfl gt rfl 77 4 x y (by rw [HY.out]; rfl) ht1 size4 ?_
                have hc2 := hc1.setRow_far (k := gt) (by omega) (row 4 y)
                have ht2 := ht1.setRow y
                have hb2 := below_setRow8 hb1 (k := gt) hsz (row 4 y)
                clear hc1 ht1 hb1
                revert hc2 ht2 hb2
                generalize w'.setRow gt (row 4 y) = w2
                intro hc1 ht1 hb1
                simp only [Act.put]
                go_wp2_with (go_at_call 46; refine (times_x2 _ _).mono ?_; rintro e w' ⟨rfl, rfl⟩)
                have HI : ∀ k, k < 4 → W (4 * (p + 1) + k) = xr (ciF W (4 * (p + 1) + k) (512 + pn * 4 + k)) (y k) := fun k hk => by
                  rw [show 512 + pn * 4 + k = 512 + (4 * pn + k) by omega, ciF_w W _ _ (by have := HPN.out; omega), HY.out, HX.out, show 4 * (p + 1) + k = 4 * p + 4 + k by omega, HS.out k hk, show 4 * p + 4 + k - 32 = 4 * pn + k by have := HPN.out; omega]
                have HI := Lib.hid HI
                go_loopw [11, 164] (fun _ k_ w4 => ∃ k : Nat, k ≤ 4 ∧ k_ = .int .i64 k ∧ Ci w4 w.heap.size 80 (ciF W (4 * (p + 1) + k)) 14 ∧ Row w4 gt 77 4 y ∧ Below w.heap.size w w4) (fun _ k_ _ => 4 - (intOf k_).toNat)
                case atStart => exact ⟨0, by omega, rfl, hc1, ht1, hb1⟩
                case round =>
                  obtain ⟨k, hk, rfl, hc2, ht2, hb2⟩ := hrel
                  clear hc1 ht1 hb1
                  by_cases hlk : k < 4
                  · go_wp2
                    refine region_seq (fun w' => Ci w' w.heap.size 80 (ciF W (4 * (p + 1) + k)) 14 ∧ Row w' gt 77 4 y ∧ Below w.heap.size w w') mixedOrders (by kernel_rfl) (by simp) ⟨hc2.drew, ht2.drew, hb2.drew⟩ ?_
                    clear hc2 ht2 hb2
                    iterate 21
                      refine Seq.next ?_ (Sure.val rfl (fun w' hS => ?_)) ?_
                      rotate_left 1
                      · obtain ⟨hc1, ht1, hb1⟩ := hS
                        have e0 := hc1.cell (512 + pn * 4 + k) (by omega)
                        have e1 := ht1.cell k hlk
                        have i1 : IntKind.i64.wrap ((p : Int) + 1 - 8) = (pn : Int) := by rw [HPI.out]; exact IntWalk.i64_in _ (by omega)
                        have b1 : (pn : Int) < 60 := by omega
                        have b2 : (k : Int) < 4 := by omega
                        have b3 : 0 ≤ (p : Int) + 1 := by omega
                        have b4 : (p : Int) + 1 < 60 := by omega
                        have b5 : ((p : Int) + 1).toNat = p + 1 := by omega
                        clear hc1 ht1 hb1
                        go_simp
                        rfl
                      simp only [Act.put, List.setIfInBounds_toArray, List.set_cons_zero, List.set_cons_succ, xor8]
                    refine Seq.last rfl fun w' hS => ?_
                    obtain ⟨hc1, ht1, hb1⟩ := hS
                    have e1 := hc1.cell (512 + (p + 1) * 4 + k) (by omega)
                    have e3 := hc1.frozen (512 + (p + 1) * 4 + k)
                    go_simp
                    clear e1 e3
                    have hc2 := (hc1.set_ (512 + (p + 1) * 4 + k) (by omega) (xr (ciF W (4 * (p + 1) + k) (512 + pn * 4 + k)) (y k))).congr (F' := ciF W (4 * (p + 1) + (k + 1))) fun i _ => congrFun (show (fun j => if j = 512 + (p + 1) * 4 + k then xr (ciF W (4 * (p + 1) + k) (512 + pn * 4 + k)) (y k) else ciF W (4 * (p + 1) + k) j) = ciF W (4 * (p + 1) + k + 1) by rw [show 512 + (p + 1) * 4 + k = 512 + (4 * (p + 1) + k) by omega]; exact ciF_put W _ _ (HI.out k hlk).symm) i
                    have ht2 := ht1.far (p := ⟨w.heap.size, 512 + (p + 1) * 4 + k, none⟩) (by simp; omega) (.int .u8 ((xr (ciF W (4 * (p + 1) + k) (512 + pn * 4 + k)) (y k)).toNat : Int))
                    have hb2 := hb1.setCell (p := ⟨w.heap.size, 512 + (p + 1) * 4 + k, none⟩) (Nat.le_refl _) (.int .u8 ((xr (ciF W (4 * (p + 1) + k) (512 + pn * 4 + k)) (y k)).toNat : Int))
                    clear hc1 ht1 hb1
                    revert hc2 ht2 hb2
                    generalize w'.setCell ⟨w.heap.size, 512 + (p + 1) * 4 + k, none⟩ (.int .u8 ((xr (ciF W (4 * (p + 1) + k) (512 + pn * 4 + k)) (y k)).toNat : Int)) = w5
                    intro hc2 ht2 hb2
                    go_wp2
                    go_roundw
                    case rel => exact ⟨k + 1, by omega, by go_num, hc2, ht2, hb2⟩
                    case measure => simp [intOf]; omega
                  · obtain rfl : k = 4 := by omega
                    go_wp2
                    go_roundw
                    case rel => exact ⟨d + 1, p + 1, by have := HP.out; omega, by have := HP.out; omega, by go_num, by rw [HC.out], hc2, hb2⟩
                    case measure => simp [intOf]; omega
              · rcases Classical.em (((p : Int) + 1) % 8 = 4) with hC | hC
                · have hmod : ¬ (d + 8) % 8 = 0 := by have := HP.out; omega
                  have HS := Lib.hid (sched_C (nk := 8) (by omega) HW.out d (4 * p) (by have := HP.out; have := HD.out; omega) (by have := HP.out; omega) hmod ⟨rfl, by have := HP.out; omega⟩)
                  have HC := Lib.hid (show rc ((d + 7) / 8) = rc ((d + 1 + 7) / 8) by rw [show (d + 1 + 7) / 8 = (d + 7) / 8 by have := HP.out; omega])
                  clear hmod
                  have hA' : (((p : Int) + 1) % 8 == 0) = false := by simpa using hA
                  have hC' : (((p : Int) + 1) % 8 == 4) = true := by simpa using hC
                  clear hA hC
                  go_wp2_with (first | (refine wpList_load_Cells rfl 77 _ rfl w.heap.size (512 + p * 4) rfl 4 x _ HXL.out und4 size4 ?_) | (refine wpList_alloc_Row rfl 77 rfl 4 zero4 ?_) | (refine wpList_store_Row rfl 77 _ _ rfl _ rfl 77 4 (fun _ => 0) _ rfl (Row.new _ _ _ _) size4 ?_))
                  have hc1 := (hci2.alloc (.cells (row 4 fun _ => 0) 77)).setRow_far (k := wr.heap.size) (by omega) (row 4 x)
                  have ht1 := (Row.new wr 77 4 (fun _ => 0)).setRow x
                  have hb1 := below_setRow8 (hbel2.alloc hsz (.cells (row 4 fun _ => 0) 77)) (k := wr.heap.size) hsz (row 4 x)
                  clear hci2 hbel2 elast
                  revert hc1 ht1 hb1
                  generalize (wr.alloc (.cells (row 4 fun _ => 0) 77)).setRow wr.heap.size (row 4 x) = w1
                  clear HXL
                  generalize wr.heap.size = gt at *
                  intro hc1 ht1 hb1
                  obtain ⟨y, hy⟩ : ∃ y : Nat → UInt8, y = fun k => boxF (x k).toNat := ⟨_, rfl⟩
                  have HY := Lib.hid hy
                  clear hy
                  refine region_seq (fun w' => Ci w' w.heap.size 80 (ciF W (4 * (p + 1))) 14 ∧ Row w' gt 77 4 x ∧ Below w.heap.size w w') mixedOrders (by kernel_rfl) (by simp) ⟨hc1.drew, ht1.drew, hb1.drew⟩ ?_
                  clear hc1 ht1 hb1
                  iterate 29
                    refine Seq.next ?_ (Sure.val rfl (fun w' hS => ?_)) ?_
                    rotate_left 1
                    · obtain ⟨hc1, ht1, hb1⟩ := hS
                      have e0 := ht1.cell 0 (by omega)
                      have e1 := ht1.cell 1 (by omega)
                      have e2 := ht1.cell 2 (by omega)
                      have e3 := ht1.cell 3 (by omega)
                      have b0 := lt8 (x 0)
                      have b1 := lt8 (x 1)
                      have b2 := lt8 (x 2)
                      have b3 := lt8 (x 3)
                      have f0 := hc1.cell (x 0).toNat (by omega)
                      have f1 := hc1.cell (x 1).toNat (by omega)
                      have f2 := hc1.cell (x 2).toNat (by omega)
                      have f3 := hc1.cell (x 3).toNat (by omega)
                      rw [ciF_s W _ _ (x 0).toNat_lt] at f0
                      rw [ciF_s W _ _ (x 1).toNat_lt] at f1
                      rw [ciF_s W _ _ (x 2).toNat_lt] at f2
                      rw [ciF_s W _ _ (x 3).toNat_lt] at f3
                      clear hc1 ht1 hb1
                      go_simp
                      rfl
                    simp only [Act.put, List.setIfInBounds_toArray, List.set_cons_zero, List.set_cons_succ]
                  refine Seq.last rfl fun w' hS => ?_
                  obtain ⟨hc1, ht1, hb1⟩ := hS
                  refine wp_store_Row 77 _ _ rfl gt rfl 77 4 x y (by rw [HY.out]; rfl) ht1 size4 ?_
                  have hc2 := hc1.setRow_far (k := gt) (by omega) (row 4 y)
                  have ht2 := ht1.setRow y
                  have hb2 := below_setRow8 hb1 (k := gt) hsz (row 4 y)
                  clear hc1 ht1 hb1
                  revert hc2 ht2 hb2
                  generalize w'.setRow gt (row 4 y) = w2
                  intro hc1 ht1 hb1
                  simp only [Act.put]
                  go_wp2
                  have HI : ∀ k, k < 4 → W (4 * (p + 1) + k) = xr (ciF W (4 * (p + 1) + k) (512 + pn * 4 + k)) (y k) := fun k hk => by
                    rw [show 512 + pn * 4 + k = 512 + (4 * pn + k) by omega, ciF_w W _ _ (by have := HPN.out; omega), HY.out, HX.out, show 4 * (p + 1) + k = 4 * p + 4 + k by omega, HS.out k hk, show 4 * p + 4 + k - 32 = 4 * pn + k by have := HPN.out; omega]
                  have HI := Lib.hid HI
                  go_loopw [11, 164] (fun _ k_ w4 => ∃ k : Nat, k ≤ 4 ∧ k_ = .int .i64 k ∧ Ci w4 w.heap.size 80 (ciF W (4 * (p + 1) + k)) 14 ∧ Row w4 gt 77 4 y ∧ Below w.heap.size w w4) (fun _ k_ _ => 4 - (intOf k_).toNat)
                  case atStart => exact ⟨0, by omega, rfl, hc1, ht1, hb1⟩
                  case round =>
                    obtain ⟨k, hk, rfl, hc2, ht2, hb2⟩ := hrel
                    clear hc1 ht1 hb1
                    by_cases hlk : k < 4
                    · go_wp2
                      refine region_seq (fun w' => Ci w' w.heap.size 80 (ciF W (4 * (p + 1) + k)) 14 ∧ Row w' gt 77 4 y ∧ Below w.heap.size w w') mixedOrders (by kernel_rfl) (by simp) ⟨hc2.drew, ht2.drew, hb2.drew⟩ ?_
                      clear hc2 ht2 hb2
                      iterate 21
                        refine Seq.next ?_ (Sure.val rfl (fun w' hS => ?_)) ?_
                        rotate_left 1
                        · obtain ⟨hc1, ht1, hb1⟩ := hS
                          have e0 := hc1.cell (512 + pn * 4 + k) (by omega)
                          have e1 := ht1.cell k hlk
                          have i1 : IntKind.i64.wrap ((p : Int) + 1 - 8) = (pn : Int) := by rw [HPI.out]; exact IntWalk.i64_in _ (by omega)
                          have b1 : (pn : Int) < 60 := by omega
                          have b2 : (k : Int) < 4 := by omega
                          have b3 : 0 ≤ (p : Int) + 1 := by omega
                          have b4 : (p : Int) + 1 < 60 := by omega
                          have b5 : ((p : Int) + 1).toNat = p + 1 := by omega
                          clear hc1 ht1 hb1
                          go_simp
                          rfl
                        simp only [Act.put, List.setIfInBounds_toArray, List.set_cons_zero, List.set_cons_succ, xor8]
                      refine Seq.last rfl fun w' hS => ?_
                      obtain ⟨hc1, ht1, hb1⟩ := hS
                      have e1 := hc1.cell (512 + (p + 1) * 4 + k) (by omega)
                      have e3 := hc1.frozen (512 + (p + 1) * 4 + k)
                      go_simp
                      clear e1 e3
                      have hc2 := (hc1.set_ (512 + (p + 1) * 4 + k) (by omega) (xr (ciF W (4 * (p + 1) + k) (512 + pn * 4 + k)) (y k))).congr (F' := ciF W (4 * (p + 1) + (k + 1))) fun i _ => congrFun (show (fun j => if j = 512 + (p + 1) * 4 + k then xr (ciF W (4 * (p + 1) + k) (512 + pn * 4 + k)) (y k) else ciF W (4 * (p + 1) + k) j) = ciF W (4 * (p + 1) + k + 1) by rw [show 512 + (p + 1) * 4 + k = 512 + (4 * (p + 1) + k) by omega]; exact ciF_put W _ _ (HI.out k hlk).symm) i
                      have ht2 := ht1.far (p := ⟨w.heap.size, 512 + (p + 1) * 4 + k, none⟩) (by simp; omega) (.int .u8 ((xr (ciF W (4 * (p + 1) + k) (512 + pn * 4 + k)) (y k)).toNat : Int))
                      have hb2 := hb1.setCell (p := ⟨w.heap.size, 512 + (p + 1) * 4 + k, none⟩) (Nat.le_refl _) (.int .u8 ((xr (ciF W (4 * (p + 1) + k) (512 + pn * 4 + k)) (y k)).toNat : Int))
                      clear hc1 ht1 hb1
                      revert hc2 ht2 hb2
                      generalize w'.setCell ⟨w.heap.size, 512 + (p + 1) * 4 + k, none⟩ (.int .u8 ((xr (ciF W (4 * (p + 1) + k) (512 + pn * 4 + k)) (y k)).toNat : Int)) = w5
                      intro hc2 ht2 hb2
                      go_wp2
                      go_roundw
                      case rel => exact ⟨k + 1, by omega, by go_num, hc2, ht2, hb2⟩
                      case measure => simp [intOf]; omega
                    · obtain rfl : k = 4 := by omega
                      go_wp2
                      go_roundw
                      case rel => exact ⟨d + 1, p + 1, by have := HP.out; omega, by have := HP.out; omega, by go_num, by rw [HC.out], hc2, hb2⟩
                      case measure => simp [intOf]; omega
                · have hmod : ¬ (d + 8) % 8 = 0 := by have := HP.out; omega
                  have HS := Lib.hid (sched_B (nk := 8) (by omega) HW.out d (4 * p) (by have := HP.out; have := HD.out; omega) (by have := HP.out; omega) hmod (by have := HP.out; omega))
                  have HC := Lib.hid (show rc ((d + 7) / 8) = rc ((d + 1 + 7) / 8) by rw [show (d + 1 + 7) / 8 = (d + 7) / 8 by have := HP.out; omega])
                  clear hmod
                  have hA' : (((p : Int) + 1) % 8 == 0) = false := by simpa using hA
                  have hC' : (((p : Int) + 1) % 8 == 4) = false := by simpa using hC
                  clear hC
                  clear hA
                  go_wp2_with (first | (refine wpList_load_Cells rfl 77 _ rfl w.heap.size (512 + p * 4) rfl 4 x _ HXL.out und4 size4 ?_) | (refine wpList_alloc_Row rfl 77 rfl 4 zero4 ?_) | (refine wpList_store_Row rfl 77 _ _ rfl _ rfl 77 4 (fun _ => 0) _ rfl (Row.new _ _ _ _) size4 ?_))
                  have hc1 := (hci2.alloc (.cells (row 4 fun _ => 0) 77)).setRow_far (k := wr.heap.size) (by omega) (row 4 x)
                  have ht1 := (Row.new wr 77 4 (fun _ => 0)).setRow x
                  have hb1 := below_setRow8 (hbel2.alloc hsz (.cells (row 4 fun _ => 0) 77)) (k := wr.heap.size) hsz (row 4 x)
                  clear hci2 hbel2 elast
                  revert hc1 ht1 hb1
                  generalize (wr.alloc (.cells (row 4 fun _ => 0) 77)).setRow wr.heap.size (row 4 x) = w1
                  clear HXL
                  generalize wr.heap.size = gt at *
                  intro hc1 ht1 hb1
                  have HI : ∀ k, k < 4 → W (4 * (p + 1) + k) = xr (ciF W (4 * (p + 1) + k) (512 + pn * 4 + k)) (x k) := fun k hk => by
                    rw [show 512 + pn * 4 + k = 512 + (4 * pn + k) by omega, ciF_w W _ _ (by have := HPN.out; omega), HX.out, show 4 * (p + 1) + k = 4 * p + 4 + k by omega, HS.out k hk, show 4 * p + 4 + k - 32 = 4 * pn + k by have := HPN.out; omega]
                  have HI := Lib.hid HI
                  go_loopw [11, 164] (fun _ k_ w4 => ∃ k : Nat, k ≤ 4 ∧ k_ = .int .i64 k ∧ Ci w4 w.heap.size 80 (ciF W (4 * (p + 1) + k)) 14 ∧ Row w4 gt 77 4 x ∧ Below w.heap.size w w4) (fun _ k_ _ => 4 - (intOf k_).toNat)
                  case atStart => exact ⟨0, by omega, rfl, hc1, ht1, hb1⟩
                  case round =>
                    obtain ⟨k, hk, rfl, hc2, ht2, hb2⟩ := hrel
                    clear hc1 ht1 hb1
                    by_cases hlk : k < 4
                    · go_wp2
                      refine region_seq (fun w' => Ci w' w.heap.size 80 (ciF W (4 * (p + 1) + k)) 14 ∧ Row w' gt 77 4 x ∧ Below w.heap.size w w') mixedOrders (by kernel_rfl) (by simp) ⟨hc2.drew, ht2.drew, hb2.drew⟩ ?_
                      clear hc2 ht2 hb2
                      iterate 21
                        refine Seq.next ?_ (Sure.val rfl (fun w' hS => ?_)) ?_
                        rotate_left 1
                        · obtain ⟨hc1, ht1, hb1⟩ := hS
                          have e0 := hc1.cell (512 + pn * 4 + k) (by omega)
                          have e1 := ht1.cell k hlk
                          have i1 : IntKind.i64.wrap ((p : Int) + 1 - 8) = (pn : Int) := by rw [HPI.out]; exact IntWalk.i64_in _ (by omega)
                          have b1 : (pn : Int) < 60 := by omega
                          have b2 : (k : Int) < 4 := by omega
                          have b3 : 0 ≤ (p : Int) + 1 := by omega
                          have b4 : (p : Int) + 1 < 60 := by omega
                          have b5 : ((p : Int) + 1).toNat = p + 1 := by omega
                          clear hc1 ht1 hb1
                          go_simp
                          rfl
                        simp only [Act.put, List.setIfInBounds_toArray, List.set_cons_zero, List.set_cons_succ, xor8]
                      refine Seq.last rfl fun w' hS => ?_
                      obtain ⟨hc1, ht1, hb1⟩ := hS
                      have e1 := hc1.cell (512 + (p + 1) * 4 + k) (by omega)
                      have e3 := hc1.frozen (512 + (p + 1) * 4 + k)
                      go_simp
                      clear e1 e3
                      have hc2 := (hc1.set_ (512 + (p + 1) * 4 + k) (by omega) (xr (ciF W (4 * (p + 1) + k) (512 + pn * 4 + k)) (x k))).congr (F' := ciF W (4 * (p + 1) + (k + 1))) fun i _ => congrFun (show (fun j => if j = 512 + (p + 1) * 4 + k then xr (ciF W (4 * (p + 1) + k) (512 + pn * 4 + k)) (x k) else ciF W (4 * (p + 1) + k) j) = ciF W (4 * (p + 1) + k + 1) by rw [show 512 + (p + 1) * 4 + k = 512 + (4 * (p + 1) + k) by omega]; exact ciF_put W _ _ (HI.out k hlk).symm) i
                      have ht2 := ht1.far (p := ⟨w.heap.size, 512 + (p + 1) * 4 + k, none⟩) (by simp; omega) (.int .u8 ((xr (ciF W (4 * (p + 1) + k) (512 + pn * 4 + k)) (x k)).toNat : Int))
                      have hb2 := hb1.setCell (p := ⟨w.heap.size, 512 + (p + 1) * 4 + k, none⟩) (Nat.le_refl _) (.int .u8 ((xr (ciF W (4 * (p + 1) + k) (512 + pn * 4 + k)) (x k)).toNat : Int))
                      clear hc1 ht1 hb1
                      revert hc2 ht2 hb2
                      generalize w'.setCell ⟨w.heap.size, 512 + (p + 1) * 4 + k, none⟩ (.int .u8 ((xr (ciF W (4 * (p + 1) + k) (512 + pn * 4 + k)) (x k)).toNat : Int)) = w5
                      intro hc2 ht2 hb2
                      go_wp2
                      go_roundw
                      case rel => exact ⟨k + 1, by omega, by go_num, hc2, ht2, hb2⟩
                      case measure => simp [intOf]; omega
                    · obtain rfl : k = 4 := by omega
                      go_wp2
                      go_roundw
                      case rel => exact ⟨d + 1, p + 1, by have := HP.out; omega, by have := HP.out; omega, by go_num, by rw [HC.out], hc2, hb2⟩
                      case measure => simp [intOf]; omega
            · obtain rfl : p = 59 := by omega
              have elast := hci2.last
              clear hd hp hlt hp1 hp2
              go_wp2
              go_ret2
              exact ⟨w.heap.size, rfl, Nat.le_refl _, hci2, hbel2⟩

end Go.Proofs.YtajifdnfibojfaaDoor
