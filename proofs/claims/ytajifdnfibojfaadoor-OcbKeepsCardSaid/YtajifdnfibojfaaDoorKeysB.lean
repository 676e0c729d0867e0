/- The keys of the rounds, of a key of 32 bytes. -/
import Derived.Test.YtajifdnfibojfaaDoorKeys
namespace Go.Proofs.YtajifdnfibojfaaDoor
open Go Go.RowKit
set_option maxRecDepth 100000

set_option maxRecDepth 100000 in
set_option maxHeartbeats 8000000 in
theorem roundKeys8 (s key W : Nat → UInt8) (b off c : Nat) (w : World) (hs : Row w 0 76 256 s) (hkey : ∀ j, j < 32 → w.cell? ⟨b, off + j, none⟩ = some (.int .u8 ((key j).toNat : Int)))
    (hW : Sched s 8 key W) : Calls Tryd.prog 43 #[.slice (some ⟨b, off, none⟩) 32 c] w (KeysMade 8 W w) := by
  have hz0 := hs.lt
  have hmk : ∀ w : World, (Instr.makeSlice 74 (.int .i64 15) (.int .i64 15)).run Tryd.prog w = .ok (.slice (some ⟨w.heap.size, 0, none⟩) 15 15) (w.alloc (.cells (row 240 fun _ => 0) 32)) := run_make_Row (P := Tryd.prog) 74 32 15 16 16 undK info16 (by omega) (by omega) (by omega)
  have hma : ∀ w : World, (Instr.makeSlice 22 (.int .i64 240) (.int .i64 240)).run Tryd.prog w = .ok (.slice (some ⟨w.heap.size, 0, none⟩) 240 240) (w.alloc (.cells (row 240 fun _ => 0) 5)) := run_make_Row (P := Tryd.prog) 22 5 240 1 1 undB info8 (by omega) (by omega) (by omega)
  have hb := block_lt_of_cell (hkey 0 (by omega))
  simp only at hb
  go_enter Tryd.func43, Tryd.ntmps43
  go_wp2_with (refine wpList_copy_Row rfl _ _ 22 22 rfl 5 undB size8 (w.heap.size + 1) 0 240 240 ⟨b, off, none⟩ 32 c rfl rfl 5 240 (fun _ => 0) (by have h := Row.new (w.alloc (.cells (row 240 fun _ => 0) 32)) 5 240 (fun _ => 0); simpa only [World.size_alloc] using h) 32 key (by decide) (fun j hj => by rw [Addr.add_mid, World.cell?_alloc_lt _ _ _ (by simp; omega), World.cell?_alloc_lt _ _ _ (by simpa using hb)]; exact hkey j hj) (by omega) ?_)
  go_loopw [5, 6] (fun cst at_ wr => ∃ d q : Nat, d ≤ 52 ∧ q = 4 * d + 28 ∧ at_ = .int .i64 ((q : Int) + 4) ∧ cst = .int .u8 ((rc ((d + 7) / 8)).toNat : Int) ∧ Row wr 0 76 256 s ∧ Row wr w.heap.size 32 240 (fun _ => 0) ∧ Row wr (w.heap.size + 1) 5 240 (upto (q + 4) W (fun _ => 0)) ∧ Below w.heap.size w wr) (fun _ at_ _ => 240 - (intOf at_).toNat)
  case atStart =>
    obtain ⟨h0, h1, h3⟩ := two_new w 32 (fun _ => 0) (fun _ => 0) 240 240 5
    refine ⟨0, 28, by omega, by omega, rfl, rfl, (hs.below h3 hz0).setRow_far (by omega) _, h0.setRow_far (by omega) _, (h1.setRow _).congr fun j hj => ?_, below_setRow8 h3 (by omega) _⟩
    unfold cpy upto
    by_cases h : j < 32
    · rw [if_pos (by omega), if_pos (by omega), hW.1 j (by omega)]; rfl
    · rw [if_neg (by omega), if_neg (by omega)]
  case round =>
    obtain ⟨d, q, hd, hq, rfl, rfl, hs', hk', ha, hbel⟩ := hrel
    have hq1 : 28 ≤ q := by omega
    have hq2 : q ≤ 236 := by omega
    by_cases hlt : q + 4 < 240
    · have hq3 : q + 8 ≤ 240 := by omega
      have HD := Lib.hid hd
      have HQ := Lib.hid hq
      have HW := Lib.hid hW
      have hz1 := ha.lt
      clear hd hq hW hkey hmk hma
      have hat : ∀ w' : World, (Instr.arrayAt 77 (.slice (some ⟨w.heap.size + 1, q, none⟩) (240 - q) (240 - q))).run Tryd.prog w' = .ok (.pointer (some ⟨w.heap.size + 1, q, none⟩)) w' := fun w' => run_arrayAt w' 77 _ 4 _ _ _ und4 (by omega)
      have HN : 0 < 8 := by omega
      rcases Classical.em (((q : Int) + 4) % 32 = 0) with hA | hA
      · have hmod : (d + 8) % 8 = 0 := by have := HQ.out; omega
        have HS := Lib.hid (sched_A (nk := 8) (by omega) HW.out d q (by have := HQ.out; omega) HQ.out hmod)
        have HC := Lib.hid (show dbl (rc ((d + 7) / 8)) = rc ((d + 1 + 7) / 8) by rw [show (d + 1 + 7) / 8 = (d + 7) / 8 + 1 by omega]; rfl)
        clear hmod
        go_wp2_with (first | (refine wpList_load_Mid rfl 77 _ rfl (w.heap.size + 1) q rfl 5 240 4 _ _ ha (by omega) und4 size4 ?_) | (refine wpList_alloc_Row rfl 77 rfl 4 zero4 ?_) | (refine wpList_store_Row rfl 77 _ _ rfl _ rfl 77 4 (fun _ => 0) _ rfl (Row.new _ _ _ _) size4 ?_))
        have hs1 := (hs'.alloc (.cells (row 4 fun _ => 0) 77)).setRow_far (k := wr.heap.size) (by omega) (row 4 fun j => upto (q + 4) W (fun _ => 0) (q + j))
        have hk1 := (hk'.alloc (.cells (row 4 fun _ => 0) 77)).setRow_far (k := wr.heap.size) (by omega) (row 4 fun j => upto (q + 4) W (fun _ => 0) (q + j))
        have ha1 := (ha.alloc (.cells (row 4 fun _ => 0) 77)).setRow_far (k := wr.heap.size) (by omega) (row 4 fun j => upto (q + 4) W (fun _ => 0) (q + j))
        obtain ⟨x, hx⟩ : ∃ x : Nat → UInt8, x = fun j => W (q + j) := ⟨_, rfl⟩
        have ht1 : Row ((wr.alloc (.cells (row 4 fun _ => 0) 77)).setRow wr.heap.size (row 4 fun j => upto (q + 4) W (fun _ => 0) (q + j))) wr.heap.size 77 4 x := ((Row.new wr 77 4 (fun _ => 0)).setRow _).congr fun j hj => by rw [hx]; exact upto_all _ _ _ (by omega)
        have hbel1 := below_setRow8 (hbel.alloc (by omega) (.cells (row 4 fun _ => 0) 77)) (k := wr.heap.size) (by omega) (row 4 fun j => upto (q + 4) W (fun _ => 0) (q + j))
        have HX := Lib.hid hx
        clear hx hs' hk' ha hbel hat
        revert hs1 hk1 ha1 ht1 hbel1
        generalize (wr.alloc (.cells (row 4 fun _ => 0) 77)).setRow wr.heap.size (row 4 fun j => upto (q + 4) W (fun _ => 0) (q + j)) = w1
        intro hs1 hk1 ha1 ht1 hbel1
        obtain ⟨y, hy⟩ : ∃ y : Nat → UInt8, y = fun k => if k = 0 then xr (s (x 1).toNat) (rc ((d + 7) / 8)) else s (x ((k + 1) % 4)).toNat := ⟨_, rfl⟩
        have HY := Lib.hid hy
        clear hy
        refine region_seq (fun w' => Row w' 0 76 256 s ∧ Row w' w.heap.size 32 240 (fun _ => 0) ∧ Row w' (w.heap.size + 1) 5 240 (upto (q + 4) W (fun _ => 0)) ∧ Row w' wr.heap.size 77 4 x ∧ Below w.heap.size w w') mixedOrders (by kernel_rfl) (by simp) ⟨hs1.drew, hk1.drew, ha1.drew, ht1.drew, hbel1.drew⟩ ?_
        clear hs1 hk1 ha1 ht1 hbel1 w1
        iterate 19
          refine Seq.next ?_ (Sure.val rfl (fun w' hS => ?_)) ?_
          rotate_left 1
          · obtain ⟨hs1, hk1, ha1, ht1, hbel1⟩ := hS
            have e0 := ht1.cell 0 (by omega)
            have e1 := ht1.cell 1 (by omega)
            have e2 := ht1.cell 2 (by omega)
            have e3 := ht1.cell 3 (by omega)
            have b0 := lt8 (x 0)
            have b1 := lt8 (x 1)
            have b2 := lt8 (x 2)
            have b3 := lt8 (x 3)
            have f0 := hs1.cell (x 0).toNat (by omega)
            have f1 := hs1.cell (x 1).toNat (by omega)
            have f2 := hs1.cell (x 2).toNat (by omega)
            have f3 := hs1.cell (x 3).toNat (by omega)
            clear hs1 hk1 ha1 ht1 hbel1
            go_simp
            rfl
          simp only [Act.put, List.setIfInBounds_toArray, List.set_cons_zero, List.set_cons_succ, xor8]
        refine Seq.last rfl fun w' hS => ?_
        obtain ⟨hs1, hk1, ha1, ht1, hbel1⟩ := hS
        refine wp_store_Row 77 _ _ rfl wr.heap.size rfl 77 4 x y (by rw [HY.out]; rfl) ht1 size4 ?_
        have hs2 := hs1.setRow_far (k := wr.heap.size) (by omega) (row 4 y)
        have hk2 := hk1.setRow_far (k := wr.heap.size) (by omega) (row 4 y)
        have ha2 := ha1.setRow_far (k := wr.heap.size) (by omega) (row 4 y)
        have ht2 := ht1.setRow y
        have hbel2 := below_setRow8 hbel1 (k := wr.heap.size) (by omega) (row 4 y)
        clear hs1 hk1 ha1 ht1 hbel1
        revert hs2 hk2 ha2 ht2 hbel2
        generalize w'.setRow wr.heap.size (row 4 y) = w2
        intro hs1 hk1 ha1 ht1 hbel1
        simp only [Act.put]
        go_wp2_with (first | (go_at_call 56; refine (doubled_c _ _).mono ?_; rintro e w3 ⟨rfl, rfl⟩) | (refine wpList_load_Row rfl 77 _ rfl wr.heap.size rfl 77 4 y _ ht1 und4 size4 ?_))
        have HI : ∀ k, k < 4 → W (q + 4 + k) = xr (upto (q + 4 + k) W (fun _ => 0) (q + 4 + k - 32)) (y k) := fun k hk => by
          rw [show upto (q + 4 + k) W (fun _ => 0) (q + 4 + k - 32) = W (q + 4 + k - 32) from if_pos (by omega), HS.out k hk, HY.out, HX.out]
        have HI := Lib.hid HI
        go_loopw [8, 9, 84] (fun _ _ k_ w4 => ∃ k : Nat, k ≤ 4 ∧ k_ = .int .i64 k ∧ Row w4 0 76 256 s ∧ Row w4 w.heap.size 32 240 (fun _ => 0) ∧ Row w4 (w.heap.size + 1) 5 240 (upto (q + 4 + k) W (fun _ => 0)) ∧ Below w.heap.size w w4) (fun _ _ k_ _ => 4 - (intOf k_).toNat)
        case atStart => exact ⟨0, by omega, rfl, hs1, hk1, ha1, hbel1⟩
        case round =>
          obtain ⟨k, hk, rfl, hs2, hk2, ha2, hbel2⟩ := hrel
          by_cases hlk : k < 4
          · have i0 := run_index_row (P := Tryd.prog) 77 5 4 k y und4 und8 size8 hlk
            have e1 := ha2.cell (q + 4 + k - 32) (by omega)
            have e2 := ha2.cell (q + 4 + k) (by omega)
            have e3 := ha2.frozen (q + 4 + k)
            go_wp2
            clear i0 e1 e2 e3
            go_roundw
            case rel => exact ⟨k + 1, by omega, by go_num, hs2.far (by first | (simp; done) | (simp; omega)) _, hk2.far (by first | (simp; done) | (simp; omega)) _, by rw [show q + 4 + (k + 1) = q + 4 + k + 1 by omega, ← upto_put (q + 4 + k) W (fun _ => 0) _ (HI.out k hlk).symm, xor8]; exact ha2.set_ (q + 4 + k) _, hbel2.setCell (by simp) _⟩
            case measure => simp [intOf]; omega
          · obtain rfl : k = 4 := by omega
            go_wp2
            go_roundw
            case rel => exact ⟨d + 1, q + 4, by have := HQ.out; omega, by have := HQ.out; omega, by go_num, by rw [HC.out], hs2, hk2, ha2, hbel2⟩
            case measure => simp [intOf]; omega
      · rcases Classical.em (((q : Int) + 4) % 32 = 16) with hC | hC
        · have hmod : ¬ (d + 8) % 8 = 0 := by have := HQ.out; omega
          have HS := Lib.hid (sched_C (nk := 8) (by omega) HW.out d q (by have := HQ.out; omega) HQ.out hmod ⟨rfl, by have := HQ.out; omega⟩)
          have HC := Lib.hid (show rc ((d + 7) / 8) = rc ((d + 1 + 7) / 8) by rw [show (d + 1 + 7) / 8 = (d + 7) / 8 by omega])
          clear hmod
          go_wp2_with (first | (refine wpList_load_Mid rfl 77 _ rfl (w.heap.size + 1) q rfl 5 240 4 _ _ ha (by omega) und4 size4 ?_) | (refine wpList_alloc_Row rfl 77 rfl 4 zero4 ?_) | (refine wpList_store_Row rfl 77 _ _ rfl _ rfl 77 4 (fun _ => 0) _ rfl (Row.new _ _ _ _) size4 ?_))
          have hs1 := (hs'.alloc (.cells (row 4 fun _ => 0) 77)).setRow_far (k := wr.heap.size) (by omega) (row 4 fun j => upto (q + 4) W (fun _ => 0) (q + j))
          have hk1 := (hk'.alloc (.cells (row 4 fun _ => 0) 77)).setRow_far (k := wr.heap.size) (by omega) (row 4 fun j => upto (q + 4) W (fun _ => 0) (q + j))
          have ha1 := (ha.alloc (.cells (row 4 fun _ => 0) 77)).setRow_far (k := wr.heap.size) (by omega) (row 4 fun j => upto (q + 4) W (fun _ => 0) (q + j))
          obtain ⟨x, hx⟩ : ∃ x : Nat → UInt8, x = fun j => W (q + j) := ⟨_, rfl⟩
          have ht1 : Row ((wr.alloc (.cells (row 4 fun _ => 0) 77)).setRow wr.heap.size (row 4 fun j => upto (q + 4) W (fun _ => 0) (q + j))) wr.heap.size 77 4 x := ((Row.new wr 77 4 (fun _ => 0)).setRow _).congr fun j hj => by rw [hx]; exact upto_all _ _ _ (by omega)
          have hbel1 := below_setRow8 (hbel.alloc (by omega) (.cells (row 4 fun _ => 0) 77)) (k := wr.heap.size) (by omega) (row 4 fun j => upto (q + 4) W (fun _ => 0) (q + j))
          have HX := Lib.hid hx
          clear hx hs' hk' ha hbel hat
          revert hs1 hk1 ha1 ht1 hbel1
          generalize (wr.alloc (.cells (row 4 fun _ => 0) 77)).setRow wr.heap.size (row 4 fun j => upto (q + 4) W (fun _ => 0) (q + j)) = w1
          intro hs1 hk1 ha1 ht1 hbel1
          obtain ⟨y, hy⟩ : ∃ y : Nat → UInt8, y = fun k => s (x k).toNat := ⟨_, rfl⟩
          have HY := Lib.hid hy
          clear hy
          refine region_seq (fun w' => Row w' 0 76 256 s ∧ Row w' w.heap.size 32 240 (fun _ => 0) ∧ Row w' (w.heap.size + 1) 5 240 (upto (q + 4) W (fun _ => 0)) ∧ Row w' wr.heap.size 77 4 x ∧ Below w.heap.size w w') mixedOrders (by kernel_rfl) (by simp) ⟨hs1.drew, hk1.drew, ha1.drew, ht1.drew, hbel1.drew⟩ ?_
          clear hs1 hk1 ha1 ht1 hbel1 w1
          iterate 17
            refine Seq.next ?_ (Sure.val rfl (fun w' hS => ?_)) ?_
            rotate_left 1
            · obtain ⟨hs1, hk1, ha1, ht1, hbel1⟩ := hS
              have e0 := ht1.cell 0 (by omega)
              have e1 := ht1.cell 1 (by omega)
              have e2 := ht1.cell 2 (by omega)
              have e3 := ht1.cell 3 (by omega)
              have b0 := lt8 (x 0)
              have b1 := lt8 (x 1)
              have b2 := lt8 (x 2)
              have b3 := lt8 (x 3)
              have f0 := hs1.cell (x 0).toNat (by omega)
              have f1 := hs1.cell (x 1).toNat (by omega)
              have f2 := hs1.cell (x 2).toNat (by omega)
              have f3 := hs1.cell (x 3).toNat (by omega)
              clear hs1 hk1 ha1 ht1 hbel1
              go_simp
              rfl
            simp only [Act.put, List.setIfInBounds_toArray, List.set_cons_zero, List.set_cons_succ]
          refine Seq.last rfl fun w' hS => ?_
          obtain ⟨hs1, hk1, ha1, ht1, hbel1⟩ := hS
          refine wp_store_Row 77 _ _ rfl wr.heap.size rfl 77 4 x y (by rw [HY.out]; rfl) ht1 size4 ?_
          have hs2 := hs1.setRow_far (k := wr.heap.size) (by omega) (row 4 y)
          have hk2 := hk1.setRow_far (k := wr.heap.size) (by omega) (row 4 y)
          have ha2 := ha1.setRow_far (k := wr.heap.size) (by omega) (row 4 y)
          have ht2 := ht1.setRow y
          have hbel2 := below_setRow8 hbel1 (k := wr.heap.size) (by omega) (row 4 y)
          clear hs1 hk1 ha1 ht1 hbel1
          revert hs2 hk2 ha2 ht2 hbel2
          generalize w'.setRow wr.heap.size (row 4 y) = w2
          intro hs1 hk1 ha1 ht1 hbel1
          simp only [Act.put]
          go_wp2_with (first | (go_at_call 56; refine (doubled_c _ _).mono ?_; rintro e w3 ⟨rfl, rfl⟩) | (refine wpList_load_Row rfl 77 _ rfl wr.heap.size rfl 77 4 y _ ht1 und4 size4 ?_))
          have HI : ∀ k, k < 4 → W (q + 4 + k) = xr (upto (q + 4 + k) W (fun _ => 0) (q + 4 + k - 32)) (y k) := fun k hk => by
            rw [show upto (q + 4 + k) W (fun _ => 0) (q + 4 + k - 32) = W (q + 4 + k - 32) from if_pos (by omega), HS.out k hk, HY.out, HX.out]
          have HI := Lib.hid HI
          go_loopw [8, 9, 84] (fun _ _ k_ w4 => ∃ k : Nat, k ≤ 4 ∧ k_ = .int .i64 k ∧ Row w4 0 76 256 s ∧ Row w4 w.heap.size 32 240 (fun _ => 0) ∧ Row w4 (w.heap.size + 1) 5 240 (upto (q + 4 + k) W (fun _ => 0)) ∧ Below w.heap.size w w4) (fun _ _ k_ _ => 4 - (intOf k_).toNat)
          case atStart => exact ⟨0, by omega, rfl, hs1, hk1, ha1, hbel1⟩
          case round =>
            obtain ⟨k, hk, rfl, hs2, hk2, ha2, hbel2⟩ := hrel
            by_cases hlk : k < 4
            · have i0 := run_index_row (P := Tryd.prog) 77 5 4 k y und4 und8 size8 hlk
              have e1 := ha2.cell (q + 4 + k - 32) (by omega)
              have e2 := ha2.cell (q + 4 + k) (by omega)
              have e3 := ha2.frozen (q + 4 + k)
              go_wp2
              clear i0 e1 e2 e3
              go_roundw
              case rel => exact ⟨k + 1, by omega, by go_num, hs2.far (by first | (simp; done) | (simp; omega)) _, hk2.far (by first | (simp; done) | (simp; omega)) _, by rw [show q + 4 + (k + 1) = q + 4 + k + 1 by omega, ← upto_put (q + 4 + k) W (fun _ => 0) _ (HI.out k hlk).symm, xor8]; exact ha2.set_ (q + 4 + k) _, hbel2.setCell (by simp) _⟩
              case measure => simp [intOf]; omega
            · obtain rfl : k = 4 := by omega
              go_wp2
              go_roundw
              case rel => exact ⟨d + 1, q + 4, by have := HQ.out; omega, by have := HQ.out; omega, by go_num, by rw [HC.out], hs2, hk2, ha2, hbel2⟩
              case measure => simp [intOf]; omega
        · have hmod : ¬ (d + 8) % 8 = 0 := by have := HQ.out; omega
          have HS := Lib.hid (sched_B (nk := 8) (by omega) HW.out d q (by have := HQ.out; omega) HQ.out hmod (by have := HQ.out; omega))
          have HC := Lib.hid (show rc ((d + 7) / 8) = rc ((d + 1 + 7) / 8) by rw [show (d + 1 + 7) / 8 = (d + 7) / 8 by omega])
          clear hmod
          go_wp2_with (first | (refine wpList_load_Mid rfl 77 _ rfl (w.heap.size + 1) q rfl 5 240 4 _ _ ha (by omega) und4 size4 ?_) | (refine wpList_alloc_Row rfl 77 rfl 4 zero4 ?_) | (refine wpList_store_Row rfl 77 _ _ rfl _ rfl 77 4 (fun _ => 0) _ rfl (Row.new _ _ _ _) size4 ?_) | (refine wpList_load_Row rfl 77 _ rfl wr.heap.size rfl 77 4 _ _ ((Row.new wr 77 4 (fun _ => 0)).setRow (fun j => upto (q + 4) W (fun _ => 0) (q + j))) und4 size4 ?_))
          have hs1 := (hs'.alloc (.cells (row 4 fun _ => 0) 77)).setRow_far (k := wr.heap.size) (by omega) (row 4 fun j => upto (q + 4) W (fun _ => 0) (q + j))
          have hk1 := (hk'.alloc (.cells (row 4 fun _ => 0) 77)).setRow_far (k := wr.heap.size) (by omega) (row 4 fun j => upto (q + 4) W (fun _ => 0) (q + j))
          have ha1 := (ha.alloc (.cells (row 4 fun _ => 0) 77)).setRow_far (k := wr.heap.size) (by omega) (row 4 fun j => upto (q + 4) W (fun _ => 0) (q + j))
          obtain ⟨x, hx⟩ : ∃ x : Nat → UInt8, x = fun j => W (q + j) := ⟨_, rfl⟩
          have ht1 : Row ((wr.alloc (.cells (row 4 fun _ => 0) 77)).setRow wr.heap.size (row 4 fun j => upto (q + 4) W (fun _ => 0) (q + j))) wr.heap.size 77 4 x := ((Row.new wr 77 4 (fun _ => 0)).setRow _).congr fun j hj => by rw [hx]; exact upto_all _ _ _ (by omega)
          have hbel1 := below_setRow8 (hbel.alloc (by omega) (.cells (row 4 fun _ => 0) 77)) (k := wr.heap.size) (by omega) (row 4 fun j => upto (q + 4) W (fun _ => 0) (q + j))
          have HX := Lib.hid hx
          clear hx hs' hk' ha hbel hat
          revert hs1 hk1 ha1 ht1 hbel1
          generalize (wr.alloc (.cells (row 4 fun _ => 0) 77)).setRow wr.heap.size (row 4 fun j => upto (q + 4) W (fun _ => 0) (q + j)) = w1
          intro hs1 hk1 ha1 ht1 hbel1
          rw [show (row 4 fun j => upto (q + 4) W (fun _ => 0) (q + j)) = row 4 x from row_congr fun j hj => by rw [HX.out]; exact upto_all _ _ _ (by omega)]
          have HI : ∀ k, k < 4 → W (q + 4 + k) = xr (upto (q + 4 + k) W (fun _ => 0) (q + 4 + k - 32)) (x k) := fun k hk => by
            rw [show upto (q + 4 + k) W (fun _ => 0) (q + 4 + k - 32) = W (q + 4 + k - 32) from if_pos (by omega), HS.out k hk, HX.out]
          have HI := Lib.hid HI
          go_loopw [8, 9, 84] (fun _ _ k_ w4 => ∃ k : Nat, k ≤ 4 ∧ k_ = .int .i64 k ∧ Row w4 0 76 256 s ∧ Row w4 w.heap.size 32 240 (fun _ => 0) ∧ Row w4 (w.heap.size + 1) 5 240 (upto (q + 4 + k) W (fun _ => 0)) ∧ Below w.heap.size w w4) (fun _ _ k_ _ => 4 - (intOf k_).toNat)
          case atStart => exact ⟨0, by omega, rfl, hs1, hk1, ha1, hbel1⟩
          case round =>
            obtain ⟨k, hk, rfl, hs2, hk2, ha2, hbel2⟩ := hrel
            by_cases hlk : k < 4
            · have i0 := run_index_row (P := Tryd.prog) 77 5 4 k x und4 und8 size8 hlk
              have e1 := ha2.cell (q + 4 + k - 32) (by omega)
              have e2 := ha2.cell (q + 4 + k) (by omega)
              have e3 := ha2.frozen (q + 4 + k)
              go_wp2
              clear i0 e1 e2 e3
              go_roundw
              case rel => exact ⟨k + 1, by omega, by go_num, hs2.far (by first | (simp; done) | (simp; omega)) _, hk2.far (by first | (simp; done) | (simp; omega)) _, by rw [show q + 4 + (k + 1) = q + 4 + k + 1 by omega, ← upto_put (q + 4 + k) W (fun _ => 0) _ (HI.out k hlk).symm, xor8]; exact ha2.set_ (q + 4 + k) _, hbel2.setCell (by simp) _⟩
              case measure => simp [intOf]; omega
            · obtain rfl : k = 4 := by omega
              go_wp2
              go_roundw
              case rel => exact ⟨d + 1, q + 4, by have := HQ.out; omega, by have := HQ.out; omega, by go_num, by rw [HC.out], hs2, hk2, ha2, hbel2⟩
              case measure => simp [intOf]; omega
    · have ha1 : Row wr (w.heap.size + 1) 5 240 W := ha.congr fun j hj => upto_all _ _ j (by omega)
      clear ha hkey hmk hma hW hs' hd hq hq2
      go_wp2
      go_loopw [10, 107] (fun _ j_ w1 => ∃ j : Nat, j ≤ 15 ∧ j_ = .int .i64 j ∧ Row w1 w.heap.size 32 240 (upto (16 * j) W (fun _ => 0)) ∧ Row w1 (w.heap.size + 1) 5 240 W ∧ Below w.heap.size w w1) (fun _ j_ _ => 15 - (intOf j_).toNat)
      case atStart => exact ⟨0, by omega, rfl, by rw [show 16 * 0 = 0 from rfl, upto_zero]; exact hk', ha1, hbel⟩
      case round =>
        obtain ⟨j, hj, rfl, hk1, ha2, hbel2⟩ := hrel
        by_cases hlj : j < 15
        · have hat : ∀ w' : World, (Instr.arrayAt 32 (.slice (some ⟨w.heap.size + 1, 16 * j, none⟩) (240 - 16 * j) (240 - 16 * j))).run Tryd.prog w' = .ok (.pointer (some ⟨w.heap.size + 1, 16 * j, none⟩)) w' := fun w' => run_arrayAt w' 32 _ 16 _ _ _ und16 (by omega)
          go_wp2_with (first | (refine wpList_load_Mid rfl 32 _ rfl (w.heap.size + 1) (16 * j) rfl 5 240 16 _ _ ha2 (by omega) und16 size16 ?_) | (refine wpList_store_Mid rfl 32 _ _ rfl w.heap.size (j * 16) rfl 32 240 16 _ _ rfl hk1 (by omega) size16 ?_))
          go_roundw
          case rel => exact ⟨j + 1, by omega, by go_num, (hk1.setRow _).congr fun l hl => cpy_upto j W l, ha2.setRow_far (by omega) _, below_setRow8 hbel2 (by omega) _⟩
          case measure => simp [intOf]; omega
        · obtain rfl : j = 15 := by omega
          go_wp2
          go_ret
          exact ⟨w.heap.size, rfl, Nat.le_refl _, hk1.congr fun l hl => upto_all _ _ l (by omega), hbel2⟩

end Go.Proofs.YtajifdnfibojfaaDoor
