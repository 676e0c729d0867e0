/- The document's Decrypt of a Cipher. -/
import Derived.Test.YtajifdnfibojfaaDoorREnc
namespace Go.Proofs.YtajifdnfibojfaaDoor
open Go Go.RowKit
set_option maxRecDepth 100000

/-- The block behind m rounds of R. -/
def decX (R : Nat) (W b : Nat → UInt8) : Nat → Nat → UInt8
  | 0 => b
  | m + 1 => decR (bk boxF 256) R W b m
/-- The first m bytes of u put through the box and into their places. -/
def putX (m : Nat) (f g : Nat → UInt8) : Nat → UInt8 := fun j => if (j + j % 4 * 12) % 16 < m then f j else g j
theorem putX_zero (f g : Nat → UInt8) : putX 0 f g = g := by
  funext j; unfold putX; rw [if_neg (by omega)]
theorem putX_all (f g : Nat → UInt8) (j : Nat) : putX 16 f g j = f j := by
  unfold putX; rw [if_pos (by omega)]
theorem putX_succ (m ix : Nat) (f g : Nat → UInt8) (_ : m < 16) (hix : ix = (m + m % 4 * 4) % 16) (j : Nat) (_ : j < 16) : (fun j => if j = ix then f ix else putX m f g j) j = putX (m + 1) f g j := by
  unfold putX
  show (if j = ix then f ix else if (j + j % 4 * 12) % 16 < m then f j else g j) = _
  by_cases h : j = ix
  · subst h; rw [if_pos rfl, if_pos (by omega)]
  · rw [if_neg h]
    by_cases h2 : (j + j % 4 * 12) % 16 < m
    · rw [if_pos h2, if_pos (by omega)]
    · rw [if_neg h2, if_neg (by omega)]
theorem CiS.setIn {w0 w1 : World} {g M : Nat} {W cur : Nat → UInt8} {R : Int} (h : CiS w0 g M W R cur w1) (i : Nat) (x : UInt8) : CiS w0 g M W R (fun j => if j = i then x else cur j) (w1.setCell ⟨w0.heap.size, i, none⟩ (.int .u8 (x.toNat : Int))) := by
  obtain ⟨h1, h2, h3, h4, h5⟩ := h
  exact ⟨h1.far (by simp; omega) _, h2.set_ i x, h3.far (by simp) _, h4.setCell (by simp) _, h5⟩
theorem CiS.congr {w0 w1 : World} {g M : Nat} {W cur cur' : Nat → UInt8} {R : Int} (h : CiS w0 g M W R cur w1) (hc : ∀ i, i < 16 → cur i = cur' i) : CiS w0 g M W R cur' w1 := ⟨h.1, h.2.1.congr hc, h.2.2⟩

set_option maxHeartbeats 8000000 in
theorem Cipher_dec (W b : Nat → UInt8) (g M R0 : Nat) (R : Int) (w : World) (hR : R = (R0 : Int)) (h1 : 1 ≤ R0) (h2 : R0 ≤ 14) (hM : M = 16 * (R0 + 1)) (hC : Ci w g 80 (ciF W M) R) :
    Calls Tryd.prog 35 #[.pointer (some ⟨g, 0, none⟩), .agg (row 16 b)] w fun e w' => e = .returned (.agg (row 16 (dec (bk boxF 256) R0 W b))) ∧ Below w.heap.size w w' := by
  have hg0 := hC.lt
  have HM := Lib.hid hM
  have HR := Lib.hid hR
  clear hM hR
  obtain ⟨fin, hfin⟩ : ∃ f, f = dec (bk boxF 256) R0 W b := ⟨_, rfl⟩
  rw [← hfin]
  have HFIN := Lib.hid hfin
  clear hfin
  go_enter Tryd.func35, Tryd.ntmps35
  go_upto_region 1 with (fail)
  rw [zero16]
  obtain ⟨h0, h4, h3⟩ := two_new w 32 b (fun _ => 0) 16 16 32
  have hE : CiS w g M W R b ((w.alloc (.cells (row 16 b) 32)).alloc (.cells (row 16 fun _ => 0) 32)) := ⟨hC.below h3 hg0, h0, h4, h3, hg0⟩
  clear hC h0 h4 h3
  revert hE
  generalize (w.alloc (.cells (row 16 b) 32)).alloc (.cells (row 16 fun _ => 0) 32) = w1
  intro hE
  have el := hE.1.last
  rw [HR.out] at el
  go_wp2_with (fail)
  clear el
  go_loopw [5, 6, 7, 8, 9, 10] (fun rd _ _ _ _ _ wr => ∃ n t : Nat, n + t = R0 ∧ rd = .int .i64 (t : Int) ∧ CiS w g M W R (decX R0 W b n) wr) (fun rd _ _ _ _ _ _ => (intOf rd).toNat)
  case atStart => exact ⟨0, R0, by omega, rfl, hE⟩
  case round =>
    obtain ⟨n, t, hnt, rfl, hE2⟩ := hrel
    clear hE
    by_cases hlt : 1 ≤ t
    · have hb0 : decide (1 ≤ (t : Int)) = true := decide_eq_true (by omega)
      have htR : t ≤ R0 := by omega
      have HNT := Lib.hid hnt
      clear hnt
      obtain ⟨cur, hcur⟩ : ∃ cur, cur = decX R0 W b n := ⟨_, rfl⟩
      rw [← hcur] at hE2
      have HCUR := Lib.hid hcur
      clear hcur
      go_wp2_with (refine wpList_load_Row rfl 32 _ rfl w.heap.size rfl 32 16 _ _ hE2.2.1 und16 size16 ?_)
      refine (put_c W cur g M R t _ (by have := HM.out; omega) (by omega) hE2.1).mono ?_
      rintro e w2 ⟨rfl, hb2⟩
      have hE := hE2.below hb2
      clear hE2 hb2
      obtain ⟨tf, htf⟩ : ∃ tf, tf = added cur (rk W t) := ⟨_, rfl⟩
      rw [← htf]
      have HTF := Lib.hid htf
      clear htf
      go_upto_region 5 with (first | (refine wpList_alloc_Row rfl 32 rfl 16 zero16z ?_) | (refine wpList_store_Row rfl 32 _ _ rfl _ rfl 32 16 (fun _ => 0) tf rfl (Row.new _ _ _ _) size16 ?_))
      have hgt := hE.2.2.1.lt
      have hE2 := (hE.alloc (.cells (row 16 fun _ => 0) 32)).setRow (k := w2.heap.size) hgt (row 16 tf)
      have ht := (Row.new w2 32 16 (fun _ => 0)).setRow tf
      clear hE
      revert hE2 ht
      generalize (w2.alloc (.cells (row 16 fun _ => 0) 32)).setRow w2.heap.size (row 16 tf) = w3
      generalize w2.heap.size = gt at *
      intro hE ht
      have hgu2 := ht.lt
      have hgu := hE.2.2.1.lt
      go_upto_region 6 with (first | (refine wpList_load_Row rfl 32 _ rfl gt rfl 32 16 _ _ ht und16 size16 ?_) | (refine wpList_alloc_Row rfl 32 rfl 16 zero16z ?_) | (refine wpList_store_Row rfl 32 _ _ rfl _ rfl 32 16 (fun _ => 0) tf rfl (Row.new _ _ _ _) size16 ?_))
      have hE2 := (hE.alloc (.cells (row 16 fun _ => 0) 32)).setRow (k := w3.heap.size) hgu (row 16 tf)
      have ht2 := (ht.alloc (.cells (row 16 fun _ => 0) 32)).setRow_far (k := w3.heap.size) (by omega) (row 16 tf)
      have hu2 := (Row.new w3 32 16 (fun _ => 0)).setRow tf
      clear hE ht
      revert hE2 ht2 hu2
      generalize (w3.alloc (.cells (row 16 fun _ => 0) 32)).setRow w3.heap.size (row 16 tf) = w4
      generalize w3.heap.size = gu at *
      intro hE ht hu
      have el := hE.1.last
      rw [HR.out] at el
      by_cases hlast : t < R0
      · have hb1 : decide ((t : Int) < (R0 : Int)) = true := decide_eq_true (by omega)
        obtain ⟨uf, huf⟩ : ∃ uf, uf = unmixed tf := ⟨_, rfl⟩
        have HUF := Lib.hid huf
        clear huf
        obtain ⟨nf, hnf⟩ : ∃ nf, nf = boxed (bk boxF 256) (unshifted uf) := ⟨_, rfl⟩
        have HNF := Lib.hid hnf
        clear hnf
        go_wp2_with (fail)
        clear el
        go_loopw [8, 9, 30] (fun _ _ i wr => ∃ m : Nat, m ≤ 16 ∧ i = .int .i64 m ∧ CiS w g M W R cur wr ∧ Row wr gt 32 16 tf ∧ Row wr gu 32 16 (upto m uf tf)) (fun _ _ i _ => 16 - (intOf i).toNat)
        case atStart => exact ⟨0, by omega, rfl, hE, ht, by rw [upto_zero]; exact hu⟩
        case round =>
          obtain ⟨m, hm, rfl, hE2, ht2, hu2⟩ := hrel
          clear hE ht hu
          by_cases hlt : m < 16
          · obtain ⟨k4, hk4⟩ : ∃ k4, k4 = m - m % 4 := ⟨_, rfl⟩
            have hk12 : k4 + 3 < 16 := by omega
            have hki : 4 * ((m : Int) / 4) = (k4 : Int) := by omega
            obtain ⟨r1, hr1⟩ : ∃ r, r = (m + 1) % 4 := ⟨_, rfl⟩
            have hl1 : r1 < 4 := by omega
            have e1 : ((m : Int) + 1).tmod 4 = (r1 : Int) := by rw [Int.tmod_eq_emod_of_nonneg (by omega)]; omega
            have e4 : IntKind.i64.wrap ((m : Int) + 1) = (m : Int) + 1 := IntWalk.i64_in _ (by omega)
            have e7 : IntKind.i64.wrap ((k4 : Int) + (r1 : Int)) = (k4 : Int) + (r1 : Int) := IntWalk.i64_in _ (by omega)
            obtain ⟨r2, hr2⟩ : ∃ r, r = (m + 2) % 4 := ⟨_, rfl⟩
            have hl2 : r2 < 4 := by omega
            have e2 : ((m : Int) + 2).tmod 4 = (r2 : Int) := by rw [Int.tmod_eq_emod_of_nonneg (by omega)]; omega
            have e5 : IntKind.i64.wrap ((m : Int) + 2) = (m : Int) + 2 := IntWalk.i64_in _ (by omega)
            have e8 : IntKind.i64.wrap ((k4 : Int) + (r2 : Int)) = (k4 : Int) + (r2 : Int) := IntWalk.i64_in _ (by omega)
            obtain ⟨r3, hr3⟩ : ∃ r, r = (m + 3) % 4 := ⟨_, rfl⟩
            have hl3 : r3 < 4 := by omega
            have e3 : ((m : Int) + 3).tmod 4 = (r3 : Int) := by rw [Int.tmod_eq_emod_of_nonneg (by omega)]; omega
            have e6 : IntKind.i64.wrap ((m : Int) + 3) = (m : Int) + 3 := IntWalk.i64_in _ (by omega)
            have e9 : IntKind.i64.wrap ((k4 : Int) + (r3 : Int)) = (k4 : Int) + (r3 : Int) := IntWalk.i64_in _ (by omega)
            have E1 := Lib.hid e1
            have E2 := Lib.hid e2
            have E3 := Lib.hid e3
            have E4 := Lib.hid e4
            have E5 := Lib.hid e5
            have E6 := Lib.hid e6
            have E7 := Lib.hid e7
            have E8 := Lib.hid e8
            have E9 := Lib.hid e9
            have HKI := Lib.hid hki
            have HK4 := Lib.hid hk4
            have HR1 := Lib.hid hr1
            have HR2 := Lib.hid hr2
            have HR3 := Lib.hid hr3
            clear e1 e2 e3 e4 e5 e6 e7 e8 e9 hki hk4 hr1 hr2 hr3
            go_wp2
            rw [HKI.out]
            refine region_seq (fun w' => CiS w g M W R cur w' ∧ Row w' gt 32 16 (tf) ∧ Row w' gu 32 16 (upto m uf tf)) mixedOrders (by kernel_rfl) (by simp) ⟨hE2.drew, ht2.drew, hu2.drew⟩ ?_
            clear hE2 ht2 hu2
            iterate 4
              refine Seq.next ?_ (Sure.val rfl (fun w' hS => ?_)) ?_
              rotate_left 1
              · obtain ⟨hE, ht, hu⟩ := hS
                have c0 := ht.cell m hlt
                have c1 := ht.cell (k4 + r1) (by omega)
                have c2 := ht.cell (k4 + r2) (by omega)
                have c3 := ht.cell (k4 + r3) (by omega)
                have e1 := E1.out
                have e2 := E2.out
                have e3 := E3.out
                have e4 := E4.out
                have e5 := E5.out
                have e6 := E6.out
                have e7 := E7.out
                have e8 := E8.out
                have e9 := E9.out
                have a1 : 0 ≤ (k4 : Int) + (r1 : Int) := by omega
                have a2 : 0 ≤ (k4 : Int) + (r2 : Int) := by omega
                have a3 : 0 ≤ (k4 : Int) + (r3 : Int) := by omega
                have b1 : (k4 : Int) + (r1 : Int) < 16 := by omega
                have b2 : (k4 : Int) + (r2 : Int) < 16 := by omega
                have b3 : (k4 : Int) + (r3 : Int) < 16 := by omega
                have d1 : ((k4 : Int) + (r1 : Int)).toNat = k4 + r1 := by omega
                have d2 : ((k4 : Int) + (r2 : Int)).toNat = k4 + r2 := by omega
                have d3 : ((k4 : Int) + (r3 : Int)).toNat = k4 + r3 := by omega
                clear hE ht hu
                go_simp
                rfl
              simp only [Act.put, List.setIfInBounds_toArray, List.set_cons_zero, List.set_cons_succ]
            refine Seq.next (.int .u8 ((tm 14 (tf m)).toNat : Int)) (Sure.call (f := 46) (args := #[.int .u8 14, .int .u8 ((tf m).toNat : Int)]) rfl (fun w' => by go_simp) (fun w' hS => (times_14x _ w').mono fun e w'' h => ⟨h.1, h.2 ▸ hS⟩)) ?_
            simp only [Act.put, List.setIfInBounds_toArray, List.set_cons_zero, List.set_cons_succ]
            iterate 7
              refine Seq.next ?_ (Sure.val rfl (fun w' hS => ?_)) ?_
              rotate_left 1
              · obtain ⟨hE, ht, hu⟩ := hS
                have c0 := ht.cell m hlt
                have c1 := ht.cell (k4 + r1) (by omega)
                have c2 := ht.cell (k4 + r2) (by omega)
                have c3 := ht.cell (k4 + r3) (by omega)
                have e1 := E1.out
                have e2 := E2.out
                have e3 := E3.out
                have e4 := E4.out
                have e5 := E5.out
                have e6 := E6.out
                have e7 := E7.out
                have e8 := E8.out
                have e9 := E9.out
                have a1 : 0 ≤ (k4 : Int) + (r1 : Int) := by omega
                have a2 : 0 ≤ (k4 : Int) + (r2 : Int) := by omega
                have a3 : 0 ≤ (k4 : Int) + (r3 : Int) := by omega
                have b1 : (k4 : Int) + (r1 : Int) < 16 := by omega
                have b2 : (k4 : Int) + (r2 : Int) < 16 := by omega
                have b3 : (k4 : Int) + (r3 : Int) < 16 := by omega
                have d1 : ((k4 : Int) + (r1 : Int)).toNat = k4 + r1 := by omega
                have d2 : ((k4 : Int) + (r2 : Int)).toNat = k4 + r2 := by omega
                have d3 : ((k4 : Int) + (r3 : Int)).toNat = k4 + r3 := by omega
                clear hE ht hu
                go_simp
                rfl
              simp only [Act.put, List.setIfInBounds_toArray, List.set_cons_zero, List.set_cons_succ]
            refine Seq.next (.int .u8 ((tm 11 (tf (k4 + r1))).toNat : Int)) (Sure.call (f := 46) (args := #[.int .u8 11, .int .u8 ((tf (k4 + r1)).toNat : Int)]) rfl (fun w' => by go_simp) (fun w' hS => (times_11x _ w').mono fun e w'' h => ⟨h.1, h.2 ▸ hS⟩)) ?_
            simp only [Act.put, List.setIfInBounds_toArray, List.set_cons_zero, List.set_cons_succ]
            iterate 8
              refine Seq.next ?_ (Sure.val rfl (fun w' hS => ?_)) ?_
              rotate_left 1
              · obtain ⟨hE, ht, hu⟩ := hS
                have c0 := ht.cell m hlt
                have c1 := ht.cell (k4 + r1) (by omega)
                have c2 := ht.cell (k4 + r2) (by omega)
                have c3 := ht.cell (k4 + r3) (by omega)
                have e1 := E1.out
                have e2 := E2.out
                have e3 := E3.out
                have e4 := E4.out
                have e5 := E5.out
                have e6 := E6.out
                have e7 := E7.out
                have e8 := E8.out
                have e9 := E9.out
                have a1 : 0 ≤ (k4 : Int) + (r1 : Int) := by omega
                have a2 : 0 ≤ (k4 : Int) + (r2 : Int) := by omega
                have a3 : 0 ≤ (k4 : Int) + (r3 : Int) := by omega
                have b1 : (k4 : Int) + (r1 : Int) < 16 := by omega
                have b2 : (k4 : Int) + (r2 : Int) < 16 := by omega
                have b3 : (k4 : Int) + (r3 : Int) < 16 := by omega
                have d1 : ((k4 : Int) + (r1 : Int)).toNat = k4 + r1 := by omega
                have d2 : ((k4 : Int) + (r2 : Int)).toNat = k4 + r2 := by omega
                have d3 : ((k4 : Int) + (r3 : Int)).toNat = k4 + r3 := by omega
                clear hE ht hu
                go_simp
                rfl
              simp only [Act.put, List.setIfInBounds_toArray, List.set_cons_zero, List.set_cons_succ, xor8]
            refine Seq.next (.int .u8 ((tm 13 (tf (k4 + r2))).toNat : Int)) (Sure.call (f := 46) (args := #[.int .u8 13, .int .u8 ((tf (k4 + r2)).toNat : Int)]) rfl (fun w' => by go_simp) (fun w' hS => (times_13x _ w').mono fun e w'' h => ⟨h.1, h.2 ▸ hS⟩)) ?_
            simp only [Act.put, List.setIfInBounds_toArray, List.set_cons_zero, List.set_cons_succ]
            iterate 8
              refine Seq.next ?_ (Sure.val rfl (fun w' hS => ?_)) ?_
              rotate_left 1
              · obtain ⟨hE, ht, hu⟩ := hS
                have c0 := ht.cell m hlt
                have c1 := ht.cell (k4 + r1) (by omega)
                have c2 := ht.cell (k4 + r2) (by omega)
                have c3 := ht.cell (k4 + r3) (by omega)
                have e1 := E1.out
                have e2 := E2.out
                have e3 := E3.out
                have e4 := E4.out
                have e5 := E5.out
                have e6 := E6.out
                have e7 := E7.out
                have e8 := E8.out
                have e9 := E9.out
                have a1 : 0 ≤ (k4 : Int) + (r1 : Int) := by omega
                have a2 : 0 ≤ (k4 : Int) + (r2 : Int) := by omega
                have a3 : 0 ≤ (k4 : Int) + (r3 : Int) := by omega
                have b1 : (k4 : Int) + (r1 : Int) < 16 := by omega
                have b2 : (k4 : Int) + (r2 : Int) < 16 := by omega
                have b3 : (k4 : Int) + (r3 : Int) < 16 := by omega
                have d1 : ((k4 : Int) + (r1 : Int)).toNat = k4 + r1 := by omega
                have d2 : ((k4 : Int) + (r2 : Int)).toNat = k4 + r2 := by omega
                have d3 : ((k4 : Int) + (r3 : Int)).toNat = k4 + r3 := by omega
                clear hE ht hu
                go_simp
                rfl
              simp only [Act.put, List.setIfInBounds_toArray, List.set_cons_zero, List.set_cons_succ, xor8]
            refine Seq.next (.int .u8 ((tm 9 (tf (k4 + r3))).toNat : Int)) (Sure.call (f := 46) (args := #[.int .u8 9, .int .u8 ((tf (k4 + r3)).toNat : Int)]) rfl (fun w' => by go_simp) (fun w' hS => (times_9x _ w').mono fun e w'' h => ⟨h.1, h.2 ▸ hS⟩)) ?_
            simp only [Act.put, List.setIfInBounds_toArray, List.set_cons_zero, List.set_cons_succ]
            iterate 2
              refine Seq.next ?_ (Sure.val rfl (fun w' hS => ?_)) ?_
              rotate_left 1
              · obtain ⟨hE, ht, hu⟩ := hS
                have c0 := ht.cell m hlt
                have c1 := ht.cell (k4 + r1) (by omega)
                have c2 := ht.cell (k4 + r2) (by omega)
                have c3 := ht.cell (k4 + r3) (by omega)
                have e1 := E1.out
                have e2 := E2.out
                have e3 := E3.out
                have e4 := E4.out
                have e5 := E5.out
                have e6 := E6.out
                have e7 := E7.out
                have e8 := E8.out
                have e9 := E9.out
                have a1 : 0 ≤ (k4 : Int) + (r1 : Int) := by omega
                have a2 : 0 ≤ (k4 : Int) + (r2 : Int) := by omega
                have a3 : 0 ≤ (k4 : Int) + (r3 : Int) := by omega
                have b1 : (k4 : Int) + (r1 : Int) < 16 := by omega
                have b2 : (k4 : Int) + (r2 : Int) < 16 := by omega
                have b3 : (k4 : Int) + (r3 : Int) < 16 := by omega
                have d1 : ((k4 : Int) + (r1 : Int)).toNat = k4 + r1 := by omega
                have d2 : ((k4 : Int) + (r2 : Int)).toNat = k4 + r2 := by omega
                have d3 : ((k4 : Int) + (r3 : Int)).toNat = k4 + r3 := by omega
                clear hE ht hu
                go_simp
                rfl
              simp only [Act.put, List.setIfInBounds_toArray, List.set_cons_zero, List.set_cons_succ, xor8]
            refine Seq.last rfl fun w' hS => ?_
            obtain ⟨hE, ht, hu⟩ := hS
            have c1 := hu.cell m hlt
            have c3 := hu.frozen m
            go_simp
            clear c1 c3
            rw [show xr (xr (xr (tm 14 (tf m)) (tm 11 (tf (k4 + r1)))) (tm 13 (tf (k4 + r2)))) (tm 9 (tf (k4 + r3))) = uf m by rw [HK4.out, HR1.out, HR2.out, HR3.out, unmixed_tm, HUF.out]]
            have hE2 := hE.setCell (k := gu) (by omega) m (.int .u8 ((uf m).toNat : Int))
            have ht2 := ht.far (p := ⟨gu, m, none⟩) (by simp; omega) (.int .u8 ((uf m).toNat : Int))
            have hu2 : Row (w'.setCell ⟨gu, m, none⟩ (.int .u8 ((uf m).toNat : Int))) gu 32 16 (upto (m + 1) uf tf) := by rw [← upto_succ]; exact hu.set_ m (uf m)
            clear hE ht hu
            revert hE2 ht2 hu2
            generalize w'.setCell ⟨gu, m, none⟩ (.int .u8 ((uf m).toNat : Int)) = w5
            intro hE2 ht2 hu2
            go_wp2
            go_roundw
            case rel => exact ⟨m + 1, by omega, by go_num, hE2, ht2, hu2⟩
            case measure => simp [intOf]; omega
          · obtain rfl : m = 16 := by omega
            rw [show ((16 : Nat) : Int) = 16 from rfl]
            have hu3 := hu2.congr (f' := uf) fun i hi => upto_all _ _ i hi
            clear hu2 hm hlt
            go_wp2_with (fail)
            go_loopw [10, 70] (fun _ i wr => ∃ m : Nat, m ≤ 16 ∧ i = .int .i64 m ∧ CiS w g M W R (putX m nf cur) wr ∧ Row wr gu 32 16 uf) (fun _ i _ => 16 - (intOf i).toNat)
            case atStart => exact ⟨0, by omega, rfl, by rw [putX_zero]; exact hE2, hu3⟩
            case round =>
              obtain ⟨m, hm, rfl, hE4, hu4⟩ := hrel
              clear hE2 ht2 hu3
              by_cases hlt : m < 16
              · obtain ⟨q, hq⟩ : ∃ q, q = m / 4 := ⟨_, rfl⟩
                obtain ⟨r, hr⟩ : ∃ r, r = m % 4 := ⟨_, rfl⟩
                obtain ⟨s1, hs1⟩ : ∃ s1, s1 = q + r := ⟨_, rfl⟩
                obtain ⟨s2, hs2⟩ : ∃ s2, s2 = s1 % 4 := ⟨_, rfl⟩
                obtain ⟨s3, hs3⟩ : ∃ s3, s3 = 4 * s2 := ⟨_, rfl⟩
                obtain ⟨ix, hix⟩ : ∃ ix, ix = s3 + r := ⟨_, rfl⟩
                have hixl : ix < 16 := by omega
                have e1 : (m : Int).tdiv 4 = (q : Int) := by rw [Int.tdiv_eq_ediv_of_nonneg (by omega)]; omega
                have e2 : (m : Int).tmod 4 = (r : Int) := by rw [Int.tmod_eq_emod_of_nonneg (by omega)]; omega
                have e3 : IntKind.i64.wrap ((q : Int) + (r : Int)) = (s1 : Int) := by rw [IntWalk.i64_in _ (by omega)]; omega
                have e4 : (s1 : Int).tmod 4 = (s2 : Int) := by rw [Int.tmod_eq_emod_of_nonneg (by omega)]; omega
                have e5 : IntKind.i64.wrap (4 * (s2 : Int)) = (s3 : Int) := by rw [IntWalk.i64_in _ (by omega)]; omega
                have e6 : IntKind.i64.wrap ((s3 : Int) + (r : Int)) = (ix : Int) := by rw [IntWalk.i64_in _ (by omega)]; omega
                have e7 : IntKind.i64.wrap (q : Int) = (q : Int) := IntWalk.i64_in _ (by omega)
                have e8 : IntKind.i64.wrap (r : Int) = (r : Int) := IntWalk.i64_in _ (by omega)
                have hsx : ix = (m + m % 4 * 4) % 16 := by omega
                have E1 := Lib.hid e1
                have E2 := Lib.hid e2
                have E3 := Lib.hid e3
                have E4 := Lib.hid e4
                have E5 := Lib.hid e5
                have E6 := Lib.hid e6
                have E7 := Lib.hid e7
                have E8 := Lib.hid e8
                have HSX := Lib.hid hsx
                clear e1 e2 e3 e4 e5 e6 e7 e8 hsx hq hr hs1 hs2 hs3 hix
                go_wp2
                refine region_seq (fun w' => CiS w g M W R (putX m nf cur) w' ∧ Row w' gu 32 16 uf) mixedOrders (by kernel_rfl) (by simp) ⟨hE4.drew, hu4.drew⟩ ?_
                clear hE4 hu4
                iterate 19
                  refine Seq.next ?_ (Sure.val rfl (fun w' hS => ?_)) ?_
                  rotate_left 1
                  · obtain ⟨hE, hu⟩ := hS
                    have c2 := hu.cell m hlt
                    have b1 := lt8 (uf m)
                    have c3 := hE.1.cell (256 + (uf m).toNat) (by have := (uf m).toNat_lt; omega)
                    rw [ciF_back W _ _ (uf m).toNat_lt] at c3
                    have e1 := E1.out
                    have e2 := E2.out
                    have e3 := E3.out
                    have e4 := E4.out
                    have e5 := E5.out
                    have e6 := E6.out
                    have e7 := E7.out
                    have e8 := E8.out
                    have a1 : 0 ≤ (ix : Int) := by omega
                    have a2 : (ix : Int) < 16 := by omega
                    clear hE hu
                    go_simp
                    rfl
                  simp only [Act.put, List.setIfInBounds_toArray, List.set_cons_zero, List.set_cons_succ]
                refine Seq.last rfl fun w' hS => ?_
                obtain ⟨hE, hu⟩ := hS
                have c1 := hE.2.1.cell ix (by omega)
                have c3 := hE.2.1.frozen ix
                go_simp
                clear c1 c3
                rw [show bk boxF 256 (uf m).toNat = nf ix by
                  rw [HNF.out]
                  show _ = bk boxF 256 (uf ((ix + ix % 4 * 12) % 16)).toNat
                  rw [show (ix + ix % 4 * 12) % 16 = m by have := HSX.out; omega]]
                have hE2 := (hE.setIn ix (nf ix)).congr (cur' := putX (m + 1) nf cur) (putX_succ m ix nf cur hlt HSX.out)
                have hu2 := hu.far (p := ⟨w.heap.size, ix, none⟩) (by simp; omega) (.int .u8 ((nf ix).toNat : Int))
                clear hE hu
                revert hE2 hu2
                generalize w'.setCell ⟨w.heap.size, ix, none⟩ (.int .u8 ((nf ix).toNat : Int)) = w5
                intro hE2 hu2
                go_wp2
                go_roundw
                case rel => exact ⟨m + 1, by omega, by go_num, hE2, hu2⟩
                case measure => simp [intOf]; omega
              · obtain rfl : m = 16 := by omega
                rw [show ((16 : Nat) : Int) = 16 from rfl]
                have hE5 := hE4.congr (cur' := nf) fun i _ => putX_all nf cur i
                clear hE4 hu4 hm hlt
                rw [show nf = decX R0 W b (n + 1) by rw [HNF.out, HUF.out, HTF.out, HCUR.out]; obtain ⟨k, rfl⟩ : ∃ k, n = k + 1 := ⟨n - 1, by have := HNT.out; omega⟩; show _ = boxed (bk boxF 256) (unshifted (unmixed (added (decR (bk boxF 256) R0 W b k) (rk W (R0 - 1 - k))))); rw [show R0 - 1 - k = t by have := HNT.out; omega]; rfl] at hE5
                clear hb0 hb1
                go_wp2
                go_roundw
                case rel => exact ⟨n + 1, t - 1, by have := HNT.out; omega, by rw [show ((t - 1 : Nat) : Int) = (t : Int) - 1 by omega], hE5⟩
                case measure => simp [intOf]; omega
      · have hb1 : decide ((t : Int) < (R0 : Int)) = false := decide_eq_false (by omega)
        obtain ⟨uf, huf⟩ : ∃ uf, uf = tf := ⟨_, rfl⟩
        rw [← huf] at hu
        have HUF := Lib.hid huf
        clear huf
        obtain ⟨nf, hnf⟩ : ∃ nf, nf = boxed (bk boxF 256) (unshifted uf) := ⟨_, rfl⟩
        have HNF := Lib.hid hnf
        clear hnf
        go_wp2_with (fail)
        clear el
        go_loopw [10, 70] (fun _ i wr => ∃ m : Nat, m ≤ 16 ∧ i = .int .i64 m ∧ CiS w g M W R (putX m nf cur) wr ∧ Row wr gu 32 16 uf) (fun _ i _ => 16 - (intOf i).toNat)
        case atStart => exact ⟨0, by omega, rfl, by rw [putX_zero]; exact hE, hu⟩
        case round =>
          obtain ⟨m, hm, rfl, hE4, hu4⟩ := hrel
          clear hE ht hu
          by_cases hlt : m < 16
          · obtain ⟨q, hq⟩ : ∃ q, q = m / 4 := ⟨_, rfl⟩
            obtain ⟨r, hr⟩ : ∃ r, r = m % 4 := ⟨_, rfl⟩
            obtain ⟨s1, hs1⟩ : ∃ s1, s1 = q + r := ⟨_, rfl⟩
            obtain ⟨s2, hs2⟩ : ∃ s2, s2 = s1 % 4 := ⟨_, rfl⟩
            obtain ⟨s3, hs3⟩ : ∃ s3, s3 = 4 * s2 := ⟨_, rfl⟩
            obtain ⟨ix, hix⟩ : ∃ ix, ix = s3 + r := ⟨_, rfl⟩
            have hixl : ix < 16 := by omega
            have e1 : (m : Int).tdiv 4 = (q : Int) := by rw [Int.tdiv_eq_ediv_of_nonneg (by omega)]; omega
            have e2 : (m : Int).tmod 4 = (r : Int) := by rw [Int.tmod_eq_emod_of_nonneg (by omega)]; omega
            have e3 : IntKind.i64.wrap ((q : Int) + (r : Int)) = (s1 : Int) := by rw [IntWalk.i64_in _ (by omega)]; omega
            have e4 : (s1 : Int).tmod 4 = (s2 : Int) := by rw [Int.tmod_eq_emod_of_nonneg (by omega)]; omega
            have e5 : IntKind.i64.wrap (4 * (s2 : Int)) = (s3 : Int) := by rw [IntWalk.i64_in _ (by omega)]; omega
            have e6 : IntKind.i64.wrap ((s3 : Int) + (r : Int)) = (ix : Int) := by rw [IntWalk.i64_in _ (by omega)]; omega
            have e7 : IntKind.i64.wrap (q : Int) = (q : Int) := IntWalk.i64_in _ (by omega)
            have e8 : IntKind.i64.wrap (r : Int) = (r : Int) := IntWalk.i64_in _ (by omega)
            have hsx : ix = (m + m % 4 * 4) % 16 := by omega
            have E1 := Lib.hid e1
            have E2 := Lib.hid e2
            have E3 := Lib.hid e3
            have E4 := Lib.hid e4
            have E5 := Lib.hid e5
            have E6 := Lib.hid e6
            have E7 := Lib.hid e7
            have E8 := Lib.hid e8
            have HSX := Lib.hid hsx
            clear e1 e2 e3 e4 e5 e6 e7 e8 hsx hq hr hs1 hs2 hs3 hix
            go_wp2
            refine region_seq (fun w' => CiS w g M W R (putX m nf cur) w' ∧ Row w' gu 32 16 uf) mixedOrders (by kernel_rfl) (by simp) ⟨hE4.drew, hu4.drew⟩ ?_
            clear hE4 hu4
            iterate 19
              refine Seq.next ?_ (Sure.val rfl (fun w' hS => ?_)) ?_
              rotate_left 1
              · obtain ⟨hE, hu⟩ := hS
                have c2 := hu.cell m hlt
                have b1 := lt8 (uf m)
                have c3 := hE.1.cell (256 + (uf m).toNat) (by have := (uf m).toNat_lt; omega)
                rw [ciF_back W _ _ (uf m).toNat_lt] at c3
                have e1 := E1.out
                have e2 := E2.out
                have e3 := E3.out
                have e4 := E4.out
                have e5 := E5.out
                have e6 := E6.out
                have e7 := E7.out
                have e8 := E8.out
                have a1 : 0 ≤ (ix : Int) := by omega
                have a2 : (ix : Int) < 16 := by omega
                clear hE hu
                go_simp
                rfl
              simp only [Act.put, List.setIfInBounds_toArray, List.set_cons_zero, List.set_cons_succ]
            refine Seq.last rfl fun w' hS => ?_
            obtain ⟨hE, hu⟩ := hS
            have c1 := hE.2.1.cell ix (by omega)
            have c3 := hE.2.1.frozen ix
            go_simp
            clear c1 c3
            rw [show bk boxF 256 (uf m).toNat = nf ix by
              rw [HNF.out]
              show _ = bk boxF 256 (uf ((ix + ix % 4 * 12) % 16)).toNat
              rw [show (ix + ix % 4 * 12) % 16 = m by have := HSX.out; omega]]
            have hE2 := (hE.setIn ix (nf ix)).congr (cur' := putX (m + 1) nf cur) (putX_succ m ix nf cur hlt HSX.out)
            have hu2 := hu.far (p := ⟨w.heap.size, ix, none⟩) (by simp; omega) (.int .u8 ((nf ix).toNat : Int))
            clear hE hu
            revert hE2 hu2
            generalize w'.setCell ⟨w.heap.size, ix, none⟩ (.int .u8 ((nf ix).toNat : Int)) = w5
            intro hE2 hu2
            go_wp2
            go_roundw
            case rel => exact ⟨m + 1, by omega, by go_num, hE2, hu2⟩
            case measure => simp [intOf]; omega
          · obtain rfl : m = 16 := by omega
            rw [show ((16 : Nat) : Int) = 16 from rfl]
            have hE5 := hE4.congr (cur' := nf) fun i _ => putX_all nf cur i
            clear hE4 hu4 hm hlt
            rw [show nf = decX R0 W b (n + 1) by rw [HNF.out, HUF.out, HTF.out, HCUR.out]; obtain rfl : n = 0 := (by have := HNT.out; omega); show _ = boxed (bk boxF 256) (unshifted (added b (rk W R0))); rw [show t = R0 by omega]; rfl] at hE5
            clear hb0 hb1
            go_wp2
            go_roundw
            case rel => exact ⟨n + 1, t - 1, by have := HNT.out; omega, by rw [show ((t - 1 : Nat) : Int) = (t : Int) - 1 by omega], hE5⟩
            case measure => simp [intOf]; omega
    · obtain rfl : t = 0 := by omega
      have hn : n = R0 := by omega
      rw [hn] at hE2
      clear hnt hn hlt
      go_wp2_with (refine wpList_load_Row rfl 32 _ rfl w.heap.size rfl 32 16 _ _ hE2.2.1 und16 size16 ?_)
      refine (put_0 W _ g M R _ (by have := HM.out; omega) hE2.1).mono ?_
      rintro e w2 ⟨rfl, hb2⟩
      have hE := hE2.below hb2
      clear hE2 hb2
      go_wp2_with (refine wpList_store_Row rfl 32 _ _ rfl (w.heap.size + 1) rfl 32 16 _ _ rfl hE.2.2.1 size16 ?_)
      refine ret_Row rfl rfl _ _ 16 _ _ rfl (hE.2.2.1.setRow _) und16 size16 ⟨?_, below_setRow8 hE.2.2.2.1 (by omega) _⟩
      rw [HFIN.out]
      obtain ⟨k, rfl⟩ : ∃ k, R0 = k + 1 := ⟨R0 - 1, by omega⟩
      rfl

end Go.Proofs.YtajifdnfibojfaaDoor
