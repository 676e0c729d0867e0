/- The document's Unwrap. -/
import Derived.Test.YtcpfiimbobijlaaDoorRWrap
namespace Go.Proofs.YtcpfiimbobijlaaDoor
open Go Go.RowKit
set_option maxRecDepth 100000

/-- What Unwrap leaves: m bytes in a block of its own, if A is what it was at the start. -/
def RUnwrapped (m : Nat) (A P : Nat → UInt8) (w : World) (e : Ending) (w' : World) : Prop :=
  Below w.heap.size w w' ∧ ((eqb 8 A (fun _ => 166) = true ∧ ∃ g cp, e = .returned (.tuple #[.slice (some ⟨g, 8, none⟩) m cp, .int .i64 0]) ∧ w.heap.size ≤ g ∧ (∀ j, j < m → w'.cell? ⟨g, 8 + j, none⟩ = some (.int .u8 ((P j).toNat : Int))) ∧ m ≤ cp) ∨
    (eqb 8 A (fun _ => 166) = false ∧ e = .returned (.tuple #[.slice none 0 0, .int .i64 5])))
theorem countF_both (A D : Nat → UInt8) (t : Nat) : countF (bothF A D) t = bothF (countF A t) D := by
  funext j
  show (if j = 7 then xr (if 7 < 8 then A 7 else D (7 - 8)) (UInt8.ofNat t) else if j < 8 then A j else D (j - 8)) = (if j < 8 then (if j = 7 then xr (A 7) (UInt8.ofNat t) else A j) else D (j - 8))
  by_cases h : j = 7
  · rw [if_pos h, if_pos (by omega), if_pos (by omega), if_pos h]
  · rw [if_neg h, if_neg h]
theorem eqb8_no {f : Nat → UInt8} (k : Nat) (hk : k < 8) (h : f k ≠ 166) : eqb 8 f (fun _ => 166) = false := by
  cases he : eqb 8 f (fun _ => 166) with
  | false => rfl
  | true => exact absurd (eqb_true.1 he k hk) h

set_option maxHeartbeats 8000000 in
theorem RUnwrap16 (key W dat : Nat → UInt8) (b off c b1 o1 m c1 : Nat) (w : World) (hkey : ∀ j, j < 16 → w.cell? ⟨b, off + j, none⟩ = some (.int .u8 ((key j).toNat : Int))) (hW : Sched boxF 4 key W)
    (hm1 : 16 ≤ m) (hm2 : m ≤ 128) (hm3 : m % 8 = 0) (hd : Bts w (some ⟨b1, o1, none⟩) (8 + m) c1 dat) :
    Calls Tryd.prog 21 #[.slice (some ⟨b, off, none⟩) 16 c, .slice (some ⟨b1, o1, none⟩) (8 + m) c1] w
      (RUnwrapped m (unR (dec (bk boxF 256) 10 W) m (6 * (m / 8)) dat (fun j => dat (8 + j)) (6 * (m / 8))).1 (unR (dec (bk boxF 256) 10 W) m (6 * (m / 8)) dat (fun j => dat (8 + j)) (6 * (m / 8))).2 w) := by
  obtain ⟨q, hq⟩ : ∃ q, q = m / 8 := ⟨_, rfl⟩
  have hmq : m = 8 * q := by omega
  have hq16 : q ≤ 16 := by omega
  have hqi : (8 + (m : Int)) / 8 = (q : Int) + 1 := by omega
  rw [← hq]
  obtain ⟨fA, hfA⟩ : ∃ fA : Nat → Nat → UInt8, fA = fun t => (unR (dec (bk boxF 256) 10 W) m (6 * q) dat (fun j => dat (8 + j)) t).1 := ⟨_, rfl⟩
  obtain ⟨fP, hfP⟩ : ∃ fP : Nat → Nat → UInt8, fP = fun t => (unR (dec (bk boxF 256) 10 W) m (6 * q) dat (fun j => dat (8 + j)) t).2 := ⟨_, rfl⟩
  rw [show (unR (dec (bk boxF 256) 10 W) m (6 * q) dat (fun j => dat (8 + j)) (6 * q)).1 = fA (6 * q) by rw [hfA], show (unR (dec (bk boxF 256) 10 W) m (6 * q) dat (fun j => dat (8 + j)) (6 * q)).2 = fP (6 * q) by rw [hfP]]
  have h0 : bothF (fA 0) (fP 0) = dat := by
    rw [hfA, hfP]; funext j
    show (if j < 8 then dat j else dat (8 + (j - 8))) = dat j
    by_cases h : j < 8
    · rw [if_pos h]
    · rw [if_neg h, show 8 + (j - 8) = j by omega]
  have hstep : ∀ d, fA (d + 1) = dec (bk boxF 256) 10 W (bothF (countF (fA d) (6 * q - d)) fun j => fP d ((6 * q - d - 1) * 8 % m + j)) ∧ fP (d + 1) = cpy ((6 * q - d - 1) * 8 % m) 8 (fP d) (fun j => dec (bk boxF 256) 10 W (bothF (countF (fA d) (6 * q - d)) fun j => fP d ((6 * q - d - 1) * 8 % m + j)) (8 + j)) := fun d => by rw [hfA, hfP]; exact ⟨rfl, rfl⟩
  have H0 := Lib.hid h0
  have HST := Lib.hid hstep
  have HQI := Lib.hid hqi
  have HMQ := Lib.hid hmq
  have hmq1 : 8 * q ≤ m := by omega
  have hmq2 : m ≤ 8 * q := by omega
  clear hfA hfP h0 hstep hqi hq hmq
  have e1 : decide (8 + (m : Int) < 24) = false := decide_eq_false (by omega)
  have e2 : decide (136 < 8 + (m : Int)) = false := decide_eq_false (by omega)
  have hm8a : (8 + (m : Int)) % 8 = 0 := by omega
  have hm8b : (m : Int) % 8 = 0 := by omega
  clear hm3
  go_enter Tryd.func21, Tryd.ntmps21
  go_wp2_with (fail)
  refine (New16 key W b off c w hkey hW).mono ?_
  rintro e w1 ⟨gc, rfl, hgc, hci, hb1⟩
  have hgl := hci.lt
  clear hkey hW
  go_upto_region 4 with (fail)
  rw [hm8a]
  clear hm8a hm8b
  iterate 7 go_step
  refine wpList_app rfl (.tmp 38) (.tmp 39) rfl w1.heap.size _ 0 (fun _ => 0) rfl (Own.new w1 _ (Nat.le_refl _) _) (some ⟨b1, o1, none⟩) (8 + m) c1 dat rfl ((hd.below hb1).alloc _) (by omega) (by simp) fun v1 w2 ho hb2 => ?_
  rw [both_zero, Nat.zero_add] at ho
  have hbw := hb2 w.heap.size hb1.size w (hb1.alloc hb1.size _)
  have hbc := hb2 w1.heap.size (Nat.le_refl _) w1 ((Below.refl _ _).alloc (Nat.le_refl _) _)
  obtain ⟨go, cp, rfl, hgo, hp, hcp, hcpm⟩ := ho.prow (by omega)
  have hsz1 := hb1.size
  have hS : WST w gc go m (4 * (4 * 4 + 28)) W (4 + 6) (bothF (fA 0) (fP 0)) w2 := ⟨hci.below hbc hgl, hp.congr fun i _ => by rw [H0.out], hbw, by omega, hgc, by omega⟩
  clear hci hbw hbc hb2 ho hp hd hb1
  obtain ⟨M, hM⟩ : ∃ M : Nat, M = (4 * (4 * 4 + 28)) := ⟨_, rfl⟩
  obtain ⟨R, hR⟩ : ∃ R : Int, R = 4 + 6 := ⟨_, rfl⟩
  rw [← hM, ← hR] at hS
  have HM := Lib.hid hM
  have HR := Lib.hid hR
  clear hM hR
  simp only [Act.put, List.setIfInBounds_toArray, List.set_cons_zero, List.set_cons_succ]
  have hqi := HQI.out
  go_wp2_with (fail)
  clear hqi
  go_loopw [10, 11, 12, 13, 48] (fun t_ _ _ _ s_ wr => ∃ s d t : Nat, s ≤ 6 ∧ d = s * q ∧ d + t = 6 * q ∧ s_ = .int .i64 s ∧ t_ = .int .u64 (t : Int) ∧ WST w gc go m M W R (bothF (fA d) (fP d)) wr) (fun _ _ _ _ s_ _ => 6 - (intOf s_).toNat)
  case atStart => exact ⟨0, 0, 6 * q, by omega, by omega, by omega, rfl, by first | rfl | go_num | simp, hS⟩
  case round =>
    obtain ⟨s, d0, t0, hs, hd0, ht0, rfl, rfl, hS1⟩ := hrel
    clear hS
    by_cases hls : s < 6
    · have hds : decide ((s : Int) < 6) = true := decide_eq_true (by omega)
      have HD0 := Lib.hid hd0
      have HT0 := Lib.hid ht0
      clear hd0 ht0
      go_wp2_with (fail)
      go_loopw [10, 11, 12, 13] (fun t_ i_ _ _ wr => ∃ i k d t : Nat, k + i = q ∧ d = s * q + k ∧ d + t = 6 * q ∧ i_ = .int .i64 (i : Int) ∧ t_ = .int .u64 (t : Int) ∧ WST w gc go m M W R (bothF (fA d) (fP d)) wr) (fun _ i_ _ _ _ => (intOf i_).toNat)
      case atStart => exact ⟨q, 0, d0, t0, by omega, by have := HD0.out; omega, HT0.out, rfl, rfl, hS1⟩
      case round =>
        obtain ⟨i, k, d, t, hki, hd, ht, rfl, rfl, hS⟩ := hrel
        clear hS1
        by_cases hli : 1 ≤ i
        · have hdk : decide (1 ≤ (i : Int)) = true := decide_eq_true (by omega)
          have htq : t = (5 - s) * q + i := by
            obtain ⟨r, hr⟩ : ∃ r, 6 = s + r + 1 := ⟨5 - s, by omega⟩
            have h1 : 6 * q = s * q + r * q + q := by
              rw [hr]; rw [Nat.add_mul, Nat.add_mul, Nat.one_mul]
            rw [show 5 - s = r by omega]
            omega
          have hsq : (5 - s) * q ≤ 5 * q := Nat.mul_le_mul_right q (by omega)
          have ht96 : t ≤ 96 := by omega
          have ht1 : 1 ≤ t := by omega
          have HAT := Lib.hid (show (t - 1) * 8 % m = 8 * (i - 1) by
            rw [htq, show (5 - s) * q + i - 1 = (5 - s) * q + (i - 1) by omega]; exact at_eq (5 - s) q (i - 1) m HMQ.out (by omega))
          have HKI := Lib.hid hki
          have HD := Lib.hid hd
          have HT := Lib.hid ht
          have hiq : i ≤ q := by omega
          clear htq hsq hki hd ht
          obtain ⟨x, hx⟩ : ∃ x, x = 8 * i := ⟨_, rfl⟩
          have hxm : x + 8 ≤ 8 + m := by omega
          have hx1 : IntKind.i64.wrap (8 * (i : Int)) = (x : Int) := by rw [IntWalk.i64_in _ (by omega)]; omega
          have hx2 : IntKind.i64.wrap ((x : Int) + 8) = (x : Int) + 8 := IntWalk.i64_in _ (by omega)
          have HX1 := Lib.hid hx1
          have HX2 := Lib.hid hx2
          have HX := Lib.hid hx
          clear hx1 hx2 hx
          go_upto_region 13 with (fail)
          rw [zero16]
          have hb0 := Row.new wr 23 16 (fun _ => 0)
          have hS2 := hS.alloc (.cells (row 16 fun _ => 0) 23)
          have hgb1 : wr.heap.size ≠ gc := by have := hS.1.lt; omega
          have hgb2 : wr.heap.size ≠ go := by have := hS.2.1.lt; omega
          have hgb3 : w.heap.size ≤ wr.heap.size := hS.2.2.1.size
          clear hS
          revert hS2 hb0
          generalize wr.alloc (.cells (row 16 fun _ => 0) 23) = w4
          generalize wr.heap.size = gb at *
          intro hb0 hS
          obtain ⟨X, hX⟩ : ∃ X, X = bothF (fA d) (fP d) := ⟨_, rfl⟩
          rw [← hX] at hS
          have HXX := Lib.hid hX
          clear hX
          obtain ⟨inp, hinp⟩ : ∃ inp, inp = bothF X fun j => X (x + j) := ⟨_, rfl⟩
          have HINP := Lib.hid hinp
          clear hinp
          refine region_seq (fun w' => WST w gc go m M W R X w' ∧ Row w' gb 23 16 (fun _ => 0)) mixedOrders (by kernel_rfl) (by simp) ⟨hS.drew, hb0.drew⟩ ?_
          clear hS hb0
          iterate 3
            refine Seq.next ?_ (Sure.val rfl (fun w' hS => ?_)) ?_
            rotate_left 1
            · clear hS
              have a1 : (8 : Int) ≤ (cp : Int) := by omega
              go_simp
              rfl
            simp only [Act.put, List.setIfInBounds_toArray, List.set_cons_zero, List.set_cons_succ]
          refine Seq.copy_Row rfl _ _ 22 22 rfl 5 undB size8 gb 0 16 16 ⟨go, 0, none⟩ 8 cp rfl rfl 23 16 (fun _ => 0) (fun w' hS => hS.2) 8 X (by decide) (fun w' hS j hj => by rw [Addr.add_mid, Nat.zero_add]; exact hS.1.2.1.cell j (by omega)) (by omega) fun w' hS => ?_
          have hS2 := hS.1.setRow (k := gb) hgb1 hgb2 hgb3 (row 16 (cpy 0 8 (fun _ => 0) X))
          have hb1 := hS.2.setRow (cpy 0 8 (fun _ => 0) X)
          clear hS
          revert hS2 hb1
          generalize w'.setRow gb (row 16 (cpy 0 8 (fun _ => 0) X)) = w5
          intro hS hb0
          simp only [Act.put, List.setIfInBounds_toArray, List.set_cons_zero, List.set_cons_succ]
          go_wp2_with (fail)
          refine region_seq (fun w' => WST w gc go m M W R X w' ∧ Row w' gb 23 16 (cpy 0 8 (fun _ => 0) X)) mixedOrders (by kernel_rfl) (by simp) ⟨hS.drew, hb0.drew⟩ ?_
          clear hS hb0
          iterate 8
            refine Seq.next ?_ (Sure.val rfl (fun w' hS => ?_)) ?_
            rotate_left 1
            · clear hS
              have a1 := HX1.out
              have a2 := HX2.out
              have a3 : 0 ≤ (x : Int) := by omega
              have a4 : (x : Int) ≤ (x : Int) + 8 := by omega
              have a5 : (x : Int) + 8 ≤ (cp : Int) := by omega
              have a6 : ((x : Int) + 8).toNat = x + 8 := by omega
              have a7 : 0 ≤ (x : Int) + 8 := by omega
              have a8 : ¬ cp = x := by omega
              go_simp
              rfl
            simp only [Act.put, List.setIfInBounds_toArray, List.set_cons_zero, List.set_cons_succ]
          refine Seq.copy_Row rfl _ _ 22 22 rfl 5 undB size8 gb 8 8 8 ⟨go, x, none⟩ 8 (cp - x) rfl rfl 23 16 (cpy 0 8 (fun _ => 0) X) (fun w' hS => hS.2) 8 (fun j => X (x + j)) (by decide) (fun w' hS j hj => by rw [Addr.add_mid]; exact hS.1.2.1.cell (x + j) (by omega)) (by omega) fun w' hS => ?_
          have hS2 := hS.1.setRow (k := gb) hgb1 hgb2 hgb3 (row 16 (cpy 8 8 (cpy 0 8 (fun _ => 0) X) fun j => X (x + j)))
          have hb1 := (hS.2.setRow (cpy 8 8 (cpy 0 8 (fun _ => 0) X) fun j => X (x + j))).congr (f' := inp) (fun i hi => by rw [HINP.out]; exact both_cpy X (fun j => X (x + j)) i hi)
          clear hS
          revert hS2 hb1
          generalize w'.setRow gb (row 16 (cpy 8 8 (cpy 0 8 (fun _ => 0) X) fun j => X (x + j))) = w6
          intro hS hb0
          simp only [Act.put, List.setIfInBounds_toArray, List.set_cons_zero, List.set_cons_succ]
          try rw [show goInt ((8 : Nat) : Int) = .int .i64 8 from rfl]
          go_wp2_with (fail)
          go_loopw [13, 68] (fun _ k_ wr => ∃ kk : Nat, kk ≤ 8 ∧ k_ = .int .i64 kk ∧ WST w gc go m M W R X wr ∧ Row wr gb 23 16 (upto kk (countF inp t) inp)) (fun _ k_ _ => 8 - (intOf k_).toNat)
          case atStart => exact ⟨0, by omega, rfl, hS, by rw [upto_zero]; exact hb0⟩
          case round =>
            obtain ⟨kk, hkk, rfl, hS2, hb2⟩ := hrel
            clear hS hb0
            by_cases hlk : kk < 8
            · obtain ⟨z, hz⟩ : ∃ z, z = 8 * kk := ⟨_, rfl⟩
              obtain ⟨y, hy⟩ : ∃ y, y = 56 - 8 * kk := ⟨_, rfl⟩
              have z1 : IntKind.i64.wrap (8 * (kk : Int)) = (z : Int) := by rw [IntWalk.i64_in _ (by omega)]; omega
              have z2 : IntKind.i64.wrap (56 - (z : Int)) = (y : Int) := by rw [IntWalk.i64_in _ (by omega)]; omega
              have z3 : (t : Int) / 2 ^ y = ((cnt t kk).toNat : Int) := by rw [hy]; exact cnt_int t kk (by omega) hlk
              have z4 := cnt_wrap t kk
              have hy64 : y ≤ 56 := by omega
              have Z1 := Lib.hid z1
              have Z2 := Lib.hid z2
              have Z3 := Lib.hid z3
              have Z4 := Lib.hid z4
              clear z1 z2 z3 z4 hz hy
              go_wp2
              refine region_seq (fun w' => WST w gc go m M W R X w' ∧ Row w' gb 23 16 (upto kk (countF inp t) inp)) mixedOrders (by kernel_rfl) (by simp) ⟨hS2.drew, hb2.drew⟩ ?_
              clear hS2 hb2
              iterate 12
                refine Seq.next ?_ (Sure.val rfl (fun w' hS => ?_)) ?_
                rotate_left 1
                · have c1 := hS.2.cell kk (by omega)
                  rw [upto_at] at c1
                  clear hS
                  have z1 := Z1.out
                  have z2 := Z2.out
                  have z3 := Z3.out
                  have z4 := Z4.out
                  have a1 : 0 ≤ (y : Int) := by omega
                  have a2 : (y : Int) ≤ 64 := by omega
                  have a3 : (kk : Int) < 16 := by omega
                  go_simp
                  rfl
                simp only [Act.put, List.setIfInBounds_toArray, List.set_cons_zero, List.set_cons_succ, xor8]
              refine Seq.last rfl fun w' hS => ?_
              have c1 := hS.2.cell kk (by omega)
              have c3 := hS.2.frozen kk
              go_simp
              clear c1 c3
              rw [show xr (inp kk) (cnt t kk) = countF inp t kk from cnt_xr inp t kk]
              have hS3 := hS.1.setCell (k := gb) hgb1 hgb2 hgb3 kk (.int .u8 ((countF inp t kk).toNat : Int))
              have hb3 : Row (w'.setCell ⟨gb, kk, none⟩ (.int .u8 ((countF inp t kk).toNat : Int))) gb 23 16 (upto (kk + 1) (countF inp t) inp) := by rw [← upto_succ]; exact hS.2.set_ kk (countF inp t kk)
              clear hS
              revert hS3 hb3
              generalize w'.setCell ⟨gb, kk, none⟩ (.int .u8 ((countF inp t kk).toNat : Int)) = w7
              intro hS3 hb3
              go_wp2
              go_roundw
              case rel => exact ⟨kk + 1, by omega, by go_num, hS3, hb3⟩
              case measure => simp [intOf]; omega
            · obtain rfl : kk = 8 := by omega
              rw [show ((8 : Nat) : Int) = 8 from rfl]
              have hb4 : Row wr gb 23 16 (countF inp t) := hb2.congr fun i hi => by
                show (if i < 8 then countF inp t i else inp i) = countF inp t i
                by_cases h : i < 8
                · rw [if_pos h]
                · rw [if_neg h]; unfold countF; rw [if_neg (by omega)]
              clear hb2 hkk hlk
              have hS := hS2
              have hb0 := hb4
              clear hS2 hb4
              obtain ⟨C1, hC1⟩ : ∃ C1, C1 = countF inp t := ⟨_, rfl⟩
              rw [← hC1] at hb0
              have HC1 := Lib.hid hC1
              clear hC1
              go_wp2_with (refine wpList_load_Row rfl 23 _ rfl gb rfl 23 16 C1 _ hb0 und16 size16 ?_)
              have hc := Cipher_dec W C1 gc M 10 R _ (by rw [HR.out]; rfl) (by omega) (by omega) (by have := HM.out; omega) hS.1
              obtain ⟨C, hC⟩ : ∃ C, C = dec (bk boxF 256) 10 W C1 := ⟨_, rfl⟩
              rw [← hC] at hc
              have HC := Lib.hid hC
              clear hC
              refine hc.mono ?_
              rintro e w7 ⟨rfl, hb7⟩
              have hS2 := hS.below hb7
              have hb2 := hb0.below hb7 hb0.lt
              clear hS hb0 hb7 hc
              go_upto_region 22 with (refine wpList_store_Row rfl 23 _ _ rfl gb rfl 23 16 C1 _ rfl hb2 size16 ?_)
              have hS := hS2.setRow (k := gb) hgb1 hgb2 hgb3 (row 16 C)
              have hb0 := hb2.setRow C
              clear hS2 hb2
              revert hS hb0
              generalize w7.setRow gb (row 16 C) = w8
              intro hS hb0
              refine region_seq (fun w' => WST w gc go m M W R X w' ∧ Row w' gb 23 16 C) mixedOrders (by kernel_rfl) (by simp) ⟨hS.drew, hb0.drew⟩ ?_
              clear hS hb0
              iterate 3
                refine Seq.next ?_ (Sure.val rfl (fun w' hS => ?_)) ?_
                rotate_left 1
                · clear hS
                  have a1 : (8 : Int) ≤ (cp : Int) := by omega
                  go_simp
                  rfl
                simp only [Act.put, List.setIfInBounds_toArray, List.set_cons_zero, List.set_cons_succ]
              refine Seq.copy_P rfl _ _ 22 22 rfl 5 undB size8 go 0 8 cp ⟨gb, 0, none⟩ 8 16 rfl rfl 5 (8 + m) X (fun w' hS => hS.1.2.1) 8 C (by decide) (fun w' hS j hj => by rw [Addr.add_mid, Nat.zero_add]; exact hS.2.cell j (by omega)) (by omega) fun w' hS cs hp => ?_
              have hS2 := hS.1.put cs hp
              have hb1 := hS.2.setRow_far (k := go) (by omega) cs
              clear hS hp
              revert hS2 hb1
              generalize w'.setRow go cs = w8
              intro hS hb0
              simp only [Act.put, List.setIfInBounds_toArray, List.set_cons_zero, List.set_cons_succ]
              go_wp2_with (fail)
              refine region_seq (fun w' => WST w gc go m M W R (cpy 0 8 X C) w' ∧ Row w' gb 23 16 C) mixedOrders (by kernel_rfl) (by simp) ⟨hS.drew, hb0.drew⟩ ?_
              clear hS hb0
              iterate 5
                refine Seq.next ?_ (Sure.val rfl (fun w' hS => ?_)) ?_
                rotate_left 1
                · clear hS
                  have a1 := HX1.out
                  have a3 : 0 ≤ (x : Int) := by omega
                  have a4 : (x : Int) ≤ 8 + (m : Int) := by omega
                  have a5 : (x : Int) ≤ (cp : Int) := by omega
                  have a8 : ¬ cp = x := by omega
                  go_simp
                  rfl
                simp only [Act.put, List.setIfInBounds_toArray, List.set_cons_zero, List.set_cons_succ]
              refine Seq.copy_P rfl _ _ 22 22 rfl 5 undB size8 go x (8 + m - x) (cp - x) ⟨gb, 8, none⟩ 8 8 rfl rfl 5 (8 + m) (cpy 0 8 X C) (fun w' hS => hS.1.2.1) 8 (fun j => C (8 + j)) (by have : Nat.min 8 (8 + m - x) = 8 := Nat.min_eq_left (by omega); omega) (fun w' hS j hj => by rw [Addr.add_mid]; exact hS.2.cell (8 + j) (by omega)) (by omega) fun w' hS cs hp => ?_
              have hS2 := hS.1.put cs hp
              clear hS hp
              revert hS2
              generalize w'.setRow go cs = w9
              intro hS
              simp only [Act.put, List.setIfInBounds_toArray, List.set_cons_zero, List.set_cons_succ]
              try rw [show goInt ((8 : Nat) : Int) = .int .i64 8 from rfl]
              have hfin := hS.congr (X' := bothF (fA (d + 1)) (fP (d + 1))) fun l _ => by
                have h1 := HST.out d
                rw [show 6 * q - d = t by have := HT.out; omega, HAT.out] at h1
                have h2 : C1 = bothF (countF (fA d) t) fun j => fP d (8 * (i - 1) + j) := by
                  rw [HC1.out, HINP.out, countF_both, HXX.out, countF_both]
                  funext j
                  show (if j < 8 then (if j < 8 then countF (fA d) t j else fP d (j - 8)) else (if x + (j - 8) < 8 then fA d (x + (j - 8)) else fP d (x + (j - 8) - 8))) = (if j < 8 then countF (fA d) t j else fP d (8 * (i - 1) + (j - 8)))
                  by_cases hj : j < 8
                  · rw [if_pos hj, if_pos hj, if_pos hj]
                  · rw [if_neg hj, if_neg hj, if_neg (by have := HX.out; omega), show x + (j - 8) - 8 = 8 * (i - 1) + (j - 8) by have := HX.out; omega]
                rw [← h2, ← HC.out] at h1
                rw [h1.1, h1.2, HXX.out]
                rw [show x = 8 + 8 * (i - 1) by have := HX.out; omega]
                exact wrap_step C C (fA d) (fP d) (8 * (i - 1)) l
              have HFIN := Lib.hid hfin
              clear hS hfin hdk
              go_wp2_with (fail)
              go_roundw
              case rel => exact ⟨i - 1, k + 1, d + 1, t - 1, by have := HKI.out; omega, by have := HD.out; omega, by have := HT.out; omega, by rw [show ((i - 1 : Nat) : Int) = (i : Int) - 1 by omega], by rw [show ((t - 1 : Nat) : Int) = (t : Int) - 1 by omega], HFIN.out⟩
              case measure => simp [intOf]; omega
        · obtain rfl : i = 0 := by omega
          have HKI := Lib.hid hki
          have HD := Lib.hid hd
          have HT := Lib.hid ht
          clear hki hd ht
          go_wp2
          go_roundw
          case rel => exact ⟨s + 1, d, t, by omega, by rw [HD.out, Nat.succ_mul]; have := HKI.out; omega, HT.out, by go_num, rfl, hS⟩
          case measure => simp [intOf]; omega
    · obtain rfl : s = 6 := by omega
      have h6 : d0 = 6 * q := hd0
      subst h6
      obtain rfl : t0 = 0 := by omega
      clear hls ht0
      have hp := hS1.2.1
      have hbel := hS1.2.2.1
      clear hS1
      obtain ⟨A, hA⟩ : ∃ A, A = fA (6 * q) := ⟨_, rfl⟩
      obtain ⟨P, hP⟩ : ∃ P, P = fP (6 * q) := ⟨_, rfl⟩
      rw [← hA, ← hP] at hp
      have HA := Lib.hid hA
      have HPP := Lib.hid hP
      clear hA hP
      go_wp2_with (fail)
      go_loopw [14, 100] (fun _ i_ wr => ∃ kk : Nat, kk ≤ 8 ∧ i_ = .int .i64 kk ∧ Hid (∀ j, j < kk → A j = 166) ∧ PRow wr go 5 (8 + m) (bothF A P) ∧ Below w.heap.size w wr) (fun _ i_ _ => 8 - (intOf i_).toNat)
      case atStart => exact ⟨0, by omega, rfl, Lib.hid fun j hj => absurd hj (by omega), hp, hbel⟩
      case round =>
        obtain ⟨kk, hkk, rfl, hall, hp2, hb2⟩ := hrel
        clear hp hbel
        by_cases hlk : kk < 8
        · have hcell := hp2.cell kk (by omega)
          rw [show bothF A P kk = A kk from if_pos hlk] at hcell
          by_cases h : A kk = 166
          · have hb : (((A kk).toNat : Int) != 166) = false := by rw [h]; rfl
            have HH := Lib.hid h
            clear h
            go_wp2
            go_roundw
            case rel => exact ⟨kk + 1, by omega, by go_num, Lib.hid fun j hj => (by
              by_cases e : j = kk
              · rw [e]; exact HH.out
              · exact hall.out j (by omega)), hp2, hb2⟩
            case measure => simp [intOf]; omega
          · have hb : (((A kk).toNat : Int) != 166) = true := by
              rw [bne_iff_ne]
              intro e
              exact h (UInt8.toNat_inj.1 (by have : (166 : UInt8).toNat = 166 := rfl; omega))
            have HH := Lib.hid h
            clear h
            go_wp2
            go_ret2
            refine ⟨hb2, .inr ⟨?_, rfl⟩⟩
            rw [← HA.out]
            exact eqb8_no kk hlk HH.out
        · obtain rfl : kk = 8 := by omega
          have ha8 : ¬ cp = 8 := by omega
          have ha9 : 8 ≤ cp := by omega
          have ha10 : 8 + m - 8 = m := by omega
          go_wp2
          go_ret2
          refine ⟨hb2, .inl ⟨?_, go, cp - 8, ?_, by omega, fun j hj => ?_, by omega⟩⟩
          · rw [← HA.out]
            exact eqb_true.2 hall.out
          · rfl
          · rw [hp2.cell (8 + j) (by omega), ← HPP.out]
            unfold bothF
            rw [if_neg (by omega), Nat.add_sub_cancel_left]

set_option maxHeartbeats 8000000 in
theorem RUnwrap32 (key W dat : Nat → UInt8) (b off c b1 o1 m c1 : Nat) (w : World) (hkey : ∀ j, j < 32 → w.cell? ⟨b, off + j, none⟩ = some (.int .u8 ((key j).toNat : Int))) (hW : Sched boxF 8 key W)
    (hm1 : 16 ≤ m) (hm2 : m ≤ 128) (hm3 : m % 8 = 0) (hd : Bts w (some ⟨b1, o1, none⟩) (8 + m) c1 dat) :
    Calls Tryd.prog 21 #[.slice (some ⟨b, off, none⟩) 32 c, .slice (some ⟨b1, o1, none⟩) (8 + m) c1] w
      (RUnwrapped m (unR (dec (bk boxF 256) 14 W) m (6 * (m / 8)) dat (fun j => dat (8 + j)) (6 * (m / 8))).1 (unR (dec (bk boxF 256) 14 W) m (6 * (m / 8)) dat (fun j => dat (8 + j)) (6 * (m / 8))).2 w) := by
  obtain ⟨q, hq⟩ : ∃ q, q = m / 8 := ⟨_, rfl⟩
  have hmq : m = 8 * q := by omega
  have hq16 : q ≤ 16 := by omega
  have hqi : (8 + (m : Int)) / 8 = (q : Int) + 1 := by omega
  rw [← hq]
  obtain ⟨fA, hfA⟩ : ∃ fA : Nat → Nat → UInt8, fA = fun t => (unR (dec (bk boxF 256) 14 W) m (6 * q) dat (fun j => dat (8 + j)) t).1 := ⟨_, rfl⟩
  obtain ⟨fP, hfP⟩ : ∃ fP : Nat → Nat → UInt8, fP = fun t => (unR (dec (bk boxF 256) 14 W) m (6 * q) dat (fun j => dat (8 + j)) t).2 := ⟨_, rfl⟩
  rw [show (unR (dec (bk boxF 256) 14 W) m (6 * q) dat (fun j => dat (8 + j)) (6 * q)).1 = fA (6 * q) by rw [hfA], show (unR (dec (bk boxF 256) 14 W) m (6 * q) dat (fun j => dat (8 + j)) (6 * q)).2 = fP (6 * q) by rw [hfP]]
  have h0 : bothF (fA 0) (fP 0) = dat := by
    rw [hfA, hfP]; funext j
    show (if j < 8 then dat j else dat (8 + (j - 8))) = dat j
    by_cases h : j < 8
    · rw [if_pos h]
    · rw [if_neg h, show 8 + (j - 8) = j by omega]
  have hstep : ∀ d, fA (d + 1) = dec (bk boxF 256) 14 W (bothF (countF (fA d) (6 * q - d)) fun j => fP d ((6 * q - d - 1) * 8 % m + j)) ∧ fP (d + 1) = cpy ((6 * q - d - 1) * 8 % m) 8 (fP d) (fun j => dec (bk boxF 256) 14 W (bothF (countF (fA d) (6 * q - d)) fun j => fP d ((6 * q - d - 1) * 8 % m + j)) (8 + j)) := fun d => by rw [hfA, hfP]; exact ⟨rfl, rfl⟩
  have H0 := Lib.hid h0
  have HST := Lib.hid hstep
  have HQI := Lib.hid hqi
  have HMQ := Lib.hid hmq
  have hmq1 : 8 * q ≤ m := by omega
  have hmq2 : m ≤ 8 * q := by omega
  clear hfA hfP h0 hstep hqi hq hmq
  have e1 : decide (8 + (m : Int) < 24) = false := decide_eq_false (by omega)
  have e2 : decide (136 < 8 + (m : Int)) = false := decide_eq_false (by omega)
  have hm8a : (8 + (m : Int)) % 8 = 0 := by omega
  have hm8b : (m : Int) % 8 = 0 := by omega
  clear hm3
  go_enter Tryd.func21, Tryd.ntmps21
  go_wp2_with (fail)
  refine (New32 key W b off c w hkey hW).mono ?_
  rintro e w1 ⟨gc, rfl, hgc, hci, hb1⟩
  have hgl := hci.lt
  clear hkey hW
  go_upto_region 4 with (fail)
  rw [hm8a]
  clear hm8a hm8b
  iterate 7 go_step
  refine wpList_app rfl (.tmp 38) (.tmp 39) rfl w1.heap.size _ 0 (fun _ => 0) rfl (Own.new w1 _ (Nat.le_refl _) _) (some ⟨b1, o1, none⟩) (8 + m) c1 dat rfl ((hd.below hb1).alloc _) (by omega) (by simp) fun v1 w2 ho hb2 => ?_
  rw [both_zero, Nat.zero_add] at ho
  have hbw := hb2 w.heap.size hb1.size w (hb1.alloc hb1.size _)
  have hbc := hb2 w1.heap.size (Nat.le_refl _) w1 ((Below.refl _ _).alloc (Nat.le_refl _) _)
  obtain ⟨go, cp, rfl, hgo, hp, hcp, hcpm⟩ := ho.prow (by omega)
  have hsz1 := hb1.size
  have hS : WST w gc go m (4 * (4 * 8 + 28)) W (8 + 6) (bothF (fA 0) (fP 0)) w2 := ⟨hci.below hbc hgl, hp.congr fun i _ => by rw [H0.out], hbw, by omega, hgc, by omega⟩
  clear hci hbw hbc hb2 ho hp hd hb1
  obtain ⟨M, hM⟩ : ∃ M : Nat, M = (4 * (4 * 8 + 28)) := ⟨_, rfl⟩
  obtain ⟨R, hR⟩ : ∃ R : Int, R = 8 + 6 := ⟨_, rfl⟩
  rw [← hM, ← hR] at hS
  have HM := Lib.hid hM
  have HR := Lib.hid hR
  clear hM hR
  simp only [Act.put, List.setIfInBounds_toArray, List.set_cons_zero, List.set_cons_succ]
  have hqi := HQI.out
  go_wp2_with (fail)
  clear hqi
  go_loopw [10, 11, 12, 13, 48] (fun t_ _ _ _ s_ wr => ∃ s d t : Nat, s ≤ 6 ∧ d = s * q ∧ d + t = 6 * q ∧ s_ = .int .i64 s ∧ t_ = .int .u64 (t : Int) ∧ WST w gc go m M W R (bothF (fA d) (fP d)) wr) (fun _ _ _ _ s_ _ => 6 - (intOf s_).toNat)
  case atStart => exact ⟨0, 0, 6 * q, by omega, by omega, by omega, rfl, by first | rfl | go_num | simp, hS⟩
  case round =>
    obtain ⟨s, d0, t0, hs, hd0, ht0, rfl, rfl, hS1⟩ := hrel
    clear hS
    by_cases hls : s < 6
    · have hds : decide ((s : Int) < 6) = true := decide_eq_true (by omega)
      have HD0 := Lib.hid hd0
      have HT0 := Lib.hid ht0
      clear hd0 ht0
      go_wp2_with (fail)
      go_loopw [10, 11, 12, 13] (fun t_ i_ _ _ wr => ∃ i k d t : Nat, k + i = q ∧ d = s * q + k ∧ d + t = 6 * q ∧ i_ = .int .i64 (i : Int) ∧ t_ = .int .u64 (t : Int) ∧ WST w gc go m M W R (bothF (fA d) (fP d)) wr) (fun _ i_ _ _ _ => (intOf i_).toNat)
      case atStart => exact ⟨q, 0, d0, t0, by omega, by have := HD0.out; omega, HT0.out, rfl, rfl, hS1⟩
      case round =>
        obtain ⟨i, k, d, t, hki, hd, ht, rfl, rfl, hS⟩ := hrel
        clear hS1
        by_cases hli : 1 ≤ i
        · have hdk : decide (1 ≤ (i : Int)) = true := decide_eq_true (by omega)
          have htq : t = (5 - s) * q + i := by
            obtain ⟨r, hr⟩ : ∃ r, 6 = s + r + 1 := ⟨5 - s, by omega⟩
            have h1 : 6 * q = s * q + r * q + q := by
              rw [hr]; rw [Nat.add_mul, Nat.add_mul, Nat.one_mul]
            rw [show 5 - s = r by omega]
            omega
          have hsq : (5 - s) * q ≤ 5 * q := Nat.mul_le_mul_right q (by omega)
          have ht96 : t ≤ 96 := by omega
          have ht1 : 1 ≤ t := by omega
          have HAT := Lib.hid (show (t - 1) * 8 % m = 8 * (i - 1) by
            rw [htq, show (5 - s) * q + i - 1 = (5 - s) * q + (i - 1) by omega]; exact at_eq (5 - s) q (i - 1) m HMQ.out (by omega))
          have HKI := Lib.hid hki
          have HD := Lib.hid hd
          have HT := Lib.hid ht
          have hiq : i ≤ q := by omega
          clear htq hsq hki hd ht
          obtain ⟨x, hx⟩ : ∃ x, x = 8 * i := ⟨_, rfl⟩
          have hxm : x + 8 ≤ 8 + m := by omega
          have hx1 : IntKind.i64.wrap (8 * (i : Int)) = (x : Int) := by rw [IntWalk.i64_in _ (by omega)]; omega
          have hx2 : IntKind.i64.wrap ((x : Int) + 8) = (x : Int) + 8 := IntWalk.i64_in _ (by omega)
          have HX1 := Lib.hid hx1
          have HX2 := Lib.hid hx2
          have HX := Lib.hid hx
          clear hx1 hx2 hx
          go_upto_region 13 with (fail)
          rw [zero16]
          have hb0 := Row.new wr 23 16 (fun _ => 0)
          have hS2 := hS.alloc (.cells (row 16 fun _ => 0) 23)
          have hgb1 : wr.heap.size ≠ gc := by have := hS.1.lt; omega
          have hgb2 : wr.heap.size ≠ go := by have := hS.2.1.lt; omega
          have hgb3 : w.heap.size ≤ wr.heap.size := hS.2.2.1.size
          clear hS
          revert hS2 hb0
          generalize wr.alloc (.cells (row 16 fun _ => 0) 23) = w4
          generalize wr.heap.size = gb at *
          intro hb0 hS
          obtain ⟨X, hX⟩ : ∃ X, X = bothF (fA d) (fP d) := ⟨_, rfl⟩
          rw [← hX] at hS
          have HXX := Lib.hid hX
          clear hX
          obtain ⟨inp, hinp⟩ : ∃ inp, inp = bothF X fun j => X (x + j) := ⟨_, rfl⟩
          have HINP := Lib.hid hinp
          clear hinp
          refine region_seq (fun w' => WST w gc go m M W R X w' ∧ Row w' gb 23 16 (fun _ => 0)) mixedOrders (by kernel_rfl) (by simp) ⟨hS.drew, hb0.drew⟩ ?_
          clear hS hb0
          iterate 3
            refine Seq.next ?_ (Sure.val rfl (fun w' hS => ?_)) ?_
            rotate_left 1
            · clear hS
              have a1 : (8 : Int) ≤ (cp : Int) := by omega
              go_simp
              rfl
            simp only [Act.put, List.setIfInBounds_toArray, List.set_cons_zero, List.set_cons_succ]
          refine Seq.copy_Row rfl _ _ 22 22 rfl 5 undB size8 gb 0 16 16 ⟨go, 0, none⟩ 8 cp rfl rfl 23 16 (fun _ => 0) (fun w' hS => hS.2) 8 X (by decide) (fun w' hS j hj => by rw [Addr.add_mid, Nat.zero_add]; exact hS.1.2.1.cell j (by omega)) (by omega) fun w' hS => ?_
          have hS2 := hS.1.setRow (k := gb) hgb1 hgb2 hgb3 (row 16 (cpy 0 8 (fun _ => 0) X))
          have hb1 := hS.2.setRow (cpy 0 8 (fun _ => 0) X)
          clear hS
          revert hS2 hb1
          generalize w'.setRow gb (row 16 (cpy 0 8 (fun _ => 0) X)) = w5
          intro hS hb0
          simp only [Act.put, List.setIfInBounds_toArray, List.set_cons_zero, List.set_cons_succ]
          go_wp2_with (fail)
          refine region_seq (fun w' => WST w gc go m M W R X w' ∧ Row w' gb 23 16 (cpy 0 8 (fun _ => 0) X)) mixedOrders (by kernel_rfl) (by simp) ⟨hS.drew, hb0.drew⟩ ?_
          clear hS hb0
          iterate 8
            refine Seq.next ?_ (Sure.val rfl (fun w' hS => ?_)) ?_
            rotate_left 1
            · clear hS
              have a1 := HX1.out
              have a2 := HX2.out
              have a3 : 0 ≤ (x : Int) := by omega
              have a4 : (x : Int) ≤ (x : Int) + 8 := by omega
              have a5 : (x : Int) + 8 ≤ (cp : Int) := by omega
              have a6 : ((x : Int) + 8).toNat = x + 8 := by omega
              have a7 : 0 ≤ (x : Int) + 8 := by omega
              have a8 : ¬ cp = x := by omega
              go_simp
              rfl
            simp only [Act.put, List.setIfInBounds_toArray, List.set_cons_zero, List.set_cons_succ]
          refine Seq.copy_Row rfl _ _ 22 22 rfl 5 undB size8 gb 8 8 8 ⟨go, x, none⟩ 8 (cp - x) rfl rfl 23 16 (cpy 0 8 (fun _ => 0) X) (fun w' hS => hS.2) 8 (fun j => X (x + j)) (by decide) (fun w' hS j hj => by rw [Addr.add_mid]; exact hS.1.2.1.cell (x + j) (by omega)) (by omega) fun w' hS => ?_
          have hS2 := hS.1.setRow (k := gb) hgb1 hgb2 hgb3 (row 16 (cpy 8 8 (cpy 0 8 (fun _ => 0) X) fun j => X (x + j)))
          have hb1 := (hS.2.setRow (cpy 8 8 (cpy 0 8 (fun _ => 0) X) fun j => X (x + j))).congr (f' := inp) (fun i hi => by rw [HINP.out]; exact both_cpy X (fun j => X (x + j)) i hi)
          clear hS
          revert hS2 hb1
          generalize w'.setRow gb (row 16 (cpy 8 8 (cpy 0 8 (fun _ => 0) X) fun j => X (x + j))) = w6
          intro hS hb0
          simp only [Act.put, List.setIfInBounds_toArray, List.set_cons_zero, List.set_cons_succ]
          try rw [show goInt ((8 : Nat) : Int) = .int .i64 8 from rfl]
          go_wp2_with (fail)
          go_loopw [13, 68] (fun _ k_ wr => ∃ kk : Nat, kk ≤ 8 ∧ k_ = .int .i64 kk ∧ WST w gc go m M W R X wr ∧ Row wr gb 23 16 (upto kk (countF inp t) inp)) (fun _ k_ _ => 8 - (intOf k_).toNat)
          case atStart => exact ⟨0, by omega, rfl, hS, by rw [upto_zero]; exact hb0⟩
          case round =>
            obtain ⟨kk, hkk, rfl, hS2, hb2⟩ := hrel
            clear hS hb0
            by_cases hlk : kk < 8
            · obtain ⟨z, hz⟩ : ∃ z, z = 8 * kk := ⟨_, rfl⟩
              obtain ⟨y, hy⟩ : ∃ y, y = 56 - 8 * kk := ⟨_, rfl⟩
              have z1 : IntKind.i64.wrap (8 * (kk : Int)) = (z : Int) := by rw [IntWalk.i64_in _ (by omega)]; omega
              have z2 : IntKind.i64.wrap (56 - (z : Int)) = (y : Int) := by rw [IntWalk.i64_in _ (by omega)]; omega
              have z3 : (t : Int) / 2 ^ y = ((cnt t kk).toNat : Int) := by rw [hy]; exact cnt_int t kk (by omega) hlk
              have z4 := cnt_wrap t kk
              have hy64 : y ≤ 56 := by omega
              have Z1 := Lib.hid z1
              have Z2 := Lib.hid z2
              have Z3 := Lib.hid z3
              have Z4 := Lib.hid z4
              clear z1 z2 z3 z4 hz hy
              go_wp2
              refine region_seq (fun w' => WST w gc go m M W R X w' ∧ Row w' gb 23 16 (upto kk (countF inp t) inp)) mixedOrders (by kernel_rfl) (by simp) ⟨hS2.drew, hb2.drew⟩ ?_
              clear hS2 hb2
              iterate 12
                refine Seq.next ?_ (Sure.val rfl (fun w' hS => ?_)) ?_
                rotate_left 1
                · have c1 := hS.2.cell kk (by omega)
                  rw [upto_at] at c1
                  clear hS
                  have z1 := Z1.out
                  have z2 := Z2.out
                  have z3 := Z3.out
                  have z4 := Z4.out
                  have a1 : 0 ≤ (y : Int) := by omega
                  have a2 : (y : Int) ≤ 64 := by omega
                  have a3 : (kk : Int) < 16 := by omega
                  go_simp
                  rfl
                simp only [Act.put, List.setIfInBounds_toArray, List.set_cons_zero, List.set_cons_succ, xor8]
              refine Seq.last rfl fun w' hS => ?_
              have c1 := hS.2.cell kk (by omega)
              have c3 := hS.2.frozen kk
              go_simp
              clear c1 c3
              rw [show xr (inp kk) (cnt t kk) = countF inp t kk from cnt_xr inp t kk]
              have hS3 := hS.1.setCell (k := gb) hgb1 hgb2 hgb3 kk (.int .u8 ((countF inp t kk).toNat : Int))
              have hb3 : Row (w'.setCell ⟨gb, kk, none⟩ (.int .u8 ((countF inp t kk).toNat : Int))) gb 23 16 (upto (kk + 1) (countF inp t) inp) := by rw [← upto_succ]; exact hS.2.set_ kk (countF inp t kk)
              clear hS
              revert hS3 hb3
              generalize w'.setCell ⟨gb, kk, none⟩ (.int .u8 ((countF inp t kk).toNat : Int)) = w7
              intro hS3 hb3
              go_wp2
              go_roundw
              case rel => exact ⟨kk + 1, by omega, by go_num, hS3, hb3⟩
              case measure => simp [intOf]; omega
            · obtain rfl : kk = 8 := by omega
              rw [show ((8 : Nat) : Int) = 8 from rfl]
              have hb4 : Row wr gb 23 16 (countF inp t) := hb2.congr fun i hi => by
                show (if i < 8 then countF inp t i else inp i) = countF inp t i
                by_cases h : i < 8
                · rw [if_pos h]
                · rw [if_neg h]; unfold countF; rw [if_neg (by omega)]
              clear hb2 hkk hlk
              have hS := hS2
              have hb0 := hb4
              clear hS2 hb4
              obtain ⟨C1, hC1⟩ : ∃ C1, C1 = countF inp t := ⟨_, rfl⟩
              rw [← hC1] at hb0
              have HC1 := Lib.hid hC1
              clear hC1
              go_wp2_with (refine wpList_load_Row rfl 23 _ rfl gb rfl 23 16 C1 _ hb0 und16 size16 ?_)
              have hc := Cipher_dec W C1 gc M 14 R _ (by rw [HR.out]; rfl) (by omega) (by omega) (by have := HM.out; omega) hS.1
              obtain ⟨C, hC⟩ : ∃ C, C = dec (bk boxF 256) 14 W C1 := ⟨_, rfl⟩
              rw [← hC] at hc
              have HC := Lib.hid hC
              clear hC
              refine hc.mono ?_
              rintro e w7 ⟨rfl, hb7⟩
              have hS2 := hS.below hb7
              have hb2 := hb0.below hb7 hb0.lt
              clear hS hb0 hb7 hc
              go_upto_region 22 with (refine wpList_store_Row rfl 23 _ _ rfl gb rfl 23 16 C1 _ rfl hb2 size16 ?_)
              have hS := hS2.setRow (k := gb) hgb1 hgb2 hgb3 (row 16 C)
              have hb0 := hb2.setRow C
              clear hS2 hb2
              revert hS hb0
              generalize w7.setRow gb (row 16 C) = w8
              intro hS hb0
              refine region_seq (fun w' => WST w gc go m M W R X w' ∧ Row w' gb 23 16 C) mixedOrders (by kernel_rfl) (by simp) ⟨hS.drew, hb0.drew⟩ ?_
              clear hS hb0
              iterate 3
                refine Seq.next ?_ (Sure.val rfl (fun w' hS => ?_)) ?_
                rotate_left 1
                · clear hS
                  have a1 : (8 : Int) ≤ (cp : Int) := by omega
                  go_simp
                  rfl
                simp only [Act.put, List.setIfInBounds_toArray, List.set_cons_zero, List.set_cons_succ]
              refine Seq.copy_P rfl _ _ 22 22 rfl 5 undB size8 go 0 8 cp ⟨gb, 0, none⟩ 8 16 rfl rfl 5 (8 + m) X (fun w' hS => hS.1.2.1) 8 C (by decide) (fun w' hS j hj => by rw [Addr.add_mid, Nat.zero_add]; exact hS.2.cell j (by omega)) (by omega) fun w' hS cs hp => ?_
              have hS2 := hS.1.put cs hp
              have hb1 := hS.2.setRow_far (k := go) (by omega) cs
              clear hS hp
              revert hS2 hb1
              generalize w'.setRow go cs = w8
              intro hS hb0
              simp only [Act.put, List.setIfInBounds_toArray, List.set_cons_zero, List.set_cons_succ]
              go_wp2_with (fail)
              refine region_seq (fun w' => WST w gc go m M W R (cpy 0 8 X C) w' ∧ Row w' gb 23 16 C) mixedOrders (by kernel_rfl) (by simp) ⟨hS.drew, hb0.drew⟩ ?_
              clear hS hb0
              iterate 5
                refine Seq.next ?_ (Sure.val rfl (fun w' hS => ?_)) ?_
                rotate_left 1
                · clear hS
                  have a1 := HX1.out
                  have a3 : 0 ≤ (x : Int) := by omega
                  have a4 : (x : Int) ≤ 8 + (m : Int) := by omega
                  have a5 : (x : Int) ≤ (cp : Int) := by omega
                  have a8 : ¬ cp = x := by omega
                  go_simp
                  rfl
                simp only [Act.put, List.setIfInBounds_toArray, List.set_cons_zero, List.set_cons_succ]
              refine Seq.copy_P rfl _ _ 22 22 rfl 5 undB size8 go x (8 + m - x) (cp - x) ⟨gb, 8, none⟩ 8 8 rfl rfl 5 (8 + m) (cpy 0 8 X C) (fun w' hS => hS.1.2.1) 8 (fun j => C (8 + j)) (by have : Nat.min 8 (8 + m - x) = 8 := Nat.min_eq_left (by omega); omega) (fun w' hS j hj => by rw [Addr.add_mid]; exact hS.2.cell (8 + j) (by omega)) (by omega) fun w' hS cs hp => ?_
              have hS2 := hS.1.put cs hp
              clear hS hp
              revert hS2
              generalize w'.setRow go cs = w9
              intro hS
              simp only [Act.put, List.setIfInBounds_toArray, List.set_cons_zero, List.set_cons_succ]
              try rw [show goInt ((8 : Nat) : Int) = .int .i64 8 from rfl]
              have hfin := hS.congr (X' := bothF (fA (d + 1)) (fP (d + 1))) fun l _ => by
                have h1 := HST.out d
                rw [show 6 * q - d = t by have := HT.out; omega, HAT.out] at h1
                have h2 : C1 = bothF (countF (fA d) t) fun j => fP d (8 * (i - 1) + j) := by
                  rw [HC1.out, HINP.out, countF_both, HXX.out, countF_both]
                  funext j
                  show (if j < 8 then (if j < 8 then countF (fA d) t j else fP d (j - 8)) else (if x + (j - 8) < 8 then fA d (x + (j - 8)) else fP d (x + (j - 8) - 8))) = (if j < 8 then countF (fA d) t j else fP d (8 * (i - 1) + (j - 8)))
                  by_cases hj : j < 8
                  · rw [if_pos hj, if_pos hj, if_pos hj]
                  · rw [if_neg hj, if_neg hj, if_neg (by have := HX.out; omega), show x + (j - 8) - 8 = 8 * (i - 1) + (j - 8) by have := HX.out; omega]
                rw [← h2, ← HC.out] at h1
                rw [h1.1, h1.2, HXX.out]
                rw [show x = 8 + 8 * (i - 1) by have := HX.out; omega]
                exact wrap_step C C (fA d) (fP d) (8 * (i - 1)) l
              have HFIN := Lib.hid hfin
              clear hS hfin hdk
              go_wp2_with (fail)
              go_roundw
              case rel => exact ⟨i - 1, k + 1, d + 1, t - 1, by have := HKI.out; omega, by have := HD.out; omega, by have := HT.out; omega, by rw [show ((i - 1 : Nat) : Int) = (i : Int) - 1 by omega], by rw [show ((t - 1 : Nat) : Int) = (t : Int) - 1 by omega], HFIN.out⟩
              case measure => simp [intOf]; omega
        · obtain rfl : i = 0 := by omega
          have HKI := Lib.hid hki
          have HD := Lib.hid hd
          have HT := Lib.hid ht
          clear hki hd ht
          go_wp2
          go_roundw
          case rel => exact ⟨s + 1, d, t, by omega, by rw [HD.out, Nat.succ_mul]; have := HKI.out; omega, HT.out, by go_num, rfl, hS⟩
          case measure => simp [intOf]; omega
    · obtain rfl : s = 6 := by omega
      have h6 : d0 = 6 * q := hd0
      subst h6
      obtain rfl : t0 = 0 := by omega
      clear hls ht0
      have hp := hS1.2.1
      have hbel := hS1.2.2.1
      clear hS1
      obtain ⟨A, hA⟩ : ∃ A, A = fA (6 * q) := ⟨_, rfl⟩
      obtain ⟨P, hP⟩ : ∃ P, P = fP (6 * q) := ⟨_, rfl⟩
      rw [← hA, ← hP] at hp
      have HA := Lib.hid hA
      have HPP := Lib.hid hP
      clear hA hP
      go_wp2_with (fail)
      go_loopw [14, 100] (fun _ i_ wr => ∃ kk : Nat, kk ≤ 8 ∧ i_ = .int .i64 kk ∧ Hid (∀ j, j < kk → A j = 166) ∧ PRow wr go 5 (8 + m) (bothF A P) ∧ Below w.heap.size w wr) (fun _ i_ _ => 8 - (intOf i_).toNat)
      case atStart => exact ⟨0, by omega, rfl, Lib.hid fun j hj => absurd hj (by omega), hp, hbel⟩
      case round =>
        obtain ⟨kk, hkk, rfl, hall, hp2, hb2⟩ := hrel
        clear hp hbel
        by_cases hlk : kk < 8
        · have hcell := hp2.cell kk (by omega)
          rw [show bothF A P kk = A kk from if_pos hlk] at hcell
          by_cases h : A kk = 166
          · have hb : (((A kk).toNat : Int) != 166) = false := by rw [h]; rfl
            have HH := Lib.hid h
            clear h
            go_wp2
            go_roundw
            case rel => exact ⟨kk + 1, by omega, by go_num, Lib.hid fun j hj => (by
              by_cases e : j = kk
              · rw [e]; exact HH.out
              · exact hall.out j (by omega)), hp2, hb2⟩
            case measure => simp [intOf]; omega
          · have hb : (((A kk).toNat : Int) != 166) = true := by
              rw [bne_iff_ne]
              intro e
              exact h (UInt8.toNat_inj.1 (by have : (166 : UInt8).toNat = 166 := rfl; omega))
            have HH := Lib.hid h
            clear h
            go_wp2
            go_ret2
            refine ⟨hb2, .inr ⟨?_, rfl⟩⟩
            rw [← HA.out]
            exact eqb8_no kk hlk HH.out
        · obtain rfl : kk = 8 := by omega
          have ha8 : ¬ cp = 8 := by omega
          have ha9 : 8 ≤ cp := by omega
          have ha10 : 8 + m - 8 = m := by omega
          go_wp2
          go_ret2
          refine ⟨hb2, .inl ⟨?_, go, cp - 8, ?_, by omega, fun j hj => ?_, by omega⟩⟩
          · rw [← HA.out]
            exact eqb_true.2 hall.out
          · rfl
          · rw [hp2.cell (8 + j) (by omega), ← HPP.out]
            unfold bothF
            rw [if_neg (by omega), Nat.add_sub_cancel_left]

end Go.Proofs.YtcpfiimbobijlaaDoor
