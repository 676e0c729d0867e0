/- The document's Encrypt of a Cipher. -/
import Derived.Test.YtajifdnfibojfaaDoorRPut
import Derived.Test.YtajifdnfibojfaaDoorEnc
namespace Go.Proofs.YtajifdnfibojfaaDoor
open Go Go.RowKit
set_option maxRecDepth 100000

/-- While a block is worked on: the Cipher, the block, the result's place; nothing else has turned. -/
def CiS (w0 : World) (g M : Nat) (W : Nat → UInt8) (R : Int) (cur : Nat → UInt8) (w' : World) : Prop :=
  Ci w' g 80 (ciF W M) R ∧ Row w' w0.heap.size 32 16 cur ∧ Row w' (w0.heap.size + 1) 32 16 (fun _ => 0) ∧ Below w0.heap.size w0 w' ∧ g < w0.heap.size
section
variable {w0 w1 w2 : World} {g M : Nat} {W cur : Nat → UInt8} {R : Int}
theorem CiS.below (h : CiS w0 g M W R cur w1) (hb : Below w1.heap.size w1 w2) : CiS w0 g M W R cur w2 :=
  ⟨h.1.below hb h.1.lt, h.2.1.below hb h.2.1.lt, h.2.2.1.below hb h.2.2.1.lt, h.2.2.2.1.trans (hb.mono h.2.2.2.1.size), h.2.2.2.2⟩
theorem CiS.drew (h : CiS w0 g M W R cur w1) : CiS w0 g M W R cur w1.drew := ⟨h.1.drew, h.2.1.drew, h.2.2.1.drew, h.2.2.2.1.drew, h.2.2.2.2⟩
theorem CiS.put (h : CiS w0 g M W R cur w1) (f : Nat → UInt8) : CiS w0 g M W R f (w1.setRow w0.heap.size (row 16 f)) := by
  obtain ⟨h1, h2, h3, h4, h5⟩ := h
  exact ⟨h1.setRow_far (by omega) _, h2.setRow f, h3.setRow_far (by omega) _, below_setRow8 h4 (by omega) _, h5⟩
theorem CiS.alloc (h : CiS w0 g M W R cur w1) (o : Obj) : CiS w0 g M W R cur (w1.alloc o) := ⟨h.1.alloc _, h.2.1.alloc _, h.2.2.1.alloc _, h.2.2.2.1.alloc h.2.2.2.1.size _, h.2.2.2.2⟩
theorem CiS.setRow (h : CiS w0 g M W R cur w1) {k : Nat} (hk : w0.heap.size + 1 < k) (cs : Array Value) : CiS w0 g M W R cur (w1.setRow k cs) := by
  obtain ⟨h1, h2, h3, h4, h5⟩ := h
  exact ⟨h1.setRow_far (by omega) _, h2.setRow_far (by omega) _, h3.setRow_far (by omega) _, below_setRow8 h4 (by omega) _, h5⟩
theorem CiS.setCell (h : CiS w0 g M W R cur w1) {k : Nat} (hk : w0.heap.size + 1 < k) (o : Nat) (u : Value) : CiS w0 g M W R cur (w1.setCell ⟨k, o, none⟩ u) := by
  obtain ⟨h1, h2, h3, h4, h5⟩ := h
  exact ⟨h1.far (by simp; omega) _, h2.far (by simp; omega) _, h3.far (by simp; omega) _, h4.setCell (by simp; omega) _, h5⟩
end
theorem two_new' (w : World) (f g : Nat → UInt8) (n n' : Nat) (t t' : TypeId) :
    Row ((w.alloc (.cells (row n f) t)).alloc (.cells (row n' g) t')) w.heap.size t n f ∧ Row ((w.alloc (.cells (row n f) t)).alloc (.cells (row n' g) t')) (w.heap.size + 1) t' n' g :=
  ⟨(two_new w t f g n n' t').1, (two_new w t f g n n' t').2.1⟩

/-- The block behind m rounds of R. -/
def encX (R : Nat) (W b : Nat → UInt8) (m : Nat) : Nat → UInt8 := if m < R then encR boxF W b m else enc boxF R W b

set_option maxHeartbeats 8000000 in
theorem Cipher_enc (W b : Nat → UInt8) (g M R0 : Nat) (R : Int) (w : World) (hR : R = (R0 : Int)) (h1 : 1 ≤ R0) (h2 : R0 ≤ 14) (hM : M = 16 * (R0 + 1)) (hC : Ci w g 80 (ciF W M) R) :
    Calls Tryd.prog 47 #[.pointer (some ⟨g, 0, none⟩), .agg (row 16 b)] w fun e w' => e = .returned (.agg (row 16 (enc boxF R0 W b))) ∧ Below w.heap.size w w' := by
  have hg0 := hC.lt
  have HM := Lib.hid hM
  have HR := Lib.hid hR
  clear hM hR
  obtain ⟨fin, hfin⟩ : ∃ f, f = enc boxF R0 W b := ⟨_, rfl⟩
  rw [← hfin]
  have HFIN := Lib.hid hfin
  clear hfin
  go_enter Tryd.func47, Tryd.ntmps47
  go_upto_region 1 with (fail)
  rw [zero16]
  obtain ⟨h0, h4, h3⟩ := two_new w 32 b (fun _ => 0) 16 16 32
  have hE : CiS w g M W R b ((w.alloc (.cells (row 16 b) 32)).alloc (.cells (row 16 fun _ => 0) 32)) := ⟨hC.below h3 hg0, h0, h4, h3, hg0⟩
  clear hC h0 h4 h3
  revert hE
  generalize (w.alloc (.cells (row 16 b) 32)).alloc (.cells (row 16 fun _ => 0) 32) = w1
  intro hE
  go_wp2_with (refine wpList_load_Row rfl 32 _ rfl w.heap.size rfl 32 16 b _ hE.2.1 und16 size16 ?_)
  refine (put_0 W b g M R w1 (by have := HM.out; omega) hE.1).mono ?_
  rintro e w2 ⟨rfl, hb2⟩
  have hE2 := hE.below hb2
  clear hE hb2
  go_wp2_with (refine wpList_store_Row rfl 32 _ _ rfl w.heap.size rfl 32 16 b _ rfl hE2.2.1 size16 ?_)
  have hE3 := hE2.put (added b (rk W 0))
  rw [show added b (rk W 0) = encX R0 W b 0 by unfold encX; rw [if_pos (by omega)]; rfl] at hE3 ⊢
  clear hE2
  revert hE3
  generalize w2.setRow w.heap.size (row 16 (encX R0 W b 0)) = w3
  intro hE3
  go_loopw [5, 6, 7] (fun rd _ _ wr => ∃ n : Nat, n ≤ R0 ∧ rd = .int .i64 ((n : Int) + 1) ∧ CiS w g M W R (encX R0 W b n) wr) (fun rd _ _ _ => R0 + 1 - (intOf rd).toNat)
  case atStart => exact ⟨0, by omega, rfl, hE3⟩
  case round =>
    obtain ⟨n, hn, rfl, hE⟩ := hrel
    clear hE3
    have el := hE.1.last
    rw [HR.out] at el
    by_cases hlt : n < R0
    · have hb0 : decide ((n : Int) + 1 ≤ (R0 : Int)) = true := decide_eq_true (by omega)
      obtain ⟨cur, hcur⟩ : ∃ cur, cur = encX R0 W b n := ⟨_, rfl⟩
      rw [← hcur] at hE
      have hcur2 : cur = encR boxF W b n := by rw [hcur]; unfold encX; rw [if_pos hlt]
      have HCUR := Lib.hid hcur2
      obtain ⟨tf, htf⟩ : ∃ tf, tf = shifted (boxed boxF cur) := ⟨_, rfl⟩
      have HTF := Lib.hid htf
      clear hcur hcur2 htf
      go_upto_region 6 with (fail)
      rw [zero16]
      obtain ⟨ht, hu⟩ := two_new' wr (fun _ => 0) (fun _ => 0) 16 16 32 32
      have hgt := hE.2.2.1.lt
      have hE2 := (hE.alloc (.cells (row 16 fun _ => 0) 32)).alloc (.cells (row 16 fun _ => 0) 32)
      clear hE el
      revert ht hu hE2
      generalize (wr.alloc (.cells (row 16 fun _ => 0) 32)).alloc (.cells (row 16 fun _ => 0) 32) = w4
      generalize wr.heap.size = gt at *
      obtain ⟨gu, hgu⟩ : ∃ gu, gu = gt + 1 := ⟨_, rfl⟩
      have hgu2 : gt < gu := by omega
      have HGU := Lib.hid hgu
      rw [← hgu]
      clear hgu
      intro ht hu hE
      go_wp2_with (fail)
      go_loopw [8, 22] (fun _ i wr => ∃ m : Nat, m ≤ 16 ∧ i = .int .i64 m ∧ CiS w g M W R cur wr ∧ Row wr gt 32 16 (upto m tf fun _ => 0) ∧ Row wr gu 32 16 (fun _ => 0)) (fun _ i _ => 16 - (intOf i).toNat)
      case atStart => exact ⟨0, by omega, rfl, hE, by rw [upto_zero]; exact ht, hu⟩
      case round =>
        obtain ⟨m, hm, rfl, hE2, ht2, hu2⟩ := hrel
        clear hE ht hu
        by_cases hlt : m < 16
        · obtain ⟨q, hq⟩ : ∃ q, q = m / 4 := ⟨_, rfl⟩
          obtain ⟨r, hr⟩ : ∃ r, r = m % 4 := ⟨_, rfl⟩
          obtain ⟨s1, hs1⟩ : ∃ s1, s1 = q + r := ⟨_, rfl⟩
          obtain ⟨s2, hs2⟩ : ∃ s2, s2 = s1 % 4 := ⟨_, rfl⟩
          obtain ⟨s3, hs3⟩ : ∃ s3, s3 = 4 * s2 := ⟨_, rfl⟩
          obtain ⟨ix, hix⟩ : ∃ ix, ix = s3 + r := ⟨_, rfl⟩
          have hixl : ix < 16 := by omega
          have e1 : (m : Int).tdiv 4 = (q : Int) := by rw [Int.tdiv_eq_ediv_of_nonneg (by omega)]; omega
          have e2 : (m : Int).tmod 4 = (r : Int) := by rw [Int.tmod_eq_emod_of_nonneg (by omega)]; omega
          have e3 : IntKind.i64.wrap ((q : Int) + (r : Int)) = (s1 : Int) := by rw [IntWalk.i64_in _ (by omega)]; omega
          have e4 : (s1 : Int).tmod 4 = (s2 : Int) := by rw [Int.tmod_eq_emod_of_nonneg (by omega)]; omega
          have e5 : IntKind.i64.wrap (4 * (s2 : Int)) = (s3 : Int) := by rw [IntWalk.i64_in _ (by omega)]; omega
          have e6 : IntKind.i64.wrap ((s3 : Int) + (r : Int)) = (ix : Int) := by rw [IntWalk.i64_in _ (by omega)]; omega
          have e7 : IntKind.i64.wrap (q : Int) = (q : Int) := IntWalk.i64_in _ (by omega)
          have e8 : IntKind.i64.wrap (r : Int) = (r : Int) := IntWalk.i64_in _ (by omega)
          have hsx : ix = (m + m % 4 * 4) % 16 := by omega
          have E1 := Lib.hid e1
          have E2 := Lib.hid e2
          have E3 := Lib.hid e3
          have E4 := Lib.hid e4
          have E5 := Lib.hid e5
          have E6 := Lib.hid e6
          have E7 := Lib.hid e7
          have E8 := Lib.hid e8
          have HSX := Lib.hid hsx
          clear e1 e2 e3 e4 e5 e6 e7 e8 hsx hq hr hs1 hs2 hs3 hix
          go_wp2
          refine region_seq (fun w' => CiS w g M W R cur w' ∧ Row w' gt 32 16 (upto m tf fun _ => 0) ∧ Row w' gu 32 16 (fun _ => 0)) mixedOrders (by kernel_rfl) (by simp) ⟨hE2.drew, ht2.drew, hu2.drew⟩ ?_
          clear hE2 ht2 hu2
          iterate 19
            refine Seq.next ?_ (Sure.val rfl (fun w' hS => ?_)) ?_
            rotate_left 1
            · obtain ⟨hE, ht, hu⟩ := hS
              have c2 := hE.2.1.cell ix (by omega)
              have b1 := lt8 (cur ix)
              have c3 := hE.1.cell (cur ix).toNat (by omega)
              rw [ciF_s W _ _ (cur ix).toNat_lt] at c3
              have e1 := E1.out
              have e2 := E2.out
              have e3 := E3.out
              have e4 := E4.out
              have e5 := E5.out
              have e6 := E6.out
              have e7 := E7.out
              have e8 := E8.out
              have a1 : 0 ≤ (ix : Int) := by omega
              have a2 : (ix : Int) < 16 := by omega
              clear hE ht hu
              go_simp
              rfl
            simp only [Act.put, List.setIfInBounds_toArray, List.set_cons_zero, List.set_cons_succ]
          refine Seq.last rfl fun w' hS => ?_
          obtain ⟨hE, ht, hu⟩ := hS
          have c1 := ht.cell m hlt
          have c3 := ht.frozen m
          go_simp
          clear c1 c3
          rw [show boxF (cur ix).toNat = tf m by rw [HTF.out, HSX.out]; rfl]
          have hE2 := hE.setCell (k := gt) hgt m (.int .u8 ((tf m).toNat : Int))
          have ht2 : Row (w'.setCell ⟨gt, m, none⟩ (.int .u8 ((tf m).toNat : Int))) gt 32 16 (upto (m + 1) tf fun _ => 0) := by rw [← upto_succ]; exact ht.set_ m (tf m)
          have hu2 := hu.far (p := ⟨gt, m, none⟩) (by simp; omega) (.int .u8 ((tf m).toNat : Int))
          clear hE ht hu
          revert hE2 ht2 hu2
          generalize w'.setCell ⟨gt, m, none⟩ (.int .u8 ((tf m).toNat : Int)) = w5
          intro hE2 ht2 hu2
          go_wp2
          go_roundw
          case rel => exact ⟨m + 1, by omega, by go_num, hE2, ht2, hu2⟩
          case measure => simp [intOf]; omega
        · obtain rfl : m = 16 := by omega
          rw [show ((16 : Nat) : Int) = 16 from rfl]
          have ht3 := ht2.congr (f' := tf) fun i hi => upto_all _ _ i hi
          clear ht2 hm hlt
          have el := (hE2.setRow (k := gu) (by omega) (row 16 tf)).1.last
          rw [HR.out] at el
          by_cases hlast : n + 1 < R0
          · have hb1 : decide ((n : Int) + 1 < (R0 : Int)) = true := decide_eq_true (by omega)
            clear hb0
            obtain ⟨uf, huf⟩ : ∃ uf, uf = mixed tf := ⟨_, rfl⟩
            have HUF := Lib.hid huf
            clear huf
            go_wp2_with (first | (refine wpList_load_Row rfl 32 _ rfl gt rfl 32 16 _ _ ht3 und16 size16 ?_) | (refine wpList_store_Row rfl 32 _ _ rfl gu rfl 32 16 _ _ rfl hu2 size16 ?_))
            have hE := hE2.setRow (k := gu) (by omega) (row 16 tf)
            have ht := ht3.setRow_far (k := gu) (by omega) (row 16 tf)
            have hu := hu2.setRow tf
            clear hE2 ht3 hu2 el
            revert hE ht hu
            generalize wr.setRow gu (row 16 tf) = w5
            intro hE ht hu
            go_loopw [9, 10, 52] (fun _ _ i wr => ∃ m : Nat, m ≤ 16 ∧ i = .int .i64 m ∧ CiS w g M W R cur wr ∧ Row wr gt 32 16 tf ∧ Row wr gu 32 16 (upto m uf tf)) (fun _ _ i _ => 16 - (intOf i).toNat)
            case atStart => exact ⟨0, by omega, rfl, hE, ht, by rw [upto_zero]; exact hu⟩
            case round =>
              obtain ⟨m, hm, rfl, hE2, ht2, hu2⟩ := hrel
              clear hE ht hu
              by_cases hlt : m < 16
              · obtain ⟨k4, hk4⟩ : ∃ k4, k4 = m - m % 4 := ⟨_, rfl⟩
                have hk12 : k4 + 3 < 16 := by omega
                have hki : 4 * ((m : Int) / 4) = (k4 : Int) := by omega
                obtain ⟨r1, hr1⟩ : ∃ r, r = (m + 1) % 4 := ⟨_, rfl⟩
                have hl1 : r1 < 4 := by omega
                have e1 : ((m : Int) + 1).tmod 4 = (r1 : Int) := by rw [Int.tmod_eq_emod_of_nonneg (by omega)]; omega
                have e4 : IntKind.i64.wrap ((m : Int) + 1) = (m : Int) + 1 := IntWalk.i64_in _ (by omega)
                have e7 : IntKind.i64.wrap ((k4 : Int) + (r1 : Int)) = (k4 : Int) + (r1 : Int) := IntWalk.i64_in _ (by omega)
                obtain ⟨r2, hr2⟩ : ∃ r, r = (m + 2) % 4 := ⟨_, rfl⟩
                have hl2 : r2 < 4 := by omega
                have e2 : ((m : Int) + 2).tmod 4 = (r2 : Int) := by rw [Int.tmod_eq_emod_of_nonneg (by omega)]; omega
                have e5 : IntKind.i64.wrap ((m : Int) + 2) = (m : Int) + 2 := IntWalk.i64_in _ (by omega)
                have e8 : IntKind.i64.wrap ((k4 : Int) + (r2 : Int)) = (k4 : Int) + (r2 : Int) := IntWalk.i64_in _ (by omega)
                obtain ⟨r3, hr3⟩ : ∃ r, r = (m + 3) % 4 := ⟨_, rfl⟩
                have hl3 : r3 < 4 := by omega
                have e3 : ((m : Int) + 3).tmod 4 = (r3 : Int) := by rw [Int.tmod_eq_emod_of_nonneg (by omega)]; omega
                have e6 : IntKind.i64.wrap ((m : Int) + 3) = (m : Int) + 3 := IntWalk.i64_in _ (by omega)
                have e9 : IntKind.i64.wrap ((k4 : Int) + (r3 : Int)) = (k4 : Int) + (r3 : Int) := IntWalk.i64_in _ (by omega)
                have E1 := Lib.hid e1
                have E2 := Lib.hid e2
                have E3 := Lib.hid e3
                have E4 := Lib.hid e4
                have E5 := Lib.hid e5
                have E6 := Lib.hid e6
                have E7 := Lib.hid e7
                have E8 := Lib.hid e8
                have E9 := Lib.hid e9
                have HKI := Lib.hid hki
                have HK4 := Lib.hid hk4
                have HR1 := Lib.hid hr1
                have HR2 := Lib.hid hr2
                have HR3 := Lib.hid hr3
                clear e1 e2 e3 e4 e5 e6 e7 e8 e9 hki hk4 hr1 hr2 hr3
                go_wp2
                rw [HKI.out]
                refine region_seq (fun w' => CiS w g M W R cur w' ∧ Row w' gt 32 16 (tf) ∧ Row w' gu 32 16 (upto m uf tf)) mixedOrders (by kernel_rfl) (by simp) ⟨hE2.drew, ht2.drew, hu2.drew⟩ ?_
                clear hE2 ht2 hu2
                iterate 4
                  refine Seq.next ?_ (Sure.val rfl (fun w' hS => ?_)) ?_
                  rotate_left 1
                  · obtain ⟨hE, ht, hu⟩ := hS
                    have c0 := ht.cell m hlt
                    have c1 := ht.cell (k4 + r1) (by omega)
                    have c2 := ht.cell (k4 + r2) (by omega)
                    have c3 := ht.cell (k4 + r3) (by omega)
                    have e1 := E1.out
                    have e2 := E2.out
                    have e3 := E3.out
                    have e4 := E4.out
                    have e5 := E5.out
                    have e6 := E6.out
                    have e7 := E7.out
                    have e8 := E8.out
                    have e9 := E9.out
                    have a1 : 0 ≤ (k4 : Int) + (r1 : Int) := by omega
                    have a2 : 0 ≤ (k4 : Int) + (r2 : Int) := by omega
                    have a3 : 0 ≤ (k4 : Int) + (r3 : Int) := by omega
                    have b1 : (k4 : Int) + (r1 : Int) < 16 := by omega
                    have b2 : (k4 : Int) + (r2 : Int) < 16 := by omega
                    have b3 : (k4 : Int) + (r3 : Int) < 16 := by omega
                    have d1 : ((k4 : Int) + (r1 : Int)).toNat = k4 + r1 := by omega
                    have d2 : ((k4 : Int) + (r2 : Int)).toNat = k4 + r2 := by omega
                    have d3 : ((k4 : Int) + (r3 : Int)).toNat = k4 + r3 := by omega
                    clear hE ht hu
                    go_simp
                    rfl
                  simp only [Act.put, List.setIfInBounds_toArray, List.set_cons_zero, List.set_cons_succ]
                refine Seq.next (.int .u8 ((tm 2 (tf m)).toNat : Int)) (Sure.call (f := 46) (args := #[.int .u8 2, .int .u8 ((tf m).toNat : Int)]) rfl (fun w' => by go_simp) (fun w' hS => (times_2x _ w').mono fun e w'' h => ⟨h.1, h.2 ▸ hS⟩)) ?_
                simp only [Act.put, List.setIfInBounds_toArray, List.set_cons_zero, List.set_cons_succ]
                iterate 7
                  refine Seq.next ?_ (Sure.val rfl (fun w' hS => ?_)) ?_
                  rotate_left 1
                  · obtain ⟨hE, ht, hu⟩ := hS
                    have c0 := ht.cell m hlt
                    have c1 := ht.cell (k4 + r1) (by omega)
                    have c2 := ht.cell (k4 + r2) (by omega)
                    have c3 := ht.cell (k4 + r3) (by omega)
                    have e1 := E1.out
                    have e2 := E2.out
                    have e3 := E3.out
                    have e4 := E4.out
                    have e5 := E5.out
                    have e6 := E6.out
                    have e7 := E7.out
                    have e8 := E8.out
                    have e9 := E9.out
                    have a1 : 0 ≤ (k4 : Int) + (r1 : Int) := by omega
                    have a2 : 0 ≤ (k4 : Int) + (r2 : Int) := by omega
                    have a3 : 0 ≤ (k4 : Int) + (r3 : Int) := by omega
                    have b1 : (k4 : Int) + (r1 : Int) < 16 := by omega
                    have b2 : (k4 : Int) + (r2 : Int) < 16 := by omega
                    have b3 : (k4 : Int) + (r3 : Int) < 16 := by omega
                    have d1 : ((k4 : Int) + (r1 : Int)).toNat = k4 + r1 := by omega
                    have d2 : ((k4 : Int) + (r2 : Int)).toNat = k4 + r2 := by omega
                    have d3 : ((k4 : Int) + (r3 : Int)).toNat = k4 + r3 := by omega
                    clear hE ht hu
                    go_simp
                    rfl
                  simp only [Act.put, List.setIfInBounds_toArray, List.set_cons_zero, List.set_cons_succ]
                refine Seq.next (.int .u8 ((tm 3 (tf (k4 + r1))).toNat : Int)) (Sure.call (f := 46) (args := #[.int .u8 3, .int .u8 ((tf (k4 + r1)).toNat : Int)]) rfl (fun w' => by go_simp) (fun w' hS => (times_3x _ w').mono fun e w'' h => ⟨h.1, h.2 ▸ hS⟩)) ?_
                simp only [Act.put, List.setIfInBounds_toArray, List.set_cons_zero, List.set_cons_succ]
                iterate 18
                  refine Seq.next ?_ (Sure.val rfl (fun w' hS => ?_)) ?_
                  rotate_left 1
                  · obtain ⟨hE, ht, hu⟩ := hS
                    have c0 := ht.cell m hlt
                    have c1 := ht.cell (k4 + r1) (by omega)
                    have c2 := ht.cell (k4 + r2) (by omega)
                    have c3 := ht.cell (k4 + r3) (by omega)
                    have e1 := E1.out
                    have e2 := E2.out
                    have e3 := E3.out
                    have e4 := E4.out
                    have e5 := E5.out
                    have e6 := E6.out
                    have e7 := E7.out
                    have e8 := E8.out
                    have e9 := E9.out
                    have a1 : 0 ≤ (k4 : Int) + (r1 : Int) := by omega
                    have a2 : 0 ≤ (k4 : Int) + (r2 : Int) := by omega
                    have a3 : 0 ≤ (k4 : Int) + (r3 : Int) := by omega
                    have b1 : (k4 : Int) + (r1 : Int) < 16 := by omega
                    have b2 : (k4 : Int) + (r2 : Int) < 16 := by omega
                    have b3 : (k4 : Int) + (r3 : Int) < 16 := by omega
                    have d1 : ((k4 : Int) + (r1 : Int)).toNat = k4 + r1 := by omega
                    have d2 : ((k4 : Int) + (r2 : Int)).toNat = k4 + r2 := by omega
                    have d3 : ((k4 : Int) + (r3 : Int)).toNat = k4 + r3 := by omega
                    clear hE ht hu
                    go_simp
                    rfl
                  simp only [Act.put, List.setIfInBounds_toArray, List.set_cons_zero, List.set_cons_succ, xor8]
                refine Seq.last rfl fun w' hS => ?_
                obtain ⟨hE, ht, hu⟩ := hS
                have c1 := hu.cell m hlt
                have c3 := hu.frozen m
                go_simp
                clear c1 c3
                rw [show xr (xr (xr (tm 2 (tf m)) (tm 3 (tf (k4 + r1)))) (tf (k4 + r2))) (tf (k4 + r3)) = uf m by rw [HK4.out, HR1.out, HR2.out, HR3.out, mixed_tm, HUF.out]]
                have hE2 := hE.setCell (k := gu) (by omega) m (.int .u8 ((uf m).toNat : Int))
                have ht2 := ht.far (p := ⟨gu, m, none⟩) (by simp; omega) (.int .u8 ((uf m).toNat : Int))
                have hu2 : Row (w'.setCell ⟨gu, m, none⟩ (.int .u8 ((uf m).toNat : Int))) gu 32 16 (upto (m + 1) uf tf) := by rw [← upto_succ]; exact hu.set_ m (uf m)
                clear hE ht hu
                revert hE2 ht2 hu2
                generalize w'.setCell ⟨gu, m, none⟩ (.int .u8 ((uf m).toNat : Int)) = w5
                intro hE2 ht2 hu2
                go_wp2
                go_roundw
                case rel => exact ⟨m + 1, by omega, by go_num, hE2, ht2, hu2⟩
                case measure => simp [intOf]; omega
              · obtain rfl : m = 16 := by omega
                rw [show ((16 : Nat) : Int) = 16 from rfl]
                have hu3 := hu2.congr (f' := uf) fun i hi => upto_all _ _ i hi
                clear hu2 hm hlt
                go_wp2_with (refine wpList_load_Row rfl 32 _ rfl gu rfl 32 16 _ _ hu3 und16 size16 ?_)
                refine (put_1 W (uf) g M R n _ (by have := HM.out; omega) (by omega) hE2.1).mono ?_
                rintro e w6 ⟨rfl, hb6⟩
                have hE7 := hE2.below hb6
                clear hE2 ht2 hu3 hb6
                go_wp2_with (refine wpList_store_Row rfl 32 _ _ rfl w.heap.size rfl 32 16 _ _ rfl hE7.2.1 size16 ?_)
                have hE8 := hE7.put (added (uf) (rk W (n + 1)))
                rw [show added (uf) (rk W (n + 1)) = encX R0 W b (n + 1) by rw [HUF.out, HTF.out, HCUR.out]; unfold encX; rw [if_pos (by omega)]; rfl] at hE8 ⊢
                clear hE7
                revert hE8
                generalize w6.setRow w.heap.size (row 16 (encX R0 W b (n + 1))) = w7
                intro hE8
                go_roundw
                case rel => exact ⟨n + 1, by omega, by go_num, hE8⟩
                case measure => simp [intOf]; omega

          · have hb1 : decide ((n : Int) + 1 < (R0 : Int)) = false := decide_eq_false (by omega)
            clear hb0
            go_wp2_with (first | (refine wpList_load_Row rfl 32 _ rfl gt rfl 32 16 _ _ ht3 und16 size16 ?_) | (refine wpList_store_Row rfl 32 _ _ rfl gu rfl 32 16 _ _ rfl hu2 size16 ?_) | (refine wpList_load_Row rfl 32 _ rfl gu rfl 32 16 _ _ (hu2.setRow tf) und16 size16 ?_))
            have hE := hE2.setRow (k := gu) (by omega) (row 16 tf)
            clear hE2 ht3 hu2 el
            revert hE
            generalize wr.setRow gu (row 16 tf) = w5
            intro hE
            refine (put_1 W (tf) g M R n _ (by have := HM.out; omega) (by omega) hE.1).mono ?_
            rintro e w6 ⟨rfl, hb6⟩
            have hE7 := hE.below hb6
            clear hE hb6
            go_wp2_with (refine wpList_store_Row rfl 32 _ _ rfl w.heap.size rfl 32 16 _ _ rfl hE7.2.1 size16 ?_)
            have hE8 := hE7.put (added (tf) (rk W (n + 1)))
            rw [show added (tf) (rk W (n + 1)) = encX R0 W b (n + 1) by rw [HTF.out, HCUR.out]; unfold encX; rw [if_neg (by omega), show R0 = n + 1 by omega]; rfl] at hE8 ⊢
            clear hE7
            revert hE8
            generalize w6.setRow w.heap.size (row 16 (encX R0 W b (n + 1))) = w7
            intro hE8
            go_roundw
            case rel => exact ⟨n + 1, by omega, by go_num, hE8⟩
            case measure => simp [intOf]; omega
    · obtain rfl : n = R0 := by omega
      have hb0 : decide ((n : Int) + 1 ≤ (n : Int)) = false := decide_eq_false (by omega)
      go_wp2_with (first | (refine wpList_load_Row rfl 32 _ rfl w.heap.size rfl 32 16 _ _ hE.2.1 und16 size16 ?_) | (refine wpList_store_Row rfl 32 _ _ rfl (w.heap.size + 1) rfl 32 16 _ _ rfl hE.2.2.1 size16 ?_))
      refine ret_Row rfl rfl _ _ 16 _ _ rfl (hE.2.2.1.setRow _) und16 size16 ⟨?_, below_setRow8 hE.2.2.2.1 (by omega) _⟩
      rw [HFIN.out]
      unfold encX
      rw [if_neg (by omega)]

end Go.Proofs.YtajifdnfibojfaaDoor
