/- The program's small functions of layer 13, and slices.Concat (mkka.py writes this text). -/
import Derived.Test.YticflflbogdljaaDoorKm
import Derived.Test.YticflflbogdljaaDoorTy
import Derived.Test.YticflflbogdljaaDoorOpS
namespace Go.Proofs.YticflflbogdljaaDoor
open Go Go.RowKit
set_option maxRecDepth 100000

set_option maxHeartbeats 8000000 in
theorem count_c (c : Nat) (hc : c < 256) : Pure Tryd.prog 9 #[(.int .u8 (((c) : Nat) : Int))] (fun _ => True) (.int .i64 (((cnt c) : Nat) : Int)) := by
  refine pure_of (fn := Tryd.f9) Tryd.func9 rfl Tryd.ntmps9 (Nat.le_of_ble_eq_true rfl) rfl ?_
  intro w0 hH hR
  refine cxSeq ?_
  refine cxReg ?_
  refine pxV (v := (.int .i64 0)) (fun _ _ hF => opAssign rfl rfl) rfl (fun _ _ => rfl) (kA rfl) (by decide) ?_
  refine pxEnd ?_
  refine qxThen ?_
  refine cxSeq ?_
  refine cxReg ?_
  refine pxV (v := (.int .u8 (((c) : Nat) : Int))) (fun _ _ hF => opMove rfl (hF.ev 1 rfl)) rfl (fun _ _ => rfl) (kM [false, true] rfl rfl) (by decide) ?_
  refine pxV (v := (.int .u8 (((c % 16) : Nat) : Int))) (fun _ _ hF => opRem (z := ((c % 16 : Nat) : Int)) rfl (hF.ev 0 rfl) rfl (by omega) remN) rfl (fun _ _ => rfl) (kM [false, true] rfl rfl) (by decide) ?_
  refine pxV (v := (.int .i64 (((c % 16) : Nat) : Int))) (fun _ _ hF => opConvI (k' := .i64) rfl (by kernel_rfl) (by kernel_rfl) (hF.ev 0 rfl) (wI rfl (by omega) (by omega))) rfl (fun _ _ => rfl) (kM [false, true] rfl rfl) (by decide) ?_
  refine pxV (v := (.int .i64 (((16 + c % 16) : Nat) : Int))) (fun _ _ hF => opAdd rfl rfl (hF.ev 0 rfl) (wI (by omega) (by omega) (by omega))) rfl (fun _ _ => rfl) (kM [false, true] rfl rfl) (by decide) ?_
  refine pxV (v := (.int .u8 (((c) : Nat) : Int))) (fun _ _ hF => opMove rfl (hF.ev 1 rfl)) rfl (fun _ _ => rfl) (kM [true, false] rfl rfl) (by decide) ?_
  refine pxV (v := (.int .u8 (((c / 16) : Nat) : Int))) (fun _ _ hF => opQuoU (m := c) (j := 16) rfl rfl (hF.ev 0 rfl) rfl (by omega) (by show _ < 256; omega) rfl) rfl (fun _ _ => rfl) (kM [false, true] rfl rfl) (by decide) ?_
  refine pxV (v := (.int .u8 (((c / 16 + 6) : Nat) : Int))) (fun _ _ hF => opAddU (m := c / 16) (j := 6) (z := (c / 16 + 6)) rfl rfl (hF.ev 0 rfl) rfl (Nat.mod_eq_of_lt (by show _ < 256; omega))) rfl (fun _ _ => rfl) (kM [false, true] rfl rfl) (by decide) ?_
  refine pxV (v := (.int .i64 (((cnt c) : Nat) : Int))) (fun _ _ hF => opShlI (m := 16 + c % 16) (n := c / 16 + 6) (z := (cnt c)) rfl (hF.ev 1 rfl) (hF.ev 0 rfl) (by omega) (rfl) (by have := cnt_le hc; omega)) rfl (fun _ _ => rfl) (kM [false, false] rfl rfl) (by decide) ?_
  refine pxV (v := (.int .i64 (((cnt c) : Nat) : Int))) (fun _ _ hF => opAssign rfl (hF.ev 0 rfl)) rfl (fun _ _ => rfl) (kM [false] rfl rfl) (by decide) ?_
  refine pxEnd ?_
  refine qxThen ?_
  refine cxRet ?_
  refine qxRet1 0 rfl rfl ?_
  exact ⟨rfl, HH.toBelow hH⟩

set_option maxHeartbeats 8000000 in
theorem rcount_c (c : Nat) (hc : c < 256) : Pure Tryd.prog 10 #[(.int .u8 (((c) : Nat) : Int))] (fun _ => True) (.int .i64 (((cnt c) : Nat) : Int)) := by
  refine pure_of (fn := Tryd.f10) Tryd.func10 rfl Tryd.ntmps10 (Nat.le_of_ble_eq_true rfl) rfl ?_
  intro w0 hH hR
  refine cxSeq ?_
  refine cxReg ?_
  refine pxV (v := (.int .i64 0)) (fun _ _ hF => opAssign rfl rfl) rfl (fun _ _ => rfl) (kA rfl) (by decide) ?_
  refine pxEnd ?_
  refine qxThen ?_
  refine cxSeq ?_
  refine cxReg ?_
  refine pxV (v := (.int .u8 (((c) : Nat) : Int))) (fun _ _ hF => opMove rfl (hF.ev 1 rfl)) rfl (fun _ _ => rfl) (kM [false, true] rfl rfl) (by decide) ?_
  refine pxV (v := (.int .u8 (((c % 16) : Nat) : Int))) (fun _ _ hF => opAndU (m := c) (j := 15) (z := (c % 16)) rfl rfl (hF.ev 0 rfl) rfl (by show _ < 256; omega) (by decide) (by rw [show (15 : Nat) = 2 ^ 4 - 1 from rfl, and_mask])) rfl (fun _ _ => rfl) (kM [false, true] rfl rfl) (by decide) ?_
  refine pxV (v := (.int .i64 (((c % 16) : Nat) : Int))) (fun _ _ hF => opConvI (k' := .i64) rfl (by kernel_rfl) (by kernel_rfl) (hF.ev 0 rfl) (wI rfl (by omega) (by omega))) rfl (fun _ _ => rfl) (kM [false, true] rfl rfl) (by decide) ?_
  refine pxV (v := (.int .i64 (((16 + c % 16) : Nat) : Int))) (fun _ _ hF => opAdd rfl rfl (hF.ev 0 rfl) (wI (by omega) (by omega) (by omega))) rfl (fun _ _ => rfl) (kM [false, true] rfl rfl) (by decide) ?_
  refine pxV (v := (.int .u8 (((c) : Nat) : Int))) (fun _ _ hF => opMove rfl (hF.ev 1 rfl)) rfl (fun _ _ => rfl) (kM [true, false] rfl rfl) (by decide) ?_
  refine pxV (v := (.int .u8 (((c / 16) : Nat) : Int))) (fun _ _ hF => opShrU (n := 4) (z := (c / 16)) rfl (hF.ev 0 rfl) rfl (leb rfl) (rfl)) rfl (fun _ _ => rfl) (kM [false, true] rfl rfl) (by decide) ?_
  refine pxV (v := (.int .u8 (((c / 16 + 6) : Nat) : Int))) (fun _ _ hF => opAddU (m := c / 16) (j := 6) (z := (c / 16 + 6)) rfl rfl (hF.ev 0 rfl) rfl (Nat.mod_eq_of_lt (by show _ < 256; omega))) rfl (fun _ _ => rfl) (kM [false, true] rfl rfl) (by decide) ?_
  refine pxV (v := (.int .i64 (((cnt c) : Nat) : Int))) (fun _ _ hF => opShlI (m := 16 + c % 16) (n := c / 16 + 6) (z := (cnt c)) rfl (hF.ev 1 rfl) (hF.ev 0 rfl) (by omega) (rfl) (by have := cnt_le hc; omega)) rfl (fun _ _ => rfl) (kM [false, false] rfl rfl) (by decide) ?_
  refine pxV (v := (.int .i64 (((cnt c) : Nat) : Int))) (fun _ _ hF => opAssign rfl (hF.ev 0 rfl)) rfl (fun _ _ => rfl) (kM [false] rfl rfl) (by decide) ?_
  refine pxEnd ?_
  refine qxThen ?_
  refine cxRet ?_
  refine qxRet1 0 rfl rfl ?_
  exact ⟨rfl, HH.toBelow hH⟩

set_option maxHeartbeats 8000000 in
theorem ask_c (A : Option Addr) (n c : Nat) (s : List UInt8) : Pure Tryd.prog 11 #[(.slice A n c)] (fun w => Vu cByte w A n c s) (.int .i64 (((kd s) : Nat) : Int)) := by
  refine pure_of (fn := Tryd.f11) Tryd.func11 rfl Tryd.ntmps11 (Nat.le_of_ble_eq_true rfl) rfl ?_
  intro w0 hH hR
  have hn := hR.len
  refine cxSeq ?_
  refine cxReg ?_
  refine pxV (v := (.int .i64 0)) (fun _ _ hF => opAssign rfl rfl) rfl (fun _ _ => rfl) (kA rfl) (by decide) ?_
  refine pxEnd ?_
  refine qxThen ?_
  refine cxSeq ?_
  refine cxBlock ?_
  refine cxSeq ?_
  refine cxReg ?_
  refine pxV (v := (.slice A n c)) (fun _ _ hF => opMove rfl (hF.ev 1 rfl)) rfl (fun _ _ => rfl) (kM [false, true] rfl rfl) (by decide) ?_
  refine pxV (v := (.int .i64 (((n) : Nat) : Int))) (fun _ _ hF => opLen (e := 5) rfl (by kernel_rfl) (hF.ev 0 rfl)) rfl (fun _ _ => rfl) (kM [false, true] rfl rfl) (by decide) ?_
  refine pxV (v := (.bool (decide (n = 0)))) (fun _ _ hF => opEqI rfl (hF.ev 0 rfl) rfl (dc (by omega))) rfl (fun _ _ => rfl) (kM [false, true] rfl rfl) (by decide) ?_
  refine pxV (v := (.bool (decide (n = 0)))) (fun _ _ hF => opAssign rfl (hF.ev 0 rfl)) rfl (fun _ _ => rfl) (kM [false, true] rfl rfl) (by decide) ?_
  refine pxEnd ?_
  refine qxThen ?_
  refine cxP 0 rfl rfl (fun hc1 => ?_) (fun hc1 => ?_)
  · refine cxSeq ?_
    refine cxReg ?_
    refine pxV (v := (.int .i64 2)) (fun _ _ hF => opAssign rfl rfl) rfl (fun _ _ => rfl) (kM [false, false] rfl rfl) (by decide) ?_
    refine pxEnd ?_
    refine qxThen ?_
    refine cxRet ?_
    refine qxInR ?_
    refine qxThenR ?_
    refine qxRet1 0 rfl rfl ?_
    have he : kd s = 2 := by
      unfold kd
      rw [hn]
      have e3 := UInt8.toNat_lt (s.getD 0 0)
      rw [if_pos (by omega)]
    exact ⟨by rw [he]; rfl, HH.toBelow hH⟩
  · refine cxSeq ?_
    refine cxSeq ?_
    have hx0 : s[0]? = some (s.getD 0 0) := by rw [List.getD_eq_getElem?_getD, List.getElem?_eq_getElem (by omega)]; rfl
    have hb0 := UInt8.toNat_lt (s.getD 0 0)
    refine cxReg ?_
    refine pxV (v := (.slice A n c)) (fun _ _ hF => opMove rfl (hF.ev 1 rfl)) rfl (fun _ _ => rfl) (kM [false, true] rfl rfl) (by decide) ?_
    have hi2 : 0 < n := by omega
    obtain ⟨b3, off4, rfl, hL5, hb6, hR7⟩ := hR.blk (by decide) (Off.nil _ _) (by omega)
    have := hR.cap
    have hj10 : 0 < s.length := by first | exact hi2 | (simp only [List.length_drop]; omega) | (simp only [List.length_drop, List.length_take]; omega) | omega
    refine pxV (v := (.pointer (some ⟨b3, off4 + 0 * 1, none⟩))) (fun _ _ hF => opIndex (i := 0) (e := 5) (sz := 1) rfl (by kernel_rfl) (by kernel_rfl) (hF.ev 0 rfl) rfl rfl hi2) rfl (fun _ _ => rfl) (kM [false, true] rfl rfl) (by decide) ?_
    refine pxS (v := (.int .u8 ((((s.getD 0 0).toNat) : Nat) : Int))) (fun w => HoldsL cByte w b3 off4 s) (hH.holdsL hL5 hb6 hR7) (fun _ _ hF hS => opLoadT (C := cByte) (y := (s.getD 0 0)) rfl (hF.ev 0 rfl) (by kernel_rfl) (hS 0 _ hx0) rfl) rfl (fun _ _ => rfl) (kM [false, true] rfl rfl) (by decide) ?_
    refine pxV (v := (.bool (decide ((s.getD 0 0).toNat ≠ 3)))) (fun _ _ hF => opNeI rfl (hF.ev 0 rfl) rfl (dc (by omega))) rfl (fun _ _ => rfl) (kM [false, true] rfl rfl) (by decide) ?_
    refine pxV (v := (.bool (decide ((s.getD 0 0).toNat ≠ 3)))) (fun _ _ hF => opAssign rfl (hF.ev 0 rfl)) rfl (fun _ _ => rfl) (kM [false, true] rfl rfl) (by decide) ?_
    refine pxEnd ?_
    refine qxThen ?_
    refine cxP 0 rfl rfl (fun hc11 => ?_) (fun hc11 => ?_)
    · refine cxSkip ?_
      refine qxThen ?_
      refine cxP 0 rfl rfl (fun hc12 => ?_) (fun hc12 => ?_)
      · refine cxSeq ?_
        refine cxReg ?_
        refine pxV (v := (.int .i64 10)) (fun _ _ hF => opAssign rfl rfl) rfl (fun _ _ => rfl) (kM [false, false] rfl rfl) (by decide) ?_
        refine pxEnd ?_
        refine qxThen ?_
        refine cxRet ?_
        refine qxInR ?_
        refine qxThenR ?_
        refine qxRet1 0 rfl rfl ?_
        have he : kd s = 10 := by
          unfold kd
          rw [hn]
          have e3 := UInt8.toNat_lt (s.getD 0 0)
          rw [if_neg (by omega), if_pos (by omega)]
        exact ⟨by rw [he]; rfl, HH.toBelow hH⟩
      · refine cxSeq ?_
        refine cxReg ?_
        refine pxV (v := (.slice (some ⟨b3, off4, none⟩) n c)) (fun _ _ hF => opMove rfl (hF.ev 1 rfl)) rfl (fun _ _ => rfl) (kM [false, true] rfl rfl) (by decide) ?_
        refine pxV (v := (.int .i64 (((n) : Nat) : Int))) (fun _ _ hF => opLen (e := 5) rfl (by kernel_rfl) (hF.ev 0 rfl)) rfl (fun _ _ => rfl) (kM [false, true] rfl rfl) (by decide) ?_
        refine pxV (v := (.bool (decide (n < 11)))) (fun _ _ hF => opLss rfl (hF.ev 0 rfl) rfl (dc (by omega))) rfl (fun _ _ => rfl) (kM [false, true] rfl rfl) (by decide) ?_
        refine pxV (v := (.bool (decide (n < 11)))) (fun _ _ hF => opAssign rfl (hF.ev 0 rfl)) rfl (fun _ _ => rfl) (kM [false, true] rfl rfl) (by decide) ?_
        refine pxEnd ?_
        refine qxThen ?_
        refine cxP 0 rfl rfl (fun hc13 => ?_) (fun hc13 => ?_)
        · refine cxSeq ?_
          refine cxReg ?_
          refine pxV (v := (.int .i64 2)) (fun _ _ hF => opAssign rfl rfl) rfl (fun _ _ => rfl) (kM [false, false] rfl rfl) (by decide) ?_
          refine pxEnd ?_
          refine qxThen ?_
          refine cxRet ?_
          refine qxInR ?_
          refine qxThenR ?_
          refine qxRet1 0 rfl rfl ?_
          have he : kd s = 2 := by
            unfold kd
            rw [hn]
            have e3 := UInt8.toNat_lt (s.getD 0 0)
            rw [if_neg (by omega), if_neg (by omega), if_pos (by omega)]
          exact ⟨by rw [he]; rfl, HH.toBelow hH⟩
        · refine cxSeq ?_
          have hx10 : s[10]? = some (s.getD 10 0) := by rw [List.getD_eq_getElem?_getD, List.getElem?_eq_getElem (by omega)]; rfl
          have hb10 := UInt8.toNat_lt (s.getD 10 0)
          refine cxReg ?_
          refine pxV (v := (.slice (some ⟨b3, off4, none⟩) n c)) (fun _ _ hF => opMove rfl (hF.ev 1 rfl)) rfl (fun _ _ => rfl) (kM [false, false] rfl rfl) (by decide) ?_
          have hi14 : 10 < n := by omega
          have hj17 : 10 < s.length := by first | exact hi14 | (simp only [List.length_drop]; omega) | (simp only [List.length_drop, List.length_take]; omega) | omega
          refine pxV (v := (.pointer (some ⟨b3, off4 + 10 * 1, none⟩))) (fun _ _ hF => opIndex (i := 10) (e := 5) (sz := 1) rfl (by kernel_rfl) (by kernel_rfl) (hF.ev 0 rfl) rfl rfl hi14) rfl (fun _ _ => rfl) (kM [false] rfl rfl) (by decide) ?_
          refine pxS (v := (.int .u8 ((((s.getD 10 0).toNat) : Nat) : Int))) (fun w => HoldsL cByte w b3 off4 s) (hH.holdsL hL5 hb6 hR7) (fun _ _ hF hS => opLoadT (C := cByte) (y := (s.getD 10 0)) rfl (hF.ev 0 rfl) (by kernel_rfl) (hS 10 _ hx10) rfl) rfl (fun _ _ => rfl) (kM [false] rfl rfl) (by decide) ?_
          refine pxM hH (fun _ hF => Does.small ((count_c ((s.getD 10 0).toNat) (by first | omega | exact UInt8.toNat_lt _)).does) (fun w => opCall rfl Tryd.func9 rfl rfl (Evs.cons (v := (.int .u8 ((((s.getD 10 0).toNat) : Nat) : Int))) (hF.ev 0 rfl) Evs.nil) w)) trivial rfl (fun _ _ => rfl) (kM [false] rfl rfl) (by decide) ?_
          clear hH
          rintro _ _ w ⟨rfl, rfl⟩ hH
          replace hH : HH w0 [] [] w := hH.unpad
          refine pxV (v := (.bool (decide ((cnt ((s.getD 10 0).toNat)) > 131072)))) (fun _ _ hF => opGtr rfl (hF.ev 0 rfl) rfl (dc (by omega))) rfl (fun _ _ => rfl) (kM [false] rfl rfl) (by decide) ?_
          refine pxV (v := (.bool (decide ((cnt ((s.getD 10 0).toNat)) > 131072)))) (fun _ _ hF => opAssign rfl (hF.ev 0 rfl)) rfl (fun _ _ => rfl) (kM [false] rfl rfl) (by decide) ?_
          refine pxEnd ?_
          refine qxThen ?_
          refine cxP 0 rfl rfl (fun hc18 => ?_) (fun hc18 => ?_)
          · refine cxSeq ?_
            refine cxReg ?_
            refine pxV (v := (.int .i64 6)) (fun _ _ hF => opAssign rfl rfl) rfl (fun _ _ => rfl) (kM [false] rfl rfl) (by decide) ?_
            refine pxEnd ?_
            refine qxThen ?_
            refine cxRet ?_
            refine qxInR ?_
            refine qxThenR ?_
            refine qxRet1 0 rfl rfl ?_
            have he : kd s = 6 := by
              unfold kd
              rw [hn]
              have e3 := UInt8.toNat_lt (s.getD 0 0)
              rw [if_neg (by omega), if_neg (by omega), if_neg (by omega), if_pos (by omega)]
            exact ⟨by rw [he]; rfl, HH.toBelow hH⟩
          · refine cxSkip ?_
            refine qxInN ?_
            refine qxThen ?_
            refine cxSeq ?_
            refine cxReg ?_
            refine pxV (v := (.int .i64 0)) (fun _ _ hF => opAssign rfl rfl) rfl (fun _ _ => rfl) (kM [false] rfl rfl) (by decide) ?_
            refine pxEnd ?_
            refine qxThen ?_
            refine cxRet ?_
            refine qxRet1 0 rfl rfl ?_
            have he : kd s = 0 := by
              unfold kd
              rw [hn]
              have e3 := UInt8.toNat_lt (s.getD 0 0)
              rw [if_neg (by omega), if_neg (by omega), if_neg (by omega), if_neg (by omega)]
            exact ⟨by rw [he]; rfl, HH.toBelow hH⟩
    · refine cxReg ?_
      refine pxV (v := (.slice (some ⟨b3, off4, none⟩) n c)) (fun _ _ hF => opMove rfl (hF.ev 1 rfl)) rfl (fun _ _ => rfl) (kM [false, true] rfl rfl) (by decide) ?_
      refine pxV (v := (.int .i64 (((n) : Nat) : Int))) (fun _ _ hF => opLen (e := 5) rfl (by kernel_rfl) (hF.ev 0 rfl)) rfl (fun _ _ => rfl) (kM [false, true] rfl rfl) (by decide) ?_
      refine pxV (v := (.bool (decide (n > 1)))) (fun _ _ hF => opGtr rfl (hF.ev 0 rfl) rfl (dc (by omega))) rfl (fun _ _ => rfl) (kM [false, true] rfl rfl) (by decide) ?_
      refine pxV (v := (.bool (decide (n > 1)))) (fun _ _ hF => opMove rfl (hF.ev 0 rfl)) rfl (fun _ _ => rfl) (kM [false, true] rfl rfl) (by decide) ?_
      refine pxSplitP 0 rfl (l1 := [(15, (.bool true)), (0, (.slice (some ⟨b3, off4, none⟩) n c))]) (l2 := [(15, (.bool false)), (0, (.slice (some ⟨b3, off4, none⟩) n c))]) rfl rfl (fun hg19 => ?_) (fun hg19 => ?_)
      · have hx1 : s[1]? = some (s.getD 1 0) := by rw [List.getD_eq_getElem?_getD, List.getElem?_eq_getElem (by omega)]; rfl
        have hb1 := UInt8.toNat_lt (s.getD 1 0)
        refine pxV (v := (.slice (some ⟨b3, off4, none⟩) n c)) (fun _ _ hF => opMove rfl (hF.ev 1 rfl)) rfl (gOn 0 rfl rfl rfl (by decide)) (kA rfl) (by decide) ?_
        have hi20 : 1 < n := by omega
        have hj23 : 1 < s.length := by first | exact hi20 | (simp only [List.length_drop]; omega) | (simp only [List.length_drop, List.length_take]; omega) | omega
        refine pxV (v := (.pointer (some ⟨b3, off4 + 1 * 1, none⟩))) (fun _ _ hF => opIndex (i := 1) (e := 5) (sz := 1) rfl (by kernel_rfl) (by kernel_rfl) (hF.ev 0 rfl) rfl rfl hi20) rfl (gOn 1 rfl rfl rfl (by decide)) (kM [false, true, true] rfl rfl) (by decide) ?_
        refine pxS (v := (.int .u8 ((((s.getD 1 0).toNat) : Nat) : Int))) (fun w => HoldsL cByte w b3 off4 s) (hH.holdsL hL5 hb6 hR7) (fun _ _ hF hS => opLoadT (C := cByte) (y := (s.getD 1 0)) rfl (hF.ev 0 rfl) (by kernel_rfl) (hS 1 _ hx1) rfl) rfl (gOn 1 rfl rfl rfl (by decide)) (kM [false, true, true] rfl rfl) (by decide) ?_
        refine pxV (v := (.bool (decide ((s.getD 1 0).toNat ≠ 8)))) (fun _ _ hF => opNeI rfl (hF.ev 0 rfl) rfl (dc (by omega))) rfl (gOn 1 rfl rfl rfl (by decide)) (kM [false, true, true] rfl rfl) (by decide) ?_
        refine pxV (v := (.bool (decide ((s.getD 1 0).toNat ≠ 8)))) (fun _ _ hF => opPickT rfl (hF.ev 1 rfl) (hF.ev 0 rfl)) rfl (fun _ _ => rfl) (kM [false, false, true] rfl rfl) (by decide) ?_
        refine pxV (v := (.bool (decide ((s.getD 1 0).toNat ≠ 8)))) (fun _ _ hF => opAssign rfl (hF.ev 0 rfl)) rfl (fun _ _ => rfl) (kM [false, true] rfl rfl) (by decide) ?_
        refine pxEnd ?_
        refine qxThen ?_
        refine cxP 0 rfl rfl (fun hc24 => ?_) (fun hc24 => ?_)
        · refine cxSeq ?_
          refine cxReg ?_
          refine pxV (v := (.int .i64 10)) (fun _ _ hF => opAssign rfl rfl) rfl (fun _ _ => rfl) (kM [false, false] rfl rfl) (by decide) ?_
          refine pxEnd ?_
          refine qxThen ?_
          refine cxRet ?_
          refine qxInR ?_
          refine qxThenR ?_
          refine qxRet1 0 rfl rfl ?_
          have he : kd s = 10 := by
            unfold kd
            rw [hn]
            have e3 := UInt8.toNat_lt (s.getD 0 0)
            rw [if_neg (by omega), if_pos (by omega)]
          exact ⟨by rw [he]; rfl, HH.toBelow hH⟩
        · refine cxSeq ?_
          refine cxReg ?_
          refine pxV (v := (.slice (some ⟨b3, off4, none⟩) n c)) (fun _ _ hF => opMove rfl (hF.ev 1 rfl)) rfl (fun _ _ => rfl) (kM [false, true] rfl rfl) (by decide) ?_
          refine pxV (v := (.int .i64 (((n) : Nat) : Int))) (fun _ _ hF => opLen (e := 5) rfl (by kernel_rfl) (hF.ev 0 rfl)) rfl (fun _ _ => rfl) (kM [false, true] rfl rfl) (by decide) ?_
          refine pxV (v := (.bool (decide (n < 11)))) (fun _ _ hF => opLss rfl (hF.ev 0 rfl) rfl (dc (by omega))) rfl (fun _ _ => rfl) (kM [false, true] rfl rfl) (by decide) ?_
          refine pxV (v := (.bool (decide (n < 11)))) (fun _ _ hF => opAssign rfl (hF.ev 0 rfl)) rfl (fun _ _ => rfl) (kM [false, true] rfl rfl) (by decide) ?_
          refine pxEnd ?_
          refine qxThen ?_
          refine cxP 0 rfl rfl (fun hc25 => ?_) (fun hc25 => ?_)
          · refine cxSeq ?_
            refine cxReg ?_
            refine pxV (v := (.int .i64 2)) (fun _ _ hF => opAssign rfl rfl) rfl (fun _ _ => rfl) (kM [false, false] rfl rfl) (by decide) ?_
            refine pxEnd ?_
            refine qxThen ?_
            refine cxRet ?_
            refine qxInR ?_
            refine qxThenR ?_
            refine qxRet1 0 rfl rfl ?_
            have he : kd s = 2 := by
              unfold kd
              rw [hn]
              have e3 := UInt8.toNat_lt (s.getD 0 0)
              rw [if_neg (by omega), if_neg (by omega), if_pos (by omega)]
            exact ⟨by rw [he]; rfl, HH.toBelow hH⟩
          · refine cxSeq ?_
            have hx10 : s[10]? = some (s.getD 10 0) := by rw [List.getD_eq_getElem?_getD, List.getElem?_eq_getElem (by omega)]; rfl
            have hb10 := UInt8.toNat_lt (s.getD 10 0)
            refine cxReg ?_
            refine pxV (v := (.slice (some ⟨b3, off4, none⟩) n c)) (fun _ _ hF => opMove rfl (hF.ev 1 rfl)) rfl (fun _ _ => rfl) (kM [false, false] rfl rfl) (by decide) ?_
            have hi26 : 10 < n := by omega
            have hj29 : 10 < s.length := by first | exact hi26 | (simp only [List.length_drop]; omega) | (simp only [List.length_drop, List.length_take]; omega) | omega
            refine pxV (v := (.pointer (some ⟨b3, off4 + 10 * 1, none⟩))) (fun _ _ hF => opIndex (i := 10) (e := 5) (sz := 1) rfl (by kernel_rfl) (by kernel_rfl) (hF.ev 0 rfl) rfl rfl hi26) rfl (fun _ _ => rfl) (kM [false] rfl rfl) (by decide) ?_
            refine pxS (v := (.int .u8 ((((s.getD 10 0).toNat) : Nat) : Int))) (fun w => HoldsL cByte w b3 off4 s) (hH.holdsL hL5 hb6 hR7) (fun _ _ hF hS => opLoadT (C := cByte) (y := (s.getD 10 0)) rfl (hF.ev 0 rfl) (by kernel_rfl) (hS 10 _ hx10) rfl) rfl (fun _ _ => rfl) (kM [false] rfl rfl) (by decide) ?_
            refine pxM hH (fun _ hF => Does.small ((count_c ((s.getD 10 0).toNat) (by first | omega | exact UInt8.toNat_lt _)).does) (fun w => opCall rfl Tryd.func9 rfl rfl (Evs.cons (v := (.int .u8 ((((s.getD 10 0).toNat) : Nat) : Int))) (hF.ev 0 rfl) Evs.nil) w)) trivial rfl (fun _ _ => rfl) (kM [false] rfl rfl) (by decide) ?_
            clear hH
            rintro _ _ w ⟨rfl, rfl⟩ hH
            replace hH : HH w0 [] [] w := hH.unpad
            refine pxV (v := (.bool (decide ((cnt ((s.getD 10 0).toNat)) > 131072)))) (fun _ _ hF => opGtr rfl (hF.ev 0 rfl) rfl (dc (by omega))) rfl (fun _ _ => rfl) (kM [false] rfl rfl) (by decide) ?_
            refine pxV (v := (.bool (decide ((cnt ((s.getD 10 0).toNat)) > 131072)))) (fun _ _ hF => opAssign rfl (hF.ev 0 rfl)) rfl (fun _ _ => rfl) (kM [false] rfl rfl) (by decide) ?_
            refine pxEnd ?_
            refine qxThen ?_
            refine cxP 0 rfl rfl (fun hc30 => ?_) (fun hc30 => ?_)
            · refine cxSeq ?_
              refine cxReg ?_
              refine pxV (v := (.int .i64 6)) (fun _ _ hF => opAssign rfl rfl) rfl (fun _ _ => rfl) (kM [false] rfl rfl) (by decide) ?_
              refine pxEnd ?_
              refine qxThen ?_
              refine cxRet ?_
              refine qxInR ?_
              refine qxThenR ?_
              refine qxRet1 0 rfl rfl ?_
              have he : kd s = 6 := by
                unfold kd
                rw [hn]
                have e3 := UInt8.toNat_lt (s.getD 0 0)
                rw [if_neg (by omega), if_neg (by omega), if_neg (by omega), if_pos (by omega)]
              exact ⟨by rw [he]; rfl, HH.toBelow hH⟩
            · refine cxSkip ?_
              refine qxInN ?_
              refine qxThen ?_
              refine cxSeq ?_
              refine cxReg ?_
              refine pxV (v := (.int .i64 0)) (fun _ _ hF => opAssign rfl rfl) rfl (fun _ _ => rfl) (kM [false] rfl rfl) (by decide) ?_
              refine pxEnd ?_
              refine qxThen ?_
              refine cxRet ?_
              refine qxRet1 0 rfl rfl ?_
              have he : kd s = 0 := by
                unfold kd
                rw [hn]
                have e3 := UInt8.toNat_lt (s.getD 0 0)
                rw [if_neg (by omega), if_neg (by omega), if_neg (by omega), if_neg (by omega)]
              exact ⟨by rw [he]; rfl, HH.toBelow hH⟩
      · refine pxU rfl (gOff 0 rfl rfl rfl (by decide)) (kA rfl) (by decide) ?_
        refine pxU rfl (gOff 0 rfl rfl rfl (by decide)) (kA rfl) (by decide) ?_
        refine pxU rfl (gOff 0 rfl rfl rfl (by decide)) (kA rfl) (by decide) ?_
        refine pxU rfl (gOff 0 rfl rfl rfl (by decide)) (kA rfl) (by decide) ?_
        refine pxV (v := (.bool false)) (fun _ _ hF => opPickF rfl (hF.ev 0 rfl) rfl) rfl (fun _ _ => rfl) (kM [false, true] rfl rfl) (by decide) ?_
        refine pxV (v := (.bool false)) (fun _ _ hF => opAssign rfl (hF.ev 0 rfl)) rfl (fun _ _ => rfl) (kM [false, true] rfl rfl) (by decide) ?_
        refine pxEnd ?_
        refine qxThen ?_
        refine cxF 0 rfl rfl ?_
        refine cxSeq ?_
        refine cxReg ?_
        refine pxV (v := (.slice (some ⟨b3, off4, none⟩) n c)) (fun _ _ hF => opMove rfl (hF.ev 1 rfl)) rfl (fun _ _ => rfl) (kM [false, true] rfl rfl) (by decide) ?_
        refine pxV (v := (.int .i64 (((n) : Nat) : Int))) (fun _ _ hF => opLen (e := 5) rfl (by kernel_rfl) (hF.ev 0 rfl)) rfl (fun _ _ => rfl) (kM [false, true] rfl rfl) (by decide) ?_
        refine pxV (v := (.bool (decide (n < 11)))) (fun _ _ hF => opLss rfl (hF.ev 0 rfl) rfl (dc (by omega))) rfl (fun _ _ => rfl) (kM [false, true] rfl rfl) (by decide) ?_
        refine pxV (v := (.bool (decide (n < 11)))) (fun _ _ hF => opAssign rfl (hF.ev 0 rfl)) rfl (fun _ _ => rfl) (kM [false, true] rfl rfl) (by decide) ?_
        refine pxEnd ?_
        refine qxThen ?_
        refine cxP 0 rfl rfl (fun hc31 => ?_) (fun hc31 => ?_)
        · refine cxSeq ?_
          refine cxReg ?_
          refine pxV (v := (.int .i64 2)) (fun _ _ hF => opAssign rfl rfl) rfl (fun _ _ => rfl) (kM [false, false] rfl rfl) (by decide) ?_
          refine pxEnd ?_
          refine qxThen ?_
          refine cxRet ?_
          refine qxInR ?_
          refine qxThenR ?_
          refine qxRet1 0 rfl rfl ?_
          have he : kd s = 2 := by
            unfold kd
            rw [hn]
            have e3 := UInt8.toNat_lt (s.getD 0 0)
            rw [if_neg (by omega), if_neg (by omega), if_pos (by omega)]
          exact ⟨by rw [he]; rfl, HH.toBelow hH⟩
        · refine cxSeq ?_
          have hx10 : s[10]? = some (s.getD 10 0) := by rw [List.getD_eq_getElem?_getD, List.getElem?_eq_getElem (by omega)]; rfl
          have hb10 := UInt8.toNat_lt (s.getD 10 0)
          refine cxReg ?_
          refine pxV (v := (.slice (some ⟨b3, off4, none⟩) n c)) (fun _ _ hF => opMove rfl (hF.ev 1 rfl)) rfl (fun _ _ => rfl) (kM [false, false] rfl rfl) (by decide) ?_
          have hi32 : 10 < n := by omega
          have hj35 : 10 < s.length := by first | exact hi32 | (simp only [List.length_drop]; omega) | (simp only [List.length_drop, List.length_take]; omega) | omega
          refine pxV (v := (.pointer (some ⟨b3, off4 + 10 * 1, none⟩))) (fun _ _ hF => opIndex (i := 10) (e := 5) (sz := 1) rfl (by kernel_rfl) (by kernel_rfl) (hF.ev 0 rfl) rfl rfl hi32) rfl (fun _ _ => rfl) (kM [false] rfl rfl) (by decide) ?_
          refine pxS (v := (.int .u8 ((((s.getD 10 0).toNat) : Nat) : Int))) (fun w => HoldsL cByte w b3 off4 s) (hH.holdsL hL5 hb6 hR7) (fun _ _ hF hS => opLoadT (C := cByte) (y := (s.getD 10 0)) rfl (hF.ev 0 rfl) (by kernel_rfl) (hS 10 _ hx10) rfl) rfl (fun _ _ => rfl) (kM [false] rfl rfl) (by decide) ?_
          refine pxM hH (fun _ hF => Does.small ((count_c ((s.getD 10 0).toNat) (by first | omega | exact UInt8.toNat_lt _)).does) (fun w => opCall rfl Tryd.func9 rfl rfl (Evs.cons (v := (.int .u8 ((((s.getD 10 0).toNat) : Nat) : Int))) (hF.ev 0 rfl) Evs.nil) w)) trivial rfl (fun _ _ => rfl) (kM [false] rfl rfl) (by decide) ?_
          clear hH
          rintro _ _ w ⟨rfl, rfl⟩ hH
          replace hH : HH w0 [] [] w := hH.unpad
          refine pxV (v := (.bool (decide ((cnt ((s.getD 10 0).toNat)) > 131072)))) (fun _ _ hF => opGtr rfl (hF.ev 0 rfl) rfl (dc (by omega))) rfl (fun _ _ => rfl) (kM [false] rfl rfl) (by decide) ?_
          refine pxV (v := (.bool (decide ((cnt ((s.getD 10 0).toNat)) > 131072)))) (fun _ _ hF => opAssign rfl (hF.ev 0 rfl)) rfl (fun _ _ => rfl) (kM [false] rfl rfl) (by decide) ?_
          refine pxEnd ?_
          refine qxThen ?_
          refine cxP 0 rfl rfl (fun hc36 => ?_) (fun hc36 => ?_)
          · refine cxSeq ?_
            refine cxReg ?_
            refine pxV (v := (.int .i64 6)) (fun _ _ hF => opAssign rfl rfl) rfl (fun _ _ => rfl) (kM [false] rfl rfl) (by decide) ?_
            refine pxEnd ?_
            refine qxThen ?_
            refine cxRet ?_
            refine qxInR ?_
            refine qxThenR ?_
            refine qxRet1 0 rfl rfl ?_
            have he : kd s = 6 := by
              unfold kd
              rw [hn]
              have e3 := UInt8.toNat_lt (s.getD 0 0)
              rw [if_neg (by omega), if_neg (by omega), if_neg (by omega), if_pos (by omega)]
            exact ⟨by rw [he]; rfl, HH.toBelow hH⟩
          · refine cxSkip ?_
            refine qxInN ?_
            refine qxThen ?_
            refine cxSeq ?_
            refine cxReg ?_
            refine pxV (v := (.int .i64 0)) (fun _ _ hF => opAssign rfl rfl) rfl (fun _ _ => rfl) (kM [false] rfl rfl) (by decide) ?_
            refine pxEnd ?_
            refine qxThen ?_
            refine cxRet ?_
            refine qxRet1 0 rfl rfl ?_
            have he : kd s = 0 := by
              unfold kd
              rw [hn]
              have e3 := UInt8.toNat_lt (s.getD 0 0)
              rw [if_neg (by omega), if_neg (by omega), if_neg (by omega), if_neg (by omega)]
            exact ⟨by rw [he]; rfl, HH.toBelow hH⟩

set_option maxHeartbeats 8000000 in
theorem grow_c (n : Nat) (hn : n ≤ 140737488355328) : Does Tryd.prog 15 #[(.slice none 0 0), (.int .i64 (((n) : Nat) : Int))] [] (fun _ => True) (fun v E' => OwnT cByte 5 v [] E') := by
  refine does_of (fn := Tryd.f15) Tryd.func15 rfl Tryd.ntmps15 (Nat.le_of_ble_eq_true rfl) rfl ?_
  intro w0 hH hR
  replace hH : HH w0 [] [] w0 := hH.only [false]
  refine cxSeq ?_
  refine cxReg ?_
  refine pxV (v := (.slice none 0 0)) (fun _ _ hF => opAssign rfl rfl) rfl (fun _ _ => rfl) (kA rfl) (by decide) ?_
  refine pxEnd ?_
  refine qxThen ?_
  refine cxSeq ?_
  refine cxSeq ?_
  refine cxReg ?_
  refine pxV (v := (.int .i64 (((n) : Nat) : Int))) (fun _ _ hF => opMove rfl (hF.ev 2 rfl)) rfl (fun _ _ => rfl) (kM [false, true, true] rfl rfl) (by decide) ?_
  refine pxV (v := (.bool false)) (fun _ _ hF => opLss rfl (hF.ev 0 rfl) rfl (decide_eq_false (by omega))) rfl (fun _ _ => rfl) (kM [false, true, true] rfl rfl) (by decide) ?_
  refine pxEnd ?_
  refine qxThen ?_
  refine cxF 0 rfl rfl ?_
  refine cxSkip ?_
  refine qxThen ?_
  refine cxSeq ?_
  refine cxSeq ?_
  refine cxReg ?_
  refine pxV (v := (.int .i64 (((n) : Nat) : Int))) (fun _ _ hF => opMove rfl (hF.ev 2 rfl)) rfl (fun _ _ => rfl) (kM [false, true, false] rfl rfl) (by decide) ?_
  refine pxV (v := (.slice none 0 0)) (fun _ _ hF => opMove rfl (hF.ev 1 rfl)) rfl (fun _ _ => rfl) (kA rfl) (by decide) ?_
  refine pxV (v := (.int .i64 0)) (fun _ _ hF => opCap (e := 5) rfl (by kernel_rfl) (hF.ev 0 rfl)) rfl (fun _ _ => rfl) (kM [false, true, true] rfl rfl) (by decide) ?_
  refine pxV (v := (.slice none 0 0)) (fun _ _ hF => opMove rfl (hF.ev 2 rfl)) rfl (fun _ _ => rfl) (kA rfl) (by decide) ?_
  refine pxV (v := (.int .i64 0)) (fun _ _ hF => opLen (e := 5) rfl (by kernel_rfl) (hF.ev 0 rfl)) rfl (fun _ _ => rfl) (kM [false, true, true, true] rfl rfl) (by decide) ?_
  refine pxV (v := (.int .i64 0)) (fun _ _ hF => opSub rfl (hF.ev 1 rfl) (hF.ev 0 rfl) (by decide)) rfl (fun _ _ => rfl) (kM [false, false, true, true] rfl rfl) (by decide) ?_
  refine pxV (v := (.int .i64 (((n) : Nat) : Int))) (fun _ _ hF => opSub rfl (hF.ev 1 rfl) (hF.ev 0 rfl) (wI (by omega) (by omega) (by omega))) rfl (fun _ _ => rfl) (kM [false, false, true] rfl rfl) (by decide) ?_
  refine pxV (v := (.int .i64 (((n) : Nat) : Int))) (fun _ _ hF => opAssign rfl (hF.ev 0 rfl)) rfl (fun _ _ => rfl) (kM [false, true] rfl rfl) (by decide) ?_
  refine pxEnd ?_
  refine qxThen ?_
  refine cxSeq ?_
  refine cxReg ?_
  refine pxV (v := (.int .i64 (((n) : Nat) : Int))) (fun _ _ hF => opMove rfl (hF.ev 0 rfl)) rfl (fun _ _ => rfl) (kA rfl) (by decide) ?_
  refine pxV (v := (.bool (decide (n > 0)))) (fun _ _ hF => opGtr rfl (hF.ev 0 rfl) rfl (dc (by omega))) rfl (fun _ _ => rfl) (kM [false, true, true] rfl rfl) (by decide) ?_
  refine pxEnd ?_
  refine qxThen ?_
  refine cxP 0 rfl rfl (fun hc1 => ?_) (fun hc1 => ?_)
  · have hc0 : 0 < n := by omega
    refine cxReg ?_
    refine pxV (v := (.slice none 0 0)) (fun _ _ hF => opMove rfl (hF.ev 2 rfl)) rfl (fun _ _ => rfl) (kM [false, true, true] rfl rfl) (by decide) ?_
    refine pxV (v := (.slice none 0 0)) (fun _ _ hF => opMove rfl (hF.ev 2 rfl)) rfl (fun _ _ => rfl) (kA rfl) (by decide) ?_
    refine pxV (v := (.int .i64 0)) (fun _ _ hF => opCap (e := 5) rfl (by kernel_rfl) (hF.ev 0 rfl)) rfl (fun _ _ => rfl) (kM [false, true, true, true] rfl rfl) (by decide) ?_
    refine pxV (v := (.slice none 0 0)) (fun _ _ hF => opCutH (h := 0) (e := 5) (sz := 1) rfl (by kernel_rfl) (by kernel_rfl) (hF.ev 1 rfl) (hF.ev 0 rfl) rfl (by omega)) rfl (fun _ _ => rfl) (kM [false, false, true, true] rfl rfl) (by decide) ?_
    refine pxV (v := (.int .i64 (((n) : Nat) : Int))) (fun _ _ hF => opMove rfl (hF.ev 1 rfl)) rfl (fun _ _ => rfl) (kM [true, false, true] rfl rfl) (by decide) ?_
    refine pxM hH (fun _ hF => smAppZ (kn := .i64) (C := cByte) (z := 0) (e := 5) (by_ := 1) rfl (by kernel_rfl) (by kernel_rfl) (by kernel_rfl) (ltb rfl) (hF.ev 1 rfl) (hF.ev 0 rfl) hc0 (by omega) (by unfold maxLen; omega)) trivial rfl (fun _ _ => rfl) (kM [false, false, true] rfl rfl) (by decide) ?_
    clear hH
    rintro _ _ w ⟨g2, cap3, cur4, rfl, rfl, hB5⟩ hH
    replace hH : HH w0 [] [[bl g2 5 cur4]] w := hH
    refine pxV (v := (.slice none 0 0)) (fun _ _ hF => opMove rfl (hF.ev 1 rfl)) rfl (fun _ _ => rfl) (kM [true, false] rfl rfl) (by decide) ?_
    refine pxV (v := (.int .i64 0)) (fun _ _ hF => opLen (e := 5) rfl (by kernel_rfl) (hF.ev 0 rfl)) rfl (fun _ _ => rfl) (kM [false, true] rfl rfl) (by decide) ?_
    refine pxV (v := (.slice (some ⟨g2, 0, none⟩) 0 cap3)) (fun _ _ hF => opCutH (h := 0) (e := 5) (sz := 1) rfl (by kernel_rfl) (by kernel_rfl) (hF.ev 1 rfl) (hF.ev 0 rfl) rfl (by omega)) rfl (fun _ _ => rfl) (kM [false, false] rfl rfl) (by decide) ?_
    refine pxV (v := (.slice (some ⟨g2, 0, none⟩) 0 cap3)) (fun _ _ hF => opAssign rfl (hF.ev 0 rfl)) rfl (fun _ _ => rfl) (kM [false] rfl rfl) (by decide) ?_
    refine pxEnd ?_
    refine qxThen ?_
    refine cxSeq ?_
    refine cxReg ?_
    refine pxV (v := (.slice (some ⟨g2, 0, none⟩) 0 cap3)) (fun _ _ hF => opMove rfl (hF.ev 0 rfl)) rfl (fun _ _ => rfl) (kM [false] rfl rfl) (by decide) ?_
    refine pxV (v := (.slice (some ⟨g2, 0, none⟩) 0 cap3)) (fun _ _ hF => opAssign rfl (hF.ev 0 rfl)) rfl (fun _ _ => rfl) (kM [false] rfl rfl) (by decide) ?_
    refine pxEnd ?_
    refine qxThen ?_
    refine cxRet ?_
    refine qxRet1 0 rfl rfl ?_
    exact ⟨_, _, rfl, hB5.own 5 g2 rfl, hH.out1 [true] rfl⟩
  · refine cxSkip ?_
    refine qxThen ?_
    refine cxSeq ?_
    refine cxReg ?_
    refine pxV (v := (.slice none 0 0)) (fun _ _ hF => opMove rfl (hF.ev 2 rfl)) rfl (fun _ _ => rfl) (kM [false, false, false] rfl rfl) (by decide) ?_
    refine pxV (v := (.slice none 0 0)) (fun _ _ hF => opAssign rfl (hF.ev 0 rfl)) rfl (fun _ _ => rfl) (kM [false] rfl rfl) (by decide) ?_
    refine pxEnd ?_
    refine qxThen ?_
    refine cxRet ?_
    refine qxRet1 0 rfl rfl ?_
    exact ⟨_, _, rfl, OwnT.nil _ _, HH.out (HH.pad hH 1) [true]⟩

set_option maxHeartbeats 8000000 in
theorem concat_c (A : Option Addr) (n c : Nat) (hs : List (Option Addr × Nat × Nat)) (ds : List (List UInt8)) (hd : ds.length = n) (hn2 : n ≤ 1000) (hb : ds.flatten.length ≤ 70368744177664) : Does Tryd.prog 12 #[(.slice A n c)] [] (fun w => Vu cSl w A n c hs ∧ ∀ (i : Nat) (z : Option Addr × Nat × Nat), hs[i]? = some z → ∃ l : List UInt8, ds[i]? = some l ∧ Vu cByte w z.1 z.2.1 z.2.2 l) (fun v E' => OwnT cByte 5 v ds.flatten E') := by
  refine does_of (fn := Tryd.f12) Tryd.func12 rfl Tryd.ntmps12 (Nat.le_of_ble_eq_true rfl) rfl ?_
  intro w0 hH hR
  replace hH : HH w0 [] [] w0 := hH.only [false]
  have hn := hR.1.len; have hcap := hR.1.cap
  refine cxSeq ?_
  refine cxReg ?_
  refine pxV (v := (.slice none 0 0)) (fun _ _ hF => opAssign rfl rfl) rfl (fun _ _ => rfl) (kA rfl) (by decide) ?_
  refine pxEnd ?_
  refine qxThen ?_
  refine cxSeq ?_
  refine cxReg ?_
  refine pxV (v := (.int .i64 0)) (fun _ _ hF => opAssign rfl rfl) rfl (fun _ _ => rfl) (kM [false, true] rfl rfl) (by decide) ?_
  refine pxEnd ?_
  refine qxThen ?_
  refine cxSeq ?_
  refine cxSeq ?_
  refine cxReg ?_
  refine pxV (v := (.slice A n c)) (fun _ _ hF => opMove rfl (hF.ev 1 rfl)) rfl (fun _ _ => rfl) (kA rfl) (by decide) ?_
  refine pxV (v := (.int .i64 (((n) : Nat) : Int))) (fun _ _ hF => opLen (e := 22) rfl (by kernel_rfl) (hF.ev 0 rfl)) rfl (fun _ _ => rfl) (kA rfl) (by decide) ?_
  refine pxV (v := (.int .i64 0)) (fun _ _ hF => opMove rfl rfl) rfl (fun _ _ => rfl) (kA rfl) (by decide) ?_
  refine pxEnd ?_
  refine qxThen ?_
  refine cxBlock ?_
  refine cxLoop (σ := Nat) (fun x => [(11, (.int .i64 (((x) : Nat) : Int))), (10, (.int .i64 (((n) : Nat) : Int))), (9, (.slice A n c)), (3, (.int .i64 ((((ds.take x).flatten.length) : Nat) : Int))), (0, (.slice A n c))]) (fun x w => HH w0 [] [] w ∧ (x ≤ n)) (fun x => n - x) 0 ⟨hH, (Nat.zero_le _)⟩ (slots_at [0, 1, 2, 3, 4] rfl) ?_
  clear hH
  rintro i w ⟨hH, hi⟩
  change CX _ _ _ _ [(11, (.int .i64 (((i) : Nat) : Int))), (10, (.int .i64 (((n) : Nat) : Int))), (9, (.slice A n c)), (3, (.int .i64 ((((ds.take i).flatten.length) : Nat) : Int))), (0, (.slice A n c))] _
  replace hH : HH w0 [] [] w := hH
  replace hi : i ≤ n := hi
  refine cxSeq ?_
  refine cxReg ?_
  refine pxV (v := (.bool (decide (i < n)))) (fun _ _ hF => opLss rfl (hF.ev 0 rfl) (hF.ev 1 rfl) (dc (by omega))) rfl (fun _ _ => rfl) (kA rfl) (by decide) ?_
  refine pxEnd ?_
  refine qxThen ?_
  refine cxSeq ?_
  refine cxP 0 rfl rfl (fun hc1 => ?_) (fun hc1 => ?_)
  · refine cxSkip ?_
    refine qxThen ?_
    refine cxSeq ?_
    refine cxBlock ?_
    refine cxSeq ?_
    obtain ⟨⟨A1, n1, c1⟩, hx1⟩ := get_at hs i (by omega)
    obtain ⟨l1, hl1, hV1⟩ := hR.2 _ _ hx1
    obtain rfl : l1.length = n1 := hV1.len
    replace hV1 : Vu cByte w0 A1 l1.length c1 l1 := hV1
    have hcap1 := hV1.cap
    have hfl1 := congrArg List.length (flatten_next hl1)
    rw [List.length_append] at hfl1
    have hle1 := flatten_le (ds := ds) (i + 1)
    refine cxReg ?_
    have hi2 : i < n := by omega
    obtain ⟨b3, off4, rfl, hL5, hb6, hR7⟩ := hR.1.blk (by decide) (Off.nil _ _) (by omega)
    have := hR.1.cap
    have hj10 : i < hs.length := by first | exact hi2 | (simp only [List.length_drop]; omega) | (simp only [List.length_drop, List.length_take]; omega) | omega
    refine pxV (v := (.pointer (some ⟨b3, off4 + i * 1, none⟩))) (fun _ _ hF => opIndex (i := i) (e := 22) (sz := 1) rfl (by kernel_rfl) (by kernel_rfl) (hF.ev 3 rfl) (hF.ev 1 rfl) rfl hi2) rfl (fun _ _ => rfl) (kM [false, true, true, true, true, true] rfl rfl) (by decide) ?_
    refine pxS (v := (.slice A1 l1.length c1)) (fun w => HoldsL cSl w b3 off4 hs) (hH.holdsL hL5 hb6 hR7) (fun _ _ hF hS => opLoadT (C := cSl) (y := (A1, l1.length, c1)) rfl (hF.ev 0 rfl) (by kernel_rfl) (hS i _ hx1) rfl) rfl (fun _ _ => rfl) (kM [false, true, true, true, true, true] rfl rfl) (by decide) ?_
    refine pxV (v := (.slice A1 l1.length c1)) (fun _ _ hF => opAssign rfl (hF.ev 0 rfl)) rfl (fun _ _ => rfl) (kM [false, true, true, true, true, true] rfl rfl) (by decide) ?_
    refine pxEnd ?_
    refine qxThen ?_
    refine cxSeq ?_
    refine cxReg ?_
    refine pxV (v := (.int .i64 ((((ds.take i).flatten.length) : Nat) : Int))) (fun _ _ hF => opMove rfl (hF.ev 4 rfl)) rfl (fun _ _ => rfl) (kM [true, true, true, true, false, true] rfl rfl) (by decide) ?_
    refine pxV (v := (.slice A1 l1.length c1)) (fun _ _ hF => opMove rfl (hF.ev 1 rfl)) rfl (fun _ _ => rfl) (kM [true, false, true, true, true, true] rfl rfl) (by decide) ?_
    refine pxV (v := (.int .i64 (((l1.length) : Nat) : Int))) (fun _ _ hF => opLen (e := 5) rfl (by kernel_rfl) (hF.ev 0 rfl)) rfl (fun _ _ => rfl) (kM [false, true, true, true, true, true] rfl rfl) (by decide) ?_
    refine pxV (v := (.int .i64 ((((ds.take (i + 1)).flatten.length) : Nat) : Int))) (fun _ _ hF => opAdd rfl (hF.ev 1 rfl) (hF.ev 0 rfl) (wI (by omega) (by omega) (by omega))) rfl (fun _ _ => rfl) (kM [false, false, true, true, true, true] rfl rfl) (by decide) ?_
    refine pxV (v := (.int .i64 ((((ds.take (i + 1)).flatten.length) : Nat) : Int))) (fun _ _ hF => opAssign rfl (hF.ev 0 rfl)) rfl (fun _ _ => rfl) (kM [false, true, true, true, true] rfl rfl) (by decide) ?_
    refine pxEnd ?_
    refine qxThen ?_
    refine cxSeq ?_
    refine cxReg ?_
    refine pxV (v := (.int .i64 ((((ds.take (i + 1)).flatten.length) : Nat) : Int))) (fun _ _ hF => opMove rfl (hF.ev 0 rfl)) rfl (fun _ _ => rfl) (kA rfl) (by decide) ?_
    refine pxV (v := (.bool false)) (fun _ _ hF => opLss rfl (hF.ev 0 rfl) rfl (decide_eq_false (by omega))) rfl (fun _ _ => rfl) (kM [false, true, true, true, true, true] rfl rfl) (by decide) ?_
    refine pxEnd ?_
    refine qxThen ?_
    refine cxF 0 rfl rfl ?_
    refine cxSkip ?_
    refine qxInN ?_
    refine qxThen ?_
    refine cxReg ?_
    refine pxV (v := (.int .i64 (((i + 1) : Nat) : Int))) (fun _ _ hF => opAdd rfl (hF.ev 2 rfl) rfl (wI (by omega) (by omega) (by omega))) rfl (fun _ _ => rfl) (kM [false, true, false, true, true, true] rfl rfl) (by decide) ?_
    refine pxV (v := (.int .i64 (((i + 1) : Nat) : Int))) (fun _ _ hF => opMove rfl (hF.ev 0 rfl)) rfl (fun _ _ => rfl) (kM [false, true, true, true, true] rfl rfl) (by decide) ?_
    refine pxEnd ?_
    exact qxRound (i + 1) ⟨hH, (show (i + 1) ≤ n from (by omega))⟩ (by omega) (slots_at [0, 2, 3, 1, 4] rfl)
  · refine cxExit ?_
    refine qxThenE ?_
    refine qxThenE ?_
    refine qxInE ?_
    refine qxThen ?_
    refine cxSeq ?_
    have hle0 := flatten_le (ds := ds) i
    refine cxReg ?_
    refine pxV (v := (.int .i64 ((((ds.take i).flatten.length) : Nat) : Int))) (fun _ _ hF => opMove rfl (hF.ev 4 rfl)) rfl (fun _ _ => rfl) (kM [false, false, false, false, false, true] rfl rfl) (by decide) ?_
    refine pxM hH (fun _ hF => Does.small ((grow_c ((ds.take i).flatten.length) (by omega))) (fun w => opCall rfl Tryd.func15 rfl rfl (Evs.cons (v := (.slice none 0 0)) rfl (Evs.cons (v := (.int .i64 ((((ds.take i).flatten.length) : Nat) : Int))) (hF.ev 0 rfl) Evs.nil)) w)) trivial rfl (fun _ _ => rfl) (kM [false, true] rfl rfl) (by decide) ?_
    clear hH
    rintro v15 E11 w hO12 hH
    replace hH : HH w0 [] [E11] w := hH
    obtain ⟨A13, c14, rfl⟩ := hO12.slice
    refine pxV (v := (.slice A13 (([]).length) c14)) (fun _ _ hF => opAssign rfl (hF.ev 0 rfl)) rfl (fun _ _ => rfl) (kM [false, true] rfl rfl) (by decide) ?_
    refine pxEnd ?_
    refine qxThen ?_
    refine cxSeq ?_
    refine cxSeq ?_
    refine cxReg ?_
    refine pxV (v := (.slice A n c)) (fun _ _ hF => opMove rfl (hF.ev 1 rfl)) rfl (fun _ _ => rfl) (kM [true, false] rfl rfl) (by decide) ?_
    refine pxV (v := (.int .i64 (((n) : Nat) : Int))) (fun _ _ hF => opLen (e := 22) rfl (by kernel_rfl) (hF.ev 0 rfl)) rfl (fun _ _ => rfl) (kA rfl) (by decide) ?_
    refine pxV (v := (.int .i64 0)) (fun _ _ hF => opMove rfl rfl) rfl (fun _ _ => rfl) (kA rfl) (by decide) ?_
    refine pxEnd ?_
    refine qxThen ?_
    refine cxBlock ?_
    refine cxLoop (σ := Nat × (Option Addr) × Nat × (List UInt8) × Hl) (fun x => [(27, (.int .i64 (((x.1) : Nat) : Int))), (26, (.int .i64 (((n) : Nat) : Int))), (25, (.slice A n c)), (6, (.slice x.2.1 x.2.2.2.1.length x.2.2.1))]) (fun x w => HH w0 [] [x.2.2.2.2] w ∧ (x.1 ≤ n) ∧ (OwnT cByte 5 (.slice x.2.1 x.2.2.2.1.length x.2.2.1) x.2.2.2.1 x.2.2.2.2) ∧ (x.2.2.2.1 = (ds.take x.1).flatten)) (fun x => n - x.1) (0, A13, c14, [], E11) ⟨hH, (Nat.zero_le _), hO12, (by simp)⟩ (slots_at [0, 1, 2, 3] rfl) ?_
    clear hH
    rintro ⟨j, A2, c2, L, E2⟩ w ⟨hH, hj, hO, hL⟩
    change CX _ _ _ _ [(27, (.int .i64 (((j) : Nat) : Int))), (26, (.int .i64 (((n) : Nat) : Int))), (25, (.slice A n c)), (6, (.slice A2 L.length c2))] _
    replace hH : HH w0 [] [E2] w := hH
    replace hj : j ≤ n := hj
    replace hO : OwnT cByte 5 (.slice A2 L.length c2) L E2 := hO
    replace hL : L = (ds.take j).flatten := hL
    refine cxSeq ?_
    refine cxReg ?_
    refine pxV (v := (.bool (decide (j < n)))) (fun _ _ hF => opLss rfl (hF.ev 0 rfl) (hF.ev 1 rfl) (dc (by omega))) rfl (fun _ _ => rfl) (kA rfl) (by decide) ?_
    refine pxEnd ?_
    refine qxThen ?_
    refine cxSeq ?_
    refine cxP 0 rfl rfl (fun hc17 => ?_) (fun hc17 => ?_)
    · refine cxSkip ?_
      refine qxThen ?_
      refine cxSeq ?_
      refine cxBlock ?_
      refine cxSeq ?_
      have hLl := congrArg List.length hL
      obtain ⟨⟨A1, n1, c1⟩, hx1⟩ := get_at hs j (by omega)
      obtain ⟨l1, hl1, hV1⟩ := hR.2 _ _ hx1
      obtain rfl : l1.length = n1 := hV1.len
      replace hV1 : Vu cByte w0 A1 l1.length c1 l1 := hV1
      have hcap1 := hV1.cap
      have hfl1 := congrArg List.length (flatten_next hl1)
      rw [List.length_append] at hfl1
      have hle1 := flatten_le (ds := ds) (j + 1)
      refine cxReg ?_
      have hi18 : j < n := by omega
      obtain ⟨b19, off20, rfl, hL21, hb22, hR23⟩ := hR.1.blk (by decide) (Off.nil _ _) (by omega)
      have := hR.1.cap
      have hj26 : j < hs.length := by first | exact hi18 | (simp only [List.length_drop]; omega) | (simp only [List.length_drop, List.length_take]; omega) | omega
      refine pxV (v := (.pointer (some ⟨b19, off20 + j * 1, none⟩))) (fun _ _ hF => opIndex (i := j) (e := 22) (sz := 1) rfl (by kernel_rfl) (by kernel_rfl) (hF.ev 3 rfl) (hF.ev 1 rfl) rfl hi18) rfl (fun _ _ => rfl) (kM [false, true, true, true, true] rfl rfl) (by decide) ?_
      refine pxS (v := (.slice A1 l1.length c1)) (fun w => HoldsL cSl w b19 off20 hs) (hH.holdsL hL21 hb22 hR23) (fun _ _ hF hS => opLoadT (C := cSl) (y := (A1, l1.length, c1)) rfl (hF.ev 0 rfl) (by kernel_rfl) (hS j _ hx1) rfl) rfl (fun _ _ => rfl) (kM [false, true, true, true, true] rfl rfl) (by decide) ?_
      refine pxV (v := (.slice A1 l1.length c1)) (fun _ _ hF => opAssign rfl (hF.ev 0 rfl)) rfl (fun _ _ => rfl) (kM [false, true, true, true, true] rfl rfl) (by decide) ?_
      refine pxEnd ?_
      refine qxThen ?_
      refine cxReg ?_
      refine pxV (v := (.slice A2 L.length c2)) (fun _ _ hF => opMove rfl (hF.ev 4 rfl)) rfl (fun _ _ => rfl) (kM [true, true, true, true, false] rfl rfl) (by decide) ?_
      refine pxV (v := (.slice A1 l1.length c1)) (fun _ _ hF => opMove rfl (hF.ev 1 rfl)) rfl (fun _ _ => rfl) (kM [true, false, true, true, true] rfl rfl) (by decide) ?_
      refine pxE 0 hH rfl (fun _ hF => smAppT (C := cByte) (l := L) (m := l1) (e := 5) (z := (.int .u8 0)) (by_ := 1) rfl (by kernel_rfl) (by kernel_rfl) rfl (ltb rfl) (hF.ev 1 rfl) hO (hF.ev 0 rfl) rfl (fun h => ⟨by have := hV1.nil h; have := hV1.cap; omega, hV1.nil h⟩) (by unfold maxLen; omega) (by omega)) (hH.vu hV1 (by decide) (Off.nil _ _)) rfl (fun _ _ => rfl) (kM [false, false, true, true, true] rfl rfl) (by decide) ?_
      clear hH
      rintro v29 E30 w ⟨hO31, _⟩ hH
      replace hH : HH w0 [] [E30] w := hH
      replace hO31 : OwnT cByte 5 v29 (L ++ l1) E30 := hO31
      obtain ⟨A27, c28, rfl⟩ := hO31.slice
      refine pxV (v := (.slice A27 ((L ++ l1).length) c28)) (fun _ _ hF => opAssign rfl (hF.ev 0 rfl)) rfl (fun _ _ => rfl) (kM [false, true, true, true] rfl rfl) (by decide) ?_
      refine pxEnd ?_
      refine qxInN ?_
      refine qxThen ?_
      refine cxReg ?_
      refine pxV (v := (.int .i64 (((j + 1) : Nat) : Int))) (fun _ _ hF => opAdd rfl (hF.ev 1 rfl) rfl (wI (by omega) (by omega) (by omega))) rfl (fun _ _ => rfl) (kM [true, false, true, true] rfl rfl) (by decide) ?_
      refine pxV (v := (.int .i64 (((j + 1) : Nat) : Int))) (fun _ _ hF => opMove rfl (hF.ev 0 rfl)) rfl (fun _ _ => rfl) (kM [false, true, true, true] rfl rfl) (by decide) ?_
      refine pxEnd ?_
      exact qxRound (j + 1, A27, c28, (L ++ l1), E30) ⟨hH, (show (j + 1) ≤ n from (by omega)), hO31, (by rw [hL]; exact flatten_next hl1)⟩ (by omega) (slots_at [0, 2, 3, 1] rfl)
    · refine cxExit ?_
      refine qxThenE ?_
      refine qxThenE ?_
      refine qxInE ?_
      refine qxThen ?_
      refine cxSeq ?_
      refine cxReg ?_
      refine pxV (v := (.slice A2 L.length c2)) (fun _ _ hF => opMove rfl (hF.ev 4 rfl)) rfl (fun _ _ => rfl) (kM [false, false, false, false, false] rfl rfl) (by decide) ?_
      refine pxV (v := (.slice A2 L.length c2)) (fun _ _ hF => opAssign rfl (hF.ev 0 rfl)) rfl (fun _ _ => rfl) (kM [false] rfl rfl) (by decide) ?_
      refine pxEnd ?_
      refine qxThen ?_
      refine cxRet ?_
      refine qxRet1 0 rfl rfl ?_
      have hjn : j = n := by omega
      rw [hjn, List.take_of_length_le (by omega)] at hL
      exact ⟨_, _, rfl, hL ▸ hO, hH.out1 [true] rfl⟩
end Go.Proofs.YticflflbogdljaaDoor
