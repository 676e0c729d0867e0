/- kindOf, line, isHeader, toEmpty. -/
import Derived.Test.YtadbpmcmdcnlfaaDoorBu
import Derived.Test.YtadbpmcmdcnlfaaDoorLbA
import Derived.Test.YtadbpmcmdcnlfaaDoorLbB
import Derived.Test.YtadbpmcmdcnlfaaDoorAo
namespace Go.Proofs.YtadbpmcmdcnlfaaDoor
open Go Go.RowKit
set_option maxRecDepth 100000

set_option maxHeartbeats 8000000 in
theorem kind_c (l : List UInt8) : Pure Tryd.prog 17 #[(.string (strL l))] (fun _ => True) (.string (strL (kindF l))) := by
  refine pure_of (fn := Tryd.f17) Tryd.func17 rfl Tryd.ntmps17 (Nat.le_of_ble_eq_true rfl) rfl ?_
  intro w0 hH hR
  refine cxSeq ?_
  refine cxReg ?_
  refine pxV (v := (.string (strL ([])))) (fun _ _ hF => opAssign rfl rfl) rfl (fun _ _ => rfl) (kA rfl) (by decide) ?_
  refine pxEnd ?_
  refine qxThen ?_
  refine cxSeq ?_
  refine cxSeq ?_
  refine cxReg ?_
  refine pxV (v := (.string (strL l))) (fun _ _ hF => opMove rfl (hF.ev 1 rfl)) rfl (fun _ _ => rfl) (kM [false, false] rfl rfl) (by decide) ?_
  refine pxEnd ?_
  refine qxThen ?_
  refine cxBlock ?_
  refine cxSeq ?_
  refine cxReg ?_
  refine pxV (v := (.bool (decide (l = headK mesL)))) (fun _ _ hF => opEqL (l := l) (m := (headK mesL)) rfl (hF.ev 0 rfl) rfl Iff.rfl) rfl (fun _ _ => rfl) (kA rfl) (by decide) ?_
  refine pxV (v := (.bool (decide (l = headK mesL)))) (fun _ _ hF => opAssign rfl (hF.ev 0 rfl)) rfl (fun _ _ => rfl) (kM [false, true] rfl rfl) (by decide) ?_
  refine pxEnd ?_
  refine qxThen ?_
  refine cxP 0 rfl rfl (fun hc1 => ?_) (fun hc1 => ?_)
  · refine cxSeq ?_
    refine cxReg ?_
    refine pxV (v := (.string (strL mesL))) (fun _ _ hF => opAssign rfl rfl) rfl (fun _ _ => rfl) (kM [false, false] rfl rfl) (by decide) ?_
    refine pxEnd ?_
    refine qxThen ?_
    refine cxRet ?_
    refine qxInR ?_
    refine qxThenR ?_
    refine qxRet1 0 rfl rfl ?_
    exact ⟨by unfold kindF; rw [if_pos hc1], hH.toBelow⟩
  · refine cxSeq ?_
    refine cxReg ?_
    refine pxV (v := (.bool (decide (l = headK pubL)))) (fun _ _ hF => opEqL (l := l) (m := (headK pubL)) rfl (hF.ev 1 rfl) rfl Iff.rfl) rfl (fun _ _ => rfl) (kM [false, true] rfl rfl) (by decide) ?_
    refine pxV (v := (.bool (decide (l = headK pubL)))) (fun _ _ hF => opAssign rfl (hF.ev 0 rfl)) rfl (fun _ _ => rfl) (kM [false, true] rfl rfl) (by decide) ?_
    refine pxEnd ?_
    refine qxThen ?_
    refine cxP 0 rfl rfl (fun hc2 => ?_) (fun hc2 => ?_)
    · refine cxSeq ?_
      refine cxReg ?_
      refine pxV (v := (.string (strL pubL))) (fun _ _ hF => opAssign rfl rfl) rfl (fun _ _ => rfl) (kM [false, false] rfl rfl) (by decide) ?_
      refine pxEnd ?_
      refine qxThen ?_
      refine cxRet ?_
      refine qxInR ?_
      refine qxThenR ?_
      refine qxRet1 0 rfl rfl ?_
      exact ⟨by unfold kindF; rw [if_neg hc1, if_pos hc2], hH.toBelow⟩
    · refine cxSeq ?_
      refine cxReg ?_
      refine pxV (v := (.bool (decide (l = headK sigL)))) (fun _ _ hF => opEqL (l := l) (m := (headK sigL)) rfl (hF.ev 1 rfl) rfl Iff.rfl) rfl (fun _ _ => rfl) (kM [false, false] rfl rfl) (by decide) ?_
      refine pxV (v := (.bool (decide (l = headK sigL)))) (fun _ _ hF => opAssign rfl (hF.ev 0 rfl)) rfl (fun _ _ => rfl) (kM [false] rfl rfl) (by decide) ?_
      refine pxEnd ?_
      refine qxThen ?_
      refine cxP 0 rfl rfl (fun hc3 => ?_) (fun hc3 => ?_)
      · refine cxSeq ?_
        refine cxReg ?_
        refine pxV (v := (.string (strL sigL))) (fun _ _ hF => opAssign rfl rfl) rfl (fun _ _ => rfl) (kM [false] rfl rfl) (by decide) ?_
        refine pxEnd ?_
        refine qxThen ?_
        refine cxRet ?_
        refine qxInR ?_
        refine qxThenR ?_
        refine qxRet1 0 rfl rfl ?_
        exact ⟨by unfold kindF; rw [if_neg hc1, if_neg hc2, if_pos hc3], hH.toBelow⟩
      · refine cxSkip ?_
        refine qxInN ?_
        refine qxThen ?_
        refine cxSeq ?_
        refine cxReg ?_
        refine pxV (v := (.string (strL ([])))) (fun _ _ hF => opAssign rfl rfl) rfl (fun _ _ => rfl) (kM [false] rfl rfl) (by decide) ?_
        refine pxEnd ?_
        refine qxThen ?_
        refine cxRet ?_
        refine qxRet1 0 rfl rfl ?_
        exact ⟨by unfold kindF; rw [if_neg hc1, if_neg hc2, if_neg hc3], hH.toBelow⟩

theorem bare_c (l : List UInt8) (hl : l.length ≤ 9223372036854775807) : Pure Tryd.prog 34 #[.string (strL l), .string (strL [13])] (fun _ => True) (.string (strL (bare l))) := trim_suffix_c l 13 hl

set_option maxHeartbeats 8000000 in
theorem line_c (g : Nat) (s : List UInt8) (hs : s.length ≤ 4294967280) : Does Tryd.prog 27 #[(.pointer (some ⟨g, 0, none⟩))] [bl g 56 #[.string (strL s)]] (fun _ => True) (fun v E' => v = .string (strL (rdL s)) ∧ E' = [bl g 56 #[.string (strL (rdR s))]]) := by
  refine does_of (fn := Tryd.f27) Tryd.func27 rfl Tryd.ntmps27 (Nat.le_of_ble_eq_true rfl) rfl ?_
  intro w0 hH hR
  refine cxSeq ?_
  refine cxReg ?_
  refine pxV (v := (.string (strL ([])))) (fun _ _ hF => opAssign rfl rfl) rfl (fun _ _ => rfl) (kA rfl) (by decide) ?_
  refine pxEnd ?_
  refine qxThen ?_
  refine cxSeq ?_
  refine cxReg ?_
  refine pxV (v := (.pointer (some ⟨g, 0, none⟩))) (fun _ _ hF => opMove rfl (hF.ev 1 rfl)) rfl (fun _ _ => rfl) (kM [false, true] rfl rfl) (by decide) ?_
  refine pxV (v := (.pointer (some ⟨g, 0, none⟩))) (fun _ _ hF => opNilCheck rfl (hF.ev 0 rfl)) rfl (fun _ _ => rfl) (kM [false, true] rfl rfl) (by decide) ?_
  refine pxV (v := (.pointer (some ⟨g, 0, none⟩))) (fun _ _ hF => opField (off := 0) rfl (hF.ev 0 rfl) (by kernel_rfl)) rfl (fun _ _ => rfl) (kM [false, true] rfl rfl) (by decide) ?_
  refine pxS (v := (.string (strL s))) (fun w => w.heap[g]? = some (.cells #[(.string (strL s))] 56 (0, 0))) (hH.blk 0 rfl) (fun _ _ hF hS => opLoadK hS rfl (hF.ev 0 rfl) (by kernel_rfl) rfl) rfl (fun _ _ => rfl) (kM [false, true] rfl rfl) (by decide) ?_
  refine pxM hH (fun _ hF => Does.small ((cut_c s (by omega)).does) (fun w => opCall rfl Tryd.func40 rfl rfl (Evs.cons (v := (.string (strL s))) (hF.ev 0 rfl) (Evs.cons (v := (.string (strL ([10])))) rfl Evs.nil)) w)) trivial rfl (fun _ _ => rfl) (kM [false, true] rfl rfl) (by decide) ?_
  clear hH
  rintro _ _ w ⟨rfl, rfl⟩ hH
  replace hH : HH w0 (bks ([bl g 56 #[.string (strL s)]])) [[bl g 56 #[(.string (strL s))]]] w := hH.unpad
  refine pxV (v := (.tuple #[(.string (strL ((cutN s).1))), (.string (strL ((cutN s).2.1))), (.bool ((cutN s).2.2))])) (fun _ _ hF => opMove rfl (hF.ev 0 rfl)) rfl (fun _ _ => rfl) (kM [false, true] rfl rfl) (by decide) ?_
  refine pxV (v := (.string (strL ((cutN s).1)))) (fun _ _ hF => opExtract rfl (hF.ev 0 rfl) rfl) rfl (fun _ _ => rfl) (kA rfl) (by decide) ?_
  refine pxV (v := (.string (strL ((cutN s).2.1)))) (fun _ _ hF => opExtract rfl (hF.ev 1 rfl) rfl) rfl (fun _ _ => rfl) (kA rfl) (by decide) ?_
  refine pxV (v := (.bool ((cutN s).2.2))) (fun _ _ hF => opExtract rfl (hF.ev 2 rfl) rfl) rfl (fun _ _ => rfl) (kM [true, true, false, true] rfl rfl) (by decide) ?_
  refine pxV (v := (.string (strL ((cutN s).1)))) (fun _ _ hF => opAssign rfl (hF.ev 2 rfl)) rfl (fun _ _ => rfl) (kM [true, true, false, true] rfl rfl) (by decide) ?_
  refine pxV (v := (.string (strL ((cutN s).2.1)))) (fun _ _ hF => opAssign rfl (hF.ev 2 rfl)) rfl (fun _ _ => rfl) (kM [true, true, false, true] rfl rfl) (by decide) ?_
  refine pxV (v := (.bool ((cutN s).2.2))) (fun _ _ hF => opAssign rfl (hF.ev 2 rfl)) rfl (fun _ _ => rfl) (kM [true, true, false, true] rfl rfl) (by decide) ?_
  refine pxEnd ?_
  refine qxThen ?_
  refine cxSeq ?_
  refine cxReg ?_
  refine pxV (v := (.pointer (some ⟨g, 0, none⟩))) (fun _ _ hF => opMove rfl (hF.ev 3 rfl)) rfl (fun _ _ => rfl) (kM [true, true, true, false] rfl rfl) (by decide) ?_
  refine pxV (v := (.string (strL ((cutN s).2.1)))) (fun _ _ hF => opMove rfl (hF.ev 2 rfl)) rfl (fun _ _ => rfl) (kM [true, true, false, true] rfl rfl) (by decide) ?_
  refine pxV (v := (.pointer (some ⟨g, 0, none⟩))) (fun _ _ hF => opNilCheck rfl (hF.ev 1 rfl)) rfl (fun _ _ => rfl) (kM [true, false, true, true] rfl rfl) (by decide) ?_
  refine pxV (v := (.pointer (some ⟨g, 0, none⟩))) (fun _ _ hF => opField (off := 0) rfl (hF.ev 0 rfl) (by kernel_rfl)) rfl (fun _ _ => rfl) (kM [false, true, true, true] rfl rfl) (by decide) ?_
  refine pxE0 0 hH rfl (fun _ hF => smStore (v := (.string (strL ((cutN s).2.1)))) rfl (hF.ev 0 rfl) (hF.ev 1 rfl) (by kernel_rfl) (ltb rfl) rfl rfl) trivial rfl (fun _ _ => rfl) ?_
  clear hH
  rintro _ _ w rfl hH
  replace hH : HH w0 (bks ([bl g 56 #[.string (strL s)]])) [[bl g 56 #[(.string (strL ((cutN s).2.1)))]]] w := hH
  refine pxEnd ?_
  refine qxThen ?_
  refine cxSeq ?_
  refine cxSeq ?_
  refine cxReg ?_
  refine pxV (v := (.bool ((cutN s).2.2))) (fun _ _ hF => opMove rfl (hF.ev 2 rfl)) rfl (fun _ _ => rfl) (kM [false, false, false, true] rfl rfl) (by decide) ?_
  refine pxEnd ?_
  refine qxThen ?_
  refine cxB 0 rfl rfl (fun hc1 => ?_) (fun hc1 => ?_)
  · refine cxReg ?_
    refine pxV (v := (.string (strL ((cutN s).1)))) (fun _ _ hF => opMove rfl (hF.ev 1 rfl)) rfl (fun _ _ => rfl) (kM [false, false] rfl rfl) (by decide) ?_
    refine pxM hH (fun _ hF => Does.small ((bare_c ((cutN s).1) (by have := cutN_len s; omega)).does) (fun w => opCall rfl Tryd.func34 rfl rfl (Evs.cons (v := (.string (strL ((cutN s).1)))) (hF.ev 0 rfl) (Evs.cons (v := (.string (strL ([13])))) rfl Evs.nil)) w)) trivial rfl (fun _ _ => rfl) (kM [false] rfl rfl) (by decide) ?_
    clear hH
    rintro _ _ w ⟨rfl, rfl⟩ hH
    replace hH : HH w0 (bks ([bl g 56 #[.string (strL s)]])) [[bl g 56 #[(.string (strL ((cutN s).2.1)))]]] w := hH.unpad
    refine pxV (v := (.string (strL (bare ((cutN s).1))))) (fun _ _ hF => opAssign rfl (hF.ev 0 rfl)) rfl (fun _ _ => rfl) (kM [false] rfl rfl) (by decide) ?_
    refine pxEnd ?_
    refine qxThen ?_
    refine cxSeq ?_
    refine cxReg ?_
    refine pxV (v := (.string (strL (bare ((cutN s).1))))) (fun _ _ hF => opMove rfl (hF.ev 0 rfl)) rfl (fun _ _ => rfl) (kM [false] rfl rfl) (by decide) ?_
    refine pxV (v := (.string (strL (bare ((cutN s).1))))) (fun _ _ hF => opAssign rfl (hF.ev 0 rfl)) rfl (fun _ _ => rfl) (kM [false] rfl rfl) (by decide) ?_
    refine pxEnd ?_
    refine qxThen ?_
    refine cxRet ?_
    refine qxRet1 0 rfl rfl ?_
    exact ⟨_, _, rfl, ⟨(by unfold rdL; rw [if_pos (by rw [hc1])]), rfl⟩, hH.out1 [true] rfl⟩
  · refine cxSkip ?_
    refine qxThen ?_
    refine cxSeq ?_
    refine cxReg ?_
    refine pxV (v := (.string (strL ((cutN s).1)))) (fun _ _ hF => opMove rfl (hF.ev 1 rfl)) rfl (fun _ _ => rfl) (kM [false, false] rfl rfl) (by decide) ?_
    refine pxV (v := (.string (strL ((cutN s).1)))) (fun _ _ hF => opAssign rfl (hF.ev 0 rfl)) rfl (fun _ _ => rfl) (kM [false] rfl rfl) (by decide) ?_
    refine pxEnd ?_
    refine qxThen ?_
    refine cxRet ?_
    refine qxRet1 0 rfl rfl ?_
    exact ⟨_, _, rfl, ⟨(by unfold rdL; rw [if_neg (by rw [hc1]; simp)]), rfl⟩, hH.out1 [true] rfl⟩

theorem cut_le (l m : List UInt8) : (Lib.cut l m).1.length ≤ l.length := by
  unfold Lib.cut
  split
  · rw [List.length_take]; omega
  · exact Nat.le_refl _
theorem hmaxl {w0 w : World} {R : List Nat} {Hs : List Hl} (hH : HH w0 R Hs w) (hm : MaxL w0) (h0 : 0 ∉ R := by simp) : MaxL w := by
  obtain ⟨x, hx⟩ := hm
  exact ⟨x, hH.oldCell h0 hx⟩

set_option maxHeartbeats 8000000 in
theorem header_c (l : List UInt8) (hl : l.length ≤ 4294967280) : Pure Tryd.prog 41 #[(.string (strL l))] (MaxL) (.bool (hdr l)) := by
  refine pure_of (fn := Tryd.f41) Tryd.func41 rfl Tryd.ntmps41 (Nat.le_of_ble_eq_true rfl) rfl ?_
  intro w0 hH hR
  refine cxSeq ?_
  refine cxReg ?_
  refine pxV (v := (.bool false)) (fun _ _ hF => opAssign rfl rfl) rfl (fun _ _ => rfl) (kA rfl) (by decide) ?_
  refine pxEnd ?_
  refine qxThen ?_
  refine cxSeq ?_
  refine cxReg ?_
  refine pxV (v := (.string (strL l))) (fun _ _ hF => opMove rfl (hF.ev 1 rfl)) rfl (fun _ _ => rfl) (kM [false, false] rfl rfl) (by decide) ?_
  refine pxM hH (fun _ hF => Does.small ((cut2_c l [58, 32] (by omega)).does) (fun w => opCall rfl Tryd.func40 rfl rfl (Evs.cons (v := (.string (strL l))) (hF.ev 0 rfl) (Evs.cons (v := (.string (strL ([58, 32])))) rfl Evs.nil)) w)) (hmaxl hH hR) rfl (fun _ _ => rfl) (kM [false] rfl rfl) (by decide) ?_
  clear hH
  rintro _ _ w ⟨rfl, rfl⟩ hH
  replace hH : HH w0 [] [] w := hH.unpad
  refine pxV (v := (.tuple #[(.string (strL ((Lib.cut l [58, 32]).1))), (.string (strL ((Lib.cut l [58, 32]).2.1))), (.bool ((Lib.cut l [58, 32]).2.2))])) (fun _ _ hF => opMove rfl (hF.ev 0 rfl)) rfl (fun _ _ => rfl) (kM [false] rfl rfl) (by decide) ?_
  refine pxV (v := (.string (strL ((Lib.cut l [58, 32]).1)))) (fun _ _ hF => opExtract rfl (hF.ev 0 rfl) rfl) rfl (fun _ _ => rfl) (kA rfl) (by decide) ?_
  refine pxV (v := (.string (strL ((Lib.cut l [58, 32]).2.1)))) (fun _ _ hF => opExtract rfl (hF.ev 1 rfl) rfl) rfl (fun _ _ => rfl) (kA rfl) (by decide) ?_
  refine pxV (v := (.bool ((Lib.cut l [58, 32]).2.2))) (fun _ _ hF => opExtract rfl (hF.ev 2 rfl) rfl) rfl (fun _ _ => rfl) (kM [true, true, false] rfl rfl) (by decide) ?_
  refine pxV (v := (.string (strL ((Lib.cut l [58, 32]).1)))) (fun _ _ hF => opAssign rfl (hF.ev 2 rfl)) rfl (fun _ _ => rfl) (kM [true, true, false] rfl rfl) (by decide) ?_
  refine pxV (v := (.string (strL ((Lib.cut l [58, 32]).2.1)))) (fun _ _ hF => opAssign rfl (hF.ev 2 rfl)) rfl (fun _ _ => rfl) (kM [true, true, false] rfl rfl) (by decide) ?_
  refine pxV (v := (.bool ((Lib.cut l [58, 32]).2.2))) (fun _ _ hF => opAssign rfl (hF.ev 2 rfl)) rfl (fun _ _ => rfl) (kM [false, true, false] rfl rfl) (by decide) ?_
  refine pxEnd ?_
  refine qxThen ?_
  refine cxSeq ?_
  refine cxReg ?_
  refine pxV (v := (.bool ((Lib.cut l [58, 32]).2.2))) (fun _ _ hF => opMove rfl (hF.ev 0 rfl)) rfl (fun _ _ => rfl) (kM [false, true] rfl rfl) (by decide) ?_
  refine pxV (v := (.bool ((Lib.cut l [58, 32]).2.2))) (fun _ _ hF => opMove rfl (hF.ev 0 rfl)) rfl (fun _ _ => rfl) (kM [false, true] rfl rfl) (by decide) ?_
  refine pxSplitB 0 rfl (l1 := [(13, (.bool true)), (3, (.string (strL ((Lib.cut l [58, 32]).1))))]) (l2 := [(13, (.bool false)), (3, (.string (strL ((Lib.cut l [58, 32]).1))))]) rfl rfl (fun hg1 => ?_) (fun hg1 => ?_)
  · refine pxV (v := (.string (strL ((Lib.cut l [58, 32]).1)))) (fun _ _ hF => opMove rfl (hF.ev 1 rfl)) rfl (gOn 0 rfl rfl rfl (by decide)) (kA rfl) (by decide) ?_
    refine pxV (v := (.bool (decide ((Lib.cut l [58, 32]).1 ≠ [])))) (fun _ _ hF => opNeL (l := (Lib.cut l [58, 32]).1) (m := []) rfl (hF.ev 0 rfl) rfl Iff.rfl) rfl (gOn 1 rfl rfl rfl (by decide)) (kM [false, true, true] rfl rfl) (by decide) ?_
    refine pxV (v := (.bool (decide ((Lib.cut l [58, 32]).1 ≠ [])))) (fun _ _ hF => opPickT rfl (hF.ev 1 rfl) (hF.ev 0 rfl)) rfl (fun _ _ => rfl) (kM [false, false, true] rfl rfl) (by decide) ?_
    refine pxV (v := (.bool (decide ((Lib.cut l [58, 32]).1 ≠ [])))) (fun _ _ hF => opMove rfl (hF.ev 0 rfl)) rfl (fun _ _ => rfl) (kM [false, true] rfl rfl) (by decide) ?_
    refine pxSplitP 0 rfl (l1 := [(17, (.bool true)), (3, (.string (strL ((Lib.cut l [58, 32]).1))))]) (l2 := [(17, (.bool false)), (3, (.string (strL ((Lib.cut l [58, 32]).1))))]) rfl rfl (fun hg2 => ?_) (fun hg2 => ?_)
    · refine pxV (v := (.string (strL ((Lib.cut l [58, 32]).1)))) (fun _ _ hF => opMove rfl (hF.ev 1 rfl)) rfl (gOn 0 rfl rfl rfl (by decide)) (kM [true, false] rfl rfl) (by decide) ?_
      refine pxM hH (fun _ hF => Does.small ((trim_c ((Lib.cut l [58, 32]).1) letL (by have := cut_le l [58, 32]; omega) (leb rfl) (by decide)).does) (fun w => opCall rfl Tryd.func49 rfl rfl (Evs.cons (v := (.string (strL ((Lib.cut l [58, 32]).1)))) (hF.ev 0 rfl) (Evs.cons (v := (.string (strL letL))) rfl Evs.nil)) w)) trivial rfl (gOn 1 rfl rfl rfl (by decide)) (kM [false, true] rfl rfl) (by decide) ?_
      clear hH
      rintro _ _ w ⟨rfl, rfl⟩ hH
      replace hH : HH w0 [] [] w := hH.unpad
      refine pxV (v := (.bool (decide ((Lib.trimS ((Lib.cut l [58, 32]).1) letL) = [])))) (fun _ _ hF => opEqL (l := (Lib.trimS ((Lib.cut l [58, 32]).1) letL)) (m := []) rfl (hF.ev 0 rfl) rfl Iff.rfl) rfl (gOn 1 rfl rfl rfl (by decide)) (kM [false, true] rfl rfl) (by decide) ?_
      refine pxV (v := (.bool (decide ((Lib.trimS ((Lib.cut l [58, 32]).1) letL) = [])))) (fun _ _ hF => opPickT rfl (hF.ev 1 rfl) (hF.ev 0 rfl)) rfl (fun _ _ => rfl) (kM [false, false] rfl rfl) (by decide) ?_
      refine pxV (v := (.bool (decide ((Lib.trimS ((Lib.cut l [58, 32]).1) letL) = [])))) (fun _ _ hF => opAssign rfl (hF.ev 0 rfl)) rfl (fun _ _ => rfl) (kM [false] rfl rfl) (by decide) ?_
      refine pxEnd ?_
      refine qxThen ?_
      refine cxRet ?_
      refine qxRet1 0 rfl rfl ?_
      refine ⟨?_, hH.toBelow⟩
      rw [← hdr_prog]
      simp [hg1, hg2]
    · refine pxU rfl (gOff 0 rfl rfl rfl (by decide)) (kM [true, false] rfl rfl) (by decide) ?_
      refine pxU rfl (gOff 0 rfl rfl rfl (by decide)) (kA rfl) (by decide) ?_
      refine pxU rfl (gOff 0 rfl rfl rfl (by decide)) (kA rfl) (by decide) ?_
      refine pxV (v := (.bool false)) (fun _ _ hF => opPickF rfl (hF.ev 0 rfl) rfl) rfl (fun _ _ => rfl) (kM [false] rfl rfl) (by decide) ?_
      refine pxV (v := (.bool false)) (fun _ _ hF => opAssign rfl (hF.ev 0 rfl)) rfl (fun _ _ => rfl) (kM [false] rfl rfl) (by decide) ?_
      refine pxEnd ?_
      refine qxThen ?_
      refine cxRet ?_
      refine qxRet1 0 rfl rfl ?_
      refine ⟨?_, hH.toBelow⟩
      rw [← hdr_prog]
      simp [hg1, hg2]
  · refine pxU rfl (gOff 0 rfl rfl rfl (by decide)) (kA rfl) (by decide) ?_
    refine pxU rfl (gOff 0 rfl rfl rfl (by decide)) (kA rfl) (by decide) ?_
    refine pxV (v := (.bool false)) (fun _ _ hF => opPickF rfl (hF.ev 0 rfl) rfl) rfl (fun _ _ => rfl) (kM [false, true] rfl rfl) (by decide) ?_
    refine pxV (v := (.bool false)) (fun _ _ hF => opMove rfl (hF.ev 0 rfl)) rfl (fun _ _ => rfl) (kM [false, true] rfl rfl) (by decide) ?_
    refine pxU rfl (gOff 0 rfl rfl rfl (by decide)) (kM [true, false] rfl rfl) (by decide) ?_
    refine pxU rfl (gOff 0 rfl rfl rfl (by decide)) (kA rfl) (by decide) ?_
    refine pxU rfl (gOff 0 rfl rfl rfl (by decide)) (kA rfl) (by decide) ?_
    refine pxV (v := (.bool false)) (fun _ _ hF => opPickF rfl (hF.ev 0 rfl) rfl) rfl (fun _ _ => rfl) (kM [false] rfl rfl) (by decide) ?_
    refine pxV (v := (.bool false)) (fun _ _ hF => opAssign rfl (hF.ev 0 rfl)) rfl (fun _ _ => rfl) (kM [false] rfl rfl) (by decide) ?_
    refine pxEnd ?_
    refine qxThen ?_
    refine cxRet ?_
    refine qxRet1 0 rfl rfl ?_
    refine ⟨?_, hH.toBelow⟩
    rw [← hdr_prog]
    simp [hg1]

set_option maxHeartbeats 8000000 in
theorem toempty_c (g : Nat) (hg : 0 < g) (s : List UInt8) (hs : s.length ≤ 4294967280) : Does Tryd.prog 28 #[(.pointer (some ⟨g, 0, none⟩))] [bl g 56 #[.string (strL s)]] (MaxL) (fun v E' => ∃ (ok : Bool) (s' : List UInt8), v = .bool ok ∧ E' = [bl g 56 #[.string (strL s')]] ∧ s'.length ≤ s.length ∧ (ok = false → teL (lns s) = none) ∧ (ok = true → teL (lns s) = some (lns s'))) := by
  refine does_of (fn := Tryd.f28) Tryd.func28 rfl Tryd.ntmps28 (Nat.le_of_ble_eq_true rfl) rfl ?_
  intro w0 hH hR
  refine cxSeq ?_
  refine cxReg ?_
  refine pxV (v := (.bool false)) (fun _ _ hF => opAssign rfl rfl) rfl (fun _ _ => rfl) (kA rfl) (by decide) ?_
  refine pxEnd ?_
  refine qxThen ?_
  refine cxBlock ?_
  refine cxLoop (σ := (List UInt8)) (fun x => [(0, (.pointer (some ⟨g, 0, none⟩)))]) (fun x w => HH w0 (bks ([bl g 56 #[.string (strL s)]])) [[bl g 56 #[(.string (strL x))]]] w ∧ (x.length ≤ s.length) ∧ (teL (lns x) = teL (lns s))) (fun x => x.length) s ⟨hH, Nat.le_refl _, rfl⟩ (slots_at [1] rfl) ?_
  clear hH
  rintro q w ⟨hH, hq, ht⟩
  change CX _ _ _ _ [(0, (.pointer (some ⟨g, 0, none⟩)))] _
  replace hH : HH w0 (bks ([bl g 56 #[.string (strL s)]])) [[bl g 56 #[(.string (strL q))]]] w := hH
  replace hq : q.length ≤ s.length := hq
  replace ht : teL (lns q) = teL (lns s) := ht
  refine cxBlock ?_
  refine cxSeq ?_
  refine cxReg ?_
  refine pxV (v := (.pointer (some ⟨g, 0, none⟩))) (fun _ _ hF => opMove rfl (hF.ev 0 rfl)) rfl (fun _ _ => rfl) (kA rfl) (by decide) ?_
  refine pxE 0 hH rfl (fun _ hF => Does.small (line_c g q (by omega)) (fun w => opCall rfl Tryd.func27 rfl rfl (Evs.cons (v := (.pointer (some ⟨g, 0, none⟩))) (hF.ev 0 rfl) Evs.nil) w)) trivial rfl (fun _ _ => rfl) (kM [false, true] rfl rfl) (by decide) ?_
  clear hH
  rintro _ _ w ⟨rfl, rfl⟩ hH
  replace hH : HH w0 (bks ([bl g 56 #[.string (strL s)]])) [[bl g 56 #[(.string (strL (rdR q)))]]] w := hH
  refine pxV (v := (.string (strL (rdL q)))) (fun _ _ hF => opAssign rfl (hF.ev 0 rfl)) rfl (fun _ _ => rfl) (kM [false, true] rfl rfl) (by decide) ?_
  refine pxEnd ?_
  refine qxThen ?_
  refine cxSeq ?_
  refine cxSeq ?_
  refine cxReg ?_
  refine pxV (v := (.string (strL (rdL q)))) (fun _ _ hF => opMove rfl (hF.ev 0 rfl)) rfl (fun _ _ => rfl) (kA rfl) (by decide) ?_
  refine pxV (v := (.bool (decide ((rdL q) = [])))) (fun _ _ hF => opEqL (l := (rdL q)) (m := []) rfl (hF.ev 0 rfl) rfl Iff.rfl) rfl (fun _ _ => rfl) (kM [false, true, true] rfl rfl) (by decide) ?_
  refine pxEnd ?_
  refine qxThen ?_
  refine cxP 0 rfl rfl (fun hc1 => ?_) (fun hc1 => ?_)
  · refine cxSeq ?_
    refine cxReg ?_
    refine pxV (v := (.bool true)) (fun _ _ hF => opAssign rfl rfl) rfl (fun _ _ => rfl) (kM [false, false, false] rfl rfl) (by decide) ?_
    refine pxEnd ?_
    refine qxThen ?_
    refine cxRet ?_
    refine qxThenR ?_
    refine qxInR ?_
    refine qxThenR ?_
    refine qxInR ?_
    refine qxRet1 0 rfl rfl ?_
    exact ⟨_, _, rfl, ⟨true, rdR q, rfl, rfl, (by have := rdR_le q; omega), (by rw [← ht, te_empty hc1]; exact fun h => by cases h), fun _ => by rw [← ht, te_empty hc1]⟩, hH.out1 [true] rfl⟩
  · refine cxSkip ?_
    refine qxThen ?_
    refine cxSeq ?_
    refine cxReg ?_
    refine pxV (v := (.string (strL (rdL q)))) (fun _ _ hF => opMove rfl (hF.ev 1 rfl)) rfl (fun _ _ => rfl) (kM [false, false, true] rfl rfl) (by decide) ?_
    refine pxM hH (fun _ hF => Does.small ((header_c (rdL q) (by have := rdL_le q; omega)).does) (fun w => opCall rfl Tryd.func41 rfl rfl (Evs.cons (v := (.string (strL (rdL q)))) (hF.ev 0 rfl) Evs.nil) w)) (hmaxl hH hR (by simp; omega)) rfl (fun _ _ => rfl) (kM [false, true] rfl rfl) (by decide) ?_
    clear hH
    rintro _ _ w ⟨rfl, rfl⟩ hH
    replace hH : HH w0 (bks ([bl g 56 #[.string (strL s)]])) [[bl g 56 #[(.string (strL (rdR q)))]]] w := hH.unpad
    refine pxV (v := (.bool (!(hdr (rdL q))))) (fun _ _ hF => opNot rfl (hF.ev 0 rfl) rfl) rfl (fun _ _ => rfl) (kM [false, true] rfl rfl) (by decide) ?_
    refine pxEnd ?_
    refine qxThen ?_
    refine cxB 0 rfl rfl (fun hc2 => ?_) (fun hc2 => ?_)
    · replace hc2 : (hdr (rdL q)) = false := by simpa using hc2
      refine cxSeq ?_
      refine cxReg ?_
      refine pxV (v := (.bool false)) (fun _ _ hF => opAssign rfl rfl) rfl (fun _ _ => rfl) (kM [false, false] rfl rfl) (by decide) ?_
      refine pxEnd ?_
      refine qxThen ?_
      refine cxRet ?_
      refine qxInR ?_
      refine qxThenR ?_
      refine qxInR ?_
      refine qxRet1 0 rfl rfl ?_
      exact ⟨_, _, rfl, ⟨false, rdR q, rfl, rfl, (by have := rdR_le q; omega), fun _ => by rw [← ht, te_bad hc1 hc2], (fun h => by cases h)⟩, hH.out1 [true] rfl⟩
    · replace hc2 : (hdr (rdL q)) = true := by simpa using hc2
      refine cxSkip ?_
      refine qxInN ?_
      exact qxRound (rdR q) ⟨hH, (show (rdR q).length ≤ s.length from (by have := rdR_le q; omega)), ((te_go hc1 hc2).symm.trans ht)⟩ (by have := rdR_lt (rdL_nil hc1); exact this) (slots_at [1] rfl)

end Go.Proofs.YtadbpmcmdcnlfaaDoor
