/- The document's bare, kind, named, Lines. -/
import Derived.Test.YtadbpmcmdcnlfaaDoorBu
import Derived.Test.YtadbpmcmdcnlfaaDoorAp
namespace Go.Proofs.YtadbpmcmdcnlfaaDoor
open Go Go.RowKit
set_option maxRecDepth 100000

set_option maxHeartbeats 8000000 in
theorem rbare_c (l : List UInt8) (hl : l.length ≤ 9223372036854775807) : Pure Tryd.prog 43 #[(.string (strL l))] (fun _ => True) (.string (strL (bare l))) := by
  refine pure_of (fn := Tryd.f43) Tryd.func43 rfl Tryd.ntmps43 (Nat.le_of_ble_eq_true rfl) rfl ?_
  intro w0 hH hR
  refine cxSeq ?_
  refine cxReg ?_
  refine pxV (v := (.string (strL ([])))) (fun _ _ hF => opAssign rfl rfl) rfl (fun _ _ => rfl) (kA rfl) (by decide) ?_
  refine pxEnd ?_
  refine qxThen ?_
  refine cxSeq ?_
  refine cxSeq ?_
  refine cxReg ?_
  refine pxV (v := (.string (strL l))) (fun _ _ hF => opMove rfl (hF.ev 1 rfl)) rfl (fun _ _ => rfl) (kM [false, true] rfl rfl) (by decide) ?_
  refine pxV (v := (.int .i64 (((l.length) : Nat) : Int))) (fun _ _ hF => opLenL (l := l) rfl (by kernel_rfl) (hF.ev 0 rfl)) rfl (fun _ _ => rfl) (kM [false, true] rfl rfl) (by decide) ?_
  refine pxV (v := (.bool (decide (l.length > 0)))) (fun _ _ hF => opGtr rfl (hF.ev 0 rfl) rfl (dc (by omega))) rfl (fun _ _ => rfl) (kM [false, true] rfl rfl) (by decide) ?_
  refine pxV (v := (.bool (decide (l.length > 0)))) (fun _ _ hF => opMove rfl (hF.ev 0 rfl)) rfl (fun _ _ => rfl) (kM [false, true] rfl rfl) (by decide) ?_
  refine pxSplitP 0 rfl (l1 := [(6, (.bool true)), (0, (.string (strL l)))]) (l2 := [(6, (.bool false)), (0, (.string (strL l)))]) rfl rfl (fun hg1 => ?_) (fun hg1 => ?_)
  · refine pxV (v := (.string (strL l))) (fun _ _ hF => opMove rfl (hF.ev 1 rfl)) rfl (gOn 0 rfl rfl rfl (by decide)) (kA rfl) (by decide) ?_
    refine pxV (v := (.string (strL l))) (fun _ _ hF => opMove rfl (hF.ev 2 rfl)) rfl (gOn 1 rfl rfl rfl (by decide)) (kA rfl) (by decide) ?_
    refine pxV (v := (.int .i64 (((l.length) : Nat) : Int))) (fun _ _ hF => opLenL (l := l) rfl (by kernel_rfl) (hF.ev 0 rfl)) rfl (gOn 2 rfl rfl rfl (by decide)) (kM [false, true, true, true] rfl rfl) (by decide) ?_
    refine pxV (v := (.int .i64 (((l.length - 1) : Nat) : Int))) (fun _ _ hF => opSub rfl (hF.ev 0 rfl) rfl (wI (by omega) (by omega) (by omega))) rfl (gOn 2 rfl rfl rfl (by decide)) (kM [false, true, true, true] rfl rfl) (by decide) ?_
    obtain ⟨x2, hx3⟩ := get_at l (l.length - 1) (by omega)
    have hb4 := UInt8.toNat_lt x2
    refine pxV (v := (.int .u8 (((x2.toNat) : Nat) : Int))) (fun _ _ hF => opIdxL (l := l) (i := l.length - 1) (c := x2) rfl (by kernel_rfl) (hF.ev 1 rfl) (hF.ev 0 rfl) rfl hx3) rfl (gOn 2 rfl rfl rfl (by decide)) (kM [false, false, true, true] rfl rfl) (by decide) ?_
    refine pxV (v := (.bool (decide (x2.toNat = 13)))) (fun _ _ hF => opEqI rfl (hF.ev 0 rfl) rfl (dc (by omega))) rfl (gOn 1 rfl rfl rfl (by decide)) (kM [false, true, true] rfl rfl) (by decide) ?_
    refine pxV (v := (.bool (decide (x2.toNat = 13)))) (fun _ _ hF => opPickT rfl (hF.ev 1 rfl) (hF.ev 0 rfl)) rfl (fun _ _ => rfl) (kM [false, false, true] rfl rfl) (by decide) ?_
    refine pxEnd ?_
    refine qxThen ?_
    refine cxP 0 rfl rfl (fun hc5 => ?_) (fun hc5 => ?_)
    · refine cxSeq ?_
      refine cxReg ?_
      refine pxV (v := (.string (strL l))) (fun _ _ hF => opMove rfl (hF.ev 1 rfl)) rfl (fun _ _ => rfl) (kM [false, true] rfl rfl) (by decide) ?_
      refine pxV (v := (.string (strL l))) (fun _ _ hF => opMove rfl (hF.ev 1 rfl)) rfl (fun _ _ => rfl) (kM [true, false] rfl rfl) (by decide) ?_
      refine pxV (v := (.int .i64 (((l.length) : Nat) : Int))) (fun _ _ hF => opLenL (l := l) rfl (by kernel_rfl) (hF.ev 0 rfl)) rfl (fun _ _ => rfl) (kM [false, true] rfl rfl) (by decide) ?_
      refine pxV (v := (.int .i64 (((l.length - 1) : Nat) : Int))) (fun _ _ hF => opSub rfl (hF.ev 0 rfl) rfl (wI (by omega) (by omega) (by omega))) rfl (fun _ _ => rfl) (kM [false, true] rfl rfl) (by decide) ?_
      refine pxV (v := (.string (strL (l.take (l.length - 1))))) (fun _ _ hF => opSlcHL (l := l) (h := l.length - 1) (r := (l.take (l.length - 1))) rfl (by kernel_rfl) (hF.ev 1 rfl) (hF.ev 0 rfl) rfl (by omega) (rfl)) rfl (fun _ _ => rfl) (kM [false, false] rfl rfl) (by decide) ?_
      refine pxV (v := (.string (strL (l.take (l.length - 1))))) (fun _ _ hF => opAssign rfl (hF.ev 0 rfl)) rfl (fun _ _ => rfl) (kM [false] rfl rfl) (by decide) ?_
      refine pxEnd ?_
      refine qxThen ?_
      refine cxRet ?_
      refine qxThenR ?_
      refine qxRet1 0 rfl rfl ?_
      exact ⟨(by rw [bare_13 hx3 hc5]), hH.toBelow⟩
    · refine cxSkip ?_
      refine qxThen ?_
      refine cxSeq ?_
      refine cxReg ?_
      refine pxV (v := (.string (strL l))) (fun _ _ hF => opMove rfl (hF.ev 1 rfl)) rfl (fun _ _ => rfl) (kM [false, false] rfl rfl) (by decide) ?_
      refine pxV (v := (.string (strL l))) (fun _ _ hF => opAssign rfl (hF.ev 0 rfl)) rfl (fun _ _ => rfl) (kM [false] rfl rfl) (by decide) ?_
      refine pxEnd ?_
      refine qxThen ?_
      refine cxRet ?_
      refine qxRet1 0 rfl rfl ?_
      exact ⟨(by rw [bare_not hx3 hc5]), hH.toBelow⟩
  · refine pxU rfl (gOff 0 rfl rfl rfl (by decide)) (kA rfl) (by decide) ?_
    refine pxU rfl (gOff 0 rfl rfl rfl (by decide)) (kA rfl) (by decide) ?_
    refine pxU rfl (gOff 0 rfl rfl rfl (by decide)) (kA rfl) (by decide) ?_
    refine pxU rfl (gOff 0 rfl rfl rfl (by decide)) (kA rfl) (by decide) ?_
    refine pxU rfl (gOff 0 rfl rfl rfl (by decide)) (kA rfl) (by decide) ?_
    refine pxU rfl (gOff 0 rfl rfl rfl (by decide)) (kA rfl) (by decide) ?_
    refine pxV (v := (.bool false)) (fun _ _ hF => opPickF rfl (hF.ev 0 rfl) rfl) rfl (fun _ _ => rfl) (kM [false, true] rfl rfl) (by decide) ?_
    refine pxEnd ?_
    refine qxThen ?_
    refine cxF 0 rfl rfl ?_
    refine cxSkip ?_
    refine qxThen ?_
    refine cxSeq ?_
    refine cxReg ?_
    refine pxV (v := (.string (strL l))) (fun _ _ hF => opMove rfl (hF.ev 1 rfl)) rfl (fun _ _ => rfl) (kM [false, false] rfl rfl) (by decide) ?_
    refine pxV (v := (.string (strL l))) (fun _ _ hF => opAssign rfl (hF.ev 0 rfl)) rfl (fun _ _ => rfl) (kM [false] rfl rfl) (by decide) ?_
    refine pxEnd ?_
    refine qxThen ?_
    refine cxRet ?_
    refine qxRet1 0 rfl rfl ?_
    exact ⟨(by rw [bare_nil hg1]), hH.toBelow⟩

set_option maxHeartbeats 8000000 in
theorem rkind_c (k : List UInt8) : Pure Tryd.prog 25 #[(.string (strL k))] (fun _ => True) (.bool (decide (isK k))) := by
  refine pure_of (fn := Tryd.f25) Tryd.func25 rfl Tryd.ntmps25 (Nat.le_of_ble_eq_true rfl) rfl ?_
  intro w0 hH hR
  refine cxSeq ?_
  refine cxReg ?_
  refine pxV (v := (.bool false)) (fun _ _ hF => opAssign rfl rfl) rfl (fun _ _ => rfl) (kA rfl) (by decide) ?_
  refine pxEnd ?_
  refine qxThen ?_
  refine cxSeq ?_
  refine cxReg ?_
  refine pxV (v := (.string (strL k))) (fun _ _ hF => opMove rfl (hF.ev 1 rfl)) rfl (fun _ _ => rfl) (kM [false, true] rfl rfl) (by decide) ?_
  refine pxV (v := (.bool (decide (k = mesL)))) (fun _ _ hF => opEqL (l := k) (m := mesL) rfl (hF.ev 0 rfl) rfl Iff.rfl) rfl (fun _ _ => rfl) (kM [false, true] rfl rfl) (by decide) ?_
  refine pxV (v := (.bool (decide (k = mesL)))) (fun _ _ hF => opMove rfl (hF.ev 0 rfl)) rfl (fun _ _ => rfl) (kM [false, true] rfl rfl) (by decide) ?_
  refine pxSplitP 0 rfl (l1 := [(5, (.bool true)), (0, (.string (strL k)))]) (l2 := [(5, (.bool false)), (0, (.string (strL k)))]) rfl rfl (fun hg1 => ?_) (fun hg1 => ?_)
  · refine pxU rfl (gOff 0 rfl rfl rfl (by decide)) (kA rfl) (by decide) ?_
    refine pxU rfl (gOff 0 rfl rfl rfl (by decide)) (kA rfl) (by decide) ?_
    refine pxV (v := (.bool true)) (fun _ _ hF => opPickT rfl (hF.ev 0 rfl) rfl) rfl (fun _ _ => rfl) (kM [false, true] rfl rfl) (by decide) ?_
    refine pxV (v := (.bool true)) (fun _ _ hF => opMove rfl (hF.ev 0 rfl)) rfl (fun _ _ => rfl) (kM [false, true] rfl rfl) (by decide) ?_
    refine pxU rfl (gOff 0 rfl rfl rfl (by decide)) (kM [true, false] rfl rfl) (by decide) ?_
    refine pxU rfl (gOff 0 rfl rfl rfl (by decide)) (kA rfl) (by decide) ?_
    refine pxV (v := (.bool true)) (fun _ _ hF => opPickT rfl (hF.ev 0 rfl) rfl) rfl (fun _ _ => rfl) (kM [false] rfl rfl) (by decide) ?_
    refine pxV (v := (.bool true)) (fun _ _ hF => opAssign rfl (hF.ev 0 rfl)) rfl (fun _ _ => rfl) (kM [false] rfl rfl) (by decide) ?_
    refine pxEnd ?_
    refine qxThen ?_
    refine cxRet ?_
    refine qxRet1 0 rfl rfl ?_
    refine ⟨?_, hH.toBelow⟩
    congr 2; symm; rw [decide_eq_true_iff]; unfold isK; simp [hg1]
  · refine pxV (v := (.string (strL k))) (fun _ _ hF => opMove rfl (hF.ev 1 rfl)) rfl (gOn 0 rfl rfl rfl (by decide)) (kA rfl) (by decide) ?_
    refine pxV (v := (.bool (decide (k = pubL)))) (fun _ _ hF => opEqL (l := k) (m := pubL) rfl (hF.ev 0 rfl) rfl Iff.rfl) rfl (gOn 1 rfl rfl rfl (by decide)) (kM [false, true, true] rfl rfl) (by decide) ?_
    refine pxV (v := (.bool (decide (k = pubL)))) (fun _ _ hF => opPickF rfl (hF.ev 1 rfl) (hF.ev 0 rfl)) rfl (fun _ _ => rfl) (kM [false, false, true] rfl rfl) (by decide) ?_
    refine pxV (v := (.bool (decide (k = pubL)))) (fun _ _ hF => opMove rfl (hF.ev 0 rfl)) rfl (fun _ _ => rfl) (kM [false, true] rfl rfl) (by decide) ?_
    refine pxSplitP 0 rfl (l1 := [(9, (.bool true)), (0, (.string (strL k)))]) (l2 := [(9, (.bool false)), (0, (.string (strL k)))]) rfl rfl (fun hg2 => ?_) (fun hg2 => ?_)
    · refine pxU rfl (gOff 0 rfl rfl rfl (by decide)) (kM [true, false] rfl rfl) (by decide) ?_
      refine pxU rfl (gOff 0 rfl rfl rfl (by decide)) (kA rfl) (by decide) ?_
      refine pxV (v := (.bool true)) (fun _ _ hF => opPickT rfl (hF.ev 0 rfl) rfl) rfl (fun _ _ => rfl) (kM [false] rfl rfl) (by decide) ?_
      refine pxV (v := (.bool true)) (fun _ _ hF => opAssign rfl (hF.ev 0 rfl)) rfl (fun _ _ => rfl) (kM [false] rfl rfl) (by decide) ?_
      refine pxEnd ?_
      refine qxThen ?_
      refine cxRet ?_
      refine qxRet1 0 rfl rfl ?_
      refine ⟨?_, hH.toBelow⟩
      congr 2; symm; rw [decide_eq_true_iff]; unfold isK; simp [hg2]
    · refine pxV (v := (.string (strL k))) (fun _ _ hF => opMove rfl (hF.ev 1 rfl)) rfl (gOn 0 rfl rfl rfl (by decide)) (kM [true, false] rfl rfl) (by decide) ?_
      refine pxV (v := (.bool (decide (k = sigL)))) (fun _ _ hF => opEqL (l := k) (m := sigL) rfl (hF.ev 0 rfl) rfl Iff.rfl) rfl (gOn 1 rfl rfl rfl (by decide)) (kM [false, true] rfl rfl) (by decide) ?_
      refine pxV (v := (.bool (decide (k = sigL)))) (fun _ _ hF => opPickF rfl (hF.ev 1 rfl) (hF.ev 0 rfl)) rfl (fun _ _ => rfl) (kM [false, false] rfl rfl) (by decide) ?_
      refine pxV (v := (.bool (decide (k = sigL)))) (fun _ _ hF => opAssign rfl (hF.ev 0 rfl)) rfl (fun _ _ => rfl) (kM [false] rfl rfl) (by decide) ?_
      refine pxEnd ?_
      refine qxThen ?_
      refine cxRet ?_
      refine qxRet1 0 rfl rfl ?_
      refine ⟨?_, hH.toBelow⟩
      congr 2; rw [decide_eq_decide]; unfold isK; simp [hg1, hg2]

set_option maxHeartbeats 8000000 in
theorem rnamed_c (l : List UInt8) (hl : l.length ≤ 9223372036854775800) : Pure Tryd.prog 32 #[(.string (strL l))] (fun _ => True) (.bool (hdr l)) := by
  refine pure_of (fn := Tryd.f32) Tryd.func32 rfl Tryd.ntmps32 (Nat.le_of_ble_eq_true rfl) rfl ?_
  intro w0 hH hR
  refine cxSeq ?_
  refine cxReg ?_
  refine pxV (v := (.bool false)) (fun _ _ hF => opAssign rfl rfl) rfl (fun _ _ => rfl) (kA rfl) (by decide) ?_
  refine pxEnd ?_
  refine qxThen ?_
  refine cxSeq ?_
  refine cxReg ?_
  refine pxV (v := (.int .i64 0)) (fun _ _ hF => opAssign rfl rfl) rfl (fun _ _ => rfl) (kM [false, true] rfl rfl) (by decide) ?_
  refine pxEnd ?_
  refine qxThen ?_
  refine cxSeq ?_
  refine cxBlock ?_
  refine cxLoop (σ := Nat) (fun x => [(3, (.int .i64 (((x) : Nat) : Int))), (0, (.string (strL l)))]) (fun x w => HH w0 [] [] w ∧ (x ≤ l.length) ∧ (∀ c ∈ l.take x, isLet c = true)) (fun x => l.length - x) 0 ⟨hH, Nat.zero_le _, (fun c hc => by simp at hc)⟩ (slots_at [0, 1] rfl) ?_
  clear hH
  rintro n w ⟨hH, hn, hall⟩
  change CX _ _ _ _ [(3, (.int .i64 (((n) : Nat) : Int))), (0, (.string (strL l)))] _
  replace hH : HH w0 [] [] w := hH
  replace hn : n ≤ l.length := hn
  replace hall : ∀ c ∈ l.take n, isLet c = true := hall
  refine cxSeq ?_
  refine cxSeq ?_
  refine cxReg ?_
  refine pxV (v := (.int .i64 (((n) : Nat) : Int))) (fun _ _ hF => opMove rfl (hF.ev 0 rfl)) rfl (fun _ _ => rfl) (kA rfl) (by decide) ?_
  refine pxV (v := (.string (strL l))) (fun _ _ hF => opMove rfl (hF.ev 2 rfl)) rfl (fun _ _ => rfl) (kA rfl) (by decide) ?_
  refine pxV (v := (.int .i64 (((l.length) : Nat) : Int))) (fun _ _ hF => opLenL (l := l) rfl (by kernel_rfl) (hF.ev 0 rfl)) rfl (fun _ _ => rfl) (kM [false, true, true, true] rfl rfl) (by decide) ?_
  refine pxV (v := (.bool (decide (n < l.length)))) (fun _ _ hF => opLss rfl (hF.ev 1 rfl) (hF.ev 0 rfl) (dc (by omega))) rfl (fun _ _ => rfl) (kM [false, false, true, true] rfl rfl) (by decide) ?_
  refine pxV (v := (.bool (decide (n < l.length)))) (fun _ _ hF => opMove rfl (hF.ev 0 rfl)) rfl (fun _ _ => rfl) (kM [false, true, true] rfl rfl) (by decide) ?_
  refine pxSplitP 0 rfl (l1 := [(8, (.bool true)), (3, (.int .i64 (((n) : Nat) : Int))), (0, (.string (strL l)))]) (l2 := [(8, (.bool false)), (3, (.int .i64 (((n) : Nat) : Int))), (0, (.string (strL l)))]) rfl rfl (fun hg1 => ?_) (fun hg1 => ?_)
  · refine pxV (v := (.string (strL l))) (fun _ _ hF => opMove rfl (hF.ev 2 rfl)) rfl (gOn 0 rfl rfl rfl (by decide)) (kA rfl) (by decide) ?_
    refine pxV (v := (.int .i64 (((n) : Nat) : Int))) (fun _ _ hF => opMove rfl (hF.ev 2 rfl)) rfl (gOn 1 rfl rfl rfl (by decide)) (kA rfl) (by decide) ?_
    obtain ⟨x2, hx3⟩ := get_at l n (by omega)
    have hb4 := UInt8.toNat_lt x2
    refine pxV (v := (.int .u8 (((x2.toNat) : Nat) : Int))) (fun _ _ hF => opIdxL (l := l) (i := n) (c := x2) rfl (by kernel_rfl) (hF.ev 1 rfl) (hF.ev 0 rfl) rfl hx3) rfl (gOn 2 rfl rfl rfl (by decide)) (kM [false, false, true, true, true] rfl rfl) (by decide) ?_
    refine pxV (v := (.bool (decide (x2.toNat ≥ 65)))) (fun _ _ hF => opGeq rfl (hF.ev 0 rfl) rfl (dc (by omega))) rfl (gOn 1 rfl rfl rfl (by decide)) (kM [false, true, true, true] rfl rfl) (by decide) ?_
    refine pxV (v := (.bool (decide (x2.toNat ≥ 65)))) (fun _ _ hF => opMove rfl (hF.ev 0 rfl)) rfl (gOn 1 rfl rfl rfl (by decide)) (kM [false, true, true, true] rfl rfl) (by decide) ?_
    refine pxSplitP 0 rfl (l1 := [(13, (.bool true)), (8, (.bool true)), (3, (.int .i64 (((n) : Nat) : Int))), (0, (.string (strL l)))]) (l2 := [(13, (.bool false)), (8, (.bool true)), (3, (.int .i64 (((n) : Nat) : Int))), (0, (.string (strL l)))]) rfl rfl (fun hg5 => ?_) (fun hg5 => ?_)
    · refine pxV (v := (.string (strL l))) (fun _ _ hF => opMove rfl (hF.ev 3 rfl)) rfl (gOn 0 rfl rfl rfl (by decide)) (kA rfl) (by decide) ?_
      refine pxV (v := (.int .i64 (((n) : Nat) : Int))) (fun _ _ hF => opMove rfl (hF.ev 3 rfl)) rfl (gOn 1 rfl rfl rfl (by decide)) (kA rfl) (by decide) ?_
      refine pxV (v := (.int .u8 (((x2.toNat) : Nat) : Int))) (fun _ _ hF => opIdxL (l := l) (i := n) (c := x2) rfl (by kernel_rfl) (hF.ev 1 rfl) (hF.ev 0 rfl) rfl hx3) rfl (gOn 2 rfl rfl rfl (by decide)) (kM [false, false, true, true, true, true] rfl rfl) (by decide) ?_
      refine pxV (v := (.bool (decide (x2.toNat ≤ 90)))) (fun _ _ hF => opLeq rfl (hF.ev 0 rfl) rfl (dc (by omega))) rfl (gOn 1 rfl rfl rfl (by decide)) (kM [false, true, true, true, true] rfl rfl) (by decide) ?_
      refine pxV (v := (.bool (decide (x2.toNat ≤ 90)))) (fun _ _ hF => opPickT rfl (hF.ev 1 rfl) (hF.ev 0 rfl)) rfl (gOn 2 rfl rfl rfl (by decide)) (kM [false, false, true, true, true] rfl rfl) (by decide) ?_
      refine pxV (v := (.bool (decide (x2.toNat ≤ 90)))) (fun _ _ hF => opMove rfl (hF.ev 0 rfl)) rfl (gOn 1 rfl rfl rfl (by decide)) (kM [false, true, true, true] rfl rfl) (by decide) ?_
      refine pxSplitP 0 rfl (l1 := [(19, (.bool true)), (8, (.bool true)), (3, (.int .i64 (((n) : Nat) : Int))), (0, (.string (strL l)))]) (l2 := [(19, (.bool false)), (8, (.bool true)), (3, (.int .i64 (((n) : Nat) : Int))), (0, (.string (strL l)))]) rfl rfl (fun hg6 => ?_) (fun hg6 => ?_)
      · refine pxU rfl (gOff 0 rfl rfl rfl (by decide)) (kA rfl) (by decide) ?_
        refine pxU rfl (gOff 0 rfl rfl rfl (by decide)) (kA rfl) (by decide) ?_
        refine pxU rfl (gOff 0 rfl rfl rfl (by decide)) (kA rfl) (by decide) ?_
        refine pxU rfl (gOff 0 rfl rfl rfl (by decide)) (kA rfl) (by decide) ?_
        refine pxUK rfl (gOff 0 rfl rfl rfl (by decide)) (kA rfl) (by decide) ?_
        refine pxU rfl (gOffU 0 rfl rfl rfl) (kA rfl) (by decide) ?_
        refine pxU rfl (gOffU 0 rfl rfl rfl) (kA rfl) (by decide) ?_
        refine pxU rfl (gOffU 0 rfl rfl rfl) (kA rfl) (by decide) ?_
        refine pxU rfl (gOffU 0 rfl rfl rfl) (kA rfl) (by decide) ?_
        refine pxU rfl (gOff 1 rfl rfl rfl (by decide)) (kM [false, true, true, true, true] rfl rfl) (by decide) ?_
        refine pxV (v := (.bool true)) (fun _ _ hF => opPickT rfl (hF.ev 0 rfl) rfl) rfl (gOn 1 rfl rfl rfl (by decide)) (kM [false, true, true, true] rfl rfl) (by decide) ?_
        refine pxV (v := (.bool true)) (fun _ _ hF => opPickT rfl (hF.ev 1 rfl) (hF.ev 0 rfl)) rfl (fun _ _ => rfl) (kM [false, false, true, true] rfl rfl) (by decide) ?_
        refine pxEnd ?_
        refine qxThen ?_
        refine cxT 0 rfl rfl ?_
        refine cxSkip ?_
        refine qxThen ?_
        refine cxBlock ?_
        refine cxReg ?_
        refine pxV (v := (.int .i64 (((n) : Nat) : Int))) (fun _ _ hF => opMove rfl (hF.ev 1 rfl)) rfl (fun _ _ => rfl) (kM [false, false, true] rfl rfl) (by decide) ?_
        refine pxV (v := (.int .i64 (((n + 1) : Nat) : Int))) (fun _ _ hF => opAdd rfl (hF.ev 0 rfl) rfl (wI (by omega) (by omega) (by omega))) rfl (fun _ _ => rfl) (kM [false, true] rfl rfl) (by decide) ?_
        refine pxV (v := (.int .i64 (((n + 1) : Nat) : Int))) (fun _ _ hF => opAssign rfl (hF.ev 0 rfl)) rfl (fun _ _ => rfl) (kM [false, true] rfl rfl) (by decide) ?_
        refine pxEnd ?_
        refine qxInN ?_
        exact qxRound (n + 1) ⟨hH, (show (n + 1) ≤ l.length from (by omega)), (show ∀ c ∈ l.take (n + 1), isLet c = true from (take_all hall hx3 ((isLet_iff _).2 (by omega))))⟩ (by show l.length - (n + 1) < l.length - n; omega) (slots_at [0, 1] rfl)
      · refine pxV (v := (.string (strL l))) (fun _ _ hF => opMove rfl (hF.ev 3 rfl)) rfl (gOn 0 rfl rfl rfl (by decide)) (kA rfl) (by decide) ?_
        refine pxV (v := (.int .i64 (((n) : Nat) : Int))) (fun _ _ hF => opMove rfl (hF.ev 3 rfl)) rfl (gOn 1 rfl rfl rfl (by decide)) (kA rfl) (by decide) ?_
        refine pxV (v := (.int .u8 (((x2.toNat) : Nat) : Int))) (fun _ _ hF => opIdxL (l := l) (i := n) (c := x2) rfl (by kernel_rfl) (hF.ev 1 rfl) (hF.ev 0 rfl) rfl hx3) rfl (gOn 2 rfl rfl rfl (by decide)) (kM [false, false, true, true, true, true] rfl rfl) (by decide) ?_
        refine pxV (v := (.bool (decide (x2.toNat ≥ 97)))) (fun _ _ hF => opGeq rfl (hF.ev 0 rfl) rfl (dc (by omega))) rfl (gOn 1 rfl rfl rfl (by decide)) (kM [false, true, true, true, true] rfl rfl) (by decide) ?_
        refine pxV (v := (.bool (decide (x2.toNat ≥ 97)))) (fun _ _ hF => opMove rfl (hF.ev 0 rfl)) rfl (gOn 1 rfl rfl rfl (by decide)) (kM [false, true, true, true, true] rfl rfl) (by decide) ?_
        refine pxSplitP 0 rfl (l1 := [(24, (.bool true)), (19, (.bool false)), (8, (.bool true)), (3, (.int .i64 (((n) : Nat) : Int))), (0, (.string (strL l)))]) (l2 := [(24, (.bool false)), (19, (.bool false)), (8, (.bool true)), (3, (.int .i64 (((n) : Nat) : Int))), (0, (.string (strL l)))]) rfl rfl (fun hg7 => ?_) (fun hg7 => ?_)
        · refine pxV (v := (.string (strL l))) (fun _ _ hF => opMove rfl (hF.ev 4 rfl)) rfl (gOn 0 rfl rfl rfl (by decide)) (kA rfl) (by decide) ?_
          refine pxV (v := (.int .i64 (((n) : Nat) : Int))) (fun _ _ hF => opMove rfl (hF.ev 4 rfl)) rfl (gOn 1 rfl rfl rfl (by decide)) (kA rfl) (by decide) ?_
          refine pxV (v := (.int .u8 (((x2.toNat) : Nat) : Int))) (fun _ _ hF => opIdxL (l := l) (i := n) (c := x2) rfl (by kernel_rfl) (hF.ev 1 rfl) (hF.ev 0 rfl) rfl hx3) rfl (gOn 2 rfl rfl rfl (by decide)) (kM [false, false, true, true, true, true, true] rfl rfl) (by decide) ?_
          refine pxV (v := (.bool (decide (x2.toNat ≤ 122)))) (fun _ _ hF => opLeq rfl (hF.ev 0 rfl) rfl (dc (by omega))) rfl (gOn 1 rfl rfl rfl (by decide)) (kM [false, true, true, true, true, true] rfl rfl) (by decide) ?_
          refine pxV (v := (.bool (decide (x2.toNat ≤ 122)))) (fun _ _ hF => opPickT rfl (hF.ev 1 rfl) (hF.ev 0 rfl)) rfl (gOn 2 rfl rfl rfl (by decide)) (kM [false, false, true, true, true, true] rfl rfl) (by decide) ?_
          refine pxV (v := (.bool (decide (x2.toNat ≤ 122)))) (fun _ _ hF => opPickF rfl (hF.ev 1 rfl) (hF.ev 0 rfl)) rfl (gOn 2 rfl rfl rfl (by decide)) (kM [false, false, true, true, true] rfl rfl) (by decide) ?_
          refine pxV (v := (.bool (decide (x2.toNat ≤ 122)))) (fun _ _ hF => opPickT rfl (hF.ev 1 rfl) (hF.ev 0 rfl)) rfl (fun _ _ => rfl) (kM [false, false, true, true] rfl rfl) (by decide) ?_
          refine pxEnd ?_
          refine qxThen ?_
          refine cxP 0 rfl rfl (fun hc8 => ?_) (fun hc8 => ?_)
          · refine cxSkip ?_
            refine qxThen ?_
            refine cxBlock ?_
            refine cxReg ?_
            refine pxV (v := (.int .i64 (((n) : Nat) : Int))) (fun _ _ hF => opMove rfl (hF.ev 1 rfl)) rfl (fun _ _ => rfl) (kM [false, false, true] rfl rfl) (by decide) ?_
            refine pxV (v := (.int .i64 (((n + 1) : Nat) : Int))) (fun _ _ hF => opAdd rfl (hF.ev 0 rfl) rfl (wI (by omega) (by omega) (by omega))) rfl (fun _ _ => rfl) (kM [false, true] rfl rfl) (by decide) ?_
            refine pxV (v := (.int .i64 (((n + 1) : Nat) : Int))) (fun _ _ hF => opAssign rfl (hF.ev 0 rfl)) rfl (fun _ _ => rfl) (kM [false, true] rfl rfl) (by decide) ?_
            refine pxEnd ?_
            refine qxInN ?_
            exact qxRound (n + 1) ⟨hH, (show (n + 1) ≤ l.length from (by omega)), (show ∀ c ∈ l.take (n + 1), isLet c = true from (take_all hall hx3 ((isLet_iff _).2 (by omega))))⟩ (by show l.length - (n + 1) < l.length - n; omega) (slots_at [0, 1] rfl)
          · refine cxExit ?_
            refine qxThenE ?_
            refine qxThenE ?_
            refine qxInE ?_
            refine qxThen ?_
            refine cxSeq ?_
            have hnl : nlet l = n := nlet_at hall hn (fun z hz => by rw [hx3] at hz; obtain rfl := Option.some.inj hz; exact (isLet_no _).2 (by omega))
            refine cxReg ?_
            refine pxV (v := (.int .i64 (((n) : Nat) : Int))) (fun _ _ hF => opMove rfl (hF.ev 1 rfl)) rfl (fun _ _ => rfl) (kM [false, true, true] rfl rfl) (by decide) ?_
            refine pxV (v := (.bool (decide (n > 0)))) (fun _ _ hF => opGtr rfl (hF.ev 0 rfl) rfl (dc (by omega))) rfl (fun _ _ => rfl) (kM [false, true, true] rfl rfl) (by decide) ?_
            refine pxV (v := (.bool (decide (n > 0)))) (fun _ _ hF => opMove rfl (hF.ev 0 rfl)) rfl (fun _ _ => rfl) (kM [false, true, true] rfl rfl) (by decide) ?_
            refine pxSplitP 0 rfl (l1 := [(36, (.bool true)), (3, (.int .i64 (((n) : Nat) : Int))), (0, (.string (strL l)))]) (l2 := [(36, (.bool false)), (3, (.int .i64 (((n) : Nat) : Int))), (0, (.string (strL l)))]) rfl rfl (fun hg9 => ?_) (fun hg9 => ?_)
            · refine pxV (v := (.string (strL l))) (fun _ _ hF => opMove rfl (hF.ev 2 rfl)) rfl (gOn 0 rfl rfl rfl (by decide)) (kA rfl) (by decide) ?_
              refine pxV (v := (.int .i64 (((l.length) : Nat) : Int))) (fun _ _ hF => opLenL (l := l) rfl (by kernel_rfl) (hF.ev 0 rfl)) rfl (gOn 1 rfl rfl rfl (by decide)) (kM [false, true, true, true] rfl rfl) (by decide) ?_
              refine pxV (v := (.int .i64 (((n) : Nat) : Int))) (fun _ _ hF => opMove rfl (hF.ev 2 rfl)) rfl (gOn 1 rfl rfl rfl (by decide)) (kA rfl) (by decide) ?_
              refine pxV (v := (.int .i64 (((n + 2) : Nat) : Int))) (fun _ _ hF => opAdd rfl (hF.ev 0 rfl) rfl (wI (by omega) (by omega) (by omega))) rfl (gOn 2 rfl rfl rfl (by decide)) (kM [false, true, true, true, true] rfl rfl) (by decide) ?_
              refine pxV (v := (.bool (decide (l.length ≥ n + 2)))) (fun _ _ hF => opGeq rfl (hF.ev 1 rfl) (hF.ev 0 rfl) (dc (by omega))) rfl (gOn 2 rfl rfl rfl (by decide)) (kM [false, false, true, true, true] rfl rfl) (by decide) ?_
              refine pxV (v := (.bool (decide (l.length ≥ n + 2)))) (fun _ _ hF => opPickT rfl (hF.ev 1 rfl) (hF.ev 0 rfl)) rfl (fun _ _ => rfl) (kM [false, false, true, true] rfl rfl) (by decide) ?_
              refine pxV (v := (.bool (decide (l.length ≥ n + 2)))) (fun _ _ hF => opMove rfl (hF.ev 0 rfl)) rfl (fun _ _ => rfl) (kM [false, true, true] rfl rfl) (by decide) ?_
              refine pxSplitP 0 rfl (l1 := [(43, (.bool true)), (3, (.int .i64 (((n) : Nat) : Int))), (0, (.string (strL l)))]) (l2 := [(43, (.bool false)), (3, (.int .i64 (((n) : Nat) : Int))), (0, (.string (strL l)))]) rfl rfl (fun hg10 => ?_) (fun hg10 => ?_)
              · refine pxV (v := (.string (strL l))) (fun _ _ hF => opMove rfl (hF.ev 2 rfl)) rfl (gOn 0 rfl rfl rfl (by decide)) (kM [true, true, false] rfl rfl) (by decide) ?_
                refine pxV (v := (.int .i64 (((n) : Nat) : Int))) (fun _ _ hF => opMove rfl (hF.ev 2 rfl)) rfl (gOn 1 rfl rfl rfl (by decide)) (kA rfl) (by decide) ?_
                refine pxV (v := (.int .i64 (((n) : Nat) : Int))) (fun _ _ hF => opMove rfl (hF.ev 3 rfl)) rfl (gOn 2 rfl rfl rfl (by decide)) (kM [true, true, true, false] rfl rfl) (by decide) ?_
                refine pxV (v := (.int .i64 (((n + 2) : Nat) : Int))) (fun _ _ hF => opAdd rfl (hF.ev 0 rfl) rfl (wI (by omega) (by omega) (by omega))) rfl (gOn 3 rfl rfl rfl (by decide)) (kM [false, true, true, true] rfl rfl) (by decide) ?_
                refine pxV (v := (.string (strL ((l.take (n + 2)).drop n)))) (fun _ _ hF => opSlcLH' (l := l) (k := n) (h := n + 2) (r := ((l.take (n + 2)).drop n)) rfl (by kernel_rfl) (hF.ev 2 rfl) (hF.ev 1 rfl) (hF.ev 0 rfl) rfl rfl (by omega) (by omega) (rfl)) rfl (gOn 3 rfl rfl rfl (by decide)) (kM [false, false, false, true] rfl rfl) (by decide) ?_
                refine pxV (v := (.bool (decide ((l.drop n).take 2 = [58, 32])))) (fun _ _ hF => opEqL (l := ((l.take (n + 2)).drop n)) (m := [58, 32]) rfl (hF.ev 0 rfl) rfl (by rw [List.drop_take, show n + 2 - n = 2 by omega])) rfl (gOn 1 rfl rfl rfl (by decide)) (kM [false, true] rfl rfl) (by decide) ?_
                refine pxV (v := (.bool (decide ((l.drop n).take 2 = [58, 32])))) (fun _ _ hF => opPickT rfl (hF.ev 1 rfl) (hF.ev 0 rfl)) rfl (fun _ _ => rfl) (kM [false, false] rfl rfl) (by decide) ?_
                refine pxV (v := (.bool (decide ((l.drop n).take 2 = [58, 32])))) (fun _ _ hF => opAssign rfl (hF.ev 0 rfl)) rfl (fun _ _ => rfl) (kM [false] rfl rfl) (by decide) ?_
                refine pxEnd ?_
                refine qxThen ?_
                refine cxRet ?_
                refine qxRet1 0 rfl rfl ?_
                refine ⟨?_, hH.toBelow⟩
                unfold hdr
                rw [hnl]
                simp [hg9, hg10]
              · refine pxU rfl (gOff 0 rfl rfl rfl (by decide)) (kM [true, true, false] rfl rfl) (by decide) ?_
                refine pxU rfl (gOff 0 rfl rfl rfl (by decide)) (kA rfl) (by decide) ?_
                refine pxU rfl (gOff 0 rfl rfl rfl (by decide)) (kM [true, false] rfl rfl) (by decide) ?_
                refine pxU rfl (gOff 0 rfl rfl rfl (by decide)) (kA rfl) (by decide) ?_
                refine pxU rfl (gOff 0 rfl rfl rfl (by decide)) (kA rfl) (by decide) ?_
                refine pxU rfl (gOff 0 rfl rfl rfl (by decide)) (kA rfl) (by decide) ?_
                refine pxV (v := (.bool false)) (fun _ _ hF => opPickF rfl (hF.ev 0 rfl) rfl) rfl (fun _ _ => rfl) (kM [false] rfl rfl) (by decide) ?_
                refine pxV (v := (.bool false)) (fun _ _ hF => opAssign rfl (hF.ev 0 rfl)) rfl (fun _ _ => rfl) (kM [false] rfl rfl) (by decide) ?_
                refine pxEnd ?_
                refine qxThen ?_
                refine cxRet ?_
                refine qxRet1 0 rfl rfl ?_
                refine ⟨?_, hH.toBelow⟩
                unfold hdr
                rw [hnl]
                simp [hg9, hg10]
            · refine pxU rfl (gOff 0 rfl rfl rfl (by decide)) (kA rfl) (by decide) ?_
              refine pxU rfl (gOff 0 rfl rfl rfl (by decide)) (kA rfl) (by decide) ?_
              refine pxU rfl (gOff 0 rfl rfl rfl (by decide)) (kA rfl) (by decide) ?_
              refine pxU rfl (gOff 0 rfl rfl rfl (by decide)) (kA rfl) (by decide) ?_
              refine pxU rfl (gOff 0 rfl rfl rfl (by decide)) (kA rfl) (by decide) ?_
              refine pxV (v := (.bool false)) (fun _ _ hF => opPickF rfl (hF.ev 0 rfl) rfl) rfl (fun _ _ => rfl) (kM [false, true, true] rfl rfl) (by decide) ?_
              refine pxV (v := (.bool false)) (fun _ _ hF => opMove rfl (hF.ev 0 rfl)) rfl (fun _ _ => rfl) (kM [false, true, true] rfl rfl) (by decide) ?_
              refine pxU rfl (gOff 0 rfl rfl rfl (by decide)) (kM [true, true, false] rfl rfl) (by decide) ?_
              refine pxU rfl (gOff 0 rfl rfl rfl (by decide)) (kA rfl) (by decide) ?_
              refine pxU rfl (gOff 0 rfl rfl rfl (by decide)) (kM [true, false] rfl rfl) (by decide) ?_
              refine pxU rfl (gOff 0 rfl rfl rfl (by decide)) (kA rfl) (by decide) ?_
              refine pxU rfl (gOff 0 rfl rfl rfl (by decide)) (kA rfl) (by decide) ?_
              refine pxU rfl (gOff 0 rfl rfl rfl (by decide)) (kA rfl) (by decide) ?_
              refine pxV (v := (.bool false)) (fun _ _ hF => opPickF rfl (hF.ev 0 rfl) rfl) rfl (fun _ _ => rfl) (kM [false] rfl rfl) (by decide) ?_
              refine pxV (v := (.bool false)) (fun _ _ hF => opAssign rfl (hF.ev 0 rfl)) rfl (fun _ _ => rfl) (kM [false] rfl rfl) (by decide) ?_
              refine pxEnd ?_
              refine qxThen ?_
              refine cxRet ?_
              refine qxRet1 0 rfl rfl ?_
              refine ⟨?_, hH.toBelow⟩
              unfold hdr
              rw [hnl]
              simp [hg9]
        · refine pxU rfl (gOff 0 rfl rfl rfl (by decide)) (kA rfl) (by decide) ?_
          refine pxU rfl (gOff 0 rfl rfl rfl (by decide)) (kA rfl) (by decide) ?_
          refine pxU rfl (gOff 0 rfl rfl rfl (by decide)) (kA rfl) (by decide) ?_
          refine pxU rfl (gOff 0 rfl rfl rfl (by decide)) (kA rfl) (by decide) ?_
          refine pxV (v := (.bool false)) (fun _ _ hF => opPickF rfl (hF.ev 0 rfl) rfl) rfl (gOn 1 rfl rfl rfl (by decide)) (kM [false, true, true, true, true] rfl rfl) (by decide) ?_
          refine pxV (v := (.bool false)) (fun _ _ hF => opPickF rfl (hF.ev 1 rfl) (hF.ev 0 rfl)) rfl (gOn 2 rfl rfl rfl (by decide)) (kM [false, false, true, true, true] rfl rfl) (by decide) ?_
          refine pxV (v := (.bool false)) (fun _ _ hF => opPickT rfl (hF.ev 1 rfl) (hF.ev 0 rfl)) rfl (fun _ _ => rfl) (kM [false, false, true, true] rfl rfl) (by decide) ?_
          refine pxEnd ?_
          refine qxThen ?_
          refine cxF 0 rfl rfl ?_
          refine cxExit ?_
          refine qxThenE ?_
          refine qxThenE ?_
          refine qxInE ?_
          refine qxThen ?_
          refine cxSeq ?_
          have hnl : nlet l = n := nlet_at hall hn (fun z hz => by rw [hx3] at hz; obtain rfl := Option.some.inj hz; exact (isLet_no _).2 (by omega))
          refine cxReg ?_
          refine pxV (v := (.int .i64 (((n) : Nat) : Int))) (fun _ _ hF => opMove rfl (hF.ev 1 rfl)) rfl (fun _ _ => rfl) (kM [false, true, true] rfl rfl) (by decide) ?_
          refine pxV (v := (.bool (decide (n > 0)))) (fun _ _ hF => opGtr rfl (hF.ev 0 rfl) rfl (dc (by omega))) rfl (fun _ _ => rfl) (kM [false, true, true] rfl rfl) (by decide) ?_
          refine pxV (v := (.bool (decide (n > 0)))) (fun _ _ hF => opMove rfl (hF.ev 0 rfl)) rfl (fun _ _ => rfl) (kM [false, true, true] rfl rfl) (by decide) ?_
          refine pxSplitP 0 rfl (l1 := [(36, (.bool true)), (3, (.int .i64 (((n) : Nat) : Int))), (0, (.string (strL l)))]) (l2 := [(36, (.bool false)), (3, (.int .i64 (((n) : Nat) : Int))), (0, (.string (strL l)))]) rfl rfl (fun hg11 => ?_) (fun hg11 => ?_)
          · refine pxV (v := (.string (strL l))) (fun _ _ hF => opMove rfl (hF.ev 2 rfl)) rfl (gOn 0 rfl rfl rfl (by decide)) (kA rfl) (by decide) ?_
            refine pxV (v := (.int .i64 (((l.length) : Nat) : Int))) (fun _ _ hF => opLenL (l := l) rfl (by kernel_rfl) (hF.ev 0 rfl)) rfl (gOn 1 rfl rfl rfl (by decide)) (kM [false, true, true, true] rfl rfl) (by decide) ?_
            refine pxV (v := (.int .i64 (((n) : Nat) : Int))) (fun _ _ hF => opMove rfl (hF.ev 2 rfl)) rfl (gOn 1 rfl rfl rfl (by decide)) (kA rfl) (by decide) ?_
            refine pxV (v := (.int .i64 (((n + 2) : Nat) : Int))) (fun _ _ hF => opAdd rfl (hF.ev 0 rfl) rfl (wI (by omega) (by omega) (by omega))) rfl (gOn 2 rfl rfl rfl (by decide)) (kM [false, true, true, true, true] rfl rfl) (by decide) ?_
            refine pxV (v := (.bool (decide (l.length ≥ n + 2)))) (fun _ _ hF => opGeq rfl (hF.ev 1 rfl) (hF.ev 0 rfl) (dc (by omega))) rfl (gOn 2 rfl rfl rfl (by decide)) (kM [false, false, true, true, true] rfl rfl) (by decide) ?_
            refine pxV (v := (.bool (decide (l.length ≥ n + 2)))) (fun _ _ hF => opPickT rfl (hF.ev 1 rfl) (hF.ev 0 rfl)) rfl (fun _ _ => rfl) (kM [false, false, true, true] rfl rfl) (by decide) ?_
            refine pxV (v := (.bool (decide (l.length ≥ n + 2)))) (fun _ _ hF => opMove rfl (hF.ev 0 rfl)) rfl (fun _ _ => rfl) (kM [false, true, true] rfl rfl) (by decide) ?_
            refine pxSplitP 0 rfl (l1 := [(43, (.bool true)), (3, (.int .i64 (((n) : Nat) : Int))), (0, (.string (strL l)))]) (l2 := [(43, (.bool false)), (3, (.int .i64 (((n) : Nat) : Int))), (0, (.string (strL l)))]) rfl rfl (fun hg12 => ?_) (fun hg12 => ?_)
            · refine pxV (v := (.string (strL l))) (fun _ _ hF => opMove rfl (hF.ev 2 rfl)) rfl (gOn 0 rfl rfl rfl (by decide)) (kM [true, true, false] rfl rfl) (by decide) ?_
              refine pxV (v := (.int .i64 (((n) : Nat) : Int))) (fun _ _ hF => opMove rfl (hF.ev 2 rfl)) rfl (gOn 1 rfl rfl rfl (by decide)) (kA rfl) (by decide) ?_
              refine pxV (v := (.int .i64 (((n) : Nat) : Int))) (fun _ _ hF => opMove rfl (hF.ev 3 rfl)) rfl (gOn 2 rfl rfl rfl (by decide)) (kM [true, true, true, false] rfl rfl) (by decide) ?_
              refine pxV (v := (.int .i64 (((n + 2) : Nat) : Int))) (fun _ _ hF => opAdd rfl (hF.ev 0 rfl) rfl (wI (by omega) (by omega) (by omega))) rfl (gOn 3 rfl rfl rfl (by decide)) (kM [false, true, true, true] rfl rfl) (by decide) ?_
              refine pxV (v := (.string (strL ((l.take (n + 2)).drop n)))) (fun _ _ hF => opSlcLH' (l := l) (k := n) (h := n + 2) (r := ((l.take (n + 2)).drop n)) rfl (by kernel_rfl) (hF.ev 2 rfl) (hF.ev 1 rfl) (hF.ev 0 rfl) rfl rfl (by omega) (by omega) (rfl)) rfl (gOn 3 rfl rfl rfl (by decide)) (kM [false, false, false, true] rfl rfl) (by decide) ?_
              refine pxV (v := (.bool (decide ((l.drop n).take 2 = [58, 32])))) (fun _ _ hF => opEqL (l := ((l.take (n + 2)).drop n)) (m := [58, 32]) rfl (hF.ev 0 rfl) rfl (by rw [List.drop_take, show n + 2 - n = 2 by omega])) rfl (gOn 1 rfl rfl rfl (by decide)) (kM [false, true] rfl rfl) (by decide) ?_
              refine pxV (v := (.bool (decide ((l.drop n).take 2 = [58, 32])))) (fun _ _ hF => opPickT rfl (hF.ev 1 rfl) (hF.ev 0 rfl)) rfl (fun _ _ => rfl) (kM [false, false] rfl rfl) (by decide) ?_
              refine pxV (v := (.bool (decide ((l.drop n).take 2 = [58, 32])))) (fun _ _ hF => opAssign rfl (hF.ev 0 rfl)) rfl (fun _ _ => rfl) (kM [false] rfl rfl) (by decide) ?_
              refine pxEnd ?_
              refine qxThen ?_
              refine cxRet ?_
              refine qxRet1 0 rfl rfl ?_
              refine ⟨?_, hH.toBelow⟩
              unfold hdr
              rw [hnl]
              simp [hg11, hg12]
            · refine pxU rfl (gOff 0 rfl rfl rfl (by decide)) (kM [true, true, false] rfl rfl) (by decide) ?_
              refine pxU rfl (gOff 0 rfl rfl rfl (by decide)) (kA rfl) (by decide) ?_
              refine pxU rfl (gOff 0 rfl rfl rfl (by decide)) (kM [true, false] rfl rfl) (by decide) ?_
              refine pxU rfl (gOff 0 rfl rfl rfl (by decide)) (kA rfl) (by decide) ?_
              refine pxU rfl (gOff 0 rfl rfl rfl (by decide)) (kA rfl) (by decide) ?_
              refine pxU rfl (gOff 0 rfl rfl rfl (by decide)) (kA rfl) (by decide) ?_
              refine pxV (v := (.bool false)) (fun _ _ hF => opPickF rfl (hF.ev 0 rfl) rfl) rfl (fun _ _ => rfl) (kM [false] rfl rfl) (by decide) ?_
              refine pxV (v := (.bool false)) (fun _ _ hF => opAssign rfl (hF.ev 0 rfl)) rfl (fun _ _ => rfl) (kM [false] rfl rfl) (by decide) ?_
              refine pxEnd ?_
              refine qxThen ?_
              refine cxRet ?_
              refine qxRet1 0 rfl rfl ?_
              refine ⟨?_, hH.toBelow⟩
              unfold hdr
              rw [hnl]
              simp [hg11, hg12]
          · refine pxU rfl (gOff 0 rfl rfl rfl (by decide)) (kA rfl) (by decide) ?_
            refine pxU rfl (gOff 0 rfl rfl rfl (by decide)) (kA rfl) (by decide) ?_
            refine pxU rfl (gOff 0 rfl rfl rfl (by decide)) (kA rfl) (by decide) ?_
            refine pxU rfl (gOff 0 rfl rfl rfl (by decide)) (kA rfl) (by decide) ?_
            refine pxU rfl (gOff 0 rfl rfl rfl (by decide)) (kA rfl) (by decide) ?_
            refine pxV (v := (.bool false)) (fun _ _ hF => opPickF rfl (hF.ev 0 rfl) rfl) rfl (fun _ _ => rfl) (kM [false, true, true] rfl rfl) (by decide) ?_
            refine pxV (v := (.bool false)) (fun _ _ hF => opMove rfl (hF.ev 0 rfl)) rfl (fun _ _ => rfl) (kM [false, true, true] rfl rfl) (by decide) ?_
            refine pxU rfl (gOff 0 rfl rfl rfl (by decide)) (kM [true, true, false] rfl rfl) (by decide) ?_
            refine pxU rfl (gOff 0 rfl rfl rfl (by decide)) (kA rfl) (by decide) ?_
            refine pxU rfl (gOff 0 rfl rfl rfl (by decide)) (kM [true, false] rfl rfl) (by decide) ?_
            refine pxU rfl (gOff 0 rfl rfl rfl (by decide)) (kA rfl) (by decide) ?_
            refine pxU rfl (gOff 0 rfl rfl rfl (by decide)) (kA rfl) (by decide) ?_
            refine pxU rfl (gOff 0 rfl rfl rfl (by decide)) (kA rfl) (by decide) ?_
            refine pxV (v := (.bool false)) (fun _ _ hF => opPickF rfl (hF.ev 0 rfl) rfl) rfl (fun _ _ => rfl) (kM [false] rfl rfl) (by decide) ?_
            refine pxV (v := (.bool false)) (fun _ _ hF => opAssign rfl (hF.ev 0 rfl)) rfl (fun _ _ => rfl) (kM [false] rfl rfl) (by decide) ?_
            refine pxEnd ?_
            refine qxThen ?_
            refine cxRet ?_
            refine qxRet1 0 rfl rfl ?_
            refine ⟨?_, hH.toBelow⟩
            unfold hdr
            rw [hnl]
            simp [hg11]
    · refine pxU rfl (gOff 0 rfl rfl rfl (by decide)) (kA rfl) (by decide) ?_
      refine pxU rfl (gOff 0 rfl rfl rfl (by decide)) (kA rfl) (by decide) ?_
      refine pxU rfl (gOff 0 rfl rfl rfl (by decide)) (kA rfl) (by decide) ?_
      refine pxU rfl (gOff 0 rfl rfl rfl (by decide)) (kA rfl) (by decide) ?_
      refine pxV (v := (.bool false)) (fun _ _ hF => opPickF rfl (hF.ev 0 rfl) rfl) rfl (gOn 1 rfl rfl rfl (by decide)) (kM [false, true, true, true] rfl rfl) (by decide) ?_
      refine pxV (v := (.bool false)) (fun _ _ hF => opMove rfl (hF.ev 0 rfl)) rfl (gOn 1 rfl rfl rfl (by decide)) (kM [false, true, true, true] rfl rfl) (by decide) ?_
      refine pxV (v := (.string (strL l))) (fun _ _ hF => opMove rfl (hF.ev 3 rfl)) rfl (gOn 0 rfl rfl rfl (by decide)) (kA rfl) (by decide) ?_
      refine pxV (v := (.int .i64 (((n) : Nat) : Int))) (fun _ _ hF => opMove rfl (hF.ev 3 rfl)) rfl (gOn 1 rfl rfl rfl (by decide)) (kA rfl) (by decide) ?_
      refine pxV (v := (.int .u8 (((x2.toNat) : Nat) : Int))) (fun _ _ hF => opIdxL (l := l) (i := n) (c := x2) rfl (by kernel_rfl) (hF.ev 1 rfl) (hF.ev 0 rfl) rfl hx3) rfl (gOn 2 rfl rfl rfl (by decide)) (kM [false, false, true, true, true, true] rfl rfl) (by decide) ?_
      refine pxV (v := (.bool (decide (x2.toNat ≥ 97)))) (fun _ _ hF => opGeq rfl (hF.ev 0 rfl) rfl (dc (by omega))) rfl (gOn 1 rfl rfl rfl (by decide)) (kM [false, true, true, true, true] rfl rfl) (by decide) ?_
      refine pxV (v := (.bool (decide (x2.toNat ≥ 97)))) (fun _ _ hF => opMove rfl (hF.ev 0 rfl)) rfl (gOn 1 rfl rfl rfl (by decide)) (kM [false, true, true, true, true] rfl rfl) (by decide) ?_
      refine pxSplitP 0 rfl (l1 := [(24, (.bool true)), (19, (.bool false)), (8, (.bool true)), (3, (.int .i64 (((n) : Nat) : Int))), (0, (.string (strL l)))]) (l2 := [(24, (.bool false)), (19, (.bool false)), (8, (.bool true)), (3, (.int .i64 (((n) : Nat) : Int))), (0, (.string (strL l)))]) rfl rfl (fun hg13 => ?_) (fun hg13 => ?_)
      · refine pxV (v := (.string (strL l))) (fun _ _ hF => opMove rfl (hF.ev 4 rfl)) rfl (gOn 0 rfl rfl rfl (by decide)) (kA rfl) (by decide) ?_
        refine pxV (v := (.int .i64 (((n) : Nat) : Int))) (fun _ _ hF => opMove rfl (hF.ev 4 rfl)) rfl (gOn 1 rfl rfl rfl (by decide)) (kA rfl) (by decide) ?_
        refine pxV (v := (.int .u8 (((x2.toNat) : Nat) : Int))) (fun _ _ hF => opIdxL (l := l) (i := n) (c := x2) rfl (by kernel_rfl) (hF.ev 1 rfl) (hF.ev 0 rfl) rfl hx3) rfl (gOn 2 rfl rfl rfl (by decide)) (kM [false, false, true, true, true, true, true] rfl rfl) (by decide) ?_
        refine pxV (v := (.bool (decide (x2.toNat ≤ 122)))) (fun _ _ hF => opLeq rfl (hF.ev 0 rfl) rfl (dc (by omega))) rfl (gOn 1 rfl rfl rfl (by decide)) (kM [false, true, true, true, true, true] rfl rfl) (by decide) ?_
        refine pxV (v := (.bool (decide (x2.toNat ≤ 122)))) (fun _ _ hF => opPickT rfl (hF.ev 1 rfl) (hF.ev 0 rfl)) rfl (gOn 2 rfl rfl rfl (by decide)) (kM [false, false, true, true, true, true] rfl rfl) (by decide) ?_
        refine pxV (v := (.bool (decide (x2.toNat ≤ 122)))) (fun _ _ hF => opPickF rfl (hF.ev 1 rfl) (hF.ev 0 rfl)) rfl (gOn 2 rfl rfl rfl (by decide)) (kM [false, false, true, true, true] rfl rfl) (by decide) ?_
        refine pxV (v := (.bool (decide (x2.toNat ≤ 122)))) (fun _ _ hF => opPickT rfl (hF.ev 1 rfl) (hF.ev 0 rfl)) rfl (fun _ _ => rfl) (kM [false, false, true, true] rfl rfl) (by decide) ?_
        refine pxEnd ?_
        refine qxThen ?_
        refine cxP 0 rfl rfl (fun hc14 => ?_) (fun hc14 => ?_)
        · refine cxSkip ?_
          refine qxThen ?_
          refine cxBlock ?_
          refine cxReg ?_
          refine pxV (v := (.int .i64 (((n) : Nat) : Int))) (fun _ _ hF => opMove rfl (hF.ev 1 rfl)) rfl (fun _ _ => rfl) (kM [false, false, true] rfl rfl) (by decide) ?_
          refine pxV (v := (.int .i64 (((n + 1) : Nat) : Int))) (fun _ _ hF => opAdd rfl (hF.ev 0 rfl) rfl (wI (by omega) (by omega) (by omega))) rfl (fun _ _ => rfl) (kM [false, true] rfl rfl) (by decide) ?_
          refine pxV (v := (.int .i64 (((n + 1) : Nat) : Int))) (fun _ _ hF => opAssign rfl (hF.ev 0 rfl)) rfl (fun _ _ => rfl) (kM [false, true] rfl rfl) (by decide) ?_
          refine pxEnd ?_
          refine qxInN ?_
          exact qxRound (n + 1) ⟨hH, (show (n + 1) ≤ l.length from (by omega)), (show ∀ c ∈ l.take (n + 1), isLet c = true from (take_all hall hx3 ((isLet_iff _).2 (by omega))))⟩ (by show l.length - (n + 1) < l.length - n; omega) (slots_at [0, 1] rfl)
        · refine cxExit ?_
          refine qxThenE ?_
          refine qxThenE ?_
          refine qxInE ?_
          refine qxThen ?_
          refine cxSeq ?_
          have hnl : nlet l = n := nlet_at hall hn (fun z hz => by rw [hx3] at hz; obtain rfl := Option.some.inj hz; exact (isLet_no _).2 (by omega))
          refine cxReg ?_
          refine pxV (v := (.int .i64 (((n) : Nat) : Int))) (fun _ _ hF => opMove rfl (hF.ev 1 rfl)) rfl (fun _ _ => rfl) (kM [false, true, true] rfl rfl) (by decide) ?_
          refine pxV (v := (.bool (decide (n > 0)))) (fun _ _ hF => opGtr rfl (hF.ev 0 rfl) rfl (dc (by omega))) rfl (fun _ _ => rfl) (kM [false, true, true] rfl rfl) (by decide) ?_
          refine pxV (v := (.bool (decide (n > 0)))) (fun _ _ hF => opMove rfl (hF.ev 0 rfl)) rfl (fun _ _ => rfl) (kM [false, true, true] rfl rfl) (by decide) ?_
          refine pxSplitP 0 rfl (l1 := [(36, (.bool true)), (3, (.int .i64 (((n) : Nat) : Int))), (0, (.string (strL l)))]) (l2 := [(36, (.bool false)), (3, (.int .i64 (((n) : Nat) : Int))), (0, (.string (strL l)))]) rfl rfl (fun hg15 => ?_) (fun hg15 => ?_)
          · refine pxV (v := (.string (strL l))) (fun _ _ hF => opMove rfl (hF.ev 2 rfl)) rfl (gOn 0 rfl rfl rfl (by decide)) (kA rfl) (by decide) ?_
            refine pxV (v := (.int .i64 (((l.length) : Nat) : Int))) (fun _ _ hF => opLenL (l := l) rfl (by kernel_rfl) (hF.ev 0 rfl)) rfl (gOn 1 rfl rfl rfl (by decide)) (kM [false, true, true, true] rfl rfl) (by decide) ?_
            refine pxV (v := (.int .i64 (((n) : Nat) : Int))) (fun _ _ hF => opMove rfl (hF.ev 2 rfl)) rfl (gOn 1 rfl rfl rfl (by decide)) (kA rfl) (by decide) ?_
            refine pxV (v := (.int .i64 (((n + 2) : Nat) : Int))) (fun _ _ hF => opAdd rfl (hF.ev 0 rfl) rfl (wI (by omega) (by omega) (by omega))) rfl (gOn 2 rfl rfl rfl (by decide)) (kM [false, true, true, true, true] rfl rfl) (by decide) ?_
            refine pxV (v := (.bool (decide (l.length ≥ n + 2)))) (fun _ _ hF => opGeq rfl (hF.ev 1 rfl) (hF.ev 0 rfl) (dc (by omega))) rfl (gOn 2 rfl rfl rfl (by decide)) (kM [false, false, true, true, true] rfl rfl) (by decide) ?_
            refine pxV (v := (.bool (decide (l.length ≥ n + 2)))) (fun _ _ hF => opPickT rfl (hF.ev 1 rfl) (hF.ev 0 rfl)) rfl (fun _ _ => rfl) (kM [false, false, true, true] rfl rfl) (by decide) ?_
            refine pxV (v := (.bool (decide (l.length ≥ n + 2)))) (fun _ _ hF => opMove rfl (hF.ev 0 rfl)) rfl (fun _ _ => rfl) (kM [false, true, true] rfl rfl) (by decide) ?_
            refine pxSplitP 0 rfl (l1 := [(43, (.bool true)), (3, (.int .i64 (((n) : Nat) : Int))), (0, (.string (strL l)))]) (l2 := [(43, (.bool false)), (3, (.int .i64 (((n) : Nat) : Int))), (0, (.string (strL l)))]) rfl rfl (fun hg16 => ?_) (fun hg16 => ?_)
            · refine pxV (v := (.string (strL l))) (fun _ _ hF => opMove rfl (hF.ev 2 rfl)) rfl (gOn 0 rfl rfl rfl (by decide)) (kM [true, true, false] rfl rfl) (by decide) ?_
              refine pxV (v := (.int .i64 (((n) : Nat) : Int))) (fun _ _ hF => opMove rfl (hF.ev 2 rfl)) rfl (gOn 1 rfl rfl rfl (by decide)) (kA rfl) (by decide) ?_
              refine pxV (v := (.int .i64 (((n) : Nat) : Int))) (fun _ _ hF => opMove rfl (hF.ev 3 rfl)) rfl (gOn 2 rfl rfl rfl (by decide)) (kM [true, true, true, false] rfl rfl) (by decide) ?_
              refine pxV (v := (.int .i64 (((n + 2) : Nat) : Int))) (fun _ _ hF => opAdd rfl (hF.ev 0 rfl) rfl (wI (by omega) (by omega) (by omega))) rfl (gOn 3 rfl rfl rfl (by decide)) (kM [false, true, true, true] rfl rfl) (by decide) ?_
              refine pxV (v := (.string (strL ((l.take (n + 2)).drop n)))) (fun _ _ hF => opSlcLH' (l := l) (k := n) (h := n + 2) (r := ((l.take (n + 2)).drop n)) rfl (by kernel_rfl) (hF.ev 2 rfl) (hF.ev 1 rfl) (hF.ev 0 rfl) rfl rfl (by omega) (by omega) (rfl)) rfl (gOn 3 rfl rfl rfl (by decide)) (kM [false, false, false, true] rfl rfl) (by decide) ?_
              refine pxV (v := (.bool (decide ((l.drop n).take 2 = [58, 32])))) (fun _ _ hF => opEqL (l := ((l.take (n + 2)).drop n)) (m := [58, 32]) rfl (hF.ev 0 rfl) rfl (by rw [List.drop_take, show n + 2 - n = 2 by omega])) rfl (gOn 1 rfl rfl rfl (by decide)) (kM [false, true] rfl rfl) (by decide) ?_
              refine pxV (v := (.bool (decide ((l.drop n).take 2 = [58, 32])))) (fun _ _ hF => opPickT rfl (hF.ev 1 rfl) (hF.ev 0 rfl)) rfl (fun _ _ => rfl) (kM [false, false] rfl rfl) (by decide) ?_
              refine pxV (v := (.bool (decide ((l.drop n).take 2 = [58, 32])))) (fun _ _ hF => opAssign rfl (hF.ev 0 rfl)) rfl (fun _ _ => rfl) (kM [false] rfl rfl) (by decide) ?_
              refine pxEnd ?_
              refine qxThen ?_
              refine cxRet ?_
              refine qxRet1 0 rfl rfl ?_
              refine ⟨?_, hH.toBelow⟩
              unfold hdr
              rw [hnl]
              simp [hg15, hg16]
            · refine pxU rfl (gOff 0 rfl rfl rfl (by decide)) (kM [true, true, false] rfl rfl) (by decide) ?_
              refine pxU rfl (gOff 0 rfl rfl rfl (by decide)) (kA rfl) (by decide) ?_
              refine pxU rfl (gOff 0 rfl rfl rfl (by decide)) (kM [true, false] rfl rfl) (by decide) ?_
              refine pxU rfl (gOff 0 rfl rfl rfl (by decide)) (kA rfl) (by decide) ?_
              refine pxU rfl (gOff 0 rfl rfl rfl (by decide)) (kA rfl) (by decide) ?_
              refine pxU rfl (gOff 0 rfl rfl rfl (by decide)) (kA rfl) (by decide) ?_
              refine pxV (v := (.bool false)) (fun _ _ hF => opPickF rfl (hF.ev 0 rfl) rfl) rfl (fun _ _ => rfl) (kM [false] rfl rfl) (by decide) ?_
              refine pxV (v := (.bool false)) (fun _ _ hF => opAssign rfl (hF.ev 0 rfl)) rfl (fun _ _ => rfl) (kM [false] rfl rfl) (by decide) ?_
              refine pxEnd ?_
              refine qxThen ?_
              refine cxRet ?_
              refine qxRet1 0 rfl rfl ?_
              refine ⟨?_, hH.toBelow⟩
              unfold hdr
              rw [hnl]
              simp [hg15, hg16]
          · refine pxU rfl (gOff 0 rfl rfl rfl (by decide)) (kA rfl) (by decide) ?_
            refine pxU rfl (gOff 0 rfl rfl rfl (by decide)) (kA rfl) (by decide) ?_
            refine pxU rfl (gOff 0 rfl rfl rfl (by decide)) (kA rfl) (by decide) ?_
            refine pxU rfl (gOff 0 rfl rfl rfl (by decide)) (kA rfl) (by decide) ?_
            refine pxU rfl (gOff 0 rfl rfl rfl (by decide)) (kA rfl) (by decide) ?_
            refine pxV (v := (.bool false)) (fun _ _ hF => opPickF rfl (hF.ev 0 rfl) rfl) rfl (fun _ _ => rfl) (kM [false, true, true] rfl rfl) (by decide) ?_
            refine pxV (v := (.bool false)) (fun _ _ hF => opMove rfl (hF.ev 0 rfl)) rfl (fun _ _ => rfl) (kM [false, true, true] rfl rfl) (by decide) ?_
            refine pxU rfl (gOff 0 rfl rfl rfl (by decide)) (kM [true, true, false] rfl rfl) (by decide) ?_
            refine pxU rfl (gOff 0 rfl rfl rfl (by decide)) (kA rfl) (by decide) ?_
            refine pxU rfl (gOff 0 rfl rfl rfl (by decide)) (kM [true, false] rfl rfl) (by decide) ?_
            refine pxU rfl (gOff 0 rfl rfl rfl (by decide)) (kA rfl) (by decide) ?_
            refine pxU rfl (gOff 0 rfl rfl rfl (by decide)) (kA rfl) (by decide) ?_
            refine pxU rfl (gOff 0 rfl rfl rfl (by decide)) (kA rfl) (by decide) ?_
            refine pxV (v := (.bool false)) (fun _ _ hF => opPickF rfl (hF.ev 0 rfl) rfl) rfl (fun _ _ => rfl) (kM [false] rfl rfl) (by decide) ?_
            refine pxV (v := (.bool false)) (fun _ _ hF => opAssign rfl (hF.ev 0 rfl)) rfl (fun _ _ => rfl) (kM [false] rfl rfl) (by decide) ?_
            refine pxEnd ?_
            refine qxThen ?_
            refine cxRet ?_
            refine qxRet1 0 rfl rfl ?_
            refine ⟨?_, hH.toBelow⟩
            unfold hdr
            rw [hnl]
            simp [hg15]
      · refine pxU rfl (gOff 0 rfl rfl rfl (by decide)) (kA rfl) (by decide) ?_
        refine pxU rfl (gOff 0 rfl rfl rfl (by decide)) (kA rfl) (by decide) ?_
        refine pxU rfl (gOff 0 rfl rfl rfl (by decide)) (kA rfl) (by decide) ?_
        refine pxU rfl (gOff 0 rfl rfl rfl (by decide)) (kA rfl) (by decide) ?_
        refine pxV (v := (.bool false)) (fun _ _ hF => opPickF rfl (hF.ev 0 rfl) rfl) rfl (gOn 1 rfl rfl rfl (by decide)) (kM [false, true, true, true, true] rfl rfl) (by decide) ?_
        refine pxV (v := (.bool false)) (fun _ _ hF => opPickF rfl (hF.ev 1 rfl) (hF.ev 0 rfl)) rfl (gOn 2 rfl rfl rfl (by decide)) (kM [false, false, true, true, true] rfl rfl) (by decide) ?_
        refine pxV (v := (.bool false)) (fun _ _ hF => opPickT rfl (hF.ev 1 rfl) (hF.ev 0 rfl)) rfl (fun _ _ => rfl) (kM [false, false, true, true] rfl rfl) (by decide) ?_
        refine pxEnd ?_
        refine qxThen ?_
        refine cxF 0 rfl rfl ?_
        refine cxExit ?_
        refine qxThenE ?_
        refine qxThenE ?_
        refine qxInE ?_
        refine qxThen ?_
        refine cxSeq ?_
        have hnl : nlet l = n := nlet_at hall hn (fun z hz => by rw [hx3] at hz; obtain rfl := Option.some.inj hz; exact (isLet_no _).2 (by omega))
        refine cxReg ?_
        refine pxV (v := (.int .i64 (((n) : Nat) : Int))) (fun _ _ hF => opMove rfl (hF.ev 1 rfl)) rfl (fun _ _ => rfl) (kM [false, true, true] rfl rfl) (by decide) ?_
        refine pxV (v := (.bool (decide (n > 0)))) (fun _ _ hF => opGtr rfl (hF.ev 0 rfl) rfl (dc (by omega))) rfl (fun _ _ => rfl) (kM [false, true, true] rfl rfl) (by decide) ?_
        refine pxV (v := (.bool (decide (n > 0)))) (fun _ _ hF => opMove rfl (hF.ev 0 rfl)) rfl (fun _ _ => rfl) (kM [false, true, true] rfl rfl) (by decide) ?_
        refine pxSplitP 0 rfl (l1 := [(36, (.bool true)), (3, (.int .i64 (((n) : Nat) : Int))), (0, (.string (strL l)))]) (l2 := [(36, (.bool false)), (3, (.int .i64 (((n) : Nat) : Int))), (0, (.string (strL l)))]) rfl rfl (fun hg17 => ?_) (fun hg17 => ?_)
        · refine pxV (v := (.string (strL l))) (fun _ _ hF => opMove rfl (hF.ev 2 rfl)) rfl (gOn 0 rfl rfl rfl (by decide)) (kA rfl) (by decide) ?_
          refine pxV (v := (.int .i64 (((l.length) : Nat) : Int))) (fun _ _ hF => opLenL (l := l) rfl (by kernel_rfl) (hF.ev 0 rfl)) rfl (gOn 1 rfl rfl rfl (by decide)) (kM [false, true, true, true] rfl rfl) (by decide) ?_
          refine pxV (v := (.int .i64 (((n) : Nat) : Int))) (fun _ _ hF => opMove rfl (hF.ev 2 rfl)) rfl (gOn 1 rfl rfl rfl (by decide)) (kA rfl) (by decide) ?_
          refine pxV (v := (.int .i64 (((n + 2) : Nat) : Int))) (fun _ _ hF => opAdd rfl (hF.ev 0 rfl) rfl (wI (by omega) (by omega) (by omega))) rfl (gOn 2 rfl rfl rfl (by decide)) (kM [false, true, true, true, true] rfl rfl) (by decide) ?_
          refine pxV (v := (.bool (decide (l.length ≥ n + 2)))) (fun _ _ hF => opGeq rfl (hF.ev 1 rfl) (hF.ev 0 rfl) (dc (by omega))) rfl (gOn 2 rfl rfl rfl (by decide)) (kM [false, false, true, true, true] rfl rfl) (by decide) ?_
          refine pxV (v := (.bool (decide (l.length ≥ n + 2)))) (fun _ _ hF => opPickT rfl (hF.ev 1 rfl) (hF.ev 0 rfl)) rfl (fun _ _ => rfl) (kM [false, false, true, true] rfl rfl) (by decide) ?_
          refine pxV (v := (.bool (decide (l.length ≥ n + 2)))) (fun _ _ hF => opMove rfl (hF.ev 0 rfl)) rfl (fun _ _ => rfl) (kM [false, true, true] rfl rfl) (by decide) ?_
          refine pxSplitP 0 rfl (l1 := [(43, (.bool true)), (3, (.int .i64 (((n) : Nat) : Int))), (0, (.string (strL l)))]) (l2 := [(43, (.bool false)), (3, (.int .i64 (((n) : Nat) : Int))), (0, (.string (strL l)))]) rfl rfl (fun hg18 => ?_) (fun hg18 => ?_)
          · refine pxV (v := (.string (strL l))) (fun _ _ hF => opMove rfl (hF.ev 2 rfl)) rfl (gOn 0 rfl rfl rfl (by decide)) (kM [true, true, false] rfl rfl) (by decide) ?_
            refine pxV (v := (.int .i64 (((n) : Nat) : Int))) (fun _ _ hF => opMove rfl (hF.ev 2 rfl)) rfl (gOn 1 rfl rfl rfl (by decide)) (kA rfl) (by decide) ?_
            refine pxV (v := (.int .i64 (((n) : Nat) : Int))) (fun _ _ hF => opMove rfl (hF.ev 3 rfl)) rfl (gOn 2 rfl rfl rfl (by decide)) (kM [true, true, true, false] rfl rfl) (by decide) ?_
            refine pxV (v := (.int .i64 (((n + 2) : Nat) : Int))) (fun _ _ hF => opAdd rfl (hF.ev 0 rfl) rfl (wI (by omega) (by omega) (by omega))) rfl (gOn 3 rfl rfl rfl (by decide)) (kM [false, true, true, true] rfl rfl) (by decide) ?_
            refine pxV (v := (.string (strL ((l.take (n + 2)).drop n)))) (fun _ _ hF => opSlcLH' (l := l) (k := n) (h := n + 2) (r := ((l.take (n + 2)).drop n)) rfl (by kernel_rfl) (hF.ev 2 rfl) (hF.ev 1 rfl) (hF.ev 0 rfl) rfl rfl (by omega) (by omega) (rfl)) rfl (gOn 3 rfl rfl rfl (by decide)) (kM [false, false, false, true] rfl rfl) (by decide) ?_
            refine pxV (v := (.bool (decide ((l.drop n).take 2 = [58, 32])))) (fun _ _ hF => opEqL (l := ((l.take (n + 2)).drop n)) (m := [58, 32]) rfl (hF.ev 0 rfl) rfl (by rw [List.drop_take, show n + 2 - n = 2 by omega])) rfl (gOn 1 rfl rfl rfl (by decide)) (kM [false, true] rfl rfl) (by decide) ?_
            refine pxV (v := (.bool (decide ((l.drop n).take 2 = [58, 32])))) (fun _ _ hF => opPickT rfl (hF.ev 1 rfl) (hF.ev 0 rfl)) rfl (fun _ _ => rfl) (kM [false, false] rfl rfl) (by decide) ?_
            refine pxV (v := (.bool (decide ((l.drop n).take 2 = [58, 32])))) (fun _ _ hF => opAssign rfl (hF.ev 0 rfl)) rfl (fun _ _ => rfl) (kM [false] rfl rfl) (by decide) ?_
            refine pxEnd ?_
            refine qxThen ?_
            refine cxRet ?_
            refine qxRet1 0 rfl rfl ?_
            refine ⟨?_, hH.toBelow⟩
            unfold hdr
            rw [hnl]
            simp [hg17, hg18]
          · refine pxU rfl (gOff 0 rfl rfl rfl (by decide)) (kM [true, true, false] rfl rfl) (by decide) ?_
            refine pxU rfl (gOff 0 rfl rfl rfl (by decide)) (kA rfl) (by decide) ?_
            refine pxU rfl (gOff 0 rfl rfl rfl (by decide)) (kM [true, false] rfl rfl) (by decide) ?_
            refine pxU rfl (gOff 0 rfl rfl rfl (by decide)) (kA rfl) (by decide) ?_
            refine pxU rfl (gOff 0 rfl rfl rfl (by decide)) (kA rfl) (by decide) ?_
            refine pxU rfl (gOff 0 rfl rfl rfl (by decide)) (kA rfl) (by decide) ?_
            refine pxV (v := (.bool false)) (fun _ _ hF => opPickF rfl (hF.ev 0 rfl) rfl) rfl (fun _ _ => rfl) (kM [false] rfl rfl) (by decide) ?_
            refine pxV (v := (.bool false)) (fun _ _ hF => opAssign rfl (hF.ev 0 rfl)) rfl (fun _ _ => rfl) (kM [false] rfl rfl) (by decide) ?_
            refine pxEnd ?_
            refine qxThen ?_
            refine cxRet ?_
            refine qxRet1 0 rfl rfl ?_
            refine ⟨?_, hH.toBelow⟩
            unfold hdr
            rw [hnl]
            simp [hg17, hg18]
        · refine pxU rfl (gOff 0 rfl rfl rfl (by decide)) (kA rfl) (by decide) ?_
          refine pxU rfl (gOff 0 rfl rfl rfl (by decide)) (kA rfl) (by decide) ?_
          refine pxU rfl (gOff 0 rfl rfl rfl (by decide)) (kA rfl) (by decide) ?_
          refine pxU rfl (gOff 0 rfl rfl rfl (by decide)) (kA rfl) (by decide) ?_
          refine pxU rfl (gOff 0 rfl rfl rfl (by decide)) (kA rfl) (by decide) ?_
          refine pxV (v := (.bool false)) (fun _ _ hF => opPickF rfl (hF.ev 0 rfl) rfl) rfl (fun _ _ => rfl) (kM [false, true, true] rfl rfl) (by decide) ?_
          refine pxV (v := (.bool false)) (fun _ _ hF => opMove rfl (hF.ev 0 rfl)) rfl (fun _ _ => rfl) (kM [false, true, true] rfl rfl) (by decide) ?_
          refine pxU rfl (gOff 0 rfl rfl rfl (by decide)) (kM [true, true, false] rfl rfl) (by decide) ?_
          refine pxU rfl (gOff 0 rfl rfl rfl (by decide)) (kA rfl) (by decide) ?_
          refine pxU rfl (gOff 0 rfl rfl rfl (by decide)) (kM [true, false] rfl rfl) (by decide) ?_
          refine pxU rfl (gOff 0 rfl rfl rfl (by decide)) (kA rfl) (by decide) ?_
          refine pxU rfl (gOff 0 rfl rfl rfl (by decide)) (kA rfl) (by decide) ?_
          refine pxU rfl (gOff 0 rfl rfl rfl (by decide)) (kA rfl) (by decide) ?_
          refine pxV (v := (.bool false)) (fun _ _ hF => opPickF rfl (hF.ev 0 rfl) rfl) rfl (fun _ _ => rfl) (kM [false] rfl rfl) (by decide) ?_
          refine pxV (v := (.bool false)) (fun _ _ hF => opAssign rfl (hF.ev 0 rfl)) rfl (fun _ _ => rfl) (kM [false] rfl rfl) (by decide) ?_
          refine pxEnd ?_
          refine qxThen ?_
          refine cxRet ?_
          refine qxRet1 0 rfl rfl ?_
          refine ⟨?_, hH.toBelow⟩
          unfold hdr
          rw [hnl]
          simp [hg17]
  · refine pxU rfl (gOff 0 rfl rfl rfl (by decide)) (kA rfl) (by decide) ?_
    refine pxU rfl (gOff 0 rfl rfl rfl (by decide)) (kA rfl) (by decide) ?_
    refine pxU rfl (gOff 0 rfl rfl rfl (by decide)) (kA rfl) (by decide) ?_
    refine pxU rfl (gOff 0 rfl rfl rfl (by decide)) (kA rfl) (by decide) ?_
    refine pxUK rfl (gOff 0 rfl rfl rfl (by decide)) (kA rfl) (by decide) ?_
    refine pxU rfl (gOffU 0 rfl rfl rfl) (kA rfl) (by decide) ?_
    refine pxU rfl (gOffU 0 rfl rfl rfl) (kA rfl) (by decide) ?_
    refine pxU rfl (gOffU 0 rfl rfl rfl) (kA rfl) (by decide) ?_
    refine pxU rfl (gOffU 0 rfl rfl rfl) (kA rfl) (by decide) ?_
    refine pxU rfl (gOff 1 rfl rfl rfl (by decide)) (kM [false, true, true, true] rfl rfl) (by decide) ?_
    refine pxUK rfl (gOff 0 rfl rfl rfl (by decide)) (kA rfl) (by decide) ?_
    refine pxU rfl (gOffU 0 rfl rfl rfl) (kA rfl) (by decide) ?_
    refine pxU rfl (gOffU 0 rfl rfl rfl) (kA rfl) (by decide) ?_
    refine pxU rfl (gOffU 0 rfl rfl rfl) (kA rfl) (by decide) ?_
    refine pxU rfl (gOffU 0 rfl rfl rfl) (kA rfl) (by decide) ?_
    refine pxUK rfl (gOffU 0 rfl rfl rfl) (kA rfl) (by decide) ?_
    refine pxU rfl (gOffU 0 rfl rfl rfl) (kA rfl) (by decide) ?_
    refine pxU rfl (gOffU 0 rfl rfl rfl) (kA rfl) (by decide) ?_
    refine pxU rfl (gOffU 0 rfl rfl rfl) (kA rfl) (by decide) ?_
    refine pxU rfl (gOffU 0 rfl rfl rfl) (kA rfl) (by decide) ?_
    refine pxU rfl (gOffU 1 rfl rfl rfl) (kM [false, true, true, true, true] rfl rfl) (by decide) ?_
    refine pxU rfl (gOff 1 rfl rfl rfl (by decide)) (kM [false, true, true, true] rfl rfl) (by decide) ?_
    refine pxV (v := (.bool false)) (fun _ _ hF => opPickF rfl (hF.ev 0 rfl) rfl) rfl (fun _ _ => rfl) (kM [false, true, true] rfl rfl) (by decide) ?_
    refine pxEnd ?_
    refine qxThen ?_
    refine cxF 0 rfl rfl ?_
    refine cxExit ?_
    refine qxThenE ?_
    refine qxThenE ?_
    refine qxInE ?_
    refine qxThen ?_
    refine cxSeq ?_
    have hnl : nlet l = n := nlet_at hall hn (fun z hz => by have := (List.getElem?_eq_some_iff.1 hz).1; omega)
    refine cxReg ?_
    refine pxV (v := (.int .i64 (((n) : Nat) : Int))) (fun _ _ hF => opMove rfl (hF.ev 1 rfl)) rfl (fun _ _ => rfl) (kM [false, true, true] rfl rfl) (by decide) ?_
    refine pxV (v := (.bool (decide (n > 0)))) (fun _ _ hF => opGtr rfl (hF.ev 0 rfl) rfl (dc (by omega))) rfl (fun _ _ => rfl) (kM [false, true, true] rfl rfl) (by decide) ?_
    refine pxV (v := (.bool (decide (n > 0)))) (fun _ _ hF => opMove rfl (hF.ev 0 rfl)) rfl (fun _ _ => rfl) (kM [false, true, true] rfl rfl) (by decide) ?_
    refine pxSplitP 0 rfl (l1 := [(36, (.bool true)), (3, (.int .i64 (((n) : Nat) : Int))), (0, (.string (strL l)))]) (l2 := [(36, (.bool false)), (3, (.int .i64 (((n) : Nat) : Int))), (0, (.string (strL l)))]) rfl rfl (fun hg19 => ?_) (fun hg19 => ?_)
    · refine pxV (v := (.string (strL l))) (fun _ _ hF => opMove rfl (hF.ev 2 rfl)) rfl (gOn 0 rfl rfl rfl (by decide)) (kA rfl) (by decide) ?_
      refine pxV (v := (.int .i64 (((l.length) : Nat) : Int))) (fun _ _ hF => opLenL (l := l) rfl (by kernel_rfl) (hF.ev 0 rfl)) rfl (gOn 1 rfl rfl rfl (by decide)) (kM [false, true, true, true] rfl rfl) (by decide) ?_
      refine pxV (v := (.int .i64 (((n) : Nat) : Int))) (fun _ _ hF => opMove rfl (hF.ev 2 rfl)) rfl (gOn 1 rfl rfl rfl (by decide)) (kA rfl) (by decide) ?_
      refine pxV (v := (.int .i64 (((n + 2) : Nat) : Int))) (fun _ _ hF => opAdd rfl (hF.ev 0 rfl) rfl (wI (by omega) (by omega) (by omega))) rfl (gOn 2 rfl rfl rfl (by decide)) (kM [false, true, true, true, true] rfl rfl) (by decide) ?_
      refine pxV (v := (.bool (decide (l.length ≥ n + 2)))) (fun _ _ hF => opGeq rfl (hF.ev 1 rfl) (hF.ev 0 rfl) (dc (by omega))) rfl (gOn 2 rfl rfl rfl (by decide)) (kM [false, false, true, true, true] rfl rfl) (by decide) ?_
      refine pxV (v := (.bool (decide (l.length ≥ n + 2)))) (fun _ _ hF => opPickT rfl (hF.ev 1 rfl) (hF.ev 0 rfl)) rfl (fun _ _ => rfl) (kM [false, false, true, true] rfl rfl) (by decide) ?_
      refine pxV (v := (.bool (decide (l.length ≥ n + 2)))) (fun _ _ hF => opMove rfl (hF.ev 0 rfl)) rfl (fun _ _ => rfl) (kM [false, true, true] rfl rfl) (by decide) ?_
      refine pxSplitP 0 rfl (l1 := [(43, (.bool true)), (3, (.int .i64 (((n) : Nat) : Int))), (0, (.string (strL l)))]) (l2 := [(43, (.bool false)), (3, (.int .i64 (((n) : Nat) : Int))), (0, (.string (strL l)))]) rfl rfl (fun hg20 => ?_) (fun hg20 => ?_)
      · refine pxV (v := (.string (strL l))) (fun _ _ hF => opMove rfl (hF.ev 2 rfl)) rfl (gOn 0 rfl rfl rfl (by decide)) (kM [true, true, false] rfl rfl) (by decide) ?_
        refine pxV (v := (.int .i64 (((n) : Nat) : Int))) (fun _ _ hF => opMove rfl (hF.ev 2 rfl)) rfl (gOn 1 rfl rfl rfl (by decide)) (kA rfl) (by decide) ?_
        refine pxV (v := (.int .i64 (((n) : Nat) : Int))) (fun _ _ hF => opMove rfl (hF.ev 3 rfl)) rfl (gOn 2 rfl rfl rfl (by decide)) (kM [true, true, true, false] rfl rfl) (by decide) ?_
        refine pxV (v := (.int .i64 (((n + 2) : Nat) : Int))) (fun _ _ hF => opAdd rfl (hF.ev 0 rfl) rfl (wI (by omega) (by omega) (by omega))) rfl (gOn 3 rfl rfl rfl (by decide)) (kM [false, true, true, true] rfl rfl) (by decide) ?_
        refine pxV (v := (.string (strL ((l.take (n + 2)).drop n)))) (fun _ _ hF => opSlcLH' (l := l) (k := n) (h := n + 2) (r := ((l.take (n + 2)).drop n)) rfl (by kernel_rfl) (hF.ev 2 rfl) (hF.ev 1 rfl) (hF.ev 0 rfl) rfl rfl (by omega) (by omega) (rfl)) rfl (gOn 3 rfl rfl rfl (by decide)) (kM [false, false, false, true] rfl rfl) (by decide) ?_
        refine pxV (v := (.bool (decide ((l.drop n).take 2 = [58, 32])))) (fun _ _ hF => opEqL (l := ((l.take (n + 2)).drop n)) (m := [58, 32]) rfl (hF.ev 0 rfl) rfl (by rw [List.drop_take, show n + 2 - n = 2 by omega])) rfl (gOn 1 rfl rfl rfl (by decide)) (kM [false, true] rfl rfl) (by decide) ?_
        refine pxV (v := (.bool (decide ((l.drop n).take 2 = [58, 32])))) (fun _ _ hF => opPickT rfl (hF.ev 1 rfl) (hF.ev 0 rfl)) rfl (fun _ _ => rfl) (kM [false, false] rfl rfl) (by decide) ?_
        refine pxV (v := (.bool (decide ((l.drop n).take 2 = [58, 32])))) (fun _ _ hF => opAssign rfl (hF.ev 0 rfl)) rfl (fun _ _ => rfl) (kM [false] rfl rfl) (by decide) ?_
        refine pxEnd ?_
        refine qxThen ?_
        refine cxRet ?_
        refine qxRet1 0 rfl rfl ?_
        refine ⟨?_, hH.toBelow⟩
        unfold hdr
        rw [hnl]
        simp [hg19, hg20]
      · refine pxU rfl (gOff 0 rfl rfl rfl (by decide)) (kM [true, true, false] rfl rfl) (by decide) ?_
        refine pxU rfl (gOff 0 rfl rfl rfl (by decide)) (kA rfl) (by decide) ?_
        refine pxU rfl (gOff 0 rfl rfl rfl (by decide)) (kM [true, false] rfl rfl) (by decide) ?_
        refine pxU rfl (gOff 0 rfl rfl rfl (by decide)) (kA rfl) (by decide) ?_
        refine pxU rfl (gOff 0 rfl rfl rfl (by decide)) (kA rfl) (by decide) ?_
        refine pxU rfl (gOff 0 rfl rfl rfl (by decide)) (kA rfl) (by decide) ?_
        refine pxV (v := (.bool false)) (fun _ _ hF => opPickF rfl (hF.ev 0 rfl) rfl) rfl (fun _ _ => rfl) (kM [false] rfl rfl) (by decide) ?_
        refine pxV (v := (.bool false)) (fun _ _ hF => opAssign rfl (hF.ev 0 rfl)) rfl (fun _ _ => rfl) (kM [false] rfl rfl) (by decide) ?_
        refine pxEnd ?_
        refine qxThen ?_
        refine cxRet ?_
        refine qxRet1 0 rfl rfl ?_
        refine ⟨?_, hH.toBelow⟩
        unfold hdr
        rw [hnl]
        simp [hg19, hg20]
    · refine pxU rfl (gOff 0 rfl rfl rfl (by decide)) (kA rfl) (by decide) ?_
      refine pxU rfl (gOff 0 rfl rfl rfl (by decide)) (kA rfl) (by decide) ?_
      refine pxU rfl (gOff 0 rfl rfl rfl (by decide)) (kA rfl) (by decide) ?_
      refine pxU rfl (gOff 0 rfl rfl rfl (by decide)) (kA rfl) (by decide) ?_
      refine pxU rfl (gOff 0 rfl rfl rfl (by decide)) (kA rfl) (by decide) ?_
      refine pxV (v := (.bool false)) (fun _ _ hF => opPickF rfl (hF.ev 0 rfl) rfl) rfl (fun _ _ => rfl) (kM [false, true, true] rfl rfl) (by decide) ?_
      refine pxV (v := (.bool false)) (fun _ _ hF => opMove rfl (hF.ev 0 rfl)) rfl (fun _ _ => rfl) (kM [false, true, true] rfl rfl) (by decide) ?_
      refine pxU rfl (gOff 0 rfl rfl rfl (by decide)) (kM [true, true, false] rfl rfl) (by decide) ?_
      refine pxU rfl (gOff 0 rfl rfl rfl (by decide)) (kA rfl) (by decide) ?_
      refine pxU rfl (gOff 0 rfl rfl rfl (by decide)) (kM [true, false] rfl rfl) (by decide) ?_
      refine pxU rfl (gOff 0 rfl rfl rfl (by decide)) (kA rfl) (by decide) ?_
      refine pxU rfl (gOff 0 rfl rfl rfl (by decide)) (kA rfl) (by decide) ?_
      refine pxU rfl (gOff 0 rfl rfl rfl (by decide)) (kA rfl) (by decide) ?_
      refine pxV (v := (.bool false)) (fun _ _ hF => opPickF rfl (hF.ev 0 rfl) rfl) rfl (fun _ _ => rfl) (kM [false] rfl rfl) (by decide) ?_
      refine pxV (v := (.bool false)) (fun _ _ hF => opAssign rfl (hF.ev 0 rfl)) rfl (fun _ _ => rfl) (kM [false] rfl rfl) (by decide) ?_
      refine pxEnd ?_
      refine qxThen ?_
      refine cxRet ?_
      refine qxRet1 0 rfl rfl ?_
      refine ⟨?_, hH.toBelow⟩
      unfold hdr
      rw [hnl]
      simp [hg19]

set_option maxHeartbeats 8000000 in
theorem rlines_c (s : List UInt8) (hs : s.length ≤ 4294967280) : Does Tryd.prog 31 #[(.string (strL s))] [] (fun _ => True) (fun v E' => OwnT cTx 9 v (lns s) E') := by
  refine does_of (fn := Tryd.f31) Tryd.func31 rfl Tryd.ntmps31 (Nat.le_of_ble_eq_true rfl) rfl ?_
  intro w0 hH hR
  replace hH : HH w0 [] [] w0 := hH.only [false]
  refine cxSeq ?_
  refine cxReg ?_
  refine pxV (v := (.slice none 0 0)) (fun _ _ hF => opAssign rfl rfl) rfl (fun _ _ => rfl) (kA rfl) (by decide) ?_
  refine pxEnd ?_
  refine qxThen ?_
  refine cxSeq ?_
  refine cxReg ?_
  refine pxV (v := (.slice none 0 0)) (fun _ _ hF => opAssign rfl rfl) rfl (fun _ _ => rfl) (kM [false, true] rfl rfl) (by decide) ?_
  refine pxEnd ?_
  refine qxThen ?_
  refine cxSeq ?_
  refine cxReg ?_
  refine pxV (v := (.int .i64 0)) (fun _ _ hF => opAssign rfl rfl) rfl (fun _ _ => rfl) (kA rfl) (by decide) ?_
  refine pxEnd ?_
  refine qxThen ?_
  refine cxSeq ?_
  refine cxSeq ?_
  refine cxReg ?_
  refine pxV (v := (.string (strL s))) (fun _ _ hF => opMove rfl (hF.ev 2 rfl)) rfl (fun _ _ => rfl) (kA rfl) (by decide) ?_
  refine pxV (v := (.int .i64 (((s.length) : Nat) : Int))) (fun _ _ hF => opLenL (l := s) rfl (by kernel_rfl) (hF.ev 0 rfl)) rfl (fun _ _ => rfl) (kM [false, true, true, true] rfl rfl) (by decide) ?_
  refine pxV (v := (.int .i64 0)) (fun _ _ hF => opMove rfl rfl) rfl (fun _ _ => rfl) (kA rfl) (by decide) ?_
  refine pxEnd ?_
  refine qxThen ?_
  refine cxBlock ?_
  replace hH := HH.pad hH 1
  replace hH : HH w0 [] [[]] w0 := hH
  refine cxLoop (σ := Nat × Nat × (List (List UInt8)) × (Option Addr) × Nat × Hl) (fun x => [(8, (.int .i64 (((x.1) : Nat) : Int))), (7, (.int .i64 (((s.length) : Nat) : Int))), (4, (.int .i64 (((x.2.1) : Nat) : Int))), (3, (.slice x.2.2.2.1 x.2.2.1.length x.2.2.2.2.1)), (0, (.string (strL s)))]) (fun x w => HH w0 [] [x.2.2.2.2.2] w ∧ (x.1 ≤ s.length) ∧ (x.2.1 ≤ x.1) ∧ (x.2.2.1.length ≤ x.1) ∧ (x.2.2.1 ++ lnsA ((s.take x.1).drop x.2.1) (s.drop x.1) = lns s) ∧ (OwnT cTx 9 (.slice x.2.2.2.1 x.2.2.1.length x.2.2.2.2.1) x.2.2.1 x.2.2.2.2.2)) (fun x => s.length - x.1) (0, 0, [], none, 0, []) ⟨hH, Nat.zero_le _, Nat.le_refl _, Nat.le_refl _, (lns_start s), (OwnT.nil cTx 9)⟩ (slots_at [0, 1, 2, 3, 4] rfl) ?_
  clear hH
  rintro ⟨i, k, o, A1, c1, E⟩ w ⟨hH, hi, hk, hol, hinv, hO⟩
  change CX _ _ _ _ [(8, (.int .i64 (((i) : Nat) : Int))), (7, (.int .i64 (((s.length) : Nat) : Int))), (4, (.int .i64 (((k) : Nat) : Int))), (3, (.slice A1 o.length c1)), (0, (.string (strL s)))] _
  replace hH : HH w0 [] [E] w := hH
  replace hi : i ≤ s.length := hi
  replace hk : k ≤ i := hk
  replace hol : o.length ≤ i := hol
  replace hinv : o ++ lnsA ((s.take i).drop k) (s.drop i) = lns s := hinv
  replace hO : OwnT cTx 9 (.slice A1 o.length c1) o E := hO
  refine cxSeq ?_
  refine cxReg ?_
  refine pxV (v := (.bool (decide (i < s.length)))) (fun _ _ hF => opLss rfl (hF.ev 0 rfl) (hF.ev 1 rfl) (dc (by omega))) rfl (fun _ _ => rfl) (kA rfl) (by decide) ?_
  refine pxEnd ?_
  refine qxThen ?_
  refine cxSeq ?_
  refine cxP 0 rfl rfl (fun hc1 => ?_) (fun hc1 => ?_)
  · refine cxSkip ?_
    refine qxThen ?_
    refine cxSeq ?_
    refine cxBlock ?_
    refine cxSeq ?_
    refine cxReg ?_
    refine pxV (v := (.int .i64 (((i) : Nat) : Int))) (fun _ _ hF => opMove rfl (hF.ev 1 rfl)) rfl (fun _ _ => rfl) (kM [false, true, true, true, true, true] rfl rfl) (by decide) ?_
    refine pxV (v := (.int .i64 (((i) : Nat) : Int))) (fun _ _ hF => opAssign rfl (hF.ev 0 rfl)) rfl (fun _ _ => rfl) (kM [false, true, true, true, true, true] rfl rfl) (by decide) ?_
    refine pxEnd ?_
    refine qxThen ?_
    refine cxSeq ?_
    refine cxReg ?_
    refine pxV (v := (.string (strL s))) (fun _ _ hF => opMove rfl (hF.ev 5 rfl)) rfl (fun _ _ => rfl) (kA rfl) (by decide) ?_
    refine pxV (v := (.int .i64 (((i) : Nat) : Int))) (fun _ _ hF => opMove rfl (hF.ev 1 rfl)) rfl (fun _ _ => rfl) (kA rfl) (by decide) ?_
    obtain ⟨x2, hx3⟩ := get_at s i (by omega)
    have hb4 := UInt8.toNat_lt x2
    refine pxV (v := (.int .u8 (((x2.toNat) : Nat) : Int))) (fun _ _ hF => opIdxL (l := s) (i := i) (c := x2) rfl (by kernel_rfl) (hF.ev 1 rfl) (hF.ev 0 rfl) rfl hx3) rfl (fun _ _ => rfl) (kM [false, false, true, true, true, true, true, true] rfl rfl) (by decide) ?_
    refine pxV (v := (.bool (decide (x2.toNat = 10)))) (fun _ _ hF => opEqI rfl (hF.ev 0 rfl) rfl (dc (by omega))) rfl (fun _ _ => rfl) (kM [false, true, true, true, true, true, true] rfl rfl) (by decide) ?_
    refine pxEnd ?_
    refine qxThen ?_
    refine cxP 0 rfl rfl (fun hc5 => ?_) (fun hc5 => ?_)
    · refine cxSeq ?_
      refine cxReg ?_
      refine pxV (v := (.slice A1 o.length c1)) (fun _ _ hF => opMove rfl (hF.ev 5 rfl)) rfl (fun _ _ => rfl) (kM [false, true, true, true, true, false, true] rfl rfl) (by decide) ?_
      refine pxV (v := (.string (strL s))) (fun _ _ hF => opMove rfl (hF.ev 5 rfl)) rfl (fun _ _ => rfl) (kA rfl) (by decide) ?_
      refine pxV (v := (.int .i64 (((k) : Nat) : Int))) (fun _ _ hF => opMove rfl (hF.ev 5 rfl)) rfl (fun _ _ => rfl) (kM [true, true, true, true, true, false, true] rfl rfl) (by decide) ?_
      refine pxV (v := (.int .i64 (((i) : Nat) : Int))) (fun _ _ hF => opMove rfl (hF.ev 3 rfl)) rfl (fun _ _ => rfl) (kA rfl) (by decide) ?_
      refine pxV (v := (.string (strL ((s.take i).drop k)))) (fun _ _ hF => opSlcLH' (l := s) (k := k) (h := i) (r := ((s.take i).drop k)) rfl (by kernel_rfl) (hF.ev 2 rfl) (hF.ev 1 rfl) (hF.ev 0 rfl) rfl rfl (by omega) (by omega) (rfl)) rfl (fun _ _ => rfl) (kM [false, false, false, true, true, true, true, true] rfl rfl) (by decide) ?_
      refine pxM hH (fun _ hF => Does.small ((rbare_c ((s.take i).drop k) (by rw [List.length_drop, List.length_take]; omega)).does) (fun w => opCall rfl Tryd.func43 rfl rfl (Evs.cons (v := (.string (strL ((s.take i).drop k)))) (hF.ev 0 rfl) Evs.nil) w)) trivial rfl (fun _ _ => rfl) (kM [false, true, true, true, true, true] rfl rfl) (by decide) ?_
      clear hH
      rintro _ _ w ⟨rfl, rfl⟩ hH
      replace hH : HH w0 [] [E] w := hH.unpad
      refine pxM hH (fun _ hF => smLit1 (e := 9) (sz := 1) (z := (.string (strL ([])))) (by_ := 16) (cs := cTx.enc (bare ((s.take i).drop k))) rfl (by kernel_rfl) (by kernel_rfl) (hF.ev 0 rfl) (cTx.len (bare ((s.take i).drop k))) (ltb rfl) (leb rfl) rfl) trivial rfl (fun _ _ => rfl) (kM [false, true, true, true, true, true] rfl rfl) (by decide) ?_
      clear hH
      rintro _ _ w ⟨g6, rfl, rfl⟩ hH
      replace hH : HH w0 [] [E, [bl g6 9 (cTx.enc (bare ((s.take i).drop k)))]] w := hH
      refine pxE 0 hH rfl (fun _ hF => smAppT (C := cTx) (l := o) (m := [(bare ((s.take i).drop k))]) (e := 9) (z := (.string (strL ([])))) (by_ := 16) rfl (by kernel_rfl) (by kernel_rfl) rfl (ltb rfl) (hF.ev 1 rfl) hO (hF.ev 0 rfl) rfl (fun h => by cases h) (by unfold maxLen; omega) (by omega)) ((Bk.lit1 (C := cTx) (bare ((s.take i).drop k))).vu (n := 1) (hH.blk 1 rfl) rfl) rfl (fun _ _ => rfl) (kM [false, false, true, true, true, true] rfl rfl) (by decide) ?_
      clear hH
      rintro v9 E10 w ⟨hO11, _⟩ hH
      replace hH : HH w0 [] [E10, [bl g6 9 (cTx.enc (bare ((s.take i).drop k)))]] w := hH
      replace hO11 : OwnT cTx 9 v9 (o ++ [(bare ((s.take i).drop k))]) E10 := hO11
      obtain ⟨A7, c8, rfl⟩ := hO11.slice
      refine pxV (v := (.slice A7 ((o ++ [(bare ((s.take i).drop k))]).length) c8)) (fun _ _ hF => opAssign rfl (hF.ev 0 rfl)) rfl (fun _ _ => rfl) (kM [false, true, true, true, true] rfl rfl) (by decide) ?_
      refine pxEnd ?_
      refine qxThen ?_
      refine cxReg ?_
      refine pxV (v := (.int .i64 (((i) : Nat) : Int))) (fun _ _ hF => opMove rfl (hF.ev 1 rfl)) rfl (fun _ _ => rfl) (kM [true, false, true, true, true] rfl rfl) (by decide) ?_
      refine pxV (v := (.int .i64 (((i + 1) : Nat) : Int))) (fun _ _ hF => opAdd rfl (hF.ev 0 rfl) rfl (wI (by omega) (by omega) (by omega))) rfl (fun _ _ => rfl) (kM [false, true, true, true, true] rfl rfl) (by decide) ?_
      refine pxV (v := (.int .i64 (((i + 1) : Nat) : Int))) (fun _ _ hF => opAssign rfl (hF.ev 0 rfl)) rfl (fun _ _ => rfl) (kM [false, true, true, true, true] rfl rfl) (by decide) ?_
      refine pxEnd ?_
      refine qxInN ?_
      refine qxThen ?_
      refine cxReg ?_
      refine pxV (v := (.int .i64 (((i + 1) : Nat) : Int))) (fun _ _ hF => opAdd rfl (hF.ev 2 rfl) rfl (wI (by omega) (by omega) (by omega))) rfl (fun _ _ => rfl) (kM [true, true, false, true, true] rfl rfl) (by decide) ?_
      refine pxV (v := (.int .i64 (((i + 1) : Nat) : Int))) (fun _ _ hF => opMove rfl (hF.ev 0 rfl)) rfl (fun _ _ => rfl) (kM [false, true, true, true, true] rfl rfl) (by decide) ?_
      refine pxEnd ?_
      replace hH : HH w0 [] [E10] w := hH.only [true, false]
      exact qxRound ((i + 1), (i + 1), (o ++ [(bare ((s.take i).drop k))]), A7, c8, E10) ⟨hH, (show (i + 1) ≤ s.length from (by omega)), Nat.le_refl _, (show (o ++ [(bare ((s.take i).drop k))]).length ≤ (i + 1) from (by rw [List.length_append, List.length_singleton]; omega)), (nl_step hx3 hc5 hinv), hO11⟩ (by show s.length - (i + 1) < s.length - i; omega) (slots_at [0, 3, 1, 2, 4] rfl)
    · refine cxSkip ?_
      refine qxInN ?_
      refine qxThen ?_
      refine cxReg ?_
      refine pxV (v := (.int .i64 (((i + 1) : Nat) : Int))) (fun _ _ hF => opAdd rfl (hF.ev 2 rfl) rfl (wI (by omega) (by omega) (by omega))) rfl (fun _ _ => rfl) (kM [false, false, false, true, true, true, true] rfl rfl) (by decide) ?_
      refine pxV (v := (.int .i64 (((i + 1) : Nat) : Int))) (fun _ _ hF => opMove rfl (hF.ev 0 rfl)) rfl (fun _ _ => rfl) (kM [false, true, true, true, true] rfl rfl) (by decide) ?_
      refine pxEnd ?_
      exact qxRound ((i + 1), k, o, A1, c1, E) ⟨hH, (show (i + 1) ≤ s.length from (by omega)), (show k ≤ (i + 1) from (by omega)), (show o.length ≤ (i + 1) from (by omega)), (no_step hx3 hc5 hk hi hinv), hO⟩ (by show s.length - (i + 1) < s.length - i; omega) (slots_at [0, 1, 2, 3, 4] rfl)
  · refine cxExit ?_
    refine qxThenE ?_
    refine qxThenE ?_
    refine qxInE ?_
    refine qxThen ?_
    refine cxSeq ?_
    refine cxSeq ?_
    refine cxReg ?_
    refine pxV (v := (.int .i64 (((k) : Nat) : Int))) (fun _ _ hF => opMove rfl (hF.ev 3 rfl)) rfl (fun _ _ => rfl) (kM [false, false, false, true, true, true] rfl rfl) (by decide) ?_
    refine pxV (v := (.string (strL s))) (fun _ _ hF => opMove rfl (hF.ev 3 rfl)) rfl (fun _ _ => rfl) (kA rfl) (by decide) ?_
    refine pxV (v := (.int .i64 (((s.length) : Nat) : Int))) (fun _ _ hF => opLenL (l := s) rfl (by kernel_rfl) (hF.ev 0 rfl)) rfl (fun _ _ => rfl) (kM [false, true, true, true, true] rfl rfl) (by decide) ?_
    refine pxV (v := (.bool (decide (k < s.length)))) (fun _ _ hF => opLss rfl (hF.ev 1 rfl) (hF.ev 0 rfl) (dc (by omega))) rfl (fun _ _ => rfl) (kM [false, false, true, true, true] rfl rfl) (by decide) ?_
    refine pxEnd ?_
    refine qxThen ?_
    refine cxP 0 rfl rfl (fun hc12 => ?_) (fun hc12 => ?_)
    · refine cxReg ?_
      refine pxV (v := (.slice A1 o.length c1)) (fun _ _ hF => opMove rfl (hF.ev 2 rfl)) rfl (fun _ _ => rfl) (kM [false, true, false, true] rfl rfl) (by decide) ?_
      refine pxV (v := (.string (strL s))) (fun _ _ hF => opMove rfl (hF.ev 2 rfl)) rfl (fun _ _ => rfl) (kM [true, true, false] rfl rfl) (by decide) ?_
      refine pxV (v := (.int .i64 (((k) : Nat) : Int))) (fun _ _ hF => opMove rfl (hF.ev 2 rfl)) rfl (fun _ _ => rfl) (kM [true, true, false] rfl rfl) (by decide) ?_
      refine pxV (v := (.string (strL (s.drop k)))) (fun _ _ hF => opSlcLL (l := s) (k := k) (r := (s.drop k)) rfl (by kernel_rfl) (hF.ev 1 rfl) (hF.ev 0 rfl) rfl (by omega) (rfl)) rfl (fun _ _ => rfl) (kM [false, false, true] rfl rfl) (by decide) ?_
      refine pxM hH (fun _ hF => smLit1 (e := 9) (sz := 1) (z := (.string (strL ([])))) (by_ := 16) (cs := cTx.enc (s.drop k)) rfl (by kernel_rfl) (by kernel_rfl) (hF.ev 0 rfl) (cTx.len (s.drop k)) (ltb rfl) (leb rfl) rfl) trivial rfl (fun _ _ => rfl) (kM [false, true] rfl rfl) (by decide) ?_
      clear hH
      rintro _ _ w ⟨g13, rfl, rfl⟩ hH
      replace hH : HH w0 [] [E, [bl g13 9 (cTx.enc (s.drop k))]] w := hH
      refine pxE 0 hH rfl (fun _ hF => smAppT (C := cTx) (l := o) (m := [(s.drop k)]) (e := 9) (z := (.string (strL ([])))) (by_ := 16) rfl (by kernel_rfl) (by kernel_rfl) rfl (ltb rfl) (hF.ev 1 rfl) hO (hF.ev 0 rfl) rfl (fun h => by cases h) (by unfold maxLen; omega) (by omega)) ((Bk.lit1 (C := cTx) (s.drop k)).vu (n := 1) (hH.blk 1 rfl) rfl) rfl (fun _ _ => rfl) (kM [false, false] rfl rfl) (by decide) ?_
      clear hH
      rintro v16 E17 w ⟨hO18, _⟩ hH
      replace hH : HH w0 [] [E17, [bl g13 9 (cTx.enc (s.drop k))]] w := hH
      replace hO18 : OwnT cTx 9 v16 (o ++ [(s.drop k)]) E17 := hO18
      obtain ⟨A14, c15, rfl⟩ := hO18.slice
      refine pxV (v := (.slice A14 ((o ++ [(s.drop k)]).length) c15)) (fun _ _ hF => opAssign rfl (hF.ev 0 rfl)) rfl (fun _ _ => rfl) (kM [false] rfl rfl) (by decide) ?_
      refine pxEnd ?_
      refine qxThen ?_
      refine cxSeq ?_
      refine cxReg ?_
      refine pxV (v := (.slice A14 ((o ++ [(s.drop k)]).length) c15)) (fun _ _ hF => opMove rfl (hF.ev 0 rfl)) rfl (fun _ _ => rfl) (kM [false] rfl rfl) (by decide) ?_
      refine pxV (v := (.slice A14 ((o ++ [(s.drop k)]).length) c15)) (fun _ _ hF => opAssign rfl (hF.ev 0 rfl)) rfl (fun _ _ => rfl) (kM [false] rfl rfl) (by decide) ?_
      refine pxEnd ?_
      refine qxThen ?_
      refine cxRet ?_
      refine qxRet1 0 rfl rfl ?_
      have ei : i = s.length := by omega
      subst ei
      have hend := lns_end1 hinv hc12
      exact ⟨_, _, rfl, (hend ▸ hO18), hH.out1 [true, false] rfl⟩
    · refine cxSkip ?_
      refine qxThen ?_
      refine cxSeq ?_
      refine cxReg ?_
      refine pxV (v := (.slice A1 o.length c1)) (fun _ _ hF => opMove rfl (hF.ev 2 rfl)) rfl (fun _ _ => rfl) (kM [false, false, false, false] rfl rfl) (by decide) ?_
      refine pxV (v := (.slice A1 o.length c1)) (fun _ _ hF => opAssign rfl (hF.ev 0 rfl)) rfl (fun _ _ => rfl) (kM [false] rfl rfl) (by decide) ?_
      refine pxEnd ?_
      refine qxThen ?_
      refine cxRet ?_
      refine qxRet1 0 rfl rfl ?_
      have ei : i = s.length := by omega
      subst ei
      have hend := lns_end0 hinv hc12
      exact ⟨_, _, rfl, (hend ▸ hO), hH.out1 [true] rfl⟩

end Go.Proofs.YtadbpmcmdcnlfaaDoor
