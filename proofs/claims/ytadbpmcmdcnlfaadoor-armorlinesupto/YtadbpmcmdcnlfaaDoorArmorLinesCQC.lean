/- letters, of the laws of layer 12. The laws of layer 12: ArmorLines. -/
import Derived.Test.YtadbpmcmdcnlfaaDoorArmQB
namespace Go.Proofs.YtadbpmcmdcnlfaaDoor
open Go Go.RowKit
set_option maxRecDepth 100000

def letB (l : List UInt8) : Bool := l.all isLet && decide (l ≠ [])
theorem let_yes {x : UInt8} (h : (65 ≤ x.toNat ∧ x.toNat ≤ 90) ∨ (97 ≤ x.toNat ∧ x.toNat ≤ 122)) : isLet x = true := by
  simpa only [isLet, Bool.or_eq_true, Bool.and_eq_true, decide_eq_true_eq] using h
theorem let_no {x : UInt8} (h : ¬ ((65 ≤ x.toNat ∧ x.toNat ≤ 90) ∨ (97 ≤ x.toNat ∧ x.toNat ≤ 122))) : isLet x = false := by
  rw [Bool.eq_false_iff]
  intro e
  exact h (by simpa only [isLet, Bool.or_eq_true, Bool.and_eq_true, decide_eq_true_eq] using e)
theorem let_next {l : List UInt8} {i : Nat} {x : UInt8} (h : (l.take i).all isLet = true) (hx : l[i]? = some x) (hl : isLet x = true) : (l.take (i + 1)).all isLet = true := by
  rw [List.take_add_one, hx]
  simp [h, hl]
theorem let_bad {l : List UInt8} {i : Nat} {x : UInt8} (hx : l[i]? = some x) (hl : isLet x = false) : letB l = false := by
  have hm := List.mem_of_getElem? hx
  unfold letB
  rw [show l.all isLet = false from ?_]
  · rfl
  · rw [List.all_eq_false]; exact ⟨x, hm, by rw [hl]; decide⟩
theorem let_all {l : List UInt8} {i : Nat} (h : (l.take i).all isLet = true) (hi : ¬ i < l.length) : letB l = decide (l ≠ []) := by
  rw [List.take_of_length_le (by omega)] at h
  unfold letB
  rw [h, Bool.true_and]

set_option maxHeartbeats 8000000 in
theorem letters_c (l : List UInt8) (hl : l.length ≤ 9223372036854775800) : Pure Tryd.prog 12 #[(.string (strL l))] (fun _ => True) (.bool (letB l)) := by
  refine pure_of (fn := Tryd.f12) Tryd.func12 rfl Tryd.ntmps12 (Nat.le_of_ble_eq_true rfl) rfl ?_
  intro w0 hH hR
  refine cxSeq ?_
  refine cxReg ?_
  refine pxV (v := (.bool false)) (fun _ _ hF => opAssign rfl rfl) rfl (fun _ _ => rfl) (kA rfl) (by decide) ?_
  refine pxEnd ?_
  refine qxThen ?_
  refine cxSeq ?_
  refine cxSeq ?_
  refine cxReg ?_
  refine pxV (v := (.string (strL l))) (fun _ _ hF => opMove rfl (hF.ev 1 rfl)) rfl (fun _ _ => rfl) (kM [false, true] rfl rfl) (by decide) ?_
  refine pxV (v := (.int .i64 (((l.length) : Nat) : Int))) (fun _ _ hF => opLenL (l := l) rfl (by kernel_rfl) (hF.ev 0 rfl)) rfl (fun _ _ => rfl) (kM [false, true] rfl rfl) (by decide) ?_
  refine pxV (v := (.int .i64 0)) (fun _ _ hF => opMove rfl rfl) rfl (fun _ _ => rfl) (kA rfl) (by decide) ?_
  refine pxEnd ?_
  refine qxThen ?_
  refine cxBlock ?_
  refine cxLoop (σ := Nat) (fun x => [(6, (.int .i64 (((x) : Nat) : Int))), (5, (.int .i64 (((l.length) : Nat) : Int))), (0, (.string (strL l)))]) (fun x w => HH w0 [] [] w ∧ (x ≤ l.length) ∧ ((l.take x).all isLet = true)) (fun x => l.length - x) 0 ⟨hH, Nat.zero_le _, rfl⟩ (slots_at [0, 1, 2] rfl) ?_
  clear hH
  rintro i w ⟨hH, hi, hall⟩
  change CX _ _ _ _ [(6, (.int .i64 (((i) : Nat) : Int))), (5, (.int .i64 (((l.length) : Nat) : Int))), (0, (.string (strL l)))] _
  replace hH : HH w0 [] [] w := hH
  replace hi : i ≤ l.length := hi
  replace hall : (l.take i).all isLet = true := hall
  refine cxSeq ?_
  refine cxReg ?_
  refine pxV (v := (.bool (decide (i < l.length)))) (fun _ _ hF => opLss rfl (hF.ev 0 rfl) (hF.ev 1 rfl) (dc (by omega))) rfl (fun _ _ => rfl) (kA rfl) (by decide) ?_
  refine pxEnd ?_
  refine qxThen ?_
  refine cxSeq ?_
  refine cxP 0 rfl rfl (fun hc1 => ?_) (fun hc1 => ?_)
  · refine cxSkip ?_
    refine qxThen ?_
    refine cxSeq ?_
    refine cxBlock ?_
    refine cxSeq ?_
    refine cxReg ?_
    refine pxV (v := (.int .i64 (((i) : Nat) : Int))) (fun _ _ hF => opMove rfl (hF.ev 1 rfl)) rfl (fun _ _ => rfl) (kM [false, true, true, true] rfl rfl) (by decide) ?_
    refine pxV (v := (.int .i64 (((i) : Nat) : Int))) (fun _ _ hF => opAssign rfl (hF.ev 0 rfl)) rfl (fun _ _ => rfl) (kM [false, true, true, true] rfl rfl) (by decide) ?_
    refine pxEnd ?_
    refine qxThen ?_
    refine cxSeq ?_
    refine cxReg ?_
    refine pxV (v := (.string (strL l))) (fun _ _ hF => opMove rfl (hF.ev 3 rfl)) rfl (fun _ _ => rfl) (kA rfl) (by decide) ?_
    refine pxV (v := (.int .i64 (((i) : Nat) : Int))) (fun _ _ hF => opMove rfl (hF.ev 1 rfl)) rfl (fun _ _ => rfl) (kA rfl) (by decide) ?_
    obtain ⟨x2, hx3⟩ := get_at l i (by omega)
    have hb4 := UInt8.toNat_lt x2
    refine pxV (v := (.int .u8 (((x2.toNat) : Nat) : Int))) (fun _ _ hF => opIdxL (l := l) (i := i) (c := x2) rfl (by kernel_rfl) (hF.ev 1 rfl) (hF.ev 0 rfl) rfl hx3) rfl (fun _ _ => rfl) (kM [false, false, true, true, true, true] rfl rfl) (by decide) ?_
    refine pxV (v := (.bool (decide (x2.toNat < 65)))) (fun _ _ hF => opLss rfl (hF.ev 0 rfl) rfl (dc (by omega))) rfl (fun _ _ => rfl) (kM [false, true, true, true, true] rfl rfl) (by decide) ?_
    refine pxV (v := (.bool (decide (x2.toNat < 65)))) (fun _ _ hF => opMove rfl (hF.ev 0 rfl)) rfl (fun _ _ => rfl) (kM [false, true, true, true, true] rfl rfl) (by decide) ?_
    refine pxSplitP 0 rfl (l1 := [(13, (.bool true)), (3, (.int .i64 (((i) : Nat) : Int))), (6, (.int .i64 (((i) : Nat) : Int))), (5, (.int .i64 (((l.length) : Nat) : Int))), (0, (.string (strL l)))]) (l2 := [(13, (.bool false)), (3, (.int .i64 (((i) : Nat) : Int))), (6, (.int .i64 (((i) : Nat) : Int))), (5, (.int .i64 (((l.length) : Nat) : Int))), (0, (.string (strL l)))]) rfl rfl (fun hg5 => ?_) (fun hg5 => ?_)
    · refine pxU rfl (gOff 0 rfl rfl rfl (by decide)) (kA rfl) (by decide) ?_
      refine pxU rfl (gOff 0 rfl rfl rfl (by decide)) (kA rfl) (by decide) ?_
      refine pxU rfl (gOff 0 rfl rfl rfl (by decide)) (kA rfl) (by decide) ?_
      refine pxU rfl (gOff 0 rfl rfl rfl (by decide)) (kA rfl) (by decide) ?_
      refine pxV (v := (.bool true)) (fun _ _ hF => opPickT rfl (hF.ev 0 rfl) rfl) rfl (fun _ _ => rfl) (kM [false, true, true, true, true] rfl rfl) (by decide) ?_
      refine pxV (v := (.bool true)) (fun _ _ hF => opMove rfl (hF.ev 0 rfl)) rfl (fun _ _ => rfl) (kM [false, true, true, true, true] rfl rfl) (by decide) ?_
      refine pxV (v := (.string (strL l))) (fun _ _ hF => opMove rfl (hF.ev 4 rfl)) rfl (gOn 0 rfl rfl rfl (by decide)) (kA rfl) (by decide) ?_
      refine pxV (v := (.int .i64 (((i) : Nat) : Int))) (fun _ _ hF => opMove rfl (hF.ev 2 rfl)) rfl (gOn 1 rfl rfl rfl (by decide)) (kA rfl) (by decide) ?_
      refine pxV (v := (.int .u8 (((x2.toNat) : Nat) : Int))) (fun _ _ hF => opIdxL (l := l) (i := i) (c := x2) rfl (by kernel_rfl) (hF.ev 1 rfl) (hF.ev 0 rfl) rfl hx3) rfl (gOn 2 rfl rfl rfl (by decide)) (kM [false, false, true, true, true, true, true] rfl rfl) (by decide) ?_
      refine pxV (v := (.bool (decide (x2.toNat < 97)))) (fun _ _ hF => opLss rfl (hF.ev 0 rfl) rfl (dc (by omega))) rfl (gOn 1 rfl rfl rfl (by decide)) (kM [false, true, true, true, true, true] rfl rfl) (by decide) ?_
      refine pxV (v := (.bool (decide (x2.toNat < 97)))) (fun _ _ hF => opMove rfl (hF.ev 0 rfl)) rfl (gOn 1 rfl rfl rfl (by decide)) (kM [false, true, true, true, true, true] rfl rfl) (by decide) ?_
      refine pxSplitP 0 rfl (l1 := [(24, (.bool true)), (19, (.bool true)), (3, (.int .i64 (((i) : Nat) : Int))), (6, (.int .i64 (((i) : Nat) : Int))), (5, (.int .i64 (((l.length) : Nat) : Int))), (0, (.string (strL l)))]) (l2 := [(24, (.bool false)), (19, (.bool true)), (3, (.int .i64 (((i) : Nat) : Int))), (6, (.int .i64 (((i) : Nat) : Int))), (5, (.int .i64 (((l.length) : Nat) : Int))), (0, (.string (strL l)))]) rfl rfl (fun hg6 => ?_) (fun hg6 => ?_)
      · refine pxU rfl (gOff 0 rfl rfl rfl (by decide)) (kA rfl) (by decide) ?_
        refine pxU rfl (gOff 0 rfl rfl rfl (by decide)) (kM [true, true, false, true, true, true] rfl rfl) (by decide) ?_
        refine pxU rfl (gOff 0 rfl rfl rfl (by decide)) (kA rfl) (by decide) ?_
        refine pxU rfl (gOff 0 rfl rfl rfl (by decide)) (kA rfl) (by decide) ?_
        refine pxV (v := (.bool true)) (fun _ _ hF => opPickT rfl (hF.ev 0 rfl) rfl) rfl (gOn 1 rfl rfl rfl (by decide)) (kM [false, true, true, true, true] rfl rfl) (by decide) ?_
        refine pxV (v := (.bool true)) (fun _ _ hF => opPickT rfl (hF.ev 1 rfl) (hF.ev 0 rfl)) rfl (fun _ _ => rfl) (kM [false, false, true, true, true] rfl rfl) (by decide) ?_
        refine pxEnd ?_
        refine qxThen ?_
        refine cxT 0 rfl rfl ?_
        refine cxSeq ?_
        refine cxReg ?_
        refine pxV (v := (.bool false)) (fun _ _ hF => opAssign rfl rfl) rfl (fun _ _ => rfl) (kM [false, false, false, false] rfl rfl) (by decide) ?_
        refine pxEnd ?_
        refine qxThen ?_
        refine cxRet ?_
        refine qxInR ?_
        refine qxThenR ?_
        refine qxThenR ?_
        refine qxInR ?_
        refine qxThenR ?_
        refine qxRet1 0 rfl rfl ?_
        exact ⟨by rw [let_bad hx3 (let_no (by omega))], hH.toBelow⟩
      · refine pxV (v := (.string (strL l))) (fun _ _ hF => opMove rfl (hF.ev 5 rfl)) rfl (gOn 0 rfl rfl rfl (by decide)) (kA rfl) (by decide) ?_
        refine pxV (v := (.int .i64 (((i) : Nat) : Int))) (fun _ _ hF => opMove rfl (hF.ev 3 rfl)) rfl (gOn 1 rfl rfl rfl (by decide)) (kM [true, true, true, false, true, true, true] rfl rfl) (by decide) ?_
        refine pxV (v := (.int .u8 (((x2.toNat) : Nat) : Int))) (fun _ _ hF => opIdxL (l := l) (i := i) (c := x2) rfl (by kernel_rfl) (hF.ev 1 rfl) (hF.ev 0 rfl) rfl hx3) rfl (gOn 2 rfl rfl rfl (by decide)) (kM [false, false, true, true, true, true, true] rfl rfl) (by decide) ?_
        refine pxV (v := (.bool (decide (x2.toNat > 122)))) (fun _ _ hF => opGtr rfl (hF.ev 0 rfl) rfl (dc (by omega))) rfl (gOn 1 rfl rfl rfl (by decide)) (kM [false, true, true, true, true, true] rfl rfl) (by decide) ?_
        refine pxV (v := (.bool (decide (x2.toNat > 122)))) (fun _ _ hF => opPickF rfl (hF.ev 1 rfl) (hF.ev 0 rfl)) rfl (gOn 2 rfl rfl rfl (by decide)) (kM [false, false, true, true, true, true] rfl rfl) (by decide) ?_
        refine pxV (v := (.bool (decide (x2.toNat > 122)))) (fun _ _ hF => opPickT rfl (hF.ev 1 rfl) (hF.ev 0 rfl)) rfl (fun _ _ => rfl) (kM [false, false, true, true, true] rfl rfl) (by decide) ?_
        refine pxEnd ?_
        refine qxThen ?_
        refine cxP 0 rfl rfl (fun hc7 => ?_) (fun hc7 => ?_)
        · refine cxSeq ?_
          refine cxReg ?_
          refine pxV (v := (.bool false)) (fun _ _ hF => opAssign rfl rfl) rfl (fun _ _ => rfl) (kM [false, false, false, false] rfl rfl) (by decide) ?_
          refine pxEnd ?_
          refine qxThen ?_
          refine cxRet ?_
          refine qxInR ?_
          refine qxThenR ?_
          refine qxThenR ?_
          refine qxInR ?_
          refine qxThenR ?_
          refine qxRet1 0 rfl rfl ?_
          exact ⟨by rw [let_bad hx3 (let_no (by omega))], hH.toBelow⟩
        · refine cxSkip ?_
          refine qxInN ?_
          refine qxThen ?_
          refine cxReg ?_
          refine pxV (v := (.int .i64 (((i + 1) : Nat) : Int))) (fun _ _ hF => opAdd rfl (hF.ev 1 rfl) rfl (wI (by omega) (by omega) (by omega))) rfl (fun _ _ => rfl) (kM [false, false, true, true] rfl rfl) (by decide) ?_
          refine pxV (v := (.int .i64 (((i + 1) : Nat) : Int))) (fun _ _ hF => opMove rfl (hF.ev 0 rfl)) rfl (fun _ _ => rfl) (kM [false, true, true] rfl rfl) (by decide) ?_
          refine pxEnd ?_
          exact qxRound (i + 1) ⟨hH, (show (i + 1) ≤ l.length from (by omega)), (show (l.take (i + 1)).all isLet = true from (let_next hall hx3 (let_yes (by omega))))⟩ (by show l.length - (i + 1) < l.length - i; omega) (slots_at [0, 1, 2] rfl)
    · refine pxV (v := (.string (strL l))) (fun _ _ hF => opMove rfl (hF.ev 4 rfl)) rfl (gOn 0 rfl rfl rfl (by decide)) (kA rfl) (by decide) ?_
      refine pxV (v := (.int .i64 (((i) : Nat) : Int))) (fun _ _ hF => opMove rfl (hF.ev 2 rfl)) rfl (gOn 1 rfl rfl rfl (by decide)) (kA rfl) (by decide) ?_
      refine pxV (v := (.int .u8 (((x2.toNat) : Nat) : Int))) (fun _ _ hF => opIdxL (l := l) (i := i) (c := x2) rfl (by kernel_rfl) (hF.ev 1 rfl) (hF.ev 0 rfl) rfl hx3) rfl (gOn 2 rfl rfl rfl (by decide)) (kM [false, false, true, true, true, true, true] rfl rfl) (by decide) ?_
      refine pxV (v := (.bool (decide (x2.toNat > 90)))) (fun _ _ hF => opGtr rfl (hF.ev 0 rfl) rfl (dc (by omega))) rfl (gOn 1 rfl rfl rfl (by decide)) (kM [false, true, true, true, true, true] rfl rfl) (by decide) ?_
      refine pxV (v := (.bool (decide (x2.toNat > 90)))) (fun _ _ hF => opPickF rfl (hF.ev 1 rfl) (hF.ev 0 rfl)) rfl (fun _ _ => rfl) (kM [false, false, true, true, true, true] rfl rfl) (by decide) ?_
      refine pxV (v := (.bool (decide (x2.toNat > 90)))) (fun _ _ hF => opMove rfl (hF.ev 0 rfl)) rfl (fun _ _ => rfl) (kM [false, true, true, true, true] rfl rfl) (by decide) ?_
      refine pxSplitP 0 rfl (l1 := [(19, (.bool true)), (3, (.int .i64 (((i) : Nat) : Int))), (6, (.int .i64 (((i) : Nat) : Int))), (5, (.int .i64 (((l.length) : Nat) : Int))), (0, (.string (strL l)))]) (l2 := [(19, (.bool false)), (3, (.int .i64 (((i) : Nat) : Int))), (6, (.int .i64 (((i) : Nat) : Int))), (5, (.int .i64 (((l.length) : Nat) : Int))), (0, (.string (strL l)))]) rfl rfl (fun hg8 => ?_) (fun hg8 => ?_)
      · refine pxV (v := (.string (strL l))) (fun _ _ hF => opMove rfl (hF.ev 4 rfl)) rfl (gOn 0 rfl rfl rfl (by decide)) (kA rfl) (by decide) ?_
        refine pxV (v := (.int .i64 (((i) : Nat) : Int))) (fun _ _ hF => opMove rfl (hF.ev 2 rfl)) rfl (gOn 1 rfl rfl rfl (by decide)) (kA rfl) (by decide) ?_
        refine pxV (v := (.int .u8 (((x2.toNat) : Nat) : Int))) (fun _ _ hF => opIdxL (l := l) (i := i) (c := x2) rfl (by kernel_rfl) (hF.ev 1 rfl) (hF.ev 0 rfl) rfl hx3) rfl (gOn 2 rfl rfl rfl (by decide)) (kM [false, false, true, true, true, true, true] rfl rfl) (by decide) ?_
        refine pxV (v := (.bool (decide (x2.toNat < 97)))) (fun _ _ hF => opLss rfl (hF.ev 0 rfl) rfl (dc (by omega))) rfl (gOn 1 rfl rfl rfl (by decide)) (kM [false, true, true, true, true, true] rfl rfl) (by decide) ?_
        refine pxV (v := (.bool (decide (x2.toNat < 97)))) (fun _ _ hF => opMove rfl (hF.ev 0 rfl)) rfl (gOn 1 rfl rfl rfl (by decide)) (kM [false, true, true, true, true, true] rfl rfl) (by decide) ?_
        refine pxSplitP 0 rfl (l1 := [(24, (.bool true)), (19, (.bool true)), (3, (.int .i64 (((i) : Nat) : Int))), (6, (.int .i64 (((i) : Nat) : Int))), (5, (.int .i64 (((l.length) : Nat) : Int))), (0, (.string (strL l)))]) (l2 := [(24, (.bool false)), (19, (.bool true)), (3, (.int .i64 (((i) : Nat) : Int))), (6, (.int .i64 (((i) : Nat) : Int))), (5, (.int .i64 (((l.length) : Nat) : Int))), (0, (.string (strL l)))]) rfl rfl (fun hg9 => ?_) (fun hg9 => ?_)
        · refine pxU rfl (gOff 0 rfl rfl rfl (by decide)) (kA rfl) (by decide) ?_
          refine pxU rfl (gOff 0 rfl rfl rfl (by decide)) (kM [true, true, false, true, true, true] rfl rfl) (by decide) ?_
          refine pxU rfl (gOff 0 rfl rfl rfl (by decide)) (kA rfl) (by decide) ?_
          refine pxU rfl (gOff 0 rfl rfl rfl (by decide)) (kA rfl) (by decide) ?_
          refine pxV (v := (.bool true)) (fun _ _ hF => opPickT rfl (hF.ev 0 rfl) rfl) rfl (gOn 1 rfl rfl rfl (by decide)) (kM [false, true, true, true, true] rfl rfl) (by decide) ?_
          refine pxV (v := (.bool true)) (fun _ _ hF => opPickT rfl (hF.ev 1 rfl) (hF.ev 0 rfl)) rfl (fun _ _ => rfl) (kM [false, false, true, true, true] rfl rfl) (by decide) ?_
          refine pxEnd ?_
          refine qxThen ?_
          refine cxT 0 rfl rfl ?_
          refine cxSeq ?_
          refine cxReg ?_
          refine pxV (v := (.bool false)) (fun _ _ hF => opAssign rfl rfl) rfl (fun _ _ => rfl) (kM [false, false, false, false] rfl rfl) (by decide) ?_
          refine pxEnd ?_
          refine qxThen ?_
          refine cxRet ?_
          refine qxInR ?_
          refine qxThenR ?_
          refine qxThenR ?_
          refine qxInR ?_
          refine qxThenR ?_
          refine qxRet1 0 rfl rfl ?_
          exact ⟨by rw [let_bad hx3 (let_no (by omega))], hH.toBelow⟩
        · refine pxV (v := (.string (strL l))) (fun _ _ hF => opMove rfl (hF.ev 5 rfl)) rfl (gOn 0 rfl rfl rfl (by decide)) (kA rfl) (by decide) ?_
          refine pxV (v := (.int .i64 (((i) : Nat) : Int))) (fun _ _ hF => opMove rfl (hF.ev 3 rfl)) rfl (gOn 1 rfl rfl rfl (by decide)) (kM [true, true, true, false, true, true, true] rfl rfl) (by decide) ?_
          refine pxV (v := (.int .u8 (((x2.toNat) : Nat) : Int))) (fun _ _ hF => opIdxL (l := l) (i := i) (c := x2) rfl (by kernel_rfl) (hF.ev 1 rfl) (hF.ev 0 rfl) rfl hx3) rfl (gOn 2 rfl rfl rfl (by decide)) (kM [false, false, true, true, true, true, true] rfl rfl) (by decide) ?_
          refine pxV (v := (.bool (decide (x2.toNat > 122)))) (fun _ _ hF => opGtr rfl (hF.ev 0 rfl) rfl (dc (by omega))) rfl (gOn 1 rfl rfl rfl (by decide)) (kM [false, true, true, true, true, true] rfl rfl) (by decide) ?_
          refine pxV (v := (.bool (decide (x2.toNat > 122)))) (fun _ _ hF => opPickF rfl (hF.ev 1 rfl) (hF.ev 0 rfl)) rfl (gOn 2 rfl rfl rfl (by decide)) (kM [false, false, true, true, true, true] rfl rfl) (by decide) ?_
          refine pxV (v := (.bool (decide (x2.toNat > 122)))) (fun _ _ hF => opPickT rfl (hF.ev 1 rfl) (hF.ev 0 rfl)) rfl (fun _ _ => rfl) (kM [false, false, true, true, true] rfl rfl) (by decide) ?_
          refine pxEnd ?_
          refine qxThen ?_
          refine cxP 0 rfl rfl (fun hc10 => ?_) (fun hc10 => ?_)
          · refine cxSeq ?_
            refine cxReg ?_
            refine pxV (v := (.bool false)) (fun _ _ hF => opAssign rfl rfl) rfl (fun _ _ => rfl) (kM [false, false, false, false] rfl rfl) (by decide) ?_
            refine pxEnd ?_
            refine qxThen ?_
            refine cxRet ?_
            refine qxInR ?_
            refine qxThenR ?_
            refine qxThenR ?_
            refine qxInR ?_
            refine qxThenR ?_
            refine qxRet1 0 rfl rfl ?_
            exact ⟨by rw [let_bad hx3 (let_no (by omega))], hH.toBelow⟩
          · refine cxSkip ?_
            refine qxInN ?_
            refine qxThen ?_
            refine cxReg ?_
            refine pxV (v := (.int .i64 (((i + 1) : Nat) : Int))) (fun _ _ hF => opAdd rfl (hF.ev 1 rfl) rfl (wI (by omega) (by omega) (by omega))) rfl (fun _ _ => rfl) (kM [false, false, true, true] rfl rfl) (by decide) ?_
            refine pxV (v := (.int .i64 (((i + 1) : Nat) : Int))) (fun _ _ hF => opMove rfl (hF.ev 0 rfl)) rfl (fun _ _ => rfl) (kM [false, true, true] rfl rfl) (by decide) ?_
            refine pxEnd ?_
            exact qxRound (i + 1) ⟨hH, (show (i + 1) ≤ l.length from (by omega)), (show (l.take (i + 1)).all isLet = true from (let_next hall hx3 (let_yes (by omega))))⟩ (by show l.length - (i + 1) < l.length - i; omega) (slots_at [0, 1, 2] rfl)
      · refine pxU rfl (gOff 0 rfl rfl rfl (by decide)) (kA rfl) (by decide) ?_
        refine pxU rfl (gOff 0 rfl rfl rfl (by decide)) (kA rfl) (by decide) ?_
        refine pxU rfl (gOff 0 rfl rfl rfl (by decide)) (kA rfl) (by decide) ?_
        refine pxU rfl (gOff 0 rfl rfl rfl (by decide)) (kA rfl) (by decide) ?_
        refine pxUK rfl (gOff 0 rfl rfl rfl (by decide)) (kA rfl) (by decide) ?_
        refine pxU rfl (gOffU 0 rfl rfl rfl) (kA rfl) (by decide) ?_
        refine pxU rfl (gOffU 0 rfl rfl rfl) (kM [true, true, false, true, true, true] rfl rfl) (by decide) ?_
        refine pxU rfl (gOffU 0 rfl rfl rfl) (kA rfl) (by decide) ?_
        refine pxU rfl (gOffU 0 rfl rfl rfl) (kA rfl) (by decide) ?_
        refine pxU rfl (gOff 1 rfl rfl rfl (by decide)) (kM [false, true, true, true, true] rfl rfl) (by decide) ?_
        refine pxV (v := (.bool false)) (fun _ _ hF => opPickF rfl (hF.ev 0 rfl) rfl) rfl (fun _ _ => rfl) (kM [false, true, true, true] rfl rfl) (by decide) ?_
        refine pxEnd ?_
        refine qxThen ?_
        refine cxF 0 rfl rfl ?_
        refine cxSkip ?_
        refine qxInN ?_
        refine qxThen ?_
        refine cxReg ?_
        refine pxV (v := (.int .i64 (((i + 1) : Nat) : Int))) (fun _ _ hF => opAdd rfl (hF.ev 1 rfl) rfl (wI (by omega) (by omega) (by omega))) rfl (fun _ _ => rfl) (kM [false, false, true, true] rfl rfl) (by decide) ?_
        refine pxV (v := (.int .i64 (((i + 1) : Nat) : Int))) (fun _ _ hF => opMove rfl (hF.ev 0 rfl)) rfl (fun _ _ => rfl) (kM [false, true, true] rfl rfl) (by decide) ?_
        refine pxEnd ?_
        exact qxRound (i + 1) ⟨hH, (show (i + 1) ≤ l.length from (by omega)), (show (l.take (i + 1)).all isLet = true from (let_next hall hx3 (let_yes (by omega))))⟩ (by show l.length - (i + 1) < l.length - i; omega) (slots_at [0, 1, 2] rfl)
  · refine cxExit ?_
    refine qxThenE ?_
    refine qxThenE ?_
    refine qxInE ?_
    refine qxThen ?_
    refine cxSeq ?_
    refine cxReg ?_
    refine pxV (v := (.string (strL l))) (fun _ _ hF => opMove rfl (hF.ev 3 rfl)) rfl (fun _ _ => rfl) (kM [false, false, false, false] rfl rfl) (by decide) ?_
    refine pxV (v := (.bool (decide (l ≠ [])))) (fun _ _ hF => opNeL (l := l) (m := []) rfl (hF.ev 0 rfl) rfl Iff.rfl) rfl (fun _ _ => rfl) (kM [false] rfl rfl) (by decide) ?_
    refine pxV (v := (.bool (decide (l ≠ [])))) (fun _ _ hF => opAssign rfl (hF.ev 0 rfl)) rfl (fun _ _ => rfl) (kM [false] rfl rfl) (by decide) ?_
    refine pxEnd ?_
    refine qxThen ?_
    refine cxRet ?_
    refine qxRet1 0 rfl rfl ?_
    exact ⟨by rw [let_all hall (by omega)], hH.toBelow⟩

end Go.Proofs.YtadbpmcmdcnlfaaDoor

namespace Go.Proofs.YtadbpmcmdcnlfaaDoor
open Go Go.RowKit
set_option maxRecDepth 100000

def hdrL (x : List UInt8) : List UInt8 := x ++ [58, 32, 120]
theorem hdr_let {x : List UInt8} (h : letB x = true) : hdr (hdrL x) = true ∧ noEnd (hdrL x) := by
  unfold letB at h
  rw [Bool.and_eq_true, decide_eq_true_eq, List.all_eq_true] at h
  refine ⟨hdr_name h.2 h.1, fun hm => ?_, fun hm => ?_⟩
  · rcases List.mem_append.1 hm with hm | hm
    · have := h.1 _ hm; revert this; decide
    · revert hm; decide
  · rcases List.mem_append.1 hm with hm | hm
    · have := h.1 _ hm; revert this; decide
    · revert hm; decide
theorem name_next {ns : List (List UInt8)} {j : Nat} {x : List UInt8} (hx : ns[j]? = some x) (cr : Bool) (en hd s : List UInt8) (he : en = eol cr) (hs : s = hd ++ linesT cr ((ns.take j).map hdrL)) : s ++ x ++ [58, 32, 120] ++ en = hd ++ linesT cr ((ns.take (j + 1)).map hdrL) := by
  subst he
  rw [List.take_add_one, hx, hs, List.map_append, linesT_append]
  simp [linesT, hdrL]
theorem right_next {ns : List (List UInt8)} {j : Nat} {x : List UInt8} (hx : ns[j]? = some x) {r : Bool} (hr : r = (ns.take j).all letB) (v : Bool) (hv : v = (r && letB x)) : v = (ns.take (j + 1)).all letB := by
  rw [List.take_add_one, hx, List.all_append, ← hr, hv]
  simp
theorem cut_next (cr : Bool) (s hd o en : List UInt8) (w j : Nat) (he : en = eol cr) (ho : o = hd ++ linesT cr (cutM s w j)) : o ++ pieceW s w j ++ en = hd ++ linesT cr (cutM s w (j + 1)) := by
  subst he
  rw [ho, cut_snoc, linesT_append]
  simp [linesT]
theorem lns_foot (cr last : Bool) : lns (footK mesL ++ (if last then eol cr else [])) = [footK mesL] := by
  have h := (head_end (.inl rfl : isK mesL)).2
  cases last
  · rw [if_neg (by decide), List.append_nil]; exact lns_last h.1 (footK_ne _)
  · rw [if_pos rfl]
    have h1 := lns_eol (r := []) cr h.1 h.2
    rw [List.append_nil] at h1
    rw [h1]; rfl
theorem lines_arm {ns : List (List UInt8)} (hr : ns.all letB = true) (l : List UInt8) (cr sum last : Bool) {w q : Nat} (hw : w % 4 = 0) (h0 : 0 < w) (h76 : w ≤ 76) (hq : ∀ i, i < q → w * i < (b64 l).length) (hq2 : (b64 l).length ≤ w * q) (en t : List UInt8) (he : en = eol cr)
    (ht : t = headK mesL ++ en ++ linesT cr (ns.map hdrL) ++ en ++ linesT cr (cutM (b64 l) w q) ++ linesT cr (soL sum l) ++ footK mesL ++ (if last then en else [])) : accP (lns t) = some (mesL, l) := by
  rw [accP_iff]
  subst he
  have hK : isK mesL := .inl rfl
  have hall := List.all_eq_true.1 hr
  have hh : ∀ h ∈ ns.map hdrL, hdr h = true := fun h hm => by
    obtain ⟨x, hx, rfl⟩ := List.mem_map.1 hm
    exact (hdr_let (hall x hx)).1
  have e : t = linesT cr (headK mesL :: (ns.map hdrL ++ [] :: (cutM (b64 l) w q ++ soL sum l))) ++ (footK mesL ++ (if last then eol cr else [])) := by
    rw [ht, linesT_cons, linesT_append, linesT_cons, linesT_append]
    simp
  have hn : ∀ x ∈ headK mesL :: (ns.map hdrL ++ [] :: (cutM (b64 l) w q ++ soL sum l)), noEnd x := fun x hx => by
    simp only [List.mem_cons, List.mem_append] at hx
    rcases hx with rfl | hx | rfl | hx | hx
    · exact (head_end hK).1
    · obtain ⟨y, hy, rfl⟩ := List.mem_map.1 hx
      exact (hdr_let (hall y hy)).2
    · exact nil_end
    · exact cut_end (b64_end l) _ _ x hx
    · exact soL_end sum l x hx
  rw [e, lns_linesT cr _ _ hn, lns_foot]
  have h := arm_armL hK hh l hw h0 h76 hq hq2 sum
  unfold armL at h
  simpa using h
theorem dec_mes {L : List (List UInt8)} {l : List UInt8} (h : accP L = some (mesL, l)) (hl : ¬ l.length > 20000) : dK (accP L) = mesL ∧ dB (accP L) = l ∧ dE (accP L) = 0 := by
  rw [h]; exact ⟨if_neg hl, if_neg hl, if_neg hl⟩
theorem eol_len (cr : Bool) : (eol cr).length ≤ 2 := by cases cr <;> decide

set_option maxHeartbeats 8000000 in
theorem lines_l (l : List UInt8) (A : Option Addr) (c : Nat) (hl : l.length ≤ 140737488355328) (y : UInt8) (ns : List (List UInt8)) (An : Option Addr) (cn : Nat) (hsub : ∀ q ∈ ns, q.length ≤ 1048576) (sum cr last : Bool) : Pure Tryd.prog 5 #[(.slice A l.length c), (.int .u8 (((y.toNat) : Nat) : Int)), (.slice An ns.length cn), (.bool (sum)), (.bool (cr)), (.bool (last))] (fun w => Vu cByte w A l.length c l ∧ Vu cTx w An ns.length cn ns ∧ MaxL w) (.bool true) := by
  refine pure_of (fn := Tryd.f5) Tryd.func5 rfl Tryd.ntmps5 (Nat.le_of_ble_eq_true rfl) rfl ?_
  intro w0 hH hR
  obtain ⟨hR, hRn, hM⟩ := hR
  have hcl := hR.len
  have hcc := hR.cap
  have hnl := hRn.len
  have hnc := hRn.cap
  refine cxSeq ?_
  refine cxReg ?_
  refine pxV (v := (.bool false)) (fun _ _ hF => opAssign rfl rfl) rfl (fun _ _ => rfl) (kA rfl) (by decide) ?_
  refine pxEnd ?_
  refine qxThen ?_
  refine cxSeq ?_
  refine cxSeq ?_
  refine cxReg ?_
  refine pxM hH (fun _ hF => Does.small ((awake_c ).does) (fun w => opCall rfl Tryd.func7 rfl rfl Evs.nil w)) trivial rfl (fun _ _ => rfl) (kM [false, true, true, true, true, true, true] rfl rfl) (by decide) ?_
  clear hH
  rintro _ _ w ⟨rfl, rfl⟩ hH
  replace hH : HH w0 [] [] w := hH.unpad
  refine pxV (v := (.bool false)) (fun _ _ hF => opNot rfl (hF.ev 0 rfl) rfl) rfl (fun _ _ => rfl) (kM [false, true, true, true, true, true, true] rfl rfl) (by decide) ?_
  refine pxV (v := (.bool false)) (fun _ _ hF => opMove rfl (hF.ev 0 rfl)) rfl (fun _ _ => rfl) (kM [false, true, true, true, true, true, true] rfl rfl) (by decide) ?_
  refine pxV (v := (.slice A l.length c)) (fun _ _ hF => opMove rfl (hF.ev 1 rfl)) rfl (gOn 0 rfl rfl rfl (by decide)) (kA rfl) (by decide) ?_
  refine pxV (v := (.int .i64 (((l.length) : Nat) : Int))) (fun _ _ hF => opLen (e := 5) rfl (by kernel_rfl) (hF.ev 0 rfl)) rfl (gOn 1 rfl rfl rfl (by decide)) (kM [false, true, true, true, true, true, true, true] rfl rfl) (by decide) ?_
  refine pxV (v := (.bool (decide (l.length > 2000)))) (fun _ _ hF => opGtr rfl (hF.ev 0 rfl) rfl (dc (by omega))) rfl (gOn 1 rfl rfl rfl (by decide)) (kM [false, true, true, true, true, true, true, true] rfl rfl) (by decide) ?_
  refine pxV (v := (.bool (decide (l.length > 2000)))) (fun _ _ hF => opPickF rfl (hF.ev 1 rfl) (hF.ev 0 rfl)) rfl (fun _ _ => rfl) (kM [false, false, true, true, true, true, true, true] rfl rfl) (by decide) ?_
  refine pxV (v := (.bool (decide (l.length > 2000)))) (fun _ _ hF => opMove rfl (hF.ev 0 rfl)) rfl (fun _ _ => rfl) (kM [false, true, true, true, true, true, true] rfl rfl) (by decide) ?_
  refine pxSplitP 0 rfl (l1 := [(31, (.bool true)), (0, (.slice A l.length c)), (1, (.int .u8 (((y.toNat) : Nat) : Int))), (2, (.slice An ns.length cn)), (3, (.bool (sum))), (4, (.bool (cr))), (5, (.bool (last)))]) (l2 := [(31, (.bool false)), (0, (.slice A l.length c)), (1, (.int .u8 (((y.toNat) : Nat) : Int))), (2, (.slice An ns.length cn)), (3, (.bool (sum))), (4, (.bool (cr))), (5, (.bool (last)))]) rfl rfl (fun hg1 => ?_) (fun hg1 => ?_)
  · refine pxU rfl (gOff 0 rfl rfl rfl (by decide)) (kA rfl) (by decide) ?_
    refine pxU rfl (gOff 0 rfl rfl rfl (by decide)) (kA rfl) (by decide) ?_
    refine pxU rfl (gOff 0 rfl rfl rfl (by decide)) (kA rfl) (by decide) ?_
    refine pxV (v := (.bool true)) (fun _ _ hF => opPickT rfl (hF.ev 0 rfl) rfl) rfl (fun _ _ => rfl) (kM [false, true, true, true, true, true, true] rfl rfl) (by decide) ?_
    refine pxEnd ?_
    refine qxThen ?_
    refine cxT 0 rfl rfl ?_
    refine cxSeq ?_
    refine cxReg ?_
    refine pxM hH (fun _ hF => Does.small ((awake_c ).does) (fun w => opCall rfl Tryd.func7 rfl rfl Evs.nil w)) trivial rfl (fun _ _ => rfl) (kM [false, false, false, false, false, false, false] rfl rfl) (by decide) ?_
    clear hH
    rintro _ _ w ⟨rfl, rfl⟩ hH
    replace hH : HH w0 [] [] w := hH.unpad
    refine pxV (v := (.bool true)) (fun _ _ hF => opAssign rfl (hF.ev 0 rfl)) rfl (fun _ _ => rfl) (kM [false] rfl rfl) (by decide) ?_
    refine pxEnd ?_
    refine qxThen ?_
    refine cxRet ?_
    refine qxThenR ?_
    refine qxRet1 0 rfl rfl ?_
    exact ⟨rfl, hH.toBelow⟩
  · refine pxV (v := (.slice An ns.length cn)) (fun _ _ hF => opMove rfl (hF.ev 3 rfl)) rfl (gOn 0 rfl rfl rfl (by decide)) (kA rfl) (by decide) ?_
    refine pxV (v := (.int .i64 (((ns.length) : Nat) : Int))) (fun _ _ hF => opLen (e := 9) rfl (by kernel_rfl) (hF.ev 0 rfl)) rfl (gOn 1 rfl rfl rfl (by decide)) (kM [false, true, true, true, true, true, true, true] rfl rfl) (by decide) ?_
    refine pxV (v := (.bool (decide (ns.length > 10)))) (fun _ _ hF => opGtr rfl (hF.ev 0 rfl) rfl (dc (by omega))) rfl (gOn 1 rfl rfl rfl (by decide)) (kM [false, true, true, true, true, true, true, true] rfl rfl) (by decide) ?_
    refine pxV (v := (.bool (decide (ns.length > 10)))) (fun _ _ hF => opPickF rfl (hF.ev 1 rfl) (hF.ev 0 rfl)) rfl (fun _ _ => rfl) (kM [false, false, true, true, true, true, true, true] rfl rfl) (by decide) ?_
    refine pxEnd ?_
    refine qxThen ?_
    refine cxP 0 rfl rfl (fun hc2 => ?_) (fun hc2 => ?_)
    · refine cxSeq ?_
      refine cxReg ?_
      refine pxM hH (fun _ hF => Does.small ((awake_c ).does) (fun w => opCall rfl Tryd.func7 rfl rfl Evs.nil w)) trivial rfl (fun _ _ => rfl) (kM [false, false, false, false, false, false, false] rfl rfl) (by decide) ?_
      clear hH
      rintro _ _ w ⟨rfl, rfl⟩ hH
      replace hH : HH w0 [] [] w := hH.unpad
      refine pxV (v := (.bool true)) (fun _ _ hF => opAssign rfl (hF.ev 0 rfl)) rfl (fun _ _ => rfl) (kM [false] rfl rfl) (by decide) ?_
      refine pxEnd ?_
      refine qxThen ?_
      refine cxRet ?_
      refine qxThenR ?_
      refine qxRet1 0 rfl rfl ?_
      exact ⟨rfl, hH.toBelow⟩
    · refine cxSkip ?_
      refine qxThen ?_
      refine cxSeq ?_
      refine cxReg ?_
      refine pxV (v := (.string (strL ([10])))) (fun _ _ hF => opAssign rfl rfl) rfl (fun _ _ => rfl) (kM [false, true, true, true, true, true, true] rfl rfl) (by decide) ?_
      refine pxEnd ?_
      refine qxThen ?_
      refine cxJoin (σ := (List UInt8)) (fun x => [(13, (.string (strL x))), (5, (.bool (last))), (3, (.bool (sum))), (2, (.slice An ns.length cn)), (1, (.int .u8 (((y.toNat) : Nat) : Int))), (0, (.slice A l.length c))]) (fun x w => HH w0 [] [] w ∧ (x = eol cr)) ?_ ?_
      · refine cxSeq ?_
        refine cxReg ?_
        refine pxV (v := (.bool (cr))) (fun _ _ hF => opMove rfl (hF.ev 5 rfl)) rfl (fun _ _ => rfl) (kM [true, true, true, true, true, false, true] rfl rfl) (by decide) ?_
        refine pxEnd ?_
        refine qxThen ?_
        refine cxB 0 rfl rfl (fun hc3 => ?_) (fun hc3 => ?_)
        · refine cxReg ?_
          refine pxV (v := (.string (strL ([13, 10])))) (fun _ _ hF => opAssign rfl rfl) rfl (fun _ _ => rfl) (kM [false, false, true, true, true, true, true] rfl rfl) (by decide) ?_
          refine pxEnd ?_
          exact qxJoin ([13, 10]) ⟨hH, (by rw [hc3]; rfl)⟩ (slots_at [0, 5, 4, 3, 2, 1] rfl)
        · refine cxSkip ?_
          exact qxJoin ([10]) ⟨hH, (by rw [hc3]; rfl)⟩ (slots_at [1, 6, 5, 4, 3, 2] rfl)
      · clear hH
        rintro en w ⟨hH, hen⟩
        change CX _ _ _ _ [(13, (.string (strL en))), (5, (.bool (last))), (3, (.bool (sum))), (2, (.slice An ns.length cn)), (1, (.int .u8 (((y.toNat) : Nat) : Int))), (0, (.slice A l.length c))] _
        replace hH : HH w0 [] [] w := hH
        replace hen : en = eol cr := hen
        have hel : en.length ≤ 2 := by rw [hen]; exact eol_len cr
        refine cxSeq ?_
        refine cxReg ?_
        refine pxV (v := (.string (strL en))) (fun _ _ hF => opMove rfl (hF.ev 0 rfl)) rfl (fun _ _ => rfl) (kA rfl) (by decide) ?_
        refine pxV (v := (.string (strL (headK mesL ++ en)))) (fun _ _ hF => opAddL (l := (headK mesL)) (m := en) (r := (headK mesL ++ en)) rfl rfl (hF.ev 0 rfl) (by show 27 + en.length ≤ _; omega) (rfl)) rfl (fun _ _ => rfl) (kM [false, true, true, true, true, true, true] rfl rfl) (by decide) ?_
        refine pxV (v := (.string (strL (headK mesL ++ en)))) (fun _ _ hF => opAssign rfl (hF.ev 0 rfl)) rfl (fun _ _ => rfl) (kM [false, true, true, true, true, true, true] rfl rfl) (by decide) ?_
        refine pxEnd ?_
        refine qxThen ?_
        refine cxSeq ?_
        refine cxReg ?_
        refine pxV (v := (.bool true)) (fun _ _ hF => opAssign rfl rfl) rfl (fun _ _ => rfl) (kA rfl) (by decide) ?_
        refine pxEnd ?_
        refine qxThen ?_
        refine cxSeq ?_
        refine cxSeq ?_
        refine cxReg ?_
        refine pxV (v := (.slice An ns.length cn)) (fun _ _ hF => opMove rfl (hF.ev 5 rfl)) rfl (fun _ _ => rfl) (kA rfl) (by decide) ?_
        refine pxV (v := (.int .i64 (((ns.length) : Nat) : Int))) (fun _ _ hF => opLen (e := 9) rfl (by kernel_rfl) (hF.ev 0 rfl)) rfl (fun _ _ => rfl) (kM [false, true, true, true, true, true, true, true, true] rfl rfl) (by decide) ?_
        refine pxV (v := (.int .i64 0)) (fun _ _ hF => opMove rfl rfl) rfl (fun _ _ => rfl) (kA rfl) (by decide) ?_
        refine pxEnd ?_
        refine qxThen ?_
        refine cxBlock ?_
        refine cxLoop (σ := Nat × (List UInt8) × Bool) (fun x => [(42, (.int .i64 (((x.1) : Nat) : Int))), (41, (.int .i64 (((ns.length) : Nat) : Int))), (15, (.bool (x.2.2))), (14, (.string (strL x.2.1))), (13, (.string (strL en))), (5, (.bool (last))), (3, (.bool (sum))), (2, (.slice An ns.length cn)), (1, (.int .u8 (((y.toNat) : Nat) : Int))), (0, (.slice A l.length c))]) (fun x w => HH w0 [] [] w ∧ (x.1 ≤ ns.length) ∧ (x.2.1 = (headK mesL ++ en) ++ linesT cr ((ns.take x.1).map hdrL)) ∧ (x.2.2 = (ns.take x.1).all letB) ∧ (x.2.1.length ≤ 40 + x.1 * 1048600)) (fun x => ns.length - x.1) (0, (headK mesL ++ en), true) ⟨hH, Nat.zero_le _, (by simp [linesT]), rfl, (by show (headK mesL ++ en).length ≤ 40 + 0 * 1048600; rw [List.length_append]; have : (headK mesL).length = 27 := rfl; omega)⟩ (slots_at [0, 1, 2, 3, 4, 5, 6, 7, 8, 9] rfl) ?_
        clear hH
        rintro ⟨j, s, r⟩ w ⟨hH, hj, hs, hr, hsl⟩
        change CX _ _ _ _ [(42, (.int .i64 (((j) : Nat) : Int))), (41, (.int .i64 (((ns.length) : Nat) : Int))), (15, (.bool (r))), (14, (.string (strL s))), (13, (.string (strL en))), (5, (.bool (last))), (3, (.bool (sum))), (2, (.slice An ns.length cn)), (1, (.int .u8 (((y.toNat) : Nat) : Int))), (0, (.slice A l.length c))] _
        replace hH : HH w0 [] [] w := hH
        replace hj : j ≤ ns.length := hj
        replace hs : s = (headK mesL ++ en) ++ linesT cr ((ns.take j).map hdrL) := hs
        replace hr : r = (ns.take j).all letB := hr
        replace hsl : s.length ≤ 40 + j * 1048600 := hsl
        refine cxSeq ?_
        refine cxReg ?_
        refine pxV (v := (.bool (decide (j < ns.length)))) (fun _ _ hF => opLss rfl (hF.ev 0 rfl) (hF.ev 1 rfl) (dc (by omega))) rfl (fun _ _ => rfl) (kA rfl) (by decide) ?_
        refine pxEnd ?_
        refine qxThen ?_
        refine cxSeq ?_
        refine cxP 0 rfl rfl (fun hc4 => ?_) (fun hc4 => ?_)
        · refine cxSkip ?_
          refine qxThen ?_
          refine cxSeq ?_
          refine cxBlock ?_
          refine cxSeq ?_
          refine cxReg ?_
          refine pxV (v := (.int .i64 (((j) : Nat) : Int))) (fun _ _ hF => opMove rfl (hF.ev 1 rfl)) rfl (fun _ _ => rfl) (kM [false, true, true, true, true, true, true, true, true, true, true] rfl rfl) (by decide) ?_
          refine pxV (v := (.int .i64 (((j) : Nat) : Int))) (fun _ _ hF => opAssign rfl (hF.ev 0 rfl)) rfl (fun _ _ => rfl) (kM [false, true, true, true, true, true, true, true, true, true, true] rfl rfl) (by decide) ?_
          refine pxEnd ?_
          refine qxThen ?_
          refine cxSeq ?_
          refine cxReg ?_
          refine pxV (v := (.string (strL s))) (fun _ _ hF => opMove rfl (hF.ev 4 rfl)) rfl (fun _ _ => rfl) (kM [true, true, true, true, false, true, true, true, true, true, true] rfl rfl) (by decide) ?_
          refine pxV (v := (.slice An ns.length cn)) (fun _ _ hF => opMove rfl (hF.ev 8 rfl)) rfl (fun _ _ => rfl) (kA rfl) (by decide) ?_
          refine pxV (v := (.int .i64 (((j) : Nat) : Int))) (fun _ _ hF => opMove rfl (hF.ev 2 rfl)) rfl (fun _ _ => rfl) (kA rfl) (by decide) ?_
          have hi5 : j < ns.length := by omega
          obtain ⟨b6, off7, rfl, hL8, hb9, hR10⟩ := hRn.blk (by decide) (Off.nil _ _) (by omega)
          have := hRn.cap
          have hj13 : j < ns.length := by first | exact hi5 | (simp only [List.length_drop]; omega) | (simp only [List.length_drop, List.length_take]; omega) | omega
          obtain ⟨x11, hx12⟩ := get_at ns j hj13
          refine pxV (v := (.pointer (some ⟨b6, off7 + j * 1, none⟩))) (fun _ _ hF => opIndex (i := j) (e := 9) (sz := 1) rfl (by kernel_rfl) (by kernel_rfl) (hF.ev 1 rfl) (hF.ev 0 rfl) rfl hi5) rfl (fun _ _ => rfl) (kM [false, false, true, true, true, true, true, true, true, true, true, true, true] rfl rfl) (by decide) ?_
          refine pxS (v := (.string (strL x11))) (fun w => HoldsL cTx w b6 off7 ns) (hH.holdsL hL8 hb9 hR10) (fun _ _ hF hS => opLoadT (C := cTx) (y := x11) rfl (hF.ev 0 rfl) (by kernel_rfl) (hS j _ hx12) rfl) rfl (fun _ _ => rfl) (kM [false, true, true, true, true, true, true, true, true, true, true, true] rfl rfl) (by decide) ?_
          have hxl := hsub _ (List.mem_of_getElem? hx12)
          refine pxV (v := (.string (strL (s ++ x11)))) (fun _ _ hF => opAddL (l := s) (m := x11) (r := (s ++ x11)) rfl (hF.ev 1 rfl) (hF.ev 0 rfl) (by first | omega | (simp only [List.length_append]; omega) | (simp only [List.length_cons, List.length_nil]; omega) | (simp only [List.length_append, List.length_cons, List.length_nil]; omega)) (rfl)) rfl (fun _ _ => rfl) (kM [false, false, true, true, true, true, true, true, true, true, true, true] rfl rfl) (by decide) ?_
          refine pxV (v := (.string (strL ((s ++ x11) ++ [58, 32, 120])))) (fun _ _ hF => opAddL (l := (s ++ x11)) (m := [58, 32, 120]) (r := ((s ++ x11) ++ [58, 32, 120])) rfl (hF.ev 0 rfl) rfl (by first | omega | (simp only [List.length_append]; omega) | (simp only [List.length_cons, List.length_nil]; omega) | (simp only [List.length_append, List.length_cons, List.length_nil]; omega)) (rfl)) rfl (fun _ _ => rfl) (kM [false, true, true, true, true, true, true, true, true, true, true] rfl rfl) (by decide) ?_
          refine pxV (v := (.string (strL en))) (fun _ _ hF => opMove rfl (hF.ev 5 rfl)) rfl (fun _ _ => rfl) (kA rfl) (by decide) ?_
          refine pxV (v := (.string (strL (((s ++ x11) ++ [58, 32, 120]) ++ en)))) (fun _ _ hF => opAddL (l := ((s ++ x11) ++ [58, 32, 120])) (m := en) (r := (((s ++ x11) ++ [58, 32, 120]) ++ en)) rfl (hF.ev 1 rfl) (hF.ev 0 rfl) (by first | omega | (simp only [List.length_append]; omega) | (simp only [List.length_cons, List.length_nil]; omega) | (simp only [List.length_append, List.length_cons, List.length_nil]; omega)) (rfl)) rfl (fun _ _ => rfl) (kM [false, false, true, true, true, true, true, true, true, true, true, true] rfl rfl) (by decide) ?_
          refine pxV (v := (.string (strL (((s ++ x11) ++ [58, 32, 120]) ++ en)))) (fun _ _ hF => opAssign rfl (hF.ev 0 rfl)) rfl (fun _ _ => rfl) (kM [false, true, true, true, true, true, true, true, true, true, true] rfl rfl) (by decide) ?_
          refine pxEnd ?_
          refine qxThen ?_
          refine cxReg ?_
          refine pxV (v := (.bool (r))) (fun _ _ hF => opMove rfl (hF.ev 4 rfl)) rfl (fun _ _ => rfl) (kM [true, true, true, true, false, true, true, true, true, true, true] rfl rfl) (by decide) ?_
          refine pxV (v := (.bool (r))) (fun _ _ hF => opMove rfl (hF.ev 0 rfl)) rfl (fun _ _ => rfl) (kM [false, true, true, true, true, true, true, true, true, true, true] rfl rfl) (by decide) ?_
          refine pxSplitB 0 rfl (l1 := [(55, (.bool true)), (14, (.string (strL (((s ++ x11) ++ [58, 32, 120]) ++ en)))), (16, (.int .i64 (((j) : Nat) : Int))), (42, (.int .i64 (((j) : Nat) : Int))), (41, (.int .i64 (((ns.length) : Nat) : Int))), (13, (.string (strL en))), (5, (.bool (last))), (3, (.bool (sum))), (2, (.slice (some ⟨b6, off7, none⟩) ns.length cn)), (1, (.int .u8 (((y.toNat) : Nat) : Int))), (0, (.slice A l.length c))]) (l2 := [(55, (.bool false)), (14, (.string (strL (((s ++ x11) ++ [58, 32, 120]) ++ en)))), (16, (.int .i64 (((j) : Nat) : Int))), (42, (.int .i64 (((j) : Nat) : Int))), (41, (.int .i64 (((ns.length) : Nat) : Int))), (13, (.string (strL en))), (5, (.bool (last))), (3, (.bool (sum))), (2, (.slice (some ⟨b6, off7, none⟩) ns.length cn)), (1, (.int .u8 (((y.toNat) : Nat) : Int))), (0, (.slice A l.length c))]) rfl rfl (fun hg14 => ?_) (fun hg14 => ?_)
          · refine pxV (v := (.slice (some ⟨b6, off7, none⟩) ns.length cn)) (fun _ _ hF => opMove rfl (hF.ev 8 rfl)) rfl (gOn 0 rfl rfl rfl (by decide)) (kA rfl) (by decide) ?_
            refine pxV (v := (.int .i64 (((j) : Nat) : Int))) (fun _ _ hF => opMove rfl (hF.ev 3 rfl)) rfl (gOn 1 rfl rfl rfl (by decide)) (kM [true, true, true, false, true, true, true, true, true, true, true, true] rfl rfl) (by decide) ?_
            have hi15 : j < ns.length := by omega
            have hj18 : j < ns.length := by first | exact hi15 | (simp only [List.length_drop]; omega) | (simp only [List.length_drop, List.length_take]; omega) | omega
            refine pxV (v := (.pointer (some ⟨b6, off7 + j * 1, none⟩))) (fun _ _ hF => opIndex (i := j) (e := 9) (sz := 1) rfl (by kernel_rfl) (by kernel_rfl) (hF.ev 1 rfl) (hF.ev 0 rfl) rfl hi15) rfl (gOn 2 rfl rfl rfl (by decide)) (kM [false, false, true, true, true, true, true, true, true, true, true, true] rfl rfl) (by decide) ?_
            refine pxS (v := (.string (strL x11))) (fun w => HoldsL cTx w b6 off7 ns) (hH.holdsL hL8 hb9 hR10) (fun _ _ hF hS => opLoadT (C := cTx) (y := x11) rfl (hF.ev 0 rfl) (by kernel_rfl) (hS j _ hx12) rfl) rfl (gOn 1 rfl rfl rfl (by decide)) (kM [false, true, true, true, true, true, true, true, true, true, true] rfl rfl) (by decide) ?_
            refine pxM hH (fun _ hF => Does.small ((letters_c x11 (by have := hsub _ (List.mem_of_getElem? hx12); omega)).does) (fun w => opCall rfl Tryd.func12 rfl rfl (Evs.cons (v := (.string (strL x11))) (hF.ev 0 rfl) Evs.nil) w)) trivial rfl (gOn 1 rfl rfl rfl (by decide)) (kM [false, true, true, true, true, true, true, true, true, true, true] rfl rfl) (by decide) ?_
            clear hH
            rintro _ _ w ⟨rfl, rfl⟩ hH
            replace hH : HH w0 [] [] w := hH.unpad
            refine pxV (v := (.bool ((letB x11)))) (fun _ _ hF => opPickT rfl (hF.ev 1 rfl) (hF.ev 0 rfl)) rfl (fun _ _ => rfl) (kM [false, false, true, true, true, true, true, true, true, true, true] rfl rfl) (by decide) ?_
            refine pxV (v := (.bool ((letB x11)))) (fun _ _ hF => opAssign rfl (hF.ev 0 rfl)) rfl (fun _ _ => rfl) (kM [false, true, true, true, true, true, true, true, true, true] rfl rfl) (by decide) ?_
            refine pxEnd ?_
            refine qxInN ?_
            refine qxThen ?_
            refine cxReg ?_
            refine pxV (v := (.int .i64 (((j + 1) : Nat) : Int))) (fun _ _ hF => opAdd rfl (hF.ev 2 rfl) rfl (wI (by omega) (by omega) (by omega))) rfl (fun _ _ => rfl) (kM [true, true, false, true, true, true, true, true, true, true] rfl rfl) (by decide) ?_
            refine pxV (v := (.int .i64 (((j + 1) : Nat) : Int))) (fun _ _ hF => opMove rfl (hF.ev 0 rfl)) rfl (fun _ _ => rfl) (kM [false, true, true, true, true, true, true, true, true, true] rfl rfl) (by decide) ?_
            refine pxEnd ?_
            exact qxRound ((j + 1), (((s ++ x11) ++ [58, 32, 120]) ++ en), (letB x11)) ⟨hH, (show (j + 1) ≤ ns.length from (by omega)), (name_next hx12 cr en _ s hen hs), (right_next hx12 hr _ (by rw [hg14]; rfl)), (show (((s ++ x11) ++ [58, 32, 120]) ++ en).length ≤ 40 + (j + 1) * 1048600 from (by have := hsub _ (List.mem_of_getElem? hx12); simp only [List.length_append, List.length_cons, List.length_nil]; omega))⟩ (by show ns.length - (j + 1) < ns.length - j; omega) (slots_at [0, 3, 1, 2, 4, 5, 6, 7, 8, 9] rfl)
          · refine pxU rfl (gOff 0 rfl rfl rfl (by decide)) (kA rfl) (by decide) ?_
            refine pxU rfl (gOff 0 rfl rfl rfl (by decide)) (kM [true, true, false, true, true, true, true, true, true, true, true] rfl rfl) (by decide) ?_
            refine pxU rfl (gOff 0 rfl rfl rfl (by decide)) (kA rfl) (by decide) ?_
            refine pxU rfl (gOff 0 rfl rfl rfl (by decide)) (kA rfl) (by decide) ?_
            refine pxU rfl (gOff 0 rfl rfl rfl (by decide)) (kA rfl) (by decide) ?_
            refine pxV (v := (.bool false)) (fun _ _ hF => opPickF rfl (hF.ev 0 rfl) rfl) rfl (fun _ _ => rfl) (kM [false, true, true, true, true, true, true, true, true, true] rfl rfl) (by decide) ?_
            refine pxV (v := (.bool false)) (fun _ _ hF => opAssign rfl (hF.ev 0 rfl)) rfl (fun _ _ => rfl) (kM [false, true, true, true, true, true, true, true, true, true] rfl rfl) (by decide) ?_
            refine pxEnd ?_
            refine qxInN ?_
            refine qxThen ?_
            refine cxReg ?_
            refine pxV (v := (.int .i64 (((j + 1) : Nat) : Int))) (fun _ _ hF => opAdd rfl (hF.ev 2 rfl) rfl (wI (by omega) (by omega) (by omega))) rfl (fun _ _ => rfl) (kM [true, true, false, true, true, true, true, true, true, true] rfl rfl) (by decide) ?_
            refine pxV (v := (.int .i64 (((j + 1) : Nat) : Int))) (fun _ _ hF => opMove rfl (hF.ev 0 rfl)) rfl (fun _ _ => rfl) (kM [false, true, true, true, true, true, true, true, true, true] rfl rfl) (by decide) ?_
            refine pxEnd ?_
            exact qxRound ((j + 1), (((s ++ x11) ++ [58, 32, 120]) ++ en), false) ⟨hH, (show (j + 1) ≤ ns.length from (by omega)), (name_next hx12 cr en _ s hen hs), (right_next hx12 hr _ (by rw [hg14]; rfl)), (show (((s ++ x11) ++ [58, 32, 120]) ++ en).length ≤ 40 + (j + 1) * 1048600 from (by have := hsub _ (List.mem_of_getElem? hx12); simp only [List.length_append, List.length_cons, List.length_nil]; omega))⟩ (by show ns.length - (j + 1) < ns.length - j; omega) (slots_at [0, 3, 1, 2, 4, 5, 6, 7, 8, 9] rfl)
        · refine cxExit ?_
          refine qxThenE ?_
          refine qxThenE ?_
          refine qxInE ?_
          refine qxThen ?_
          refine cxSeq ?_
          have ej : j = ns.length := by omega
          subst ej
          rw [List.take_length] at hs hr
          have hbl := b64_len l
          refine cxReg ?_
          refine pxV (v := (.string (strL s))) (fun _ _ hF => opMove rfl (hF.ev 4 rfl)) rfl (fun _ _ => rfl) (kM [false, false, false, true, false, true, true, true, false, true, true] rfl rfl) (by decide) ?_
          refine pxV (v := (.string (strL en))) (fun _ _ hF => opMove rfl (hF.ev 2 rfl)) rfl (fun _ _ => rfl) (kA rfl) (by decide) ?_
          refine pxV (v := (.string (strL (s ++ en)))) (fun _ _ hF => opAddL (l := s) (m := en) (r := (s ++ en)) rfl (hF.ev 1 rfl) (hF.ev 0 rfl) (by first | omega | (simp only [List.length_append]; omega) | (simp only [List.length_cons, List.length_nil]; omega) | (simp only [List.length_append, List.length_cons, List.length_nil]; omega)) (rfl)) rfl (fun _ _ => rfl) (kM [false, false, true, true, true, true, true, true] rfl rfl) (by decide) ?_
          refine pxV (v := (.string (strL (s ++ en)))) (fun _ _ hF => opAssign rfl (hF.ev 0 rfl)) rfl (fun _ _ => rfl) (kM [false, true, true, true, true, true, true] rfl rfl) (by decide) ?_
          refine pxEnd ?_
          refine qxThen ?_
          refine cxSeq ?_
          refine cxReg ?_
          refine pxV (v := (.slice A l.length c)) (fun _ _ hF => opMove rfl (hF.ev 6 rfl)) rfl (fun _ _ => rfl) (kA rfl) (by decide) ?_
          refine pxM hH (fun _ hF => Does.small ((rbase64_c l A c (by omega)).does) (fun w => opCall rfl Tryd.func13 rfl rfl (Evs.cons (v := (.slice A l.length c)) (hF.ev 0 rfl) Evs.nil) w)) (hH.vu hR (by decide) (Off.nil _ _)) rfl (fun _ _ => rfl) (kM [false, true, true, true, true, true, true, true] rfl rfl) (by decide) ?_
          clear hH
          rintro _ _ w ⟨rfl, rfl⟩ hH
          replace hH : HH w0 [] [] w := hH.unpad
          refine pxV (v := (.string (strL (b64 l)))) (fun _ _ hF => opAssign rfl (hF.ev 0 rfl)) rfl (fun _ _ => rfl) (kM [false, true, true, true, true, true, true, true] rfl rfl) (by decide) ?_
          refine pxEnd ?_
          refine qxThen ?_
          refine cxSeq ?_
          refine cxReg ?_
          refine pxV (v := (.int .u8 (((y.toNat) : Nat) : Int))) (fun _ _ hF => opMove rfl (hF.ev 6 rfl)) rfl (fun _ _ => rfl) (kM [true, true, true, true, true, true, false, true] rfl rfl) (by decide) ?_
          refine pxV (v := (.int .u8 (((y.toNat % 19) : Nat) : Int))) (fun _ _ hF => opRem (z := ((y.toNat % 19 : Nat) : Int)) rfl (hF.ev 0 rfl) rfl (by omega) remN) rfl (fun _ _ => rfl) (kM [false, true, true, true, true, true, true, true] rfl rfl) (by decide) ?_
          refine pxV (v := (.int .i64 (((y.toNat % 19) : Nat) : Int))) (fun _ _ hF => opConvI (k' := .i64) rfl (by kernel_rfl) (by kernel_rfl) (hF.ev 0 rfl) (wI rfl (by omega) (by omega))) rfl (fun _ _ => rfl) (kM [false, true, true, true, true, true, true, true] rfl rfl) (by decide) ?_
          refine pxV (v := (.int .i64 (((1 + (y.toNat % 19)) : Nat) : Int))) (fun _ _ hF => opAdd rfl rfl (hF.ev 0 rfl) (wI (by omega) (by omega) (by omega))) rfl (fun _ _ => rfl) (kM [false, true, true, true, true, true, true, true] rfl rfl) (by decide) ?_
          refine pxV (v := (.int .i64 (((4 * (1 + (y.toNat % 19))) : Nat) : Int))) (fun _ _ hF => opMul rfl rfl (hF.ev 0 rfl) (wI (by omega) (by omega) (by omega))) rfl (fun _ _ => rfl) (kM [false, true, true, true, true, true, true, true] rfl rfl) (by decide) ?_
          refine pxV (v := (.int .i64 (((4 * (1 + (y.toNat % 19))) : Nat) : Int))) (fun _ _ hF => opAssign rfl (hF.ev 0 rfl)) rfl (fun _ _ => rfl) (kM [false, true, true, true, true, true, true, true] rfl rfl) (by decide) ?_
          refine pxEnd ?_
          refine qxThen ?_
          refine cxSeq ?_
          refine cxSeq ?_
          obtain ⟨W, hW⟩ : ∃ W, 4 * (1 + y.toNat % 19) = W := ⟨_, rfl⟩
          rw [hW]
          have hw4 : W % 4 = 0 := by omega
          have hw0 : 0 < W := by omega
          have hw76 : W ≤ 76 := by omega
          obtain ⟨hd, hhd⟩ : ∃ hd, s ++ en = hd := ⟨_, rfl⟩
          rw [hhd]
          have hdl : hd.length ≤ 10500000 := by rw [← hhd, List.length_append]; omega
          refine cxReg ?_
          refine pxV (v := (.int .i64 0)) (fun _ _ hF => opAssign rfl rfl) rfl (fun _ _ => rfl) (kA rfl) (by decide) ?_
          refine pxEnd ?_
          refine qxThen ?_
          refine cxBlock ?_
          refine cxLoop (σ := Nat × (List UInt8)) (fun x => [(19, (.int .i64 ((((W * x.1)) : Nat) : Int))), (18, (.int .i64 (((W) : Nat) : Int))), (17, (.string (strL (b64 l)))), (15, (.bool (r))), (14, (.string (strL x.2))), (13, (.string (strL en))), (5, (.bool (last))), (3, (.bool (sum))), (0, (.slice A l.length c))]) (fun x w => HH w0 [] [] w ∧ (∀ i, i < x.1 → W * i < (b64 l).length) ∧ (x.2 = hd ++ linesT cr (cutM (b64 l) W x.1)) ∧ (x.2.length ≤ 10500000 + 80 * x.1)) (fun x => (b64 l).length - W * x.1) (0, hd) ⟨hH, (fun i hi => by omega), (by simp [cutM, linesT]), (by show hd.length ≤ 10500000 + 80 * 0; omega)⟩ (slots_at [0, 1, 2, 4, 3, 5, 6, 7, 8] rfl) ?_
          clear hH
          rintro ⟨q, o⟩ w ⟨hH, hq, ho, hol⟩
          change CX _ _ _ _ [(19, (.int .i64 ((((W * q)) : Nat) : Int))), (18, (.int .i64 (((W) : Nat) : Int))), (17, (.string (strL (b64 l)))), (15, (.bool (r))), (14, (.string (strL o))), (13, (.string (strL en))), (5, (.bool (last))), (3, (.bool (sum))), (0, (.slice A l.length c))] _
          replace hH : HH w0 [] [] w := hH
          replace hq : ∀ i, i < q → W * i < (b64 l).length := hq
          replace ho : o = hd ++ linesT cr (cutM (b64 l) W q) := ho
          replace hol : o.length ≤ 10500000 + 80 * q := hol
          have hqW : q ≤ W * q := Nat.le_mul_of_pos_left q hw0
          have hms : W * (q + 1) = W * q + W := Nat.mul_succ W q
          have hqb : W * q ≤ (b64 l).length + 76 := (Nat.eq_zero_or_pos q).elim (fun h => by subst h; omega) (fun h => by have h1 := hq (q - 1) (by omega); have h2 := Nat.mul_succ W (q - 1); rw [show (q - 1).succ = q by omega] at h2; omega)
          refine cxSeq ?_
          refine cxSeq ?_
          refine cxReg ?_
          refine pxV (v := (.int .i64 ((((W * q)) : Nat) : Int))) (fun _ _ hF => opMove rfl (hF.ev 0 rfl)) rfl (fun _ _ => rfl) (kA rfl) (by decide) ?_
          refine pxV (v := (.string (strL (b64 l)))) (fun _ _ hF => opMove rfl (hF.ev 3 rfl)) rfl (fun _ _ => rfl) (kA rfl) (by decide) ?_
          refine pxV (v := (.int .i64 ((((b64 l).length) : Nat) : Int))) (fun _ _ hF => opLenL (l := (b64 l)) rfl (by kernel_rfl) (hF.ev 0 rfl)) rfl (fun _ _ => rfl) (kM [false, true, true, true, true, true, true, true, true, true, true] rfl rfl) (by decide) ?_
          refine pxV (v := (.bool (decide ((W * q) < (b64 l).length)))) (fun _ _ hF => opLss rfl (hF.ev 1 rfl) (hF.ev 0 rfl) (dc (by omega))) rfl (fun _ _ => rfl) (kM [false, false, true, true, true, true, true, true, true, true, true] rfl rfl) (by decide) ?_
          refine pxEnd ?_
          refine qxThen ?_
          refine cxP 0 rfl rfl (fun hc19 => ?_) (fun hc19 => ?_)
          · refine cxSkip ?_
            refine qxThen ?_
            refine cxSeq ?_
            refine cxBlock ?_
            refine cxReg ?_
            refine pxV (v := (.string (strL o))) (fun _ _ hF => opMove rfl (hF.ev 5 rfl)) rfl (fun _ _ => rfl) (kM [false, true, true, true, true, false, true, true, true, true] rfl rfl) (by decide) ?_
            refine pxV (v := (.string (strL (b64 l)))) (fun _ _ hF => opMove rfl (hF.ev 3 rfl)) rfl (fun _ _ => rfl) (kA rfl) (by decide) ?_
            refine pxV (v := (.int .i64 ((((W * q)) : Nat) : Int))) (fun _ _ hF => opMove rfl (hF.ev 2 rfl)) rfl (fun _ _ => rfl) (kA rfl) (by decide) ?_
            refine pxV (v := (.int .i64 ((((W * q)) : Nat) : Int))) (fun _ _ hF => opMove rfl (hF.ev 3 rfl)) rfl (fun _ _ => rfl) (kA rfl) (by decide) ?_
            refine pxV (v := (.int .i64 (((W) : Nat) : Int))) (fun _ _ hF => opMove rfl (hF.ev 5 rfl)) rfl (fun _ _ => rfl) (kA rfl) (by decide) ?_
            refine pxV (v := (.int .i64 ((((W * q) + W) : Nat) : Int))) (fun _ _ hF => opAdd rfl (hF.ev 1 rfl) (hF.ev 0 rfl) (wI (by omega) (by omega) (by omega))) rfl (fun _ _ => rfl) (kM [false, false, true, true, true, true, true, true, true, true, true, true, true] rfl rfl) (by decide) ?_
            refine pxV (v := (.string (strL (b64 l)))) (fun _ _ hF => opMove rfl (hF.ev 6 rfl)) rfl (fun _ _ => rfl) (kA rfl) (by decide) ?_
            refine pxV (v := (.int .i64 ((((b64 l).length) : Nat) : Int))) (fun _ _ hF => opLenL (l := (b64 l)) rfl (by kernel_rfl) (hF.ev 0 rfl)) rfl (fun _ _ => rfl) (kM [false, true, true, true, true, true, true, true, true, true, true, true, true] rfl rfl) (by decide) ?_
            refine pxV (v := (.int .i64 (((min ((W * q) + W) ((b64 l).length)) : Nat) : Int))) (fun _ _ hF => opMin rfl (hF.ev 1 rfl) (hF.ev 0 rfl) (by omega)) rfl (fun _ _ => rfl) (kM [false, false, true, true, true, true, true, true, true, true, true, true, true] rfl rfl) (by decide) ?_
            refine pxV (v := (.string (strL (pieceW (b64 l) W q)))) (fun _ _ hF => opSlcLH' (l := (b64 l)) (k := (W * q)) (h := min ((W * q) + W) ((b64 l).length)) (r := (pieceW (b64 l) W q)) rfl (by kernel_rfl) (hF.ev 2 rfl) (hF.ev 1 rfl) (hF.ev 0 rfl) rfl rfl (by omega) (by omega) (piece_cut _ rfl (by omega))) rfl (fun _ _ => rfl) (kM [false, false, false, true, true, true, true, true, true, true, true, true] rfl rfl) (by decide) ?_
            refine pxV (v := (.string (strL (o ++ (pieceW (b64 l) W q))))) (fun _ _ hF => opAddL (l := o) (m := (pieceW (b64 l) W q)) (r := (o ++ (pieceW (b64 l) W q))) rfl (hF.ev 1 rfl) (hF.ev 0 rfl) (by rw [piece_len]; omega) (rfl)) rfl (fun _ _ => rfl) (kM [false, false, true, true, true, true, true, true, true, true] rfl rfl) (by decide) ?_
            refine pxV (v := (.string (strL en))) (fun _ _ hF => opMove rfl (hF.ev 5 rfl)) rfl (fun _ _ => rfl) (kA rfl) (by decide) ?_
            refine pxV (v := (.string (strL ((o ++ (pieceW (b64 l) W q)) ++ en)))) (fun _ _ hF => opAddL (l := (o ++ (pieceW (b64 l) W q))) (m := en) (r := ((o ++ (pieceW (b64 l) W q)) ++ en)) rfl (hF.ev 1 rfl) (hF.ev 0 rfl) (by rw [List.length_append, piece_len]; omega) (rfl)) rfl (fun _ _ => rfl) (kM [false, false, true, true, true, true, true, true, true, true] rfl rfl) (by decide) ?_
            refine pxV (v := (.string (strL ((o ++ (pieceW (b64 l) W q)) ++ en)))) (fun _ _ hF => opAssign rfl (hF.ev 0 rfl)) rfl (fun _ _ => rfl) (kM [false, true, true, true, true, true, true, true, true] rfl rfl) (by decide) ?_
            refine pxEnd ?_
            refine qxInN ?_
            refine qxThen ?_
            refine cxReg ?_
            refine pxV (v := (.int .i64 ((((W * q)) : Nat) : Int))) (fun _ _ hF => opMove rfl (hF.ev 1 rfl)) rfl (fun _ _ => rfl) (kM [true, false, true, true, true, true, true, true, true] rfl rfl) (by decide) ?_
            refine pxV (v := (.int .i64 (((W) : Nat) : Int))) (fun _ _ hF => opMove rfl (hF.ev 2 rfl)) rfl (fun _ _ => rfl) (kA rfl) (by decide) ?_
            refine pxV (v := (.int .i64 ((((W * (q + 1))) : Nat) : Int))) (fun _ _ hF => opAdd rfl (hF.ev 1 rfl) (hF.ev 0 rfl) (wI (by omega) (by omega) (by omega))) rfl (fun _ _ => rfl) (kM [false, false, true, true, true, true, true, true, true, true] rfl rfl) (by decide) ?_
            refine pxV (v := (.int .i64 ((((W * (q + 1))) : Nat) : Int))) (fun _ _ hF => opAssign rfl (hF.ev 0 rfl)) rfl (fun _ _ => rfl) (kM [false, true, true, true, true, true, true, true, true] rfl rfl) (by decide) ?_
            refine pxEnd ?_
            exact qxRound ((q + 1), ((o ++ (pieceW (b64 l) W q)) ++ en)) ⟨hH, (show ∀ i, i < (q + 1) → W * i < (b64 l).length from (fun i hi => (Nat.lt_or_ge i q).elim (fun h => hq i h) (fun h => by obtain rfl : i = q := (by omega); exact hc19))), (cut_next cr _ hd o en W q hen ho), (show ((o ++ (pieceW (b64 l) W q)) ++ en).length ≤ 10500000 + 80 * (q + 1) from (by simp only [List.length_append]; rw [piece_len]; omega))⟩ (by show (b64 l).length - W * (q + 1) < (b64 l).length - W * q; omega) (slots_at [0, 2, 3, 4, 1, 5, 6, 7, 8] rfl)
          · refine cxExit ?_
            refine qxThenE ?_
            refine qxThenE ?_
            refine qxInE ?_
            refine qxThen ?_
            refine cxJoin (σ := (List UInt8)) (fun x => [(15, (.bool (r))), (14, (.string (strL x))), (13, (.string (strL en))), (5, (.bool (last))), (0, (.slice A l.length c))]) (fun x w => HH w0 [] [] w ∧ (x = o ++ linesT cr (soL sum l)) ∧ (x.length ≤ o.length + 8) ∧ ((b64 l).length ≤ W * q)) ?_ ?_
            · refine cxSeq ?_
              have hq2 : (b64 l).length ≤ W * q := by omega
              refine cxReg ?_
              refine pxV (v := (.bool (sum))) (fun _ _ hF => opMove rfl (hF.ev 8 rfl)) rfl (fun _ _ => rfl) (kM [false, false, false, false, true, true, true, true, false, true] rfl rfl) (by decide) ?_
              refine pxEnd ?_
              refine qxThen ?_
              refine cxB 0 rfl rfl (fun hc20 => ?_) (fun hc20 => ?_)
              · refine cxSeq ?_
                refine cxReg ?_
                refine pxV (v := (.slice A l.length c)) (fun _ _ hF => opMove rfl (hF.ev 5 rfl)) rfl (fun _ _ => rfl) (kM [false, true, true, true, true, true] rfl rfl) (by decide) ?_
                refine pxM hH (fun _ hF => Does.small ((rsum_c l A c (by omega)).does) (fun w => opCall rfl Tryd.func14 rfl rfl (Evs.cons (v := (.slice A l.length c)) (hF.ev 0 rfl) Evs.nil) w)) (hH.vu hR (by decide) (Off.nil _ _)) rfl (fun _ _ => rfl) (kM [false, true, true, true, true, true] rfl rfl) (by decide) ?_
                clear hH
                rintro _ _ w ⟨rfl, rfl⟩ hH
                replace hH : HH w0 [] [] w := hH.unpad
                refine pxV (v := (.int .u32 (((crc l) : Nat) : Int))) (fun _ _ hF => opAssign rfl (hF.ev 0 rfl)) rfl (fun _ _ => rfl) (kM [false, true, true, true, true, true] rfl rfl) (by decide) ?_
                refine pxEnd ?_
                refine qxThen ?_
                refine cxReg ?_
                refine pxV (v := (.string (strL o))) (fun _ _ hF => opMove rfl (hF.ev 2 rfl)) rfl (fun _ _ => rfl) (kM [true, true, false, true, true, true] rfl rfl) (by decide) ?_
                refine pxV (v := (.string (strL (o ++ [61])))) (fun _ _ hF => opAddL (l := o) (m := [61]) (r := (o ++ [61])) rfl (hF.ev 0 rfl) rfl (by first | omega | (simp only [List.length_append]; omega) | (simp only [List.length_cons, List.length_nil]; omega) | (simp only [List.length_append, List.length_cons, List.length_nil]; omega)) (rfl)) rfl (fun _ _ => rfl) (kM [false, true, true, true, true, true] rfl rfl) (by decide) ?_
                refine pxV (v := (.int .u32 (((crc l) : Nat) : Int))) (fun _ _ hF => opMove rfl (hF.ev 1 rfl)) rfl (fun _ _ => rfl) (kA rfl) (by decide) ?_
                refine pxV (v := (.int .u32 ((((crc l) / 2 ^ 16) : Nat) : Int))) (fun _ _ hF => opShrU (n := 16) (z := ((crc l) / 2 ^ 16)) rfl (hF.ev 0 rfl) rfl (leb rfl) (rfl)) rfl (fun _ _ => rfl) (kM [false, true, true, true, true, true, true] rfl rfl) (by decide) ?_
                refine pxV (v := (.int .u8 ((((UInt8.ofNat ((crc l) / 2 ^ 16)).toNat) : Nat) : Int))) (fun _ _ hF => opConvU (k' := .u8) rfl rfl (by kernel_rfl) (by kernel_rfl) (hF.ev 0 rfl) (UInt8.toNat_ofNat' (n := (crc l) / 2 ^ 16)).symm) rfl (fun _ _ => rfl) (kM [false, true, true, true, true, true, true] rfl rfl) (by decide) ?_
                refine pxV (v := (.int .u32 (((crc l) : Nat) : Int))) (fun _ _ hF => opMove rfl (hF.ev 2 rfl)) rfl (fun _ _ => rfl) (kA rfl) (by decide) ?_
                refine pxV (v := (.int .u32 ((((crc l) / 2 ^ 8) : Nat) : Int))) (fun _ _ hF => opShrU (n := 8) (z := ((crc l) / 2 ^ 8)) rfl (hF.ev 0 rfl) rfl (leb rfl) (rfl)) rfl (fun _ _ => rfl) (kM [false, true, true, true, true, true, true, true] rfl rfl) (by decide) ?_
                refine pxV (v := (.int .u8 ((((UInt8.ofNat ((crc l) / 2 ^ 8)).toNat) : Nat) : Int))) (fun _ _ hF => opConvU (k' := .u8) rfl rfl (by kernel_rfl) (by kernel_rfl) (hF.ev 0 rfl) (UInt8.toNat_ofNat' (n := (crc l) / 2 ^ 8)).symm) rfl (fun _ _ => rfl) (kM [false, true, true, true, true, true, true, true] rfl rfl) (by decide) ?_
                refine pxV (v := (.int .u32 (((crc l) : Nat) : Int))) (fun _ _ hF => opMove rfl (hF.ev 3 rfl)) rfl (fun _ _ => rfl) (kM [true, true, true, false, true, true, true, true] rfl rfl) (by decide) ?_
                refine pxV (v := (.int .u8 ((((UInt8.ofNat (crc l)).toNat) : Nat) : Int))) (fun _ _ hF => opConvU (k' := .u8) rfl rfl (by kernel_rfl) (by kernel_rfl) (hF.ev 0 rfl) (UInt8.toNat_ofNat' (n := crc l)).symm) rfl (fun _ _ => rfl) (kM [false, true, true, true, true, true, true, true] rfl rfl) (by decide) ?_
                refine pxM hH (fun _ hF => smLits (C := cByte) (e := 5) (z := (.int .u8 0)) (by_ := 1) [(UInt8.ofNat ((crc l) / 2 ^ 16)), (UInt8.ofNat ((crc l) / 2 ^ 8)), (UInt8.ofNat (crc l))] rfl (by kernel_rfl) (by kernel_rfl) (EvP.cons (v := cByte.val (UInt8.ofNat ((crc l) / 2 ^ 16))) (hF.ev 2 rfl) (EvP.cons (v := cByte.val (UInt8.ofNat ((crc l) / 2 ^ 8))) (hF.ev 1 rfl) (EvP.cons (v := cByte.val (UInt8.ofNat (crc l))) (hF.ev 0 rfl) EvP.nil))) rfl (ltb rfl) (leb rfl) rfl) trivial rfl (fun _ _ => rfl) (kM [false, false, false, true, true, true, true, true] rfl rfl) (by decide) ?_
                clear hH
                rintro _ _ w ⟨g21, rfl, rfl⟩ hH
                replace hH : HH w0 [] [[bl g21 5 (flat cByte [(UInt8.ofNat ((crc l) / 2 ^ 16)), (UInt8.ofNat ((crc l) / 2 ^ 8)), (UInt8.ofNat (crc l))]).toArray]] w := hH
                refine pxM hH (fun _ hF => Does.small ((rbase64_c ([(UInt8.ofNat ((crc l) / 2 ^ 16)), (UInt8.ofNat ((crc l) / 2 ^ 8)), (UInt8.ofNat (crc l))]) (some ⟨g21, 0, none⟩) 3 (leb rfl)).does) (fun w => opCall rfl Tryd.func13 rfl rfl (Evs.cons (v := (.slice (some ⟨g21, 0, none⟩) 3 3)) (hF.ev 0 rfl) Evs.nil) w)) ((Bk.lits (C := cByte) [(UInt8.ofNat ((crc l) / 2 ^ 16)), (UInt8.ofNat ((crc l) / 2 ^ 8)), (UInt8.ofNat (crc l))] (by show 3 ≤ _; unfold maxLen; decide)).vu (n := 3) (hH.blk 0 rfl) rfl) rfl (fun _ _ => rfl) (kM [false, true, true, true, true, true] rfl rfl) (by decide) ?_
                clear hH
                rintro _ _ w ⟨rfl, rfl⟩ hH
                replace hH : HH w0 [] [[bl g21 5 (flat cByte [(UInt8.ofNat ((crc l) / 2 ^ 16)), (UInt8.ofNat ((crc l) / 2 ^ 8)), (UInt8.ofNat (crc l))]).toArray]] w := hH.unpad
                refine pxV (v := (.string (strL ((o ++ [61]) ++ (b64 ([(UInt8.ofNat ((crc l) / 2 ^ 16)), (UInt8.ofNat ((crc l) / 2 ^ 8)), (UInt8.ofNat (crc l))])))))) (fun _ _ hF => opAddL (l := (o ++ [61])) (m := (b64 ([(UInt8.ofNat ((crc l) / 2 ^ 16)), (UInt8.ofNat ((crc l) / 2 ^ 8)), (UInt8.ofNat (crc l))]))) (r := ((o ++ [61]) ++ (b64 ([(UInt8.ofNat ((crc l) / 2 ^ 16)), (UInt8.ofNat ((crc l) / 2 ^ 8)), (UInt8.ofNat (crc l))])))) rfl (hF.ev 1 rfl) (hF.ev 0 rfl) (by simp only [List.length_append, List.length_cons, List.length_nil, b64_len]; omega) (rfl)) rfl (fun _ _ => rfl) (kM [false, false, true, true, true, true] rfl rfl) (by decide) ?_
                refine pxV (v := (.string (strL en))) (fun _ _ hF => opMove rfl (hF.ev 2 rfl)) rfl (fun _ _ => rfl) (kA rfl) (by decide) ?_
                refine pxV (v := (.string (strL (((o ++ [61]) ++ (b64 ([(UInt8.ofNat ((crc l) / 2 ^ 16)), (UInt8.ofNat ((crc l) / 2 ^ 8)), (UInt8.ofNat (crc l))]))) ++ en)))) (fun _ _ hF => opAddL (l := ((o ++ [61]) ++ (b64 ([(UInt8.ofNat ((crc l) / 2 ^ 16)), (UInt8.ofNat ((crc l) / 2 ^ 8)), (UInt8.ofNat (crc l))])))) (m := en) (r := (((o ++ [61]) ++ (b64 ([(UInt8.ofNat ((crc l) / 2 ^ 16)), (UInt8.ofNat ((crc l) / 2 ^ 8)), (UInt8.ofNat (crc l))]))) ++ en)) rfl (hF.ev 1 rfl) (hF.ev 0 rfl) (by simp only [List.length_append, List.length_cons, List.length_nil, b64_len]; omega) (rfl)) rfl (fun _ _ => rfl) (kM [false, false, true, true, true, true] rfl rfl) (by decide) ?_
                refine pxV (v := (.string (strL (((o ++ [61]) ++ (b64 ([(UInt8.ofNat ((crc l) / 2 ^ 16)), (UInt8.ofNat ((crc l) / 2 ^ 8)), (UInt8.ofNat (crc l))]))) ++ en)))) (fun _ _ hF => opAssign rfl (hF.ev 0 rfl)) rfl (fun _ _ => rfl) (kM [false, true, true, true, true] rfl rfl) (by decide) ?_
                refine pxEnd ?_
                replace hH : HH w0 [] [] w := HH.sel hH [] rfl (by decide)
                exact qxJoin (((o ++ [61]) ++ (b64 ([(UInt8.ofNat ((crc l) / 2 ^ 16)), (UInt8.ofNat ((crc l) / 2 ^ 8)), (UInt8.ofNat (crc l))]))) ++ en) ⟨hH, (by rw [hc20, hen]; simp [soL, linesT, sumL, three, ob]), (show (((o ++ [61]) ++ (b64 ([(UInt8.ofNat ((crc l) / 2 ^ 16)), (UInt8.ofNat ((crc l) / 2 ^ 8)), (UInt8.ofNat (crc l))]))) ++ en).length ≤ o.length + 8 from (by simp only [List.length_append, List.length_cons, List.length_nil, b64_len]; omega)), hq2⟩ (slots_at [1, 0, 2, 3, 4] rfl)
              · refine cxSkip ?_
                exact qxJoin o ⟨hH, (by rw [hc20]; simp [soL, linesT]), (show o.length ≤ o.length + 8 from (by omega)), hq2⟩ (slots_at [1, 2, 3, 4, 5] rfl)
            · clear hH
              rintro o3 w ⟨hH, ho3, hol3, hq2⟩
              change CX _ _ _ _ [(15, (.bool (r))), (14, (.string (strL o3))), (13, (.string (strL en))), (5, (.bool (last))), (0, (.slice A l.length c))] _
              replace hH : HH w0 [] [] w := hH
              replace ho3 : o3 = o ++ linesT cr (soL sum l) := ho3
              replace hol3 : o3.length ≤ o.length + 8 := hol3
              replace hq2 : (b64 l).length ≤ W * q := hq2
              refine cxSeq ?_
              refine cxReg ?_
              refine pxV (v := (.string (strL o3))) (fun _ _ hF => opMove rfl (hF.ev 1 rfl)) rfl (fun _ _ => rfl) (kM [true, false, true, true, true] rfl rfl) (by decide) ?_
              refine pxV (v := (.string (strL (o3 ++ (footK mesL))))) (fun _ _ hF => opAddL (l := o3) (m := (footK mesL)) (r := (o3 ++ (footK mesL))) rfl (hF.ev 0 rfl) rfl (by show o3.length + 25 ≤ _; omega) (rfl)) rfl (fun _ _ => rfl) (kM [false, true, true, true, true] rfl rfl) (by decide) ?_
              refine pxV (v := (.string (strL (o3 ++ (footK mesL))))) (fun _ _ hF => opAssign rfl (hF.ev 0 rfl)) rfl (fun _ _ => rfl) (kM [false, true, true, true, true] rfl rfl) (by decide) ?_
              refine pxEnd ?_
              refine qxThen ?_
              refine cxJoin (σ := (List UInt8)) (fun x => [(15, (.bool (r))), (14, (.string (strL x))), (0, (.slice A l.length c))]) (fun x w => HH w0 [] [] w ∧ (x = o3 ++ footK mesL ++ (if last then en else [])) ∧ (x.length ≤ o3.length + 40)) ?_ ?_
              · refine cxSeq ?_
                refine cxReg ?_
                refine pxV (v := (.bool (last))) (fun _ _ hF => opMove rfl (hF.ev 3 rfl)) rfl (fun _ _ => rfl) (kM [true, true, true, false, true] rfl rfl) (by decide) ?_
                refine pxEnd ?_
                refine qxThen ?_
                refine cxB 0 rfl rfl (fun hc22 => ?_) (fun hc22 => ?_)
                · refine cxReg ?_
                  refine pxV (v := (.string (strL (o3 ++ (footK mesL))))) (fun _ _ hF => opMove rfl (hF.ev 1 rfl)) rfl (fun _ _ => rfl) (kM [false, false, true, true, true] rfl rfl) (by decide) ?_
                  refine pxV (v := (.string (strL en))) (fun _ _ hF => opMove rfl (hF.ev 2 rfl)) rfl (fun _ _ => rfl) (kM [true, true, false, true] rfl rfl) (by decide) ?_
                  refine pxV (v := (.string (strL ((o3 ++ (footK mesL)) ++ en)))) (fun _ _ hF => opAddL (l := (o3 ++ (footK mesL))) (m := en) (r := ((o3 ++ (footK mesL)) ++ en)) rfl (hF.ev 1 rfl) (hF.ev 0 rfl) (by have : (footK mesL).length = 25 := rfl; rw [List.length_append]; omega) (rfl)) rfl (fun _ _ => rfl) (kM [false, false, true, true] rfl rfl) (by decide) ?_
                  refine pxV (v := (.string (strL ((o3 ++ (footK mesL)) ++ en)))) (fun _ _ hF => opAssign rfl (hF.ev 0 rfl)) rfl (fun _ _ => rfl) (kM [false, true, true] rfl rfl) (by decide) ?_
                  refine pxEnd ?_
                  exact qxJoin ((o3 ++ (footK mesL)) ++ en) ⟨hH, (by rw [hc22]; simp), (show ((o3 ++ (footK mesL)) ++ en).length ≤ o3.length + 40 from (by have : (footK mesL).length = 25 := rfl; first | (simp only [List.length_append]; omega) | omega))⟩ (slots_at [1, 0, 2] rfl)
                · refine cxSkip ?_
                  exact qxJoin (o3 ++ (footK mesL)) ⟨hH, (by rw [hc22]; simp), (show (o3 ++ (footK mesL)).length ≤ o3.length + 40 from (by have : (footK mesL).length = 25 := rfl; first | (simp only [List.length_append]; omega) | omega))⟩ (slots_at [2, 1, 4] rfl)
              · clear hH
                rintro t w ⟨hH, htt, htl⟩
                change CX _ _ _ _ [(15, (.bool (r))), (14, (.string (strL t))), (0, (.slice A l.length c))] _
                replace hH : HH w0 [] [] w := hH
                replace htt : t = o3 ++ footK mesL ++ (if last then en else []) := htt
                replace htl : t.length ≤ o3.length + 40 := htl
                refine cxSeq ?_
                refine cxReg ?_
                refine pxV (v := (.string (strL t))) (fun _ _ hF => opMove rfl (hF.ev 1 rfl)) rfl (fun _ _ => rfl) (kM [true, false, true] rfl rfl) (by decide) ?_
                refine pxM hH (fun _ hF => Does.small (decode_c t (by first | omega | (simp only [List.length_append]; omega))) (fun w => opCall rfl Tryd.func10 rfl rfl (Evs.cons (v := (.string (strL t))) (hF.ev 0 rfl) Evs.nil) w)) (hmaxl hH hM) rfl (fun _ _ => rfl) (kM [false, true, true] rfl rfl) (by decide) ?_
                clear hH
                rintro v27 E23 w hD24 hH
                replace hH : HH w0 [] [E23] w := hH
                obtain ⟨A25, c26, rfl, hO28⟩ := hD24
                refine pxV (v := (.tuple #[(.string (strL (dK (accP (lns t))))), (.slice A25 ((dB (accP (lns t))).length) c26), (.int .i64 ((((dE (accP (lns t)))) : Nat) : Int))])) (fun _ _ hF => opMove rfl (hF.ev 0 rfl)) rfl (fun _ _ => rfl) (kM [false, true, true] rfl rfl) (by decide) ?_
                refine pxV (v := (.string (strL (dK (accP (lns t)))))) (fun _ _ hF => opExtract rfl (hF.ev 0 rfl) rfl) rfl (fun _ _ => rfl) (kA rfl) (by decide) ?_
                refine pxV (v := (.slice A25 ((dB (accP (lns t))).length) c26)) (fun _ _ hF => opExtract rfl (hF.ev 1 rfl) rfl) rfl (fun _ _ => rfl) (kA rfl) (by decide) ?_
                refine pxV (v := (.int .i64 ((((dE (accP (lns t)))) : Nat) : Int))) (fun _ _ hF => opExtract rfl (hF.ev 2 rfl) rfl) rfl (fun _ _ => rfl) (kM [true, true, false, true, true] rfl rfl) (by decide) ?_
                refine pxV (v := (.string (strL (dK (accP (lns t)))))) (fun _ _ hF => opAssign rfl (hF.ev 2 rfl)) rfl (fun _ _ => rfl) (kM [true, true, false, true, true] rfl rfl) (by decide) ?_
                refine pxV (v := (.slice A25 ((dB (accP (lns t))).length) c26)) (fun _ _ hF => opAssign rfl (hF.ev 2 rfl)) rfl (fun _ _ => rfl) (kM [true, true, false, true, true] rfl rfl) (by decide) ?_
                refine pxV (v := (.int .i64 ((((dE (accP (lns t)))) : Nat) : Int))) (fun _ _ hF => opAssign rfl (hF.ev 2 rfl)) rfl (fun _ _ => rfl) (kM [true, true, false, true, true] rfl rfl) (by decide) ?_
                refine pxEnd ?_
                refine qxThen ?_
                refine cxSeq ?_
                refine cxReg ?_
                refine pxV (v := (.bool (r))) (fun _ _ hF => opMove rfl (hF.ev 3 rfl)) rfl (fun _ _ => rfl) (kM [true, true, true, false, true] rfl rfl) (by decide) ?_
                refine pxV (v := (.bool (!(r)))) (fun _ _ hF => opNot rfl (hF.ev 0 rfl) rfl) rfl (fun _ _ => rfl) (kM [false, true, true, true, true] rfl rfl) (by decide) ?_
                refine pxV (v := (.bool (!(r)))) (fun _ _ hF => opMove rfl (hF.ev 0 rfl)) rfl (fun _ _ => rfl) (kM [false, true, true, true, true] rfl rfl) (by decide) ?_
                refine pxSplitB 0 rfl (l1 := [(125, (.bool true)), (23, (.int .i64 ((((dE (accP (lns t)))) : Nat) : Int))), (22, (.slice A25 ((dB (accP (lns t))).length) c26)), (21, (.string (strL (dK (accP (lns t)))))), (0, (.slice A l.length c))]) (l2 := [(125, (.bool false)), (23, (.int .i64 ((((dE (accP (lns t)))) : Nat) : Int))), (22, (.slice A25 ((dB (accP (lns t))).length) c26)), (21, (.string (strL (dK (accP (lns t)))))), (0, (.slice A l.length c))]) rfl rfl (fun hg30 => ?_) (fun hg30 => ?_)
                · refine pxU rfl (gOff 0 rfl rfl rfl (by decide)) (kM [true, false, true, true, true] rfl rfl) (by decide) ?_
                  refine pxU rfl (gOff 0 rfl rfl rfl (by decide)) (kA rfl) (by decide) ?_
                  refine pxUK rfl (gOff 0 rfl rfl rfl (by decide)) (kA rfl) (by decide) ?_
                  refine pxU rfl (gOffU 0 rfl rfl rfl) (kM [true, true, true, false, true] rfl rfl) (by decide) ?_
                  refine pxU rfl (gOffU 0 rfl rfl rfl) (kA rfl) (by decide) ?_
                  refine pxU rfl (gOff 1 rfl rfl rfl (by decide)) (kM [false, true, true, true] rfl rfl) (by decide) ?_
                  refine pxUK rfl (gOff 0 rfl rfl rfl (by decide)) (kA rfl) (by decide) ?_
                  refine pxU rfl (gOffU 0 rfl rfl rfl) (kM [true, true, false, true] rfl rfl) (by decide) ?_
                  refine pxU rfl (gOffU 0 rfl rfl rfl) (kA rfl) (by decide) ?_
                  refine pxU rfl (gOffU 0 rfl rfl rfl) (kM [true, true, false] rfl rfl) (by decide) ?_
                  refine pxU rfl (gOffU 0 rfl rfl rfl) (kA rfl) (by decide) ?_
                  refine pxU rfl (gOffU 0 rfl rfl rfl) (kA rfl) (by decide) ?_
                  refine pxU rfl (gOff 1 rfl rfl rfl (by decide)) (kM [false, true] rfl rfl) (by decide) ?_
                  refine pxV (v := (.bool true)) (fun _ _ hF => opPickT rfl (hF.ev 0 rfl) rfl) rfl (fun _ _ => rfl) (kM [false] rfl rfl) (by decide) ?_
                  refine pxV (v := (.bool true)) (fun _ _ hF => opAssign rfl (hF.ev 0 rfl)) rfl (fun _ _ => rfl) (kM [false] rfl rfl) (by decide) ?_
                  refine pxEnd ?_
                  refine qxThen ?_
                  refine cxRet ?_
                  refine qxRet1 0 rfl rfl ?_
                  exact ⟨rfl, hH.toBelow⟩
                · refine pxV (v := (.int .i64 ((((dE (accP (lns t)))) : Nat) : Int))) (fun _ _ hF => opMove rfl (hF.ev 1 rfl)) rfl (gOn 0 rfl rfl rfl (by decide)) (kM [true, false, true, true, true] rfl rfl) (by decide) ?_
                  refine pxV (v := (.bool true)) (fun _ _ hF => opEqI rfl (hF.ev 0 rfl) rfl (decide_eq_true (by rw [(dec_mes (lines_arm (hr.symm.trans (by simpa using hg30)) l cr sum last hw4 hw0 hw76 hq hq2 en t hen (by rw [htt, ho3, ho, ← hhd, hs])) (by omega)).2.2]; rfl))) rfl (gOn 1 rfl rfl rfl (by decide)) (kM [false, true, true, true, true] rfl rfl) (by decide) ?_
                  refine pxV (v := (.bool true)) (fun _ _ hF => opMove rfl (hF.ev 0 rfl)) rfl (gOn 1 rfl rfl rfl (by decide)) (kM [false, true, true, true, true] rfl rfl) (by decide) ?_
                  refine pxV (v := (.string (strL (dK (accP (lns t)))))) (fun _ _ hF => opMove rfl (hF.ev 3 rfl)) rfl (gOn 0 rfl rfl rfl (by decide)) (kM [true, true, true, false, true] rfl rfl) (by decide) ?_
                  refine pxV (v := (.bool true)) (fun _ _ hF => opEqLb (l := (dK (accP (lns t)))) (m := mesL) rfl (hF.ev 0 rfl) rfl (decide_eq_true ((dec_mes (lines_arm (hr.symm.trans (by simpa using hg30)) l cr sum last hw4 hw0 hw76 hq hq2 en t hen (by rw [htt, ho3, ho, ← hhd, hs])) (by omega)).1))) rfl (gOn 1 rfl rfl rfl (by decide)) (kM [false, true, true, true, true] rfl rfl) (by decide) ?_
                  refine pxV (v := (.bool true)) (fun _ _ hF => opPickT rfl (hF.ev 1 rfl) (hF.ev 0 rfl)) rfl (gOn 2 rfl rfl rfl (by decide)) (kM [false, false, true, true, true] rfl rfl) (by decide) ?_
                  refine pxV (v := (.bool true)) (fun _ _ hF => opMove rfl (hF.ev 0 rfl)) rfl (gOn 1 rfl rfl rfl (by decide)) (kM [false, true, true, true] rfl rfl) (by decide) ?_
                  refine pxV (v := (.slice A25 ((dB (accP (lns t))).length) c26)) (fun _ _ hF => opMove rfl (hF.ev 2 rfl)) rfl (gOn 0 rfl rfl rfl (by decide)) (kM [true, true, false, true] rfl rfl) (by decide) ?_
                  refine pxS (v := (.string (strL (dB (accP (lns t)))))) (fun w => Vu cByte w A25 ((dB (accP (lns t))).length) c26 (dB (accP (lns t)))) (hO28.vuAt (hH.has 0 rfl)) (fun _ _ hF hS => opStr (e := 5) rfl (by kernel_rfl) (by kernel_rfl) (by kernel_rfl) (hF.ev 0 rfl) hS) rfl (gOn 1 rfl rfl rfl (by decide)) (kM [false, true, true, true] rfl rfl) (by decide) ?_
                  refine pxV (v := (.slice A l.length c)) (fun _ _ hF => opMove rfl (hF.ev 3 rfl)) rfl (gOn 1 rfl rfl rfl (by decide)) (kM [true, true, true, false] rfl rfl) (by decide) ?_
                  refine pxS (v := (.string (strL l))) (fun w => Vu cByte w A l.length c l) (hH.vu hR (by decide) (Off.nil _ _)) (fun _ _ hF hS => opStr (e := 5) rfl (by kernel_rfl) (by kernel_rfl) (by kernel_rfl) (hF.ev 0 rfl) hS) rfl (gOn 2 rfl rfl rfl (by decide)) (kM [false, true, true, true] rfl rfl) (by decide) ?_
                  refine pxV (v := (.bool true)) (fun _ _ hF => opEqLb (l := (dB (accP (lns t)))) (m := l) rfl (hF.ev 1 rfl) (hF.ev 0 rfl) (decide_eq_true ((dec_mes (lines_arm (hr.symm.trans (by simpa using hg30)) l cr sum last hw4 hw0 hw76 hq hq2 en t hen (by rw [htt, ho3, ho, ← hhd, hs])) (by omega)).2.1))) rfl (gOn 2 rfl rfl rfl (by decide)) (kM [false, false, true, true] rfl rfl) (by decide) ?_
                  refine pxV (v := (.bool true)) (fun _ _ hF => opPickT rfl (hF.ev 1 rfl) (hF.ev 0 rfl)) rfl (gOn 2 rfl rfl rfl (by decide)) (kM [false, false, true] rfl rfl) (by decide) ?_
                  refine pxV (v := (.bool true)) (fun _ _ hF => opPickF rfl (hF.ev 1 rfl) (hF.ev 0 rfl)) rfl (fun _ _ => rfl) (kM [false, false] rfl rfl) (by decide) ?_
                  refine pxV (v := (.bool true)) (fun _ _ hF => opAssign rfl (hF.ev 0 rfl)) rfl (fun _ _ => rfl) (kM [false] rfl rfl) (by decide) ?_
                  refine pxEnd ?_
                  refine qxThen ?_
                  refine cxRet ?_
                  refine qxRet1 0 rfl rfl ?_
                  exact ⟨rfl, hH.toBelow⟩

end Go.Proofs.YtadbpmcmdcnlfaaDoor
