/- The program's packets: Formed, Length, Write (mkpk.py writes this text). -/
import Derived.Test.YtjncbpmigpocbaaPkM
import Derived.Test.YtjncbpmigpocbaaBr
namespace Go.Proofs.Ytjncbpmigpocbaa
open Go Go.RowKit
set_option maxRecDepth 100000

set_option maxHeartbeats 8000000 in
theorem formed_c (t : Int) (A : Option Addr) (n c : Nat) : Pure Try.prog 12 #[(cPk.val (t, A, n, c))] (fun _ => True) (.bool (decide (1 ≤ t ∧ t ≤ 63 ∧ n ≤ 20000))) := by
  refine pure_of (fn := Try.f12) Try.func12 rfl Try.ntmps12 (Nat.le_of_ble_eq_true rfl) rfl ?_
  intro w0 hH hR
  refine cxSeq ?_
  refine cxReg ?_
  refine pxM hH (fun _ hF => smBox rfl (hF.ev 0 rfl) rfl) trivial rfl (fun _ _ => rfl) (kM [false] rfl rfl) (by decide) ?_
  clear hH
  rintro _ _ w ⟨g1, rfl, rfl⟩ hH
  replace hH : HH w0 [] [[bl g1 31 (cPk.enc (t, A, n, c))]] w := hH
  refine pxV (v := (.bool false)) (fun _ _ hF => opAssign rfl rfl) rfl (fun _ _ => rfl) (kA rfl) (by decide) ?_
  refine pxEnd ?_
  refine qxThen ?_
  refine cxSeq ?_
  refine cxReg ?_
  refine pxV (v := (.pointer (some ⟨g1, 0, none⟩))) (fun _ _ hF => opField (off := 0) rfl (hF.ev 1 rfl) (by kernel_rfl)) rfl (fun _ _ => rfl) (kM [false, true] rfl rfl) (by decide) ?_
  refine pxS (v := (.int .i64 (t))) (fun w => w.heap[g1]? = some (.cells (cPk.enc (t, A, n, c)) 31 (0, 0))) (hH.blk 0 rfl) (fun _ _ hF hS => opLoadT (C := (cInt .i64)) (y := t) rfl (hF.ev 0 rfl) (by kernel_rfl) (holds_blk0 hS).fst rfl) rfl (fun _ _ => rfl) (kM [false, true] rfl rfl) (by decide) ?_
  refine pxV (v := (.bool (decide ((t) ≥ 1)))) (fun _ _ hF => opGeq rfl (hF.ev 0 rfl) rfl rfl) rfl (fun _ _ => rfl) (kM [false, true] rfl rfl) (by decide) ?_
  refine pxV (v := (.bool (decide ((t) ≥ 1)))) (fun _ _ hF => opMove rfl (hF.ev 0 rfl)) rfl (fun _ _ => rfl) (kM [false, true] rfl rfl) (by decide) ?_
  refine pxSplitP 0 rfl (l1 := [(6, (.bool true)), (1, (.pointer (some ⟨g1, 0, none⟩)))]) (l2 := [(6, (.bool false)), (1, (.pointer (some ⟨g1, 0, none⟩)))]) rfl rfl (fun hg2 => ?_) (fun hg2 => ?_)
  · refine pxV (v := (.pointer (some ⟨g1, 0, none⟩))) (fun _ _ hF => opField (off := 0) rfl (hF.ev 1 rfl) (by kernel_rfl)) rfl (gOn 0 rfl rfl rfl (by decide)) (kA rfl) (by decide) ?_
    refine pxS (v := (.int .i64 (t))) (fun w => w.heap[g1]? = some (.cells (cPk.enc (t, A, n, c)) 31 (0, 0))) (hH.blk 0 rfl) (fun _ _ hF hS => opLoadT (C := (cInt .i64)) (y := t) rfl (hF.ev 0 rfl) (by kernel_rfl) (holds_blk0 hS).fst rfl) rfl (gOn 1 rfl rfl rfl (by decide)) (kM [false, true, true] rfl rfl) (by decide) ?_
    refine pxV (v := (.bool (decide ((t) ≤ 63)))) (fun _ _ hF => opLeq rfl (hF.ev 0 rfl) rfl rfl) rfl (gOn 1 rfl rfl rfl (by decide)) (kM [false, true, true] rfl rfl) (by decide) ?_
    refine pxV (v := (.bool (decide ((t) ≤ 63)))) (fun _ _ hF => opPickT rfl (hF.ev 1 rfl) (hF.ev 0 rfl)) rfl (fun _ _ => rfl) (kM [false, false, true] rfl rfl) (by decide) ?_
    refine pxV (v := (.bool (decide ((t) ≤ 63)))) (fun _ _ hF => opMove rfl (hF.ev 0 rfl)) rfl (fun _ _ => rfl) (kM [false, true] rfl rfl) (by decide) ?_
    refine pxSplitP 0 rfl (l1 := [(11, (.bool true)), (1, (.pointer (some ⟨g1, 0, none⟩)))]) (l2 := [(11, (.bool false)), (1, (.pointer (some ⟨g1, 0, none⟩)))]) rfl rfl (fun hg3 => ?_) (fun hg3 => ?_)
    · refine pxV (v := (.pointer (some ⟨g1, 1, none⟩))) (fun _ _ hF => opField (off := 1) rfl (hF.ev 1 rfl) (by kernel_rfl)) rfl (gOn 0 rfl rfl rfl (by decide)) (kM [true, false] rfl rfl) (by decide) ?_
      refine pxS (v := (.slice A n c)) (fun w => w.heap[g1]? = some (.cells (cPk.enc (t, A, n, c)) 31 (0, 0))) (hH.blk 0 rfl) (fun _ _ hF hS => opLoadT (C := cSl) (y := (A, n, c)) rfl (hF.ev 0 rfl) (by kernel_rfl) (holds_blk0 hS).snd rfl) rfl (gOn 1 rfl rfl rfl (by decide)) (kM [false, true] rfl rfl) (by decide) ?_
      refine pxV (v := (.int .i64 (((n) : Nat) : Int))) (fun _ _ hF => opLen (e := 5) rfl (by kernel_rfl) (hF.ev 0 rfl)) rfl (gOn 1 rfl rfl rfl (by decide)) (kM [false, true] rfl rfl) (by decide) ?_
      refine pxV (v := (.bool (decide (n ≤ 20000)))) (fun _ _ hF => opLeq rfl (hF.ev 0 rfl) rfl (dc (by omega))) rfl (gOn 1 rfl rfl rfl (by decide)) (kM [false, true] rfl rfl) (by decide) ?_
      refine pxV (v := (.bool (decide (n ≤ 20000)))) (fun _ _ hF => opPickT rfl (hF.ev 1 rfl) (hF.ev 0 rfl)) rfl (fun _ _ => rfl) (kM [false, false] rfl rfl) (by decide) ?_
      refine pxV (v := (.bool (decide (n ≤ 20000)))) (fun _ _ hF => opAssign rfl (hF.ev 0 rfl)) rfl (fun _ _ => rfl) (kM [false] rfl rfl) (by decide) ?_
      refine pxEnd ?_
      refine qxThen ?_
      refine cxRet ?_
      refine qxRet1 0 rfl rfl ?_
      have he : (1 ≤ t ∧ t ≤ 63 ∧ n ≤ 20000) ↔ (n ≤ 20000) := by
        constructor
        · intro q; omega
        · intro q; omega
      exact ⟨by rw [dc he], HH.toBelow hH⟩
    · refine pxU rfl (gOff 0 rfl rfl rfl (by decide)) (kM [true, false] rfl rfl) (by decide) ?_
      refine pxU rfl (gOff 0 rfl rfl rfl (by decide)) (kA rfl) (by decide) ?_
      refine pxU rfl (gOff 0 rfl rfl rfl (by decide)) (kA rfl) (by decide) ?_
      refine pxU rfl (gOff 0 rfl rfl rfl (by decide)) (kA rfl) (by decide) ?_
      refine pxV (v := (.bool false)) (fun _ _ hF => opPickF rfl (hF.ev 0 rfl) rfl) rfl (fun _ _ => rfl) (kM [false] rfl rfl) (by decide) ?_
      refine pxV (v := (.bool false)) (fun _ _ hF => opAssign rfl (hF.ev 0 rfl)) rfl (fun _ _ => rfl) (kM [false] rfl rfl) (by decide) ?_
      refine pxEnd ?_
      refine qxThen ?_
      refine cxRet ?_
      refine qxRet1 0 rfl rfl ?_
      have he : (1 ≤ t ∧ t ≤ 63 ∧ n ≤ 20000) ↔ (False) := by
        exact ⟨fun q => by omega, False.elim⟩
      exact ⟨by rw [dc he]; rfl, HH.toBelow hH⟩
  · refine pxU rfl (gOff 0 rfl rfl rfl (by decide)) (kA rfl) (by decide) ?_
    refine pxU rfl (gOff 0 rfl rfl rfl (by decide)) (kA rfl) (by decide) ?_
    refine pxU rfl (gOff 0 rfl rfl rfl (by decide)) (kA rfl) (by decide) ?_
    refine pxV (v := (.bool false)) (fun _ _ hF => opPickF rfl (hF.ev 0 rfl) rfl) rfl (fun _ _ => rfl) (kM [false, true] rfl rfl) (by decide) ?_
    refine pxV (v := (.bool false)) (fun _ _ hF => opMove rfl (hF.ev 0 rfl)) rfl (fun _ _ => rfl) (kM [false, true] rfl rfl) (by decide) ?_
    refine pxU rfl (gOff 0 rfl rfl rfl (by decide)) (kM [true, false] rfl rfl) (by decide) ?_
    refine pxU rfl (gOff 0 rfl rfl rfl (by decide)) (kA rfl) (by decide) ?_
    refine pxU rfl (gOff 0 rfl rfl rfl (by decide)) (kA rfl) (by decide) ?_
    refine pxU rfl (gOff 0 rfl rfl rfl (by decide)) (kA rfl) (by decide) ?_
    refine pxV (v := (.bool false)) (fun _ _ hF => opPickF rfl (hF.ev 0 rfl) rfl) rfl (fun _ _ => rfl) (kM [false] rfl rfl) (by decide) ?_
    refine pxV (v := (.bool false)) (fun _ _ hF => opAssign rfl (hF.ev 0 rfl)) rfl (fun _ _ => rfl) (kM [false] rfl rfl) (by decide) ?_
    refine pxEnd ?_
    refine qxThen ?_
    refine cxRet ?_
    refine qxRet1 0 rfl rfl ?_
    have he : (1 ≤ t ∧ t ≤ 63 ∧ n ≤ 20000) ↔ (False) := by
      exact ⟨fun q => by omega, False.elim⟩
    exact ⟨by rw [dc he]; rfl, HH.toBelow hH⟩

set_option maxHeartbeats 8000000 in
theorem formed_r (t : Int) (A : Option Addr) (n c : Nat) : Pure Try.prog 13 #[(cPk.val (t, A, n, c))] (fun _ => True) (.bool (decide (1 ≤ t ∧ t ≤ 63 ∧ n ≤ 20000))) := by
  refine pure_of (fn := Try.f13) Try.func13 rfl Try.ntmps13 (Nat.le_of_ble_eq_true rfl) rfl ?_
  intro w0 hH hR
  refine cxSeq ?_
  refine cxReg ?_
  refine pxM hH (fun _ hF => smBox rfl (hF.ev 0 rfl) rfl) trivial rfl (fun _ _ => rfl) (kM [false] rfl rfl) (by decide) ?_
  clear hH
  rintro _ _ w ⟨g1, rfl, rfl⟩ hH
  replace hH : HH w0 [] [[bl g1 31 (cPk.enc (t, A, n, c))]] w := hH
  refine pxV (v := (.bool false)) (fun _ _ hF => opAssign rfl rfl) rfl (fun _ _ => rfl) (kA rfl) (by decide) ?_
  refine pxEnd ?_
  refine qxThen ?_
  refine cxSeq ?_
  refine cxReg ?_
  refine pxV (v := (.pointer (some ⟨g1, 0, none⟩))) (fun _ _ hF => opField (off := 0) rfl (hF.ev 1 rfl) (by kernel_rfl)) rfl (fun _ _ => rfl) (kM [false, true] rfl rfl) (by decide) ?_
  refine pxS (v := (.int .i64 (t))) (fun w => w.heap[g1]? = some (.cells (cPk.enc (t, A, n, c)) 31 (0, 0))) (hH.blk 0 rfl) (fun _ _ hF hS => opLoadT (C := (cInt .i64)) (y := t) rfl (hF.ev 0 rfl) (by kernel_rfl) (holds_blk0 hS).fst rfl) rfl (fun _ _ => rfl) (kM [false, true] rfl rfl) (by decide) ?_
  refine pxV (v := (.bool (decide ((t) ≥ 1)))) (fun _ _ hF => opGeq rfl (hF.ev 0 rfl) rfl rfl) rfl (fun _ _ => rfl) (kM [false, true] rfl rfl) (by decide) ?_
  refine pxV (v := (.bool (decide ((t) ≥ 1)))) (fun _ _ hF => opMove rfl (hF.ev 0 rfl)) rfl (fun _ _ => rfl) (kM [false, true] rfl rfl) (by decide) ?_
  refine pxSplitP 0 rfl (l1 := [(6, (.bool true)), (1, (.pointer (some ⟨g1, 0, none⟩)))]) (l2 := [(6, (.bool false)), (1, (.pointer (some ⟨g1, 0, none⟩)))]) rfl rfl (fun hg2 => ?_) (fun hg2 => ?_)
  · refine pxV (v := (.pointer (some ⟨g1, 0, none⟩))) (fun _ _ hF => opField (off := 0) rfl (hF.ev 1 rfl) (by kernel_rfl)) rfl (gOn 0 rfl rfl rfl (by decide)) (kA rfl) (by decide) ?_
    refine pxS (v := (.int .i64 (t))) (fun w => w.heap[g1]? = some (.cells (cPk.enc (t, A, n, c)) 31 (0, 0))) (hH.blk 0 rfl) (fun _ _ hF hS => opLoadT (C := (cInt .i64)) (y := t) rfl (hF.ev 0 rfl) (by kernel_rfl) (holds_blk0 hS).fst rfl) rfl (gOn 1 rfl rfl rfl (by decide)) (kM [false, true, true] rfl rfl) (by decide) ?_
    refine pxV (v := (.bool (decide ((t) ≤ 63)))) (fun _ _ hF => opLeq rfl (hF.ev 0 rfl) rfl rfl) rfl (gOn 1 rfl rfl rfl (by decide)) (kM [false, true, true] rfl rfl) (by decide) ?_
    refine pxV (v := (.bool (decide ((t) ≤ 63)))) (fun _ _ hF => opPickT rfl (hF.ev 1 rfl) (hF.ev 0 rfl)) rfl (fun _ _ => rfl) (kM [false, false, true] rfl rfl) (by decide) ?_
    refine pxV (v := (.bool (decide ((t) ≤ 63)))) (fun _ _ hF => opMove rfl (hF.ev 0 rfl)) rfl (fun _ _ => rfl) (kM [false, true] rfl rfl) (by decide) ?_
    refine pxSplitP 0 rfl (l1 := [(11, (.bool true)), (1, (.pointer (some ⟨g1, 0, none⟩)))]) (l2 := [(11, (.bool false)), (1, (.pointer (some ⟨g1, 0, none⟩)))]) rfl rfl (fun hg3 => ?_) (fun hg3 => ?_)
    · refine pxV (v := (.pointer (some ⟨g1, 1, none⟩))) (fun _ _ hF => opField (off := 1) rfl (hF.ev 1 rfl) (by kernel_rfl)) rfl (gOn 0 rfl rfl rfl (by decide)) (kM [true, false] rfl rfl) (by decide) ?_
      refine pxS (v := (.slice A n c)) (fun w => w.heap[g1]? = some (.cells (cPk.enc (t, A, n, c)) 31 (0, 0))) (hH.blk 0 rfl) (fun _ _ hF hS => opLoadT (C := cSl) (y := (A, n, c)) rfl (hF.ev 0 rfl) (by kernel_rfl) (holds_blk0 hS).snd rfl) rfl (gOn 1 rfl rfl rfl (by decide)) (kM [false, true] rfl rfl) (by decide) ?_
      refine pxV (v := (.int .i64 (((n) : Nat) : Int))) (fun _ _ hF => opLen (e := 5) rfl (by kernel_rfl) (hF.ev 0 rfl)) rfl (gOn 1 rfl rfl rfl (by decide)) (kM [false, true] rfl rfl) (by decide) ?_
      refine pxV (v := (.bool (decide (n ≤ 20000)))) (fun _ _ hF => opLeq rfl (hF.ev 0 rfl) rfl (dc (by omega))) rfl (gOn 1 rfl rfl rfl (by decide)) (kM [false, true] rfl rfl) (by decide) ?_
      refine pxV (v := (.bool (decide (n ≤ 20000)))) (fun _ _ hF => opPickT rfl (hF.ev 1 rfl) (hF.ev 0 rfl)) rfl (fun _ _ => rfl) (kM [false, false] rfl rfl) (by decide) ?_
      refine pxV (v := (.bool (decide (n ≤ 20000)))) (fun _ _ hF => opAssign rfl (hF.ev 0 rfl)) rfl (fun _ _ => rfl) (kM [false] rfl rfl) (by decide) ?_
      refine pxEnd ?_
      refine qxThen ?_
      refine cxRet ?_
      refine qxRet1 0 rfl rfl ?_
      have he : (1 ≤ t ∧ t ≤ 63 ∧ n ≤ 20000) ↔ (n ≤ 20000) := by
        constructor
        · intro q; omega
        · intro q; omega
      exact ⟨by rw [dc he], HH.toBelow hH⟩
    · refine pxU rfl (gOff 0 rfl rfl rfl (by decide)) (kM [true, false] rfl rfl) (by decide) ?_
      refine pxU rfl (gOff 0 rfl rfl rfl (by decide)) (kA rfl) (by decide) ?_
      refine pxU rfl (gOff 0 rfl rfl rfl (by decide)) (kA rfl) (by decide) ?_
      refine pxU rfl (gOff 0 rfl rfl rfl (by decide)) (kA rfl) (by decide) ?_
      refine pxV (v := (.bool false)) (fun _ _ hF => opPickF rfl (hF.ev 0 rfl) rfl) rfl (fun _ _ => rfl) (kM [false] rfl rfl) (by decide) ?_
      refine pxV (v := (.bool false)) (fun _ _ hF => opAssign rfl (hF.ev 0 rfl)) rfl (fun _ _ => rfl) (kM [false] rfl rfl) (by decide) ?_
      refine pxEnd ?_
      refine qxThen ?_
      refine cxRet ?_
      refine qxRet1 0 rfl rfl ?_
      have he : (1 ≤ t ∧ t ≤ 63 ∧ n ≤ 20000) ↔ (False) := by
        exact ⟨fun q => by omega, False.elim⟩
      exact ⟨by rw [dc he]; rfl, HH.toBelow hH⟩
  · refine pxU rfl (gOff 0 rfl rfl rfl (by decide)) (kA rfl) (by decide) ?_
    refine pxU rfl (gOff 0 rfl rfl rfl (by decide)) (kA rfl) (by decide) ?_
    refine pxU rfl (gOff 0 rfl rfl rfl (by decide)) (kA rfl) (by decide) ?_
    refine pxV (v := (.bool false)) (fun _ _ hF => opPickF rfl (hF.ev 0 rfl) rfl) rfl (fun _ _ => rfl) (kM [false, true] rfl rfl) (by decide) ?_
    refine pxV (v := (.bool false)) (fun _ _ hF => opMove rfl (hF.ev 0 rfl)) rfl (fun _ _ => rfl) (kM [false, true] rfl rfl) (by decide) ?_
    refine pxU rfl (gOff 0 rfl rfl rfl (by decide)) (kM [true, false] rfl rfl) (by decide) ?_
    refine pxU rfl (gOff 0 rfl rfl rfl (by decide)) (kA rfl) (by decide) ?_
    refine pxU rfl (gOff 0 rfl rfl rfl (by decide)) (kA rfl) (by decide) ?_
    refine pxU rfl (gOff 0 rfl rfl rfl (by decide)) (kA rfl) (by decide) ?_
    refine pxV (v := (.bool false)) (fun _ _ hF => opPickF rfl (hF.ev 0 rfl) rfl) rfl (fun _ _ => rfl) (kM [false] rfl rfl) (by decide) ?_
    refine pxV (v := (.bool false)) (fun _ _ hF => opAssign rfl (hF.ev 0 rfl)) rfl (fun _ _ => rfl) (kM [false] rfl rfl) (by decide) ?_
    refine pxEnd ?_
    refine qxThen ?_
    refine cxRet ?_
    refine qxRet1 0 rfl rfl ?_
    have he : (1 ≤ t ∧ t ≤ 63 ∧ n ≤ 20000) ↔ (False) := by
      exact ⟨fun q => by omega, False.elim⟩
    exact ⟨by rw [dc he]; rfl, HH.toBelow hH⟩

set_option maxHeartbeats 8000000 in
theorem length_c (n : Nat) (hn : n ≤ 20000) : Does Try.prog 17 #[(.int .i64 (((n) : Nat) : Int))] [] (fun _ => True) (fun v E' => OwnT cByte 5 v (lenL n) E') := by
  refine does_of (fn := Try.f17) Try.func17 rfl Try.ntmps17 (Nat.le_of_ble_eq_true rfl) rfl ?_
  intro w0 hH hR
  replace hH : HH w0 [] [] w0 := hH.only [false]
  refine cxSeq ?_
  refine cxReg ?_
  refine pxV (v := (.slice none 0 0)) (fun _ _ hF => opAssign rfl rfl) rfl (fun _ _ => rfl) (kA rfl) (by decide) ?_
  refine pxEnd ?_
  refine qxThen ?_
  refine cxSeq ?_
  refine cxBlock ?_
  refine cxSeq ?_
  refine cxReg ?_
  refine pxV (v := (.int .i64 (((n) : Nat) : Int))) (fun _ _ hF => opMove rfl (hF.ev 1 rfl)) rfl (fun _ _ => rfl) (kM [false, true] rfl rfl) (by decide) ?_
  refine pxV (v := (.bool false)) (fun _ _ hF => opLss rfl (hF.ev 0 rfl) rfl (decide_eq_false (by omega))) rfl (fun _ _ => rfl) (kM [false, true] rfl rfl) (by decide) ?_
  refine pxV (v := (.bool false)) (fun _ _ hF => opMove rfl (hF.ev 0 rfl)) rfl (fun _ _ => rfl) (kM [false, true] rfl rfl) (by decide) ?_
  refine pxV (v := (.int .i64 (((n) : Nat) : Int))) (fun _ _ hF => opMove rfl (hF.ev 1 rfl)) rfl (gOn 0 rfl rfl rfl (by decide)) (kA rfl) (by decide) ?_
  refine pxV (v := (.bool false)) (fun _ _ hF => opGtr rfl (hF.ev 0 rfl) rfl (decide_eq_false (by omega))) rfl (gOn 1 rfl rfl rfl (by decide)) (kM [false, true, true] rfl rfl) (by decide) ?_
  refine pxV (v := (.bool false)) (fun _ _ hF => opPickF rfl (hF.ev 1 rfl) (hF.ev 0 rfl)) rfl (fun _ _ => rfl) (kM [false, false, true] rfl rfl) (by decide) ?_
  refine pxV (v := (.bool false)) (fun _ _ hF => opAssign rfl (hF.ev 0 rfl)) rfl (fun _ _ => rfl) (kM [false, true] rfl rfl) (by decide) ?_
  refine pxEnd ?_
  refine qxThen ?_
  refine cxF 0 rfl rfl ?_
  refine cxSeq ?_
  refine cxReg ?_
  refine pxV (v := (.int .i64 (((n) : Nat) : Int))) (fun _ _ hF => opMove rfl (hF.ev 1 rfl)) rfl (fun _ _ => rfl) (kM [false, true] rfl rfl) (by decide) ?_
  refine pxV (v := (.bool (decide (n < 192)))) (fun _ _ hF => opLss rfl (hF.ev 0 rfl) rfl (dc (by omega))) rfl (fun _ _ => rfl) (kM [false, true] rfl rfl) (by decide) ?_
  refine pxV (v := (.bool (decide (n < 192)))) (fun _ _ hF => opAssign rfl (hF.ev 0 rfl)) rfl (fun _ _ => rfl) (kM [false, true] rfl rfl) (by decide) ?_
  refine pxEnd ?_
  refine qxThen ?_
  refine cxP 0 rfl rfl (fun hc1 => ?_) (fun hc1 => ?_)
  · refine cxSeq ?_
    refine cxReg ?_
    refine pxV (v := (.int .i64 (((n) : Nat) : Int))) (fun _ _ hF => opMove rfl (hF.ev 1 rfl)) rfl (fun _ _ => rfl) (kM [false, false] rfl rfl) (by decide) ?_
    refine pxV (v := (.int .u8 ((((UInt8.ofNat n).toNat) : Nat) : Int))) (fun _ _ hF => opConvU (k' := .u8) rfl rfl (by kernel_rfl) (by kernel_rfl) (hF.ev 0 rfl) (UInt8.toNat_ofNat' (n := n)).symm) rfl (fun _ _ => rfl) (kM [false] rfl rfl) (by decide) ?_
    refine pxM hH (fun _ hF => smLit1 (e := 5) (sz := 1) (z := (.int .u8 0)) (by_ := 1) (cs := cByte.enc (UInt8.ofNat n)) rfl (by kernel_rfl) (by kernel_rfl) (hF.ev 0 rfl) (cByte.len (UInt8.ofNat n)) (ltb rfl) (leb rfl) rfl) trivial rfl (fun _ _ => rfl) (kM [false] rfl rfl) (by decide) ?_
    clear hH
    rintro _ _ w ⟨g2, rfl, rfl⟩ hH
    replace hH : HH w0 [] [[bl g2 5 (cByte.enc (UInt8.ofNat n))]] w := hH
    refine pxV (v := (.slice (some ⟨g2, 0, none⟩) 1 1)) (fun _ _ hF => opAssign rfl (hF.ev 0 rfl)) rfl (fun _ _ => rfl) (kM [false] rfl rfl) (by decide) ?_
    refine pxEnd ?_
    refine qxThen ?_
    refine cxRet ?_
    refine qxInR ?_
    refine qxThenR ?_
    refine qxRet1 0 rfl rfl ?_
    have he : [(UInt8.ofNat n)] = lenL n := by unfold lenL; rw [if_pos (by omega)]
    exact ⟨_, _, rfl, he ▸ ((Bk.lit1 (C := cByte) (UInt8.ofNat n)).own 5 g2 rfl), hH.out1 [true] rfl⟩
  · refine cxSeq ?_
    refine cxReg ?_
    refine pxV (v := (.int .i64 (((n) : Nat) : Int))) (fun _ _ hF => opMove rfl (hF.ev 1 rfl)) rfl (fun _ _ => rfl) (kM [false, true] rfl rfl) (by decide) ?_
    refine pxV (v := (.bool (decide (n ≤ 8383)))) (fun _ _ hF => opLeq rfl (hF.ev 0 rfl) rfl (dc (by omega))) rfl (fun _ _ => rfl) (kM [false, true] rfl rfl) (by decide) ?_
    refine pxV (v := (.bool (decide (n ≤ 8383)))) (fun _ _ hF => opAssign rfl (hF.ev 0 rfl)) rfl (fun _ _ => rfl) (kM [false, true] rfl rfl) (by decide) ?_
    refine pxEnd ?_
    refine qxThen ?_
    refine cxP 0 rfl rfl (fun hc3 => ?_) (fun hc3 => ?_)
    · refine cxSeq ?_
      refine cxReg ?_
      refine pxV (v := (.int .i64 (((n) : Nat) : Int))) (fun _ _ hF => opMove rfl (hF.ev 1 rfl)) rfl (fun _ _ => rfl) (kM [false, false] rfl rfl) (by decide) ?_
      refine pxV (v := (.int .i64 (((n - 192) : Nat) : Int))) (fun _ _ hF => opSub rfl (hF.ev 0 rfl) rfl (wI (by omega) (by omega) (by omega))) rfl (fun _ _ => rfl) (kM [false] rfl rfl) (by decide) ?_
      refine pxV (v := (.int .i64 (((n - 192) : Nat) : Int))) (fun _ _ hF => opAssign rfl (hF.ev 0 rfl)) rfl (fun _ _ => rfl) (kM [false] rfl rfl) (by decide) ?_
      refine pxEnd ?_
      refine qxThen ?_
      refine cxSeq ?_
      refine cxReg ?_
      refine pxV (v := (.int .i64 (((n - 192) : Nat) : Int))) (fun _ _ hF => opMove rfl (hF.ev 0 rfl)) rfl (fun _ _ => rfl) (kA rfl) (by decide) ?_
      refine pxV (v := (.int .i64 ((((n - 192) / 2 ^ 8) : Nat) : Int))) (fun _ _ hF => opShrU (n := 8) (z := ((n - 192) / 2 ^ 8)) rfl (hF.ev 0 rfl) rfl (leb rfl) (rfl)) rfl (fun _ _ => rfl) (kM [false, true] rfl rfl) (by decide) ?_
      refine pxV (v := (.int .u8 ((((UInt8.ofNat ((n - 192) / 2 ^ 8)).toNat) : Nat) : Int))) (fun _ _ hF => opConvU (k' := .u8) rfl rfl (by kernel_rfl) (by kernel_rfl) (hF.ev 0 rfl) (UInt8.toNat_ofNat' (n := (n - 192) / 2 ^ 8)).symm) rfl (fun _ _ => rfl) (kM [false, true] rfl rfl) (by decide) ?_
      refine pxV (v := (.int .u8 ((((UInt8.ofNat ((n - 192) / 256 + 192)).toNat) : Nat) : Int))) (fun _ _ hF => opAddU (m := 192) (j := (UInt8.ofNat ((n - 192) / 2 ^ 8)).toNat) (z := ((UInt8.ofNat ((n - 192) / 256 + 192)).toNat)) rfl rfl rfl (hF.ev 0 rfl) (by rw [ofNat_toNat (by omega), ofNat_toNat (by omega)]; show (192 + (n - 192) / 2 ^ 8) % 256 = _; omega)) rfl (fun _ _ => rfl) (kM [false, true] rfl rfl) (by decide) ?_
      refine pxV (v := (.int .i64 (((n - 192) : Nat) : Int))) (fun _ _ hF => opMove rfl (hF.ev 1 rfl)) rfl (fun _ _ => rfl) (kM [true, false] rfl rfl) (by decide) ?_
      refine pxV (v := (.int .u8 ((((UInt8.ofNat (n - 192)).toNat) : Nat) : Int))) (fun _ _ hF => opConvU (k' := .u8) rfl rfl (by kernel_rfl) (by kernel_rfl) (hF.ev 0 rfl) (UInt8.toNat_ofNat' (n := n - 192)).symm) rfl (fun _ _ => rfl) (kM [false, true] rfl rfl) (by decide) ?_
      refine pxM hH (fun _ hF => smLits (C := cByte) (e := 5) (z := (.int .u8 0)) (by_ := 1) [(UInt8.ofNat ((n - 192) / 256 + 192)), (UInt8.ofNat (n - 192))] rfl (by kernel_rfl) (by kernel_rfl) (EvP.cons (v := cByte.val (UInt8.ofNat ((n - 192) / 256 + 192))) (hF.ev 1 rfl) (EvP.cons (v := cByte.val (UInt8.ofNat (n - 192))) (hF.ev 0 rfl) EvP.nil)) rfl (ltb rfl) (leb rfl) rfl) trivial rfl (fun _ _ => rfl) (kM [false, false] rfl rfl) (by decide) ?_
      clear hH
      rintro _ _ w ⟨g4, rfl, rfl⟩ hH
      replace hH : HH w0 [] [[bl g4 5 (flat cByte [(UInt8.ofNat ((n - 192) / 256 + 192)), (UInt8.ofNat (n - 192))]).toArray]] w := hH
      refine pxV (v := (.slice (some ⟨g4, 0, none⟩) 2 2)) (fun _ _ hF => opAssign rfl (hF.ev 0 rfl)) rfl (fun _ _ => rfl) (kM [false] rfl rfl) (by decide) ?_
      refine pxEnd ?_
      refine qxThen ?_
      refine cxRet ?_
      refine qxInR ?_
      refine qxThenR ?_
      refine qxRet1 0 rfl rfl ?_
      have he : [(UInt8.ofNat ((n - 192) / 256 + 192)), (UInt8.ofNat (n - 192))] = lenL n := by rw [lenL_two (by omega) (by omega), ← byte_mod (n - 192)]
      exact ⟨_, _, rfl, he ▸ ((Bk.lits (C := cByte) [(UInt8.ofNat ((n - 192) / 256 + 192)), (UInt8.ofNat (n - 192))] (by show 2 ≤ _; unfold maxLen; decide)).own 5 g4 rfl), hH.out1 [true] rfl⟩
    · refine cxSkip ?_
      refine qxInN ?_
      refine qxThen ?_
      refine cxSeq ?_
      refine cxReg ?_
      refine pxV (v := (.int .i64 (((n) : Nat) : Int))) (fun _ _ hF => opMove rfl (hF.ev 1 rfl)) rfl (fun _ _ => rfl) (kM [false, true] rfl rfl) (by decide) ?_
      refine pxV (v := (.int .i64 (((n / 2 ^ 24) : Nat) : Int))) (fun _ _ hF => opShrU (n := 24) (z := (n / 2 ^ 24)) rfl (hF.ev 0 rfl) rfl (leb rfl) (rfl)) rfl (fun _ _ => rfl) (kM [false, true] rfl rfl) (by decide) ?_
      refine pxV (v := (.int .u8 ((((UInt8.ofNat (n / 2 ^ 24)).toNat) : Nat) : Int))) (fun _ _ hF => opConvU (k' := .u8) rfl rfl (by kernel_rfl) (by kernel_rfl) (hF.ev 0 rfl) (UInt8.toNat_ofNat' (n := n / 2 ^ 24)).symm) rfl (fun _ _ => rfl) (kM [false, true] rfl rfl) (by decide) ?_
      refine pxV (v := (.int .i64 (((n) : Nat) : Int))) (fun _ _ hF => opMove rfl (hF.ev 1 rfl)) rfl (fun _ _ => rfl) (kA rfl) (by decide) ?_
      refine pxV (v := (.int .i64 (((n / 2 ^ 16) : Nat) : Int))) (fun _ _ hF => opShrU (n := 16) (z := (n / 2 ^ 16)) rfl (hF.ev 0 rfl) rfl (leb rfl) (rfl)) rfl (fun _ _ => rfl) (kM [false, true, true] rfl rfl) (by decide) ?_
      refine pxV (v := (.int .u8 ((((UInt8.ofNat (n / 2 ^ 16)).toNat) : Nat) : Int))) (fun _ _ hF => opConvU (k' := .u8) rfl rfl (by kernel_rfl) (by kernel_rfl) (hF.ev 0 rfl) (UInt8.toNat_ofNat' (n := n / 2 ^ 16)).symm) rfl (fun _ _ => rfl) (kM [false, true, true] rfl rfl) (by decide) ?_
      refine pxV (v := (.int .i64 (((n) : Nat) : Int))) (fun _ _ hF => opMove rfl (hF.ev 2 rfl)) rfl (fun _ _ => rfl) (kA rfl) (by decide) ?_
      refine pxV (v := (.int .i64 (((n / 2 ^ 8) : Nat) : Int))) (fun _ _ hF => opShrU (n := 8) (z := (n / 2 ^ 8)) rfl (hF.ev 0 rfl) rfl (leb rfl) (rfl)) rfl (fun _ _ => rfl) (kM [false, true, true, true] rfl rfl) (by decide) ?_
      refine pxV (v := (.int .u8 ((((UInt8.ofNat (n / 2 ^ 8)).toNat) : Nat) : Int))) (fun _ _ hF => opConvU (k' := .u8) rfl rfl (by kernel_rfl) (by kernel_rfl) (hF.ev 0 rfl) (UInt8.toNat_ofNat' (n := n / 2 ^ 8)).symm) rfl (fun _ _ => rfl) (kM [false, true, true, true] rfl rfl) (by decide) ?_
      refine pxV (v := (.int .i64 (((n) : Nat) : Int))) (fun _ _ hF => opMove rfl (hF.ev 3 rfl)) rfl (fun _ _ => rfl) (kM [true, true, true, false] rfl rfl) (by decide) ?_
      refine pxV (v := (.int .u8 ((((UInt8.ofNat n).toNat) : Nat) : Int))) (fun _ _ hF => opConvU (k' := .u8) rfl rfl (by kernel_rfl) (by kernel_rfl) (hF.ev 0 rfl) (UInt8.toNat_ofNat' (n := n)).symm) rfl (fun _ _ => rfl) (kM [false, true, true, true] rfl rfl) (by decide) ?_
      refine pxM hH (fun _ hF => smLits (C := cByte) (e := 5) (z := (.int .u8 0)) (by_ := 1) [255, (UInt8.ofNat (n / 2 ^ 24)), (UInt8.ofNat (n / 2 ^ 16)), (UInt8.ofNat (n / 2 ^ 8)), (UInt8.ofNat n)] rfl (by kernel_rfl) (by kernel_rfl) (EvP.cons (v := cByte.val 255) rfl (EvP.cons (v := cByte.val (UInt8.ofNat (n / 2 ^ 24))) (hF.ev 3 rfl) (EvP.cons (v := cByte.val (UInt8.ofNat (n / 2 ^ 16))) (hF.ev 2 rfl) (EvP.cons (v := cByte.val (UInt8.ofNat (n / 2 ^ 8))) (hF.ev 1 rfl) (EvP.cons (v := cByte.val (UInt8.ofNat n)) (hF.ev 0 rfl) EvP.nil))))) rfl (ltb rfl) (leb rfl) rfl) trivial rfl (fun _ _ => rfl) (kM [false, false, false, false] rfl rfl) (by decide) ?_
      clear hH
      rintro _ _ w ⟨g5, rfl, rfl⟩ hH
      replace hH : HH w0 [] [[bl g5 5 (flat cByte [255, (UInt8.ofNat (n / 2 ^ 24)), (UInt8.ofNat (n / 2 ^ 16)), (UInt8.ofNat (n / 2 ^ 8)), (UInt8.ofNat n)]).toArray]] w := hH
      refine pxV (v := (.slice (some ⟨g5, 0, none⟩) 5 5)) (fun _ _ hF => opAssign rfl (hF.ev 0 rfl)) rfl (fun _ _ => rfl) (kM [false] rfl rfl) (by decide) ?_
      refine pxEnd ?_
      refine qxThen ?_
      refine cxRet ?_
      refine qxRet1 0 rfl rfl ?_
      have he : [255, (UInt8.ofNat (n / 2 ^ 24)), (UInt8.ofNat (n / 2 ^ 16)), (UInt8.ofNat (n / 2 ^ 8)), (UInt8.ofNat n)] = lenL n := by rw [lenL_five (by omega) (by omega)]; exact beL_four n
      exact ⟨_, _, rfl, he ▸ ((Bk.lits (C := cByte) [255, (UInt8.ofNat (n / 2 ^ 24)), (UInt8.ofNat (n / 2 ^ 16)), (UInt8.ofNat (n / 2 ^ 8)), (UInt8.ofNat n)] (by show 5 ≤ _; unfold maxLen; decide)).own 5 g5 rfl), hH.out1 [true] rfl⟩

set_option maxHeartbeats 8000000 in
theorem length_n (n : Int) (hn : n < 0 ∨ 20000 < n) : Pure Try.prog 17 #[(.int .i64 (n))] (fun _ => True) (.slice none 0 0) := by
  refine pure_of (fn := Try.f17) Try.func17 rfl Try.ntmps17 (Nat.le_of_ble_eq_true rfl) rfl ?_
  intro w0 hH hR
  refine cxSeq ?_
  refine cxReg ?_
  refine pxV (v := (.slice none 0 0)) (fun _ _ hF => opAssign rfl rfl) rfl (fun _ _ => rfl) (kA rfl) (by decide) ?_
  refine pxEnd ?_
  refine qxThen ?_
  refine cxSeq ?_
  refine cxBlock ?_
  refine cxSeq ?_
  refine cxReg ?_
  refine pxV (v := (.int .i64 (n))) (fun _ _ hF => opMove rfl (hF.ev 1 rfl)) rfl (fun _ _ => rfl) (kM [false, true] rfl rfl) (by decide) ?_
  refine pxV (v := (.bool (decide ((n) < 0)))) (fun _ _ hF => opLss rfl (hF.ev 0 rfl) rfl rfl) rfl (fun _ _ => rfl) (kM [false, true] rfl rfl) (by decide) ?_
  refine pxV (v := (.bool (decide ((n) < 0)))) (fun _ _ hF => opMove rfl (hF.ev 0 rfl)) rfl (fun _ _ => rfl) (kM [false, true] rfl rfl) (by decide) ?_
  refine pxSplitP 0 rfl (l1 := [(6, (.bool true)), (0, (.int .i64 (n)))]) (l2 := [(6, (.bool false)), (0, (.int .i64 (n)))]) rfl rfl (fun hg1 => ?_) (fun hg1 => ?_)
  · refine pxU rfl (gOff 0 rfl rfl rfl (by decide)) (kA rfl) (by decide) ?_
    refine pxU rfl (gOff 0 rfl rfl rfl (by decide)) (kA rfl) (by decide) ?_
    refine pxV (v := (.bool true)) (fun _ _ hF => opPickT rfl (hF.ev 0 rfl) rfl) rfl (fun _ _ => rfl) (kM [false, true] rfl rfl) (by decide) ?_
    refine pxV (v := (.bool true)) (fun _ _ hF => opAssign rfl (hF.ev 0 rfl)) rfl (fun _ _ => rfl) (kM [false, true] rfl rfl) (by decide) ?_
    refine pxEnd ?_
    refine qxThen ?_
    refine cxT 0 rfl rfl ?_
    refine cxSeq ?_
    refine cxReg ?_
    refine pxV (v := (.slice none 0 0)) (fun _ _ hF => opAssign rfl rfl) rfl (fun _ _ => rfl) (kM [false, false] rfl rfl) (by decide) ?_
    refine pxEnd ?_
    refine qxThen ?_
    refine cxRet ?_
    refine qxInR ?_
    refine qxThenR ?_
    refine qxRet1 0 rfl rfl ?_
    exact ⟨rfl, HH.toBelow hH⟩
  · refine pxV (v := (.int .i64 (n))) (fun _ _ hF => opMove rfl (hF.ev 1 rfl)) rfl (gOn 0 rfl rfl rfl (by decide)) (kA rfl) (by decide) ?_
    refine pxV (v := (.bool true)) (fun _ _ hF => opGtr rfl (hF.ev 0 rfl) rfl (decide_eq_true (by omega))) rfl (gOn 1 rfl rfl rfl (by decide)) (kM [false, true, true] rfl rfl) (by decide) ?_
    refine pxV (v := (.bool true)) (fun _ _ hF => opPickF rfl (hF.ev 1 rfl) (hF.ev 0 rfl)) rfl (fun _ _ => rfl) (kM [false, false, true] rfl rfl) (by decide) ?_
    refine pxV (v := (.bool true)) (fun _ _ hF => opAssign rfl (hF.ev 0 rfl)) rfl (fun _ _ => rfl) (kM [false, true] rfl rfl) (by decide) ?_
    refine pxEnd ?_
    refine qxThen ?_
    refine cxT 0 rfl rfl ?_
    refine cxSeq ?_
    refine cxReg ?_
    refine pxV (v := (.slice none 0 0)) (fun _ _ hF => opAssign rfl rfl) rfl (fun _ _ => rfl) (kM [false, false] rfl rfl) (by decide) ?_
    refine pxEnd ?_
    refine qxThen ?_
    refine cxRet ?_
    refine qxInR ?_
    refine qxThenR ?_
    refine qxRet1 0 rfl rfl ?_
    exact ⟨rfl, HH.toBelow hH⟩

set_option maxHeartbeats 8000000 in
theorem length_r (n : Nat) (hn : n ≤ 20000) : Does Try.prog 18 #[(.int .i64 (((n) : Nat) : Int))] [] (fun _ => True) (fun v E' => OwnT cByte 5 v (lenL n) E') := by
  refine does_of (fn := Try.f18) Try.func18 rfl Try.ntmps18 (Nat.le_of_ble_eq_true rfl) rfl ?_
  intro w0 hH hR
  replace hH : HH w0 [] [] w0 := hH.only [false]
  refine cxSeq ?_
  refine cxReg ?_
  refine pxV (v := (.slice none 0 0)) (fun _ _ hF => opAssign rfl rfl) rfl (fun _ _ => rfl) (kA rfl) (by decide) ?_
  refine pxEnd ?_
  refine qxThen ?_
  refine cxSeq ?_
  refine cxBlock ?_
  refine cxSeq ?_
  refine cxReg ?_
  refine pxV (v := (.int .i64 (((n) : Nat) : Int))) (fun _ _ hF => opMove rfl (hF.ev 1 rfl)) rfl (fun _ _ => rfl) (kM [false, true] rfl rfl) (by decide) ?_
  refine pxV (v := (.bool false)) (fun _ _ hF => opLss rfl (hF.ev 0 rfl) rfl (decide_eq_false (by omega))) rfl (fun _ _ => rfl) (kM [false, true] rfl rfl) (by decide) ?_
  refine pxV (v := (.bool false)) (fun _ _ hF => opMove rfl (hF.ev 0 rfl)) rfl (fun _ _ => rfl) (kM [false, true] rfl rfl) (by decide) ?_
  refine pxV (v := (.int .i64 (((n) : Nat) : Int))) (fun _ _ hF => opMove rfl (hF.ev 1 rfl)) rfl (gOn 0 rfl rfl rfl (by decide)) (kA rfl) (by decide) ?_
  refine pxV (v := (.bool false)) (fun _ _ hF => opGtr rfl (hF.ev 0 rfl) rfl (decide_eq_false (by omega))) rfl (gOn 1 rfl rfl rfl (by decide)) (kM [false, true, true] rfl rfl) (by decide) ?_
  refine pxV (v := (.bool false)) (fun _ _ hF => opPickF rfl (hF.ev 1 rfl) (hF.ev 0 rfl)) rfl (fun _ _ => rfl) (kM [false, false, true] rfl rfl) (by decide) ?_
  refine pxV (v := (.bool false)) (fun _ _ hF => opAssign rfl (hF.ev 0 rfl)) rfl (fun _ _ => rfl) (kM [false, true] rfl rfl) (by decide) ?_
  refine pxEnd ?_
  refine qxThen ?_
  refine cxF 0 rfl rfl ?_
  refine cxSeq ?_
  refine cxReg ?_
  refine pxV (v := (.int .i64 (((n) : Nat) : Int))) (fun _ _ hF => opMove rfl (hF.ev 1 rfl)) rfl (fun _ _ => rfl) (kM [false, true] rfl rfl) (by decide) ?_
  refine pxV (v := (.bool (decide (n < 192)))) (fun _ _ hF => opLss rfl (hF.ev 0 rfl) rfl (dc (by omega))) rfl (fun _ _ => rfl) (kM [false, true] rfl rfl) (by decide) ?_
  refine pxV (v := (.bool (decide (n < 192)))) (fun _ _ hF => opAssign rfl (hF.ev 0 rfl)) rfl (fun _ _ => rfl) (kM [false, true] rfl rfl) (by decide) ?_
  refine pxEnd ?_
  refine qxThen ?_
  refine cxP 0 rfl rfl (fun hc1 => ?_) (fun hc1 => ?_)
  · refine cxSeq ?_
    refine cxReg ?_
    refine pxV (v := (.int .i64 (((n) : Nat) : Int))) (fun _ _ hF => opMove rfl (hF.ev 1 rfl)) rfl (fun _ _ => rfl) (kM [false, false] rfl rfl) (by decide) ?_
    refine pxV (v := (.int .u8 ((((UInt8.ofNat n).toNat) : Nat) : Int))) (fun _ _ hF => opConvU (k' := .u8) rfl rfl (by kernel_rfl) (by kernel_rfl) (hF.ev 0 rfl) (UInt8.toNat_ofNat' (n := n)).symm) rfl (fun _ _ => rfl) (kM [false] rfl rfl) (by decide) ?_
    refine pxM hH (fun _ hF => smLit1 (e := 5) (sz := 1) (z := (.int .u8 0)) (by_ := 1) (cs := cByte.enc (UInt8.ofNat n)) rfl (by kernel_rfl) (by kernel_rfl) (hF.ev 0 rfl) (cByte.len (UInt8.ofNat n)) (ltb rfl) (leb rfl) rfl) trivial rfl (fun _ _ => rfl) (kM [false] rfl rfl) (by decide) ?_
    clear hH
    rintro _ _ w ⟨g2, rfl, rfl⟩ hH
    replace hH : HH w0 [] [[bl g2 5 (cByte.enc (UInt8.ofNat n))]] w := hH
    refine pxV (v := (.slice (some ⟨g2, 0, none⟩) 1 1)) (fun _ _ hF => opAssign rfl (hF.ev 0 rfl)) rfl (fun _ _ => rfl) (kM [false] rfl rfl) (by decide) ?_
    refine pxEnd ?_
    refine qxThen ?_
    refine cxRet ?_
    refine qxInR ?_
    refine qxThenR ?_
    refine qxRet1 0 rfl rfl ?_
    have he : [(UInt8.ofNat n)] = lenL n := by unfold lenL; rw [if_pos (by omega)]
    exact ⟨_, _, rfl, he ▸ ((Bk.lit1 (C := cByte) (UInt8.ofNat n)).own 5 g2 rfl), hH.out1 [true] rfl⟩
  · refine cxSeq ?_
    refine cxReg ?_
    refine pxV (v := (.int .i64 (((n) : Nat) : Int))) (fun _ _ hF => opMove rfl (hF.ev 1 rfl)) rfl (fun _ _ => rfl) (kM [false, true] rfl rfl) (by decide) ?_
    refine pxV (v := (.bool (decide (n < 8384)))) (fun _ _ hF => opLss rfl (hF.ev 0 rfl) rfl (dc (by omega))) rfl (fun _ _ => rfl) (kM [false, true] rfl rfl) (by decide) ?_
    refine pxV (v := (.bool (decide (n < 8384)))) (fun _ _ hF => opAssign rfl (hF.ev 0 rfl)) rfl (fun _ _ => rfl) (kM [false, true] rfl rfl) (by decide) ?_
    refine pxEnd ?_
    refine qxThen ?_
    refine cxP 0 rfl rfl (fun hc3 => ?_) (fun hc3 => ?_)
    · refine cxSeq ?_
      refine cxReg ?_
      refine pxV (v := (.int .i64 (((n) : Nat) : Int))) (fun _ _ hF => opMove rfl (hF.ev 1 rfl)) rfl (fun _ _ => rfl) (kM [false, true] rfl rfl) (by decide) ?_
      refine pxV (v := (.int .i64 (((n - 192) : Nat) : Int))) (fun _ _ hF => opSub rfl (hF.ev 0 rfl) rfl (wI (by omega) (by omega) (by omega))) rfl (fun _ _ => rfl) (kM [false, true] rfl rfl) (by decide) ?_
      refine pxV (v := (.int .i64 ((((n - 192) / 256) : Nat) : Int))) (fun _ _ hF => opQuo (z := (((n - 192) / 256 : Nat) : Int)) rfl (hF.ev 0 rfl) rfl (by omega) (wI quoN (by omega) (by omega))) rfl (fun _ _ => rfl) (kM [false, true] rfl rfl) (by decide) ?_
      refine pxV (v := (.int .i64 (((((n - 192) / 256) + 192) : Nat) : Int))) (fun _ _ hF => opAdd rfl (hF.ev 0 rfl) rfl (wI (by omega) (by omega) (by omega))) rfl (fun _ _ => rfl) (kM [false, true] rfl rfl) (by decide) ?_
      refine pxV (v := (.int .u8 ((((UInt8.ofNat (((n - 192) / 256) + 192)).toNat) : Nat) : Int))) (fun _ _ hF => opConvU (k' := .u8) rfl rfl (by kernel_rfl) (by kernel_rfl) (hF.ev 0 rfl) (UInt8.toNat_ofNat' (n := ((n - 192) / 256) + 192)).symm) rfl (fun _ _ => rfl) (kM [false, true] rfl rfl) (by decide) ?_
      refine pxV (v := (.int .i64 (((n) : Nat) : Int))) (fun _ _ hF => opMove rfl (hF.ev 1 rfl)) rfl (fun _ _ => rfl) (kM [true, false] rfl rfl) (by decide) ?_
      refine pxV (v := (.int .i64 (((n - 192) : Nat) : Int))) (fun _ _ hF => opSub rfl (hF.ev 0 rfl) rfl (wI (by omega) (by omega) (by omega))) rfl (fun _ _ => rfl) (kM [false, true] rfl rfl) (by decide) ?_
      refine pxV (v := (.int .i64 ((((n - 192) % 256) : Nat) : Int))) (fun _ _ hF => opRem (z := (((n - 192) % 256 : Nat) : Int)) rfl (hF.ev 0 rfl) rfl (by omega) remN) rfl (fun _ _ => rfl) (kM [false, true] rfl rfl) (by decide) ?_
      refine pxV (v := (.int .u8 ((((UInt8.ofNat ((n - 192) % 256)).toNat) : Nat) : Int))) (fun _ _ hF => opConvU (k' := .u8) rfl rfl (by kernel_rfl) (by kernel_rfl) (hF.ev 0 rfl) (UInt8.toNat_ofNat' (n := (n - 192) % 256)).symm) rfl (fun _ _ => rfl) (kM [false, true] rfl rfl) (by decide) ?_
      refine pxM hH (fun _ hF => smLits (C := cByte) (e := 5) (z := (.int .u8 0)) (by_ := 1) [(UInt8.ofNat (((n - 192) / 256) + 192)), (UInt8.ofNat ((n - 192) % 256))] rfl (by kernel_rfl) (by kernel_rfl) (EvP.cons (v := cByte.val (UInt8.ofNat (((n - 192) / 256) + 192))) (hF.ev 1 rfl) (EvP.cons (v := cByte.val (UInt8.ofNat ((n - 192) % 256))) (hF.ev 0 rfl) EvP.nil)) rfl (ltb rfl) (leb rfl) rfl) trivial rfl (fun _ _ => rfl) (kM [false, false] rfl rfl) (by decide) ?_
      clear hH
      rintro _ _ w ⟨g4, rfl, rfl⟩ hH
      replace hH : HH w0 [] [[bl g4 5 (flat cByte [(UInt8.ofNat (((n - 192) / 256) + 192)), (UInt8.ofNat ((n - 192) % 256))]).toArray]] w := hH
      refine pxV (v := (.slice (some ⟨g4, 0, none⟩) 2 2)) (fun _ _ hF => opAssign rfl (hF.ev 0 rfl)) rfl (fun _ _ => rfl) (kM [false] rfl rfl) (by decide) ?_
      refine pxEnd ?_
      refine qxThen ?_
      refine cxRet ?_
      refine qxInR ?_
      refine qxThenR ?_
      refine qxRet1 0 rfl rfl ?_
      have he : [(UInt8.ofNat (((n - 192) / 256) + 192)), (UInt8.ofNat ((n - 192) % 256))] = lenL n := by rw [lenL_two (by omega) (by omega)]
      exact ⟨_, _, rfl, he ▸ ((Bk.lits (C := cByte) [(UInt8.ofNat (((n - 192) / 256) + 192)), (UInt8.ofNat ((n - 192) % 256))] (by show 2 ≤ _; unfold maxLen; decide)).own 5 g4 rfl), hH.out1 [true] rfl⟩
    · refine cxSkip ?_
      refine qxInN ?_
      refine qxThen ?_
      refine cxSeq ?_
      refine cxReg ?_
      refine pxM hH (fun _ hF => smLit1 (e := 5) (sz := 1) (z := (.int .u8 0)) (by_ := 1) (cs := cByte.enc 255) rfl (by kernel_rfl) (by kernel_rfl) rfl (cByte.len 255) (ltb rfl) (leb rfl) rfl) trivial rfl (fun _ _ => rfl) (kM [false, true] rfl rfl) (by decide) ?_
      clear hH
      rintro _ _ w ⟨g5, rfl, rfl⟩ hH
      replace hH : HH w0 [] [[bl g5 5 (cByte.enc 255)]] w := hH
      refine pxV (v := (.int .i64 (((n) : Nat) : Int))) (fun _ _ hF => opMove rfl (hF.ev 1 rfl)) rfl (fun _ _ => rfl) (kM [true, false] rfl rfl) (by decide) ?_
      refine pxV (v := (.int .u64 (((n) : Nat) : Int))) (fun _ _ hF => opConvU (k' := .u64) rfl rfl (by kernel_rfl) (by kernel_rfl) (hF.ev 0 rfl) (Nat.mod_eq_of_lt (by show _ < 18446744073709551616; omega))) rfl (fun _ _ => rfl) (kM [false, true] rfl rfl) (by decide) ?_
      refine pxM hH (fun _ hF => Does.small (bytes_r n 4 (leb rfl)) (fun w => opCall rfl Try.func19 rfl rfl (Evs.cons (v := (.int .u64 (((n) : Nat) : Int))) (hF.ev 0 rfl) (Evs.cons (v := (.int .i64 4)) rfl Evs.nil)) w)) trivial rfl (fun _ _ => rfl) (kM [false, true] rfl rfl) (by decide) ?_
      clear hH
      rintro v10 E6 w hO7 hH
      replace hH : HH w0 [] [[bl g5 5 (cByte.enc 255)], E6] w := hH
      obtain ⟨A8, c9, rfl⟩ := hO7.slice
      refine pxE 0 hH rfl (fun _ hF => smAppT (C := cByte) (l := [255]) (m := (beL 4 n)) (e := 5) (z := (.int .u8 0)) (by_ := 1) rfl (by kernel_rfl) (by kernel_rfl) rfl (ltb rfl) (hF.ev 1 rfl) ((Bk.lit1 (C := cByte) 255).own 5 g5 rfl) (hF.ev 0 rfl) rfl hO7.nilA (by rw [beL_len]; unfold maxLen; decide) (by rw [beL_len]; decide)) (hO7.vuAt (hH.has 1 rfl)) rfl (fun _ _ => rfl) (kM [false, false] rfl rfl) (by decide) ?_
      clear hH
      rintro v14 E15 w ⟨hO16, _⟩ hH
      replace hH : HH w0 [] [E15, E6] w := hH
      replace hO16 : OwnT cByte 5 v14 ([255] ++ (beL 4 n)) E15 := hO16
      obtain ⟨A12, c13, rfl⟩ := hO16.slice
      refine pxV (v := (.slice A12 (([255] ++ (beL 4 n)).length) c13)) (fun _ _ hF => opAssign rfl (hF.ev 0 rfl)) rfl (fun _ _ => rfl) (kM [false] rfl rfl) (by decide) ?_
      refine pxEnd ?_
      refine qxThen ?_
      refine cxRet ?_
      refine qxRet1 0 rfl rfl ?_
      have he : ([255] ++ (beL 4 n)) = lenL n := by rw [lenL_five (by omega) (by omega)]; rfl
      exact ⟨_, _, rfl, he ▸ hO16, hH.out1 [true, false] rfl⟩

set_option maxHeartbeats 8000000 in
theorem length_rn (n : Int) (hn : n < 0 ∨ 20000 < n) : Pure Try.prog 18 #[(.int .i64 (n))] (fun _ => True) (.slice none 0 0) := by
  refine pure_of (fn := Try.f18) Try.func18 rfl Try.ntmps18 (Nat.le_of_ble_eq_true rfl) rfl ?_
  intro w0 hH hR
  refine cxSeq ?_
  refine cxReg ?_
  refine pxV (v := (.slice none 0 0)) (fun _ _ hF => opAssign rfl rfl) rfl (fun _ _ => rfl) (kA rfl) (by decide) ?_
  refine pxEnd ?_
  refine qxThen ?_
  refine cxSeq ?_
  refine cxBlock ?_
  refine cxSeq ?_
  refine cxReg ?_
  refine pxV (v := (.int .i64 (n))) (fun _ _ hF => opMove rfl (hF.ev 1 rfl)) rfl (fun _ _ => rfl) (kM [false, true] rfl rfl) (by decide) ?_
  refine pxV (v := (.bool (decide ((n) < 0)))) (fun _ _ hF => opLss rfl (hF.ev 0 rfl) rfl rfl) rfl (fun _ _ => rfl) (kM [false, true] rfl rfl) (by decide) ?_
  refine pxV (v := (.bool (decide ((n) < 0)))) (fun _ _ hF => opMove rfl (hF.ev 0 rfl)) rfl (fun _ _ => rfl) (kM [false, true] rfl rfl) (by decide) ?_
  refine pxSplitP 0 rfl (l1 := [(6, (.bool true)), (0, (.int .i64 (n)))]) (l2 := [(6, (.bool false)), (0, (.int .i64 (n)))]) rfl rfl (fun hg1 => ?_) (fun hg1 => ?_)
  · refine pxU rfl (gOff 0 rfl rfl rfl (by decide)) (kA rfl) (by decide) ?_
    refine pxU rfl (gOff 0 rfl rfl rfl (by decide)) (kA rfl) (by decide) ?_
    refine pxV (v := (.bool true)) (fun _ _ hF => opPickT rfl (hF.ev 0 rfl) rfl) rfl (fun _ _ => rfl) (kM [false, true] rfl rfl) (by decide) ?_
    refine pxV (v := (.bool true)) (fun _ _ hF => opAssign rfl (hF.ev 0 rfl)) rfl (fun _ _ => rfl) (kM [false, true] rfl rfl) (by decide) ?_
    refine pxEnd ?_
    refine qxThen ?_
    refine cxT 0 rfl rfl ?_
    refine cxSeq ?_
    refine cxReg ?_
    refine pxV (v := (.slice none 0 0)) (fun _ _ hF => opAssign rfl rfl) rfl (fun _ _ => rfl) (kM [false, false] rfl rfl) (by decide) ?_
    refine pxEnd ?_
    refine qxThen ?_
    refine cxRet ?_
    refine qxInR ?_
    refine qxThenR ?_
    refine qxRet1 0 rfl rfl ?_
    exact ⟨rfl, HH.toBelow hH⟩
  · refine pxV (v := (.int .i64 (n))) (fun _ _ hF => opMove rfl (hF.ev 1 rfl)) rfl (gOn 0 rfl rfl rfl (by decide)) (kA rfl) (by decide) ?_
    refine pxV (v := (.bool true)) (fun _ _ hF => opGtr rfl (hF.ev 0 rfl) rfl (decide_eq_true (by omega))) rfl (gOn 1 rfl rfl rfl (by decide)) (kM [false, true, true] rfl rfl) (by decide) ?_
    refine pxV (v := (.bool true)) (fun _ _ hF => opPickF rfl (hF.ev 1 rfl) (hF.ev 0 rfl)) rfl (fun _ _ => rfl) (kM [false, false, true] rfl rfl) (by decide) ?_
    refine pxV (v := (.bool true)) (fun _ _ hF => opAssign rfl (hF.ev 0 rfl)) rfl (fun _ _ => rfl) (kM [false, true] rfl rfl) (by decide) ?_
    refine pxEnd ?_
    refine qxThen ?_
    refine cxT 0 rfl rfl ?_
    refine cxSeq ?_
    refine cxReg ?_
    refine pxV (v := (.slice none 0 0)) (fun _ _ hF => opAssign rfl rfl) rfl (fun _ _ => rfl) (kM [false, false] rfl rfl) (by decide) ?_
    refine pxEnd ?_
    refine qxThen ?_
    refine cxRet ?_
    refine qxInR ?_
    refine qxThenR ?_
    refine qxRet1 0 rfl rfl ?_
    exact ⟨rfl, HH.toBelow hH⟩

theorem wr_len {D : List Pd} {L : List PkH} {i : Nat} {B : List UInt8} (hall : ∀ p ∈ D, frmP p) (hB : B = wrL (D.take i)) (hi : i ≤ L.length) (hlen : L.length ≤ 4294967296) : B.length ≤ 85925115723776 := by
  have h1 := wrL_le (D.take i) (fun p hp => hall p (List.mem_of_mem_take hp))
  have h2 : (D.take i).length ≤ i := by rw [List.length_take]; omega
  have h3 := Nat.mul_le_mul_right 20006 h2
  rw [hB]; omega

set_option maxHeartbeats 8000000 in
theorem write_c (L : List PkH) (D : List Pd) (A : Option Addr) (c : Nat) (hlen : L.length ≤ 4294967296) : Does Try.prog 10 #[(.slice A L.length c)] [] (fun w => Vu cPk w A L.length c L ∧ Beh w L D) (fun v E' => ∃ s, v = .tuple #[s, .int .i64 ((wrt D).1 : Int)] ∧ OwnT cByte 5 s (wrt D).2 E') := by
  refine does_of (fn := Try.f10) Try.func10 rfl Try.ntmps10 (Nat.le_of_ble_eq_true rfl) rfl ?_
  intro w0 hH hR
  replace hH : HH w0 [] [] w0 := hH.only [false]
  refine cxSeq ?_
  refine cxReg ?_
  refine pxV (v := (.slice none 0 0)) (fun _ _ hF => opAssign rfl rfl) rfl (fun _ _ => rfl) (kA rfl) (by decide) ?_
  refine pxV (v := (.int .i64 0)) (fun _ _ hF => opAssign rfl rfl) rfl (fun _ _ => rfl) (kM [false, true] rfl rfl) (by decide) ?_
  refine pxEnd ?_
  refine qxThen ?_
  refine cxSeq ?_
  refine cxSeq ?_
  refine cxReg ?_
  refine pxV (v := (.slice A L.length c)) (fun _ _ hF => opMove rfl (hF.ev 1 rfl)) rfl (fun _ _ => rfl) (kM [false, true] rfl rfl) (by decide) ?_
  refine pxV (v := (.int .i64 (((L.length) : Nat) : Int))) (fun _ _ hF => opLen (e := 31) rfl (by kernel_rfl) (hF.ev 0 rfl)) rfl (fun _ _ => rfl) (kA rfl) (by decide) ?_
  refine pxV (v := (.int .i64 0)) (fun _ _ hF => opMove rfl rfl) rfl (fun _ _ => rfl) (kA rfl) (by decide) ?_
  refine pxEnd ?_
  refine qxThen ?_
  refine cxBlock ?_
  refine cxLoop (σ := Nat) (fun x => [(11, (.int .i64 (((x) : Nat) : Int))), (10, (.int .i64 (((L.length) : Nat) : Int))), (9, (.slice A L.length c)), (0, (.slice A L.length c))]) (fun x w => HH w0 [] [] w ∧ (x ≤ L.length) ∧ (∀ p ∈ D.take x, frmP p)) (fun x => L.length - x) 0 ⟨hH, (Nat.zero_le _), (fun p hp => by simp at hp)⟩ (slots_at [0, 1, 2, 3] rfl) ?_
  clear hH
  rintro i w ⟨hH, hi, hf⟩
  change CX _ _ _ _ [(11, (.int .i64 (((i) : Nat) : Int))), (10, (.int .i64 (((L.length) : Nat) : Int))), (9, (.slice A L.length c)), (0, (.slice A L.length c))] _
  replace hH : HH w0 [] [] w := hH
  replace hi : i ≤ L.length := hi
  replace hf : ∀ p ∈ D.take i, frmP p := hf
  refine cxSeq ?_
  refine cxReg ?_
  refine pxV (v := (.bool (decide (i < L.length)))) (fun _ _ hF => opLss rfl (hF.ev 0 rfl) (hF.ev 1 rfl) (dc (by omega))) rfl (fun _ _ => rfl) (kA rfl) (by decide) ?_
  refine pxEnd ?_
  refine qxThen ?_
  refine cxSeq ?_
  refine cxP 0 rfl rfl (fun hc1 => ?_) (fun hc1 => ?_)
  · refine cxSkip ?_
    refine qxThen ?_
    refine cxSeq ?_
    refine cxBlock ?_
    refine cxSeq ?_
    obtain ⟨⟨t0, A0, n0, c0⟩, hx0⟩ := get_at L i (by omega)
    obtain ⟨b0, hd0, hn0, hb0⟩ := hR.2.at' _ _ hx0
    replace hd0 : D[i]? = some (t0, b0) := hd0
    obtain rfl : n0 = b0.length := hn0
    replace hb0 : Vu cByte w0 A0 b0.length c0 b0 := hb0
    have := hb0.cap
    refine cxReg ?_
    have hi2 : i < L.length := by omega
    obtain ⟨b3, off4, rfl, hL5, hb6, hR7⟩ := hR.1.blk (by decide) (Off.nil _ _) (by omega)
    have := hR.1.cap
    have hj10 : i < L.length := by first | exact hi2 | (simp only [List.length_drop, List.length_take]; omega) | omega
    refine pxV (v := (.pointer (some ⟨b3, off4 + i * 2, none⟩))) (fun _ _ hF => opIndex (i := i) (e := 31) (sz := 2) rfl (by kernel_rfl) (by kernel_rfl) (hF.ev 3 rfl) (hF.ev 1 rfl) rfl hi2) rfl (fun _ _ => rfl) (kM [false, true, true, true, true] rfl rfl) (by decide) ?_
    refine pxS (v := (cPk.val (t0, A0, b0.length, c0))) (fun w => HoldsL cPk w b3 off4 L) (hH.holdsL hL5 hb6 hR7) (fun _ _ hF hS => opLoadT (C := cPk) (y := (t0, A0, b0.length, c0)) rfl (hF.ev 0 rfl) (by kernel_rfl) (hS i _ hx0) rfl) rfl (fun _ _ => rfl) (kM [false, true, true, true, true] rfl rfl) (by decide) ?_
    refine pxM hH (fun _ hF => smAlloc (cs := cPk.enc (0, none, 0, 0)) (z := (cPk.val (0, none, 0, 0))) rfl (by kernel_rfl) rfl) trivial rfl (fun _ _ => rfl) (kA rfl) (by decide) ?_
    clear hH
    rintro _ _ w ⟨g11, rfl, rfl⟩ hH
    replace hH : HH w0 [] [[bl g11 31 (cPk.enc (0, none, 0, 0))]] w := hH
    refine pxE0 0 hH rfl (fun _ hF => smStoreT (C := cPk) (z := (t0, A0, b0.length, c0)) rfl (hF.ev 0 rfl) (hF.ev 1 rfl) rfl (by kernel_rfl) (by rw [Cod.size]; exact Nat.le_refl _) (put_whole cPk _ _)) trivial rfl (fun _ _ => rfl) ?_
    clear hH
    rintro _ _ w rfl hH
    replace hH : HH w0 [] [[bl g11 31 (cPk.enc (t0, A0, b0.length, c0))]] w := hH
    refine pxEnd ?_
    refine qxThen ?_
    refine cxSeq ?_
    refine cxReg ?_
    refine pxS (v := (cPk.val (t0, A0, b0.length, c0))) (fun w => w.heap[g11]? = some (.cells (cPk.enc (t0, A0, b0.length, c0)) 31 (0, 0))) (hH.blk 0 rfl) (fun _ _ hF hS => opLoadT (C := cPk) (y := (t0, A0, b0.length, c0)) rfl (hF.ev 0 rfl) (by kernel_rfl) (holds_blk0 hS) rfl) rfl (fun _ _ => rfl) (kM [false, false, true, true, true, true] rfl rfl) (by decide) ?_
    refine pxM hH (fun _ hF => Does.small ((formed_c t0 A0 b0.length c0).does) (fun w => opCall rfl Try.func12 rfl rfl (Evs.cons (v := (cPk.val (t0, A0, b0.length, c0))) (hF.ev 0 rfl) Evs.nil) w)) trivial rfl (fun _ _ => rfl) (kM [false, true, true, true, true] rfl rfl) (by decide) ?_
    clear hH
    rintro _ _ w ⟨rfl, rfl⟩ hH
    replace hH : HH w0 [] [[bl g11 31 (cPk.enc (t0, A0, b0.length, c0))]] w := hH.unpad
    refine pxV (v := (.bool (decide (¬ (1 ≤ t0 ∧ t0 ≤ 63 ∧ b0.length ≤ 20000))))) (fun _ _ hF => opNot rfl (hF.ev 0 rfl) decide_not.symm) rfl (fun _ _ => rfl) (kM [false, true, true, true, true] rfl rfl) (by decide) ?_
    refine pxEnd ?_
    refine qxThen ?_
    refine cxP 0 rfl rfl (fun hc12 => ?_) (fun hc12 => ?_)
    · refine cxSeq ?_
      refine cxReg ?_
      refine pxV (v := (.slice none 0 0)) (fun _ _ hF => opAssign rfl rfl) rfl (fun _ _ => rfl) (kM [false, false, false, false, false] rfl rfl) (by decide) ?_
      refine pxV (v := (.int .i64 1)) (fun _ _ hF => opAssign rfl rfl) rfl (fun _ _ => rfl) (kA rfl) (by decide) ?_
      refine pxEnd ?_
      refine qxThen ?_
      refine cxRet ?_
      refine qxInR ?_
      refine qxThenR ?_
      refine qxThenR ?_
      refine qxInR ?_
      refine qxThenR ?_
      refine qxRet2 1 0 rfl rfl rfl ?_
      have he := wrt_no hd0 (fun q => by have h1 : 1 ≤ t0 ∧ t0 ≤ 63 ∧ b0.length ≤ 20000 := q; exact hc12 h1)
      exact ⟨_, [], rfl, ⟨.slice none 0 0, (by rw [he]; first | done | rfl), by rw [he]; exact OwnT.nil _ _⟩, HH.out1 (HH.pad hH 1) [false, true] rfl⟩
    · have hf0 : frmP (t0, b0) := Decidable.of_not_not hc12
      refine cxSkip ?_
      refine qxInN ?_
      refine qxThen ?_
      refine cxReg ?_
      refine pxV (v := (.int .i64 (((i + 1) : Nat) : Int))) (fun _ _ hF => opAdd rfl (hF.ev 1 rfl) rfl (wI (by omega) (by omega) (by omega))) rfl (fun _ _ => rfl) (kM [false, false, true, true, true] rfl rfl) (by decide) ?_
      refine pxV (v := (.int .i64 (((i + 1) : Nat) : Int))) (fun _ _ hF => opMove rfl (hF.ev 0 rfl)) rfl (fun _ _ => rfl) (kM [false, true, true, true] rfl rfl) (by decide) ?_
      refine pxEnd ?_
      replace hH : HH w0 [] [] w := hH.only [false]
      exact qxRound (i + 1) ⟨hH, (show (i + 1) ≤ L.length from (by omega)), (frm_take hf hd0 hf0)⟩ (by omega) (slots_at [0, 1, 2, 3] rfl)
  · refine cxExit ?_
    refine qxThenE ?_
    refine qxThenE ?_
    refine qxInE ?_
    refine qxThen ?_
    refine cxSeq ?_
    have hall : ∀ p ∈ D, frmP p := fun p hp => hf p (by rw [List.take_of_length_le (by rw [← hR.2.len]; omega)]; exact hp)
    clear hf hi
    refine cxReg ?_
    refine pxV (v := (.slice none 0 0)) (fun _ _ hF => opAssign rfl rfl) rfl (fun _ _ => rfl) (kM [false, false, false, false, true] rfl rfl) (by decide) ?_
    refine pxEnd ?_
    refine qxThen ?_
    refine cxSeq ?_
    refine cxSeq ?_
    refine cxReg ?_
    refine pxV (v := (.slice A L.length c)) (fun _ _ hF => opMove rfl (hF.ev 1 rfl)) rfl (fun _ _ => rfl) (kM [true, false] rfl rfl) (by decide) ?_
    refine pxV (v := (.int .i64 (((L.length) : Nat) : Int))) (fun _ _ hF => opLen (e := 31) rfl (by kernel_rfl) (hF.ev 0 rfl)) rfl (fun _ _ => rfl) (kA rfl) (by decide) ?_
    refine pxV (v := (.int .i64 0)) (fun _ _ hF => opMove rfl rfl) rfl (fun _ _ => rfl) (kA rfl) (by decide) ?_
    refine pxEnd ?_
    refine qxThen ?_
    refine cxBlock ?_
    replace hH := HH.pad hH 1
    replace hH : HH w0 [] [[]] w := hH
    replace hH : HH w0 [] [[]] w := hH.only [true]
    refine cxLoop (σ := Nat × (Option Addr) × Nat × (List UInt8) × Hl) (fun x => [(21, (.int .i64 (((x.1) : Nat) : Int))), (20, (.int .i64 (((L.length) : Nat) : Int))), (19, (.slice A L.length c)), (6, (.slice x.2.1 x.2.2.2.1.length x.2.2.1))]) (fun x w => HH w0 [] [x.2.2.2.2] w ∧ (x.1 ≤ L.length) ∧ (OwnT cByte 5 (.slice x.2.1 x.2.2.2.1.length x.2.2.1) x.2.2.2.1 x.2.2.2.2) ∧ (x.2.2.2.1 = wrL (D.take x.1))) (fun x => L.length - x.1) (0, none, 0, [], []) ⟨hH, (Nat.zero_le _), (OwnT.nil _ _), rfl⟩ (slots_at [0, 1, 2, 3] rfl) ?_
    clear hH
    rintro ⟨i, A1, c1, B, E1⟩ w ⟨hH, hi, hO, hB⟩
    change CX _ _ _ _ [(21, (.int .i64 (((i) : Nat) : Int))), (20, (.int .i64 (((L.length) : Nat) : Int))), (19, (.slice A L.length c)), (6, (.slice A1 B.length c1))] _
    replace hH : HH w0 [] [E1] w := hH
    replace hi : i ≤ L.length := hi
    replace hO : OwnT cByte 5 (.slice A1 B.length c1) B E1 := hO
    replace hB : B = wrL (D.take i) := hB
    refine cxSeq ?_
    refine cxReg ?_
    refine pxV (v := (.bool (decide (i < L.length)))) (fun _ _ hF => opLss rfl (hF.ev 0 rfl) (hF.ev 1 rfl) (dc (by omega))) rfl (fun _ _ => rfl) (kA rfl) (by decide) ?_
    refine pxEnd ?_
    refine qxThen ?_
    refine cxSeq ?_
    refine cxP 0 rfl rfl (fun hc13 => ?_) (fun hc13 => ?_)
    · refine cxSkip ?_
      refine qxThen ?_
      refine cxSeq ?_
      refine cxBlock ?_
      refine cxSeq ?_
      obtain ⟨⟨t0, A0, n0, c0⟩, hx0⟩ := get_at L i (by omega)
      obtain ⟨b0, hd0, hn0, hb0⟩ := hR.2.at' _ _ hx0
      replace hd0 : D[i]? = some (t0, b0) := hd0
      obtain rfl : n0 = b0.length := hn0
      replace hb0 : Vu cByte w0 A0 b0.length c0 b0 := hb0
      have := hb0.cap
      obtain ⟨tn, rfl, htn, htn2, hb2⟩ := frm_at (hall _ (List.mem_of_getElem? hd0))
      have hl0 := (lenL_len (n := b0.length)).2
      have hBl := wr_len hall hB hi hlen
      refine cxReg ?_
      have hi14 : i < L.length := by omega
      obtain ⟨b15, off16, rfl, hL17, hb18, hR19⟩ := hR.1.blk (by decide) (Off.nil _ _) (by omega)
      have := hR.1.cap
      have hj22 : i < L.length := by first | exact hi14 | (simp only [List.length_drop, List.length_take]; omega) | omega
      refine pxV (v := (.pointer (some ⟨b15, off16 + i * 2, none⟩))) (fun _ _ hF => opIndex (i := i) (e := 31) (sz := 2) rfl (by kernel_rfl) (by kernel_rfl) (hF.ev 3 rfl) (hF.ev 1 rfl) rfl hi14) rfl (fun _ _ => rfl) (kM [false, true, true, true, true] rfl rfl) (by decide) ?_
      refine pxS (v := (cPk.val (((tn : Nat) : Int), A0, b0.length, c0))) (fun w => HoldsL cPk w b15 off16 L) (hH.holdsL hL17 hb18 hR19) (fun _ _ hF hS => opLoadT (C := cPk) (y := (((tn : Nat) : Int), A0, b0.length, c0)) rfl (hF.ev 0 rfl) (by kernel_rfl) (hS i _ hx0) rfl) rfl (fun _ _ => rfl) (kM [false, true, true, true, true] rfl rfl) (by decide) ?_
      refine pxM hH (fun _ hF => smAlloc (cs := cPk.enc (0, none, 0, 0)) (z := (cPk.val (0, none, 0, 0))) rfl (by kernel_rfl) rfl) trivial rfl (fun _ _ => rfl) (kA rfl) (by decide) ?_
      clear hH
      rintro _ _ w ⟨g23, rfl, rfl⟩ hH
      replace hH : HH w0 [] [E1, [bl g23 31 (cPk.enc (0, none, 0, 0))]] w := hH
      refine pxE0 1 hH rfl (fun _ hF => smStoreT (C := cPk) (z := (((tn : Nat) : Int), A0, b0.length, c0)) rfl (hF.ev 0 rfl) (hF.ev 1 rfl) rfl (by kernel_rfl) (by rw [Cod.size]; exact Nat.le_refl _) (put_whole cPk _ _)) trivial rfl (fun _ _ => rfl) ?_
      clear hH
      rintro _ _ w rfl hH
      replace hH : HH w0 [] [E1, [bl g23 31 (cPk.enc (((tn : Nat) : Int), A0, b0.length, c0))]] w := hH
      refine pxEnd ?_
      refine qxThen ?_
      refine cxSeq ?_
      refine cxReg ?_
      refine pxV (v := (.slice A1 B.length c1)) (fun _ _ hF => opMove rfl (hF.ev 5 rfl)) rfl (fun _ _ => rfl) (kM [true, false, true, true, true, false] rfl rfl) (by decide) ?_
      refine pxV (v := (.pointer (some ⟨g23, 0, none⟩))) (fun _ _ hF => opField (off := 0) rfl (hF.ev 1 rfl) (by kernel_rfl)) rfl (fun _ _ => rfl) (kA rfl) (by decide) ?_
      refine pxS (v := (.int .i64 (((tn) : Nat) : Int))) (fun w => w.heap[g23]? = some (.cells (cPk.enc (((tn : Nat) : Int), A0, b0.length, c0)) 31 (0, 0))) (hH.blk 1 rfl) (fun _ _ hF hS => opLoadT (C := (cInt .i64)) (y := ((tn : Nat) : Int)) rfl (hF.ev 0 rfl) (by kernel_rfl) (holds_blk0 hS).fst rfl) rfl (fun _ _ => rfl) (kM [false, true, true, true, true, true] rfl rfl) (by decide) ?_
      refine pxV (v := (.int .u8 ((((UInt8.ofNat tn).toNat) : Nat) : Int))) (fun _ _ hF => opConvU (k' := .u8) rfl rfl (by kernel_rfl) (by kernel_rfl) (hF.ev 0 rfl) (UInt8.toNat_ofNat' (n := tn)).symm) rfl (fun _ _ => rfl) (kM [false, true, true, true, true, true] rfl rfl) (by decide) ?_
      refine pxV (v := (.int .u8 ((((UInt8.ofNat (192 + tn)).toNat) : Nat) : Int))) (fun _ _ hF => opOrU (m := 192) (j := (UInt8.ofNat tn).toNat) (z := ((UInt8.ofNat (192 + tn)).toNat)) rfl rfl rfl (hF.ev 0 rfl) (by decide) (UInt8.toNat_lt _) (or192 htn2)) rfl (fun _ _ => rfl) (kM [false, true, true, true, true, true] rfl rfl) (by decide) ?_
      refine pxM hH (fun _ hF => smLit1 (e := 5) (sz := 1) (z := (.int .u8 0)) (by_ := 1) (cs := cByte.enc (UInt8.ofNat (192 + tn))) rfl (by kernel_rfl) (by kernel_rfl) (hF.ev 0 rfl) (cByte.len (UInt8.ofNat (192 + tn))) (ltb rfl) (leb rfl) rfl) trivial rfl (fun _ _ => rfl) (kM [false, true, true, true, true, true] rfl rfl) (by decide) ?_
      clear hH
      rintro _ _ w ⟨g24, rfl, rfl⟩ hH
      replace hH : HH w0 [] [E1, [bl g23 31 (cPk.enc (((tn : Nat) : Int), A0, b0.length, c0))], [bl g24 5 (cByte.enc (UInt8.ofNat (192 + tn)))]] w := hH
      refine pxE 0 hH rfl (fun _ hF => smAppT (C := cByte) (l := B) (m := [(UInt8.ofNat (192 + tn))]) (e := 5) (z := (.int .u8 0)) (by_ := 1) rfl (by kernel_rfl) (by kernel_rfl) rfl (ltb rfl) (hF.ev 1 rfl) hO (hF.ev 0 rfl) rfl (fun h => by cases h) (by unfold maxLen; omega) (by omega)) ((Bk.lit1 (C := cByte) (UInt8.ofNat (192 + tn))).vu (hH.blk 2 rfl) rfl) rfl (fun _ _ => rfl) (kM [false, false, true, true, true, true] rfl rfl) (by decide) ?_
      clear hH
      rintro v27 E28 w ⟨hO29, _⟩ hH
      replace hH : HH w0 [] [E28, [bl g23 31 (cPk.enc (((tn : Nat) : Int), A0, b0.length, c0))], [bl g24 5 (cByte.enc (UInt8.ofNat (192 + tn)))]] w := hH
      replace hO29 : OwnT cByte 5 v27 (B ++ [(UInt8.ofNat (192 + tn))]) E28 := hO29
      obtain ⟨A25, c26, rfl⟩ := hO29.slice
      refine pxV (v := (.slice A25 ((B ++ [(UInt8.ofNat (192 + tn))]).length) c26)) (fun _ _ hF => opAssign rfl (hF.ev 0 rfl)) rfl (fun _ _ => rfl) (kM [false, true, true, true, true] rfl rfl) (by decide) ?_
      refine pxEnd ?_
      refine qxThen ?_
      refine cxSeq ?_
      refine cxReg ?_
      refine pxV (v := (.slice A25 ((B ++ [(UInt8.ofNat (192 + tn))]).length) c26)) (fun _ _ hF => opMove rfl (hF.ev 0 rfl)) rfl (fun _ _ => rfl) (kM [false, true, true, true, true] rfl rfl) (by decide) ?_
      refine pxV (v := (.pointer (some ⟨g23, 1, none⟩))) (fun _ _ hF => opField (off := 1) rfl (hF.ev 1 rfl) (by kernel_rfl)) rfl (fun _ _ => rfl) (kA rfl) (by decide) ?_
      refine pxS (v := (.slice A0 b0.length c0)) (fun w => w.heap[g23]? = some (.cells (cPk.enc (((tn : Nat) : Int), A0, b0.length, c0)) 31 (0, 0))) (hH.blk 1 rfl) (fun _ _ hF hS => opLoadT (C := cSl) (y := (A0, b0.length, c0)) rfl (hF.ev 0 rfl) (by kernel_rfl) (holds_blk0 hS).snd rfl) rfl (fun _ _ => rfl) (kM [false, true, true, true, true, true] rfl rfl) (by decide) ?_
      refine pxV (v := (.int .i64 (((b0.length) : Nat) : Int))) (fun _ _ hF => opLen (e := 5) rfl (by kernel_rfl) (hF.ev 0 rfl)) rfl (fun _ _ => rfl) (kM [false, true, true, true, true, true] rfl rfl) (by decide) ?_
      refine pxM hH (fun _ hF => Does.small (length_c b0.length hb2) (fun w => opCall rfl Try.func17 rfl rfl (Evs.cons (v := (.int .i64 (((b0.length) : Nat) : Int))) (hF.ev 0 rfl) Evs.nil) w)) trivial rfl (fun _ _ => rfl) (kM [false, true, true, true, true, true] rfl rfl) (by decide) ?_
      clear hH
      rintro v34 E30 w hO31 hH
      replace hH : HH w0 [] [E28, [bl g23 31 (cPk.enc (((tn : Nat) : Int), A0, b0.length, c0))], [bl g24 5 (cByte.enc (UInt8.ofNat (192 + tn)))], E30] w := hH
      obtain ⟨A32, c33, rfl⟩ := hO31.slice
      refine pxE 0 hH rfl (fun _ hF => smAppT (C := cByte) (l := (B ++ [(UInt8.ofNat (192 + tn))])) (m := (lenL b0.length)) (e := 5) (z := (.int .u8 0)) (by_ := 1) rfl (by kernel_rfl) (by kernel_rfl) rfl (ltb rfl) (hF.ev 1 rfl) hO29 (hF.ev 0 rfl) rfl hO31.nilA (by simp only [List.length_append, List.length_cons, List.length_nil]; unfold maxLen; omega) (by simp only [List.length_append, List.length_cons, List.length_nil]; omega)) (hO31.vuAt (hH.has 3 rfl)) rfl (fun _ _ => rfl) (kM [false, false, true, true, true, true] rfl rfl) (by decide) ?_
      clear hH
      rintro v38 E39 w ⟨hO40, _⟩ hH
      replace hH : HH w0 [] [E39, [bl g23 31 (cPk.enc (((tn : Nat) : Int), A0, b0.length, c0))], [bl g24 5 (cByte.enc (UInt8.ofNat (192 + tn)))], E30] w := hH
      replace hO40 : OwnT cByte 5 v38 ((B ++ [(UInt8.ofNat (192 + tn))]) ++ (lenL b0.length)) E39 := hO40
      obtain ⟨A36, c37, rfl⟩ := hO40.slice
      refine pxV (v := (.slice A36 (((B ++ [(UInt8.ofNat (192 + tn))]) ++ (lenL b0.length)).length) c37)) (fun _ _ hF => opAssign rfl (hF.ev 0 rfl)) rfl (fun _ _ => rfl) (kM [false, true, true, true, true] rfl rfl) (by decide) ?_
      refine pxEnd ?_
      refine qxThen ?_
      refine cxReg ?_
      refine pxV (v := (.slice A36 (((B ++ [(UInt8.ofNat (192 + tn))]) ++ (lenL b0.length)).length) c37)) (fun _ _ hF => opMove rfl (hF.ev 0 rfl)) rfl (fun _ _ => rfl) (kM [false, true, true, true, true] rfl rfl) (by decide) ?_
      refine pxV (v := (.pointer (some ⟨g23, 1, none⟩))) (fun _ _ hF => opField (off := 1) rfl (hF.ev 1 rfl) (by kernel_rfl)) rfl (fun _ _ => rfl) (kM [true, false, true, true, true] rfl rfl) (by decide) ?_
      refine pxS (v := (.slice A0 b0.length c0)) (fun w => w.heap[g23]? = some (.cells (cPk.enc (((tn : Nat) : Int), A0, b0.length, c0)) 31 (0, 0))) (hH.blk 1 rfl) (fun _ _ hF hS => opLoadT (C := cSl) (y := (A0, b0.length, c0)) rfl (hF.ev 0 rfl) (by kernel_rfl) (holds_blk0 hS).snd rfl) rfl (fun _ _ => rfl) (kM [false, true, true, true, true] rfl rfl) (by decide) ?_
      refine pxE 0 hH rfl (fun _ hF => smAppT (C := cByte) (l := ((B ++ [(UInt8.ofNat (192 + tn))]) ++ (lenL b0.length))) (m := b0) (e := 5) (z := (.int .u8 0)) (by_ := 1) rfl (by kernel_rfl) (by kernel_rfl) rfl (ltb rfl) (hF.ev 1 rfl) hO40 (hF.ev 0 rfl) rfl hb0.nilA (by simp only [List.length_append, List.length_cons, List.length_nil]; unfold maxLen; omega) (by simp only [List.length_append, List.length_cons, List.length_nil]; omega)) (hH.vu hb0 (by decide) (Off.nil _ _)) rfl (fun _ _ => rfl) (kM [false, false, true, true, true] rfl rfl) (by decide) ?_
      clear hH
      rintro v43 E44 w ⟨hO45, _⟩ hH
      replace hH : HH w0 [] [E44, [bl g23 31 (cPk.enc (((tn : Nat) : Int), A0, b0.length, c0))], [bl g24 5 (cByte.enc (UInt8.ofNat (192 + tn)))], E30] w := hH
      replace hO45 : OwnT cByte 5 v43 (((B ++ [(UInt8.ofNat (192 + tn))]) ++ (lenL b0.length)) ++ b0) E44 := hO45
      obtain ⟨A41, c42, rfl⟩ := hO45.slice
      refine pxV (v := (.slice A41 ((((B ++ [(UInt8.ofNat (192 + tn))]) ++ (lenL b0.length)) ++ b0).length) c42)) (fun _ _ hF => opAssign rfl (hF.ev 0 rfl)) rfl (fun _ _ => rfl) (kM [false, true, true, true] rfl rfl) (by decide) ?_
      refine pxEnd ?_
      refine qxInN ?_
      refine qxThen ?_
      refine cxReg ?_
      refine pxV (v := (.int .i64 (((i + 1) : Nat) : Int))) (fun _ _ hF => opAdd rfl (hF.ev 1 rfl) rfl (wI (by omega) (by omega) (by omega))) rfl (fun _ _ => rfl) (kM [true, false, true, true] rfl rfl) (by decide) ?_
      refine pxV (v := (.int .i64 (((i + 1) : Nat) : Int))) (fun _ _ hF => opMove rfl (hF.ev 0 rfl)) rfl (fun _ _ => rfl) (kM [false, true, true, true] rfl rfl) (by decide) ?_
      refine pxEnd ?_
      replace hH : HH w0 [] [E44] w := hH.only [true, false, false, false]
      exact qxRound (i + 1, A41, c42, (((B ++ [(UInt8.ofNat (192 + tn))]) ++ (lenL b0.length)) ++ b0), E44) ⟨hH, (show (i + 1) ≤ L.length from (by omega)), hO45, (wr_step hd0 hB)⟩ (by omega) (slots_at [0, 2, 3, 1] rfl)
    · refine cxExit ?_
      refine qxThenE ?_
      refine qxThenE ?_
      refine qxInE ?_
      refine qxThen ?_
      refine cxSeq ?_
      refine cxReg ?_
      refine pxV (v := (.slice A1 B.length c1)) (fun _ _ hF => opMove rfl (hF.ev 4 rfl)) rfl (fun _ _ => rfl) (kM [false, false, false, false, false] rfl rfl) (by decide) ?_
      refine pxV (v := (.slice A1 B.length c1)) (fun _ _ hF => opAssign rfl (hF.ev 0 rfl)) rfl (fun _ _ => rfl) (kM [false] rfl rfl) (by decide) ?_
      refine pxV (v := (.int .i64 0)) (fun _ _ hF => opAssign rfl rfl) rfl (fun _ _ => rfl) (kA rfl) (by decide) ?_
      refine pxEnd ?_
      refine qxThen ?_
      refine cxRet ?_
      refine qxRet2 1 0 rfl rfl rfl ?_
      have hi2 : i = L.length := by omega
      have hall : ∀ p ∈ D, frmP p := hall
      have he : wrt D = (0, B) := by rw [wrt_ok hall, hB, List.take_of_length_le (by rw [← hR.2.len]; omega)]
      exact ⟨_, _, rfl, ⟨(.slice A1 B.length c1), (by rw [he]; first | done | rfl), by rw [he]; exact hO⟩, hH.out1 [true] rfl⟩
end Go.Proofs.Ytjncbpmigpocbaa
