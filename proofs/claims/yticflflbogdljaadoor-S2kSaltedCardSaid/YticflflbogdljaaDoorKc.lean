/- The document's keys of passphrases (mkkc.py writes this text). -/
import Derived.Test.YticflflbogdljaaDoorKa
import Derived.Test.YticflflbogdljaaDoorSdB
namespace Go.Proofs.YticflflbogdljaaDoor
open Go Go.RowKit
set_option maxRecDepth 100000

set_option maxHeartbeats 8000000 in
theorem rderive_bad (A B : Option Addr) (n c k d : Nat) (s p : List UInt8) (m : Int) (hbad : m < 1 ∨ 64 < m ∨ 1000 < k) : Does Tryd.prog 8 #[(.slice A n c), (.slice B k d), (.int .i64 (m))] [] (fun w => Vu cByte w A n c s ∧ Vu cByte w B k d p) (fun v E' => ∃ q, v = .tuple #[q, .int .i64 (((der s p m).2.1 : Nat) : Int), .int .i64 (((der s p m).2.2 : Nat) : Int)] ∧ OwnT cByte 5 q (der s p m).1 E') := by
  refine does_of (fn := Tryd.f8) Tryd.func8 rfl Tryd.ntmps8 (Nat.le_of_ble_eq_true rfl) rfl ?_
  intro w0 hH hR
  replace hH : HH w0 [] [] w0 := hH.only [false]
  have hn := hR.1.len; have hk := hR.2.len; have hcap := hR.1.cap; have hcap2 := hR.2.cap
  refine cxSeq ?_
  refine cxReg ?_
  refine pxV (v := (.slice none 0 0)) (fun _ _ hF => opAssign rfl rfl) rfl (fun _ _ => rfl) (kA rfl) (by decide) ?_
  refine pxV (v := (.int .i64 0)) (fun _ _ hF => opAssign rfl rfl) rfl (fun _ _ => rfl) (kM [false, true, true, true] rfl rfl) (by decide) ?_
  refine pxV (v := (.int .i64 0)) (fun _ _ hF => opAssign rfl rfl) rfl (fun _ _ => rfl) (kM [false, true, true, true] rfl rfl) (by decide) ?_
  refine pxEnd ?_
  refine qxThen ?_
  refine cxSeq ?_
  refine cxBlock ?_
  refine cxSeq ?_
  refine cxReg ?_
  refine pxV (v := (.int .i64 (m))) (fun _ _ hF => opMove rfl (hF.ev 3 rfl)) rfl (fun _ _ => rfl) (kM [false, true, true, true] rfl rfl) (by decide) ?_
  refine pxV (v := (.bool (decide ((m) < 1)))) (fun _ _ hF => opLss rfl (hF.ev 0 rfl) rfl rfl) rfl (fun _ _ => rfl) (kM [false, true, true, true] rfl rfl) (by decide) ?_
  refine pxV (v := (.bool (decide ((m) < 1)))) (fun _ _ hF => opMove rfl (hF.ev 0 rfl)) rfl (fun _ _ => rfl) (kM [false, true, true, true] rfl rfl) (by decide) ?_
  refine pxSplitP 0 rfl (l1 := [(17, (.bool true)), (0, (.slice A n c)), (1, (.slice B k d)), (2, (.int .i64 (m)))]) (l2 := [(17, (.bool false)), (0, (.slice A n c)), (1, (.slice B k d)), (2, (.int .i64 (m)))]) rfl rfl (fun hg1 => ?_) (fun hg1 => ?_)
  · refine pxU rfl (gOff 0 rfl rfl rfl (by decide)) (kA rfl) (by decide) ?_
    refine pxU rfl (gOff 0 rfl rfl rfl (by decide)) (kA rfl) (by decide) ?_
    refine pxV (v := (.bool true)) (fun _ _ hF => opPickT rfl (hF.ev 0 rfl) rfl) rfl (fun _ _ => rfl) (kM [false, true, true, true] rfl rfl) (by decide) ?_
    refine pxV (v := (.bool true)) (fun _ _ hF => opMove rfl (hF.ev 0 rfl)) rfl (fun _ _ => rfl) (kM [false, true, true, true] rfl rfl) (by decide) ?_
    refine pxU rfl (gOff 0 rfl rfl rfl (by decide)) (kA rfl) (by decide) ?_
    refine pxU rfl (gOff 0 rfl rfl rfl (by decide)) (kA rfl) (by decide) ?_
    refine pxU rfl (gOff 0 rfl rfl rfl (by decide)) (kA rfl) (by decide) ?_
    refine pxV (v := (.bool true)) (fun _ _ hF => opPickT rfl (hF.ev 0 rfl) rfl) rfl (fun _ _ => rfl) (kM [false, true, true, true] rfl rfl) (by decide) ?_
    refine pxV (v := (.bool true)) (fun _ _ hF => opAssign rfl (hF.ev 0 rfl)) rfl (fun _ _ => rfl) (kM [false, true, true, true] rfl rfl) (by decide) ?_
    refine pxEnd ?_
    refine qxThen ?_
    refine cxT 0 rfl rfl ?_
    refine cxSeq ?_
    refine cxReg ?_
    refine pxV (v := (.slice none 0 0)) (fun _ _ hF => opAssign rfl rfl) rfl (fun _ _ => rfl) (kM [false, false, false, false] rfl rfl) (by decide) ?_
    refine pxV (v := (.int .i64 0)) (fun _ _ hF => opAssign rfl rfl) rfl (fun _ _ => rfl) (kA rfl) (by decide) ?_
    refine pxV (v := (.int .i64 1)) (fun _ _ hF => opAssign rfl rfl) rfl (fun _ _ => rfl) (kA rfl) (by decide) ?_
    refine pxEnd ?_
    refine qxThen ?_
    refine cxRet ?_
    refine qxInR ?_
    refine qxThenR ?_
    refine qxRet3 2 1 0 rfl rfl rfl rfl ?_
    have he : der s p m = ([], 0, 1) := by unfold der; rw [if_pos (by omega)]
    rw [he]
    exact ⟨_, _, rfl, ⟨_, rfl, OwnT.nil _ _⟩, HH.out (HH.pad hH 1) [true]⟩
  · refine pxV (v := (.int .i64 (m))) (fun _ _ hF => opMove rfl (hF.ev 3 rfl)) rfl (gOn 0 rfl rfl rfl (by decide)) (kA rfl) (by decide) ?_
    refine pxV (v := (.bool (decide ((m) > 64)))) (fun _ _ hF => opGtr rfl (hF.ev 0 rfl) rfl rfl) rfl (gOn 1 rfl rfl rfl (by decide)) (kM [false, true, true, true, true] rfl rfl) (by decide) ?_
    refine pxV (v := (.bool (decide ((m) > 64)))) (fun _ _ hF => opPickF rfl (hF.ev 1 rfl) (hF.ev 0 rfl)) rfl (fun _ _ => rfl) (kM [false, false, true, true, true] rfl rfl) (by decide) ?_
    refine pxV (v := (.bool (decide ((m) > 64)))) (fun _ _ hF => opMove rfl (hF.ev 0 rfl)) rfl (fun _ _ => rfl) (kM [false, true, true, true] rfl rfl) (by decide) ?_
    refine pxSplitP 0 rfl (l1 := [(21, (.bool true)), (0, (.slice A n c)), (1, (.slice B k d)), (2, (.int .i64 (m)))]) (l2 := [(21, (.bool false)), (0, (.slice A n c)), (1, (.slice B k d)), (2, (.int .i64 (m)))]) rfl rfl (fun hg2 => ?_) (fun hg2 => ?_)
    · refine pxU rfl (gOff 0 rfl rfl rfl (by decide)) (kA rfl) (by decide) ?_
      refine pxU rfl (gOff 0 rfl rfl rfl (by decide)) (kA rfl) (by decide) ?_
      refine pxU rfl (gOff 0 rfl rfl rfl (by decide)) (kA rfl) (by decide) ?_
      refine pxV (v := (.bool true)) (fun _ _ hF => opPickT rfl (hF.ev 0 rfl) rfl) rfl (fun _ _ => rfl) (kM [false, true, true, true] rfl rfl) (by decide) ?_
      refine pxV (v := (.bool true)) (fun _ _ hF => opAssign rfl (hF.ev 0 rfl)) rfl (fun _ _ => rfl) (kM [false, true, true, true] rfl rfl) (by decide) ?_
      refine pxEnd ?_
      refine qxThen ?_
      refine cxT 0 rfl rfl ?_
      refine cxSeq ?_
      refine cxReg ?_
      refine pxV (v := (.slice none 0 0)) (fun _ _ hF => opAssign rfl rfl) rfl (fun _ _ => rfl) (kM [false, false, false, false] rfl rfl) (by decide) ?_
      refine pxV (v := (.int .i64 0)) (fun _ _ hF => opAssign rfl rfl) rfl (fun _ _ => rfl) (kA rfl) (by decide) ?_
      refine pxV (v := (.int .i64 1)) (fun _ _ hF => opAssign rfl rfl) rfl (fun _ _ => rfl) (kA rfl) (by decide) ?_
      refine pxEnd ?_
      refine qxThen ?_
      refine cxRet ?_
      refine qxInR ?_
      refine qxThenR ?_
      refine qxRet3 2 1 0 rfl rfl rfl rfl ?_
      have he : der s p m = ([], 0, 1) := by unfold der; rw [if_pos (by omega)]
      rw [he]
      exact ⟨_, _, rfl, ⟨_, rfl, OwnT.nil _ _⟩, HH.out (HH.pad hH 1) [true]⟩
    · refine pxV (v := (.slice B k d)) (fun _ _ hF => opMove rfl (hF.ev 2 rfl)) rfl (gOn 0 rfl rfl rfl (by decide)) (kA rfl) (by decide) ?_
      refine pxV (v := (.int .i64 (((k) : Nat) : Int))) (fun _ _ hF => opLen (e := 5) rfl (by kernel_rfl) (hF.ev 0 rfl)) rfl (gOn 1 rfl rfl rfl (by decide)) (kM [false, true, true, true, true] rfl rfl) (by decide) ?_
      refine pxV (v := (.bool (decide (k > 1000)))) (fun _ _ hF => opGtr rfl (hF.ev 0 rfl) rfl (dc (by omega))) rfl (gOn 1 rfl rfl rfl (by decide)) (kM [false, true, true, true, true] rfl rfl) (by decide) ?_
      refine pxV (v := (.bool (decide (k > 1000)))) (fun _ _ hF => opPickF rfl (hF.ev 1 rfl) (hF.ev 0 rfl)) rfl (fun _ _ => rfl) (kM [false, false, true, true, true] rfl rfl) (by decide) ?_
      refine pxV (v := (.bool (decide (k > 1000)))) (fun _ _ hF => opAssign rfl (hF.ev 0 rfl)) rfl (fun _ _ => rfl) (kM [false, true, true, true] rfl rfl) (by decide) ?_
      refine pxEnd ?_
      refine qxThen ?_
      refine cxP 0 rfl rfl (fun hc3 => ?_) (fun hc3 => ?_)
      · refine cxSeq ?_
        refine cxReg ?_
        refine pxV (v := (.slice none 0 0)) (fun _ _ hF => opAssign rfl rfl) rfl (fun _ _ => rfl) (kM [false, false, false, false] rfl rfl) (by decide) ?_
        refine pxV (v := (.int .i64 0)) (fun _ _ hF => opAssign rfl rfl) rfl (fun _ _ => rfl) (kA rfl) (by decide) ?_
        refine pxV (v := (.int .i64 1)) (fun _ _ hF => opAssign rfl rfl) rfl (fun _ _ => rfl) (kA rfl) (by decide) ?_
        refine pxEnd ?_
        refine qxThen ?_
        refine cxRet ?_
        refine qxInR ?_
        refine qxThenR ?_
        refine qxRet3 2 1 0 rfl rfl rfl rfl ?_
        have he : der s p m = ([], 0, 1) := by unfold der; rw [if_pos (by omega)]
        rw [he]
        exact ⟨_, _, rfl, ⟨_, rfl, OwnT.nil _ _⟩, HH.out (HH.pad hH 1) [true]⟩
      · exact absurd hbad (by omega)

set_option maxHeartbeats 8000000 in
theorem rderive_ok (A B : Option Addr) (n c k d : Nat) (s p : List UInt8) (m : Nat) (h1 : 1 ≤ m) (h64 : m ≤ 64) (hp : k ≤ 1000) : Does Tryd.prog 8 #[(.slice A n c), (.slice B k d), (.int .i64 (((m) : Nat) : Int))] [] (fun w => Vu cByte w A n c s ∧ Vu cByte w B k d p) (fun v E' => ∃ q, v = .tuple #[q, .int .i64 (((der s p m).2.1 : Nat) : Int), .int .i64 (((der s p m).2.2 : Nat) : Int)] ∧ OwnT cByte 5 q (der s p m).1 E') := by
  refine does_of (fn := Tryd.f8) Tryd.func8 rfl Tryd.ntmps8 (Nat.le_of_ble_eq_true rfl) rfl ?_
  intro w0 hH hR
  replace hH : HH w0 [] [] w0 := hH.only [false]
  have hn := hR.1.len; have hk := hR.2.len; have hcap := hR.1.cap; have hcap2 := hR.2.cap
  refine cxSeq ?_
  refine cxReg ?_
  refine pxV (v := (.slice none 0 0)) (fun _ _ hF => opAssign rfl rfl) rfl (fun _ _ => rfl) (kA rfl) (by decide) ?_
  refine pxV (v := (.int .i64 0)) (fun _ _ hF => opAssign rfl rfl) rfl (fun _ _ => rfl) (kM [false, true, true, true] rfl rfl) (by decide) ?_
  refine pxV (v := (.int .i64 0)) (fun _ _ hF => opAssign rfl rfl) rfl (fun _ _ => rfl) (kM [false, true, true, true] rfl rfl) (by decide) ?_
  refine pxEnd ?_
  refine qxThen ?_
  refine cxSeq ?_
  refine cxBlock ?_
  refine cxSeq ?_
  refine cxReg ?_
  refine pxV (v := (.int .i64 (((m) : Nat) : Int))) (fun _ _ hF => opMove rfl (hF.ev 3 rfl)) rfl (fun _ _ => rfl) (kM [false, true, true, true] rfl rfl) (by decide) ?_
  refine pxV (v := (.bool false)) (fun _ _ hF => opLss rfl (hF.ev 0 rfl) rfl (decide_eq_false (by omega))) rfl (fun _ _ => rfl) (kM [false, true, true, true] rfl rfl) (by decide) ?_
  refine pxV (v := (.bool false)) (fun _ _ hF => opMove rfl (hF.ev 0 rfl)) rfl (fun _ _ => rfl) (kM [false, true, true, true] rfl rfl) (by decide) ?_
  refine pxV (v := (.int .i64 (((m) : Nat) : Int))) (fun _ _ hF => opMove rfl (hF.ev 3 rfl)) rfl (gOn 0 rfl rfl rfl (by decide)) (kA rfl) (by decide) ?_
  refine pxV (v := (.bool false)) (fun _ _ hF => opGtr rfl (hF.ev 0 rfl) rfl (decide_eq_false (by omega))) rfl (gOn 1 rfl rfl rfl (by decide)) (kM [false, true, true, true, true] rfl rfl) (by decide) ?_
  refine pxV (v := (.bool false)) (fun _ _ hF => opPickF rfl (hF.ev 1 rfl) (hF.ev 0 rfl)) rfl (fun _ _ => rfl) (kM [false, false, true, true, true] rfl rfl) (by decide) ?_
  refine pxV (v := (.bool false)) (fun _ _ hF => opMove rfl (hF.ev 0 rfl)) rfl (fun _ _ => rfl) (kM [false, true, true, true] rfl rfl) (by decide) ?_
  refine pxV (v := (.slice B k d)) (fun _ _ hF => opMove rfl (hF.ev 2 rfl)) rfl (gOn 0 rfl rfl rfl (by decide)) (kA rfl) (by decide) ?_
  refine pxV (v := (.int .i64 (((k) : Nat) : Int))) (fun _ _ hF => opLen (e := 5) rfl (by kernel_rfl) (hF.ev 0 rfl)) rfl (gOn 1 rfl rfl rfl (by decide)) (kM [false, true, true, true, true] rfl rfl) (by decide) ?_
  refine pxV (v := (.bool false)) (fun _ _ hF => opGtr rfl (hF.ev 0 rfl) rfl (decide_eq_false (by omega))) rfl (gOn 1 rfl rfl rfl (by decide)) (kM [false, true, true, true, true] rfl rfl) (by decide) ?_
  refine pxV (v := (.bool false)) (fun _ _ hF => opPickF rfl (hF.ev 1 rfl) (hF.ev 0 rfl)) rfl (fun _ _ => rfl) (kM [false, false, true, true, true] rfl rfl) (by decide) ?_
  refine pxV (v := (.bool false)) (fun _ _ hF => opAssign rfl (hF.ev 0 rfl)) rfl (fun _ _ => rfl) (kM [false, true, true, true] rfl rfl) (by decide) ?_
  refine pxEnd ?_
  refine qxThen ?_
  refine cxF 0 rfl rfl ?_
  refine cxSeq ?_
  refine cxReg ?_
  refine pxV (v := (.slice A n c)) (fun _ _ hF => opMove rfl (hF.ev 1 rfl)) rfl (fun _ _ => rfl) (kM [false, true, true, true] rfl rfl) (by decide) ?_
  refine pxV (v := (.int .i64 (((n) : Nat) : Int))) (fun _ _ hF => opLen (e := 5) rfl (by kernel_rfl) (hF.ev 0 rfl)) rfl (fun _ _ => rfl) (kM [false, true, true, true] rfl rfl) (by decide) ?_
  refine pxV (v := (.bool (decide (n = 0)))) (fun _ _ hF => opEqI rfl (hF.ev 0 rfl) rfl (dc (by omega))) rfl (fun _ _ => rfl) (kM [false, true, true, true] rfl rfl) (by decide) ?_
  refine pxV (v := (.bool (decide (n = 0)))) (fun _ _ hF => opAssign rfl (hF.ev 0 rfl)) rfl (fun _ _ => rfl) (kM [false, true, true, true] rfl rfl) (by decide) ?_
  refine pxEnd ?_
  refine qxThen ?_
  refine cxP 0 rfl rfl (fun hc1 => ?_) (fun hc1 => ?_)
  · refine cxSeq ?_
    refine cxReg ?_
    refine pxV (v := (.slice none 0 0)) (fun _ _ hF => opAssign rfl rfl) rfl (fun _ _ => rfl) (kM [false, false, false, false] rfl rfl) (by decide) ?_
    refine pxV (v := (.int .i64 0)) (fun _ _ hF => opAssign rfl rfl) rfl (fun _ _ => rfl) (kA rfl) (by decide) ?_
    refine pxV (v := (.int .i64 2)) (fun _ _ hF => opAssign rfl rfl) rfl (fun _ _ => rfl) (kA rfl) (by decide) ?_
    refine pxEnd ?_
    refine qxThen ?_
    refine cxRet ?_
    refine qxInR ?_
    refine qxThenR ?_
    refine qxRet3 2 1 0 rfl rfl rfl rfl ?_
    have hk0 : kd s = 2 := by unfold kd; rw [hn, if_pos (by omega)]
    have he : der s p m = ([], 0, 2) := by unfold der; rw [if_neg (by omega), hk0, if_pos (by decide)]
    rw [he]
    exact ⟨_, _, rfl, ⟨_, rfl, OwnT.nil _ _⟩, HH.out (HH.pad hH 1) [true]⟩
  · refine cxSeq ?_
    have hx0 : s[0]? = some (s.getD 0 0) := by rw [List.getD_eq_getElem?_getD, List.getElem?_eq_getElem (by omega)]; rfl
    have hb0 := UInt8.toNat_lt (s.getD 0 0)
    refine cxReg ?_
    refine pxV (v := (.slice A n c)) (fun _ _ hF => opMove rfl (hF.ev 1 rfl)) rfl (fun _ _ => rfl) (kM [false, true, true, true] rfl rfl) (by decide) ?_
    have hi2 : 0 < n := by omega
    obtain ⟨b3, off4, rfl, hL5, hb6, hR7⟩ := hR.1.blk (by decide) (Off.nil _ _) (by omega)
    have := hR.1.cap
    have hj10 : 0 < s.length := by first | exact hi2 | (simp only [List.length_drop]; omega) | (simp only [List.length_drop, List.length_take]; omega) | omega
    refine pxV (v := (.pointer (some ⟨b3, off4 + 0 * 1, none⟩))) (fun _ _ hF => opIndex (i := 0) (e := 5) (sz := 1) rfl (by kernel_rfl) (by kernel_rfl) (hF.ev 0 rfl) rfl rfl hi2) rfl (fun _ _ => rfl) (kM [false, true, true, true] rfl rfl) (by decide) ?_
    refine pxS (v := (.int .u8 ((((s.getD 0 0).toNat) : Nat) : Int))) (fun w => HoldsL cByte w b3 off4 s) (hH.holdsL hL5 hb6 hR7) (fun _ _ hF hS => opLoadT (C := cByte) (y := (s.getD 0 0)) rfl (hF.ev 0 rfl) (by kernel_rfl) (hS 0 _ hx0) rfl) rfl (fun _ _ => rfl) (kM [false, true, true, true] rfl rfl) (by decide) ?_
    refine pxV (v := (.bool (decide ((s.getD 0 0).toNat ≠ 3)))) (fun _ _ hF => opNeI rfl (hF.ev 0 rfl) rfl (dc (by omega))) rfl (fun _ _ => rfl) (kM [false, true, true, true] rfl rfl) (by decide) ?_
    refine pxV (v := (.bool (decide ((s.getD 0 0).toNat ≠ 3)))) (fun _ _ hF => opMove rfl (hF.ev 0 rfl)) rfl (fun _ _ => rfl) (kM [false, true, true, true] rfl rfl) (by decide) ?_
    refine pxSplitP 0 rfl (l1 := [(35, (.bool true)), (0, (.slice (some ⟨b3, off4, none⟩) n c)), (1, (.slice B k d)), (2, (.int .i64 (((m) : Nat) : Int)))]) (l2 := [(35, (.bool false)), (0, (.slice (some ⟨b3, off4, none⟩) n c)), (1, (.slice B k d)), (2, (.int .i64 (((m) : Nat) : Int)))]) rfl rfl (fun hg11 => ?_) (fun hg11 => ?_)
    · refine pxU rfl (gOff 0 rfl rfl rfl (by decide)) (kA rfl) (by decide) ?_
      refine pxU rfl (gOff 0 rfl rfl rfl (by decide)) (kA rfl) (by decide) ?_
      refine pxU rfl (gOff 0 rfl rfl rfl (by decide)) (kA rfl) (by decide) ?_
      refine pxUK rfl (gOff 0 rfl rfl rfl (by decide)) (kA rfl) (by decide) ?_
      refine pxU rfl (gOffU 0 rfl rfl rfl) (kA rfl) (by decide) ?_
      refine pxU rfl (gOffU 0 rfl rfl rfl) (kA rfl) (by decide) ?_
      refine pxU rfl (gOffU 0 rfl rfl rfl) (kA rfl) (by decide) ?_
      refine pxU rfl (gOffU 0 rfl rfl rfl) (kA rfl) (by decide) ?_
      refine pxU rfl (gOff 1 rfl rfl rfl (by decide)) (kM [false, true, true, true, true] rfl rfl) (by decide) ?_
      refine pxV (v := (.bool true)) (fun _ _ hF => opPickT rfl (hF.ev 0 rfl) rfl) rfl (fun _ _ => rfl) (kM [false, true, true, true] rfl rfl) (by decide) ?_
      refine pxV (v := (.bool true)) (fun _ _ hF => opAssign rfl (hF.ev 0 rfl)) rfl (fun _ _ => rfl) (kM [false, true, true, true] rfl rfl) (by decide) ?_
      refine pxEnd ?_
      refine qxThen ?_
      refine cxT 0 rfl rfl ?_
      refine cxSeq ?_
      refine cxReg ?_
      refine pxV (v := (.slice none 0 0)) (fun _ _ hF => opAssign rfl rfl) rfl (fun _ _ => rfl) (kM [false, false, false, false] rfl rfl) (by decide) ?_
      refine pxV (v := (.int .i64 0)) (fun _ _ hF => opAssign rfl rfl) rfl (fun _ _ => rfl) (kA rfl) (by decide) ?_
      refine pxV (v := (.int .i64 10)) (fun _ _ hF => opAssign rfl rfl) rfl (fun _ _ => rfl) (kA rfl) (by decide) ?_
      refine pxEnd ?_
      refine qxThen ?_
      refine cxRet ?_
      refine qxInR ?_
      refine qxThenR ?_
      refine qxRet3 2 1 0 rfl rfl rfl rfl ?_
      have hk0 : kd s = 10 := by unfold kd; rw [hn, if_neg (by omega), if_pos (by omega)]
      have he : der s p m = ([], 0, 10) := by unfold der; rw [if_neg (by omega), hk0, if_pos (by decide)]
      rw [he]
      exact ⟨_, _, rfl, ⟨_, rfl, OwnT.nil _ _⟩, HH.out (HH.pad hH 1) [true]⟩
    · refine pxV (v := (.slice (some ⟨b3, off4, none⟩) n c)) (fun _ _ hF => opMove rfl (hF.ev 1 rfl)) rfl (gOn 0 rfl rfl rfl (by decide)) (kA rfl) (by decide) ?_
      refine pxV (v := (.int .i64 (((n) : Nat) : Int))) (fun _ _ hF => opLen (e := 5) rfl (by kernel_rfl) (hF.ev 0 rfl)) rfl (gOn 1 rfl rfl rfl (by decide)) (kM [false, true, true, true, true] rfl rfl) (by decide) ?_
      refine pxV (v := (.bool (decide (n > 1)))) (fun _ _ hF => opGtr rfl (hF.ev 0 rfl) rfl (dc (by omega))) rfl (gOn 1 rfl rfl rfl (by decide)) (kM [false, true, true, true, true] rfl rfl) (by decide) ?_
      refine pxV (v := (.bool (decide (n > 1)))) (fun _ _ hF => opMove rfl (hF.ev 0 rfl)) rfl (gOn 1 rfl rfl rfl (by decide)) (kM [false, true, true, true, true] rfl rfl) (by decide) ?_
      refine pxSplitP 0 rfl (l1 := [(39, (.bool true)), (35, (.bool false)), (0, (.slice (some ⟨b3, off4, none⟩) n c)), (1, (.slice B k d)), (2, (.int .i64 (((m) : Nat) : Int)))]) (l2 := [(39, (.bool false)), (35, (.bool false)), (0, (.slice (some ⟨b3, off4, none⟩) n c)), (1, (.slice B k d)), (2, (.int .i64 (((m) : Nat) : Int)))]) rfl rfl (fun hg12 => ?_) (fun hg12 => ?_)
      · have hx1 : s[1]? = some (s.getD 1 0) := by rw [List.getD_eq_getElem?_getD, List.getElem?_eq_getElem (by omega)]; rfl
        have hb1 := UInt8.toNat_lt (s.getD 1 0)
        refine pxV (v := (.slice (some ⟨b3, off4, none⟩) n c)) (fun _ _ hF => opMove rfl (hF.ev 2 rfl)) rfl (gOn 0 rfl rfl rfl (by decide)) (kA rfl) (by decide) ?_
        have hi13 : 1 < n := by omega
        have hj16 : 1 < s.length := by first | exact hi13 | (simp only [List.length_drop]; omega) | (simp only [List.length_drop, List.length_take]; omega) | omega
        refine pxV (v := (.pointer (some ⟨b3, off4 + 1 * 1, none⟩))) (fun _ _ hF => opIndex (i := 1) (e := 5) (sz := 1) rfl (by kernel_rfl) (by kernel_rfl) (hF.ev 0 rfl) rfl rfl hi13) rfl (gOn 1 rfl rfl rfl (by decide)) (kM [false, true, true, true, true, true] rfl rfl) (by decide) ?_
        refine pxS (v := (.int .u8 ((((s.getD 1 0).toNat) : Nat) : Int))) (fun w => HoldsL cByte w b3 off4 s) (hH.holdsL hL5 hb6 hR7) (fun _ _ hF hS => opLoadT (C := cByte) (y := (s.getD 1 0)) rfl (hF.ev 0 rfl) (by kernel_rfl) (hS 1 _ hx1) rfl) rfl (gOn 1 rfl rfl rfl (by decide)) (kM [false, true, true, true, true, true] rfl rfl) (by decide) ?_
        refine pxV (v := (.bool (decide ((s.getD 1 0).toNat ≠ 8)))) (fun _ _ hF => opNeI rfl (hF.ev 0 rfl) rfl (dc (by omega))) rfl (gOn 1 rfl rfl rfl (by decide)) (kM [false, true, true, true, true, true] rfl rfl) (by decide) ?_
        refine pxV (v := (.bool (decide ((s.getD 1 0).toNat ≠ 8)))) (fun _ _ hF => opPickT rfl (hF.ev 1 rfl) (hF.ev 0 rfl)) rfl (gOn 2 rfl rfl rfl (by decide)) (kM [false, false, true, true, true, true] rfl rfl) (by decide) ?_
        refine pxV (v := (.bool (decide ((s.getD 1 0).toNat ≠ 8)))) (fun _ _ hF => opPickF rfl (hF.ev 1 rfl) (hF.ev 0 rfl)) rfl (fun _ _ => rfl) (kM [false, false, true, true, true] rfl rfl) (by decide) ?_
        refine pxV (v := (.bool (decide ((s.getD 1 0).toNat ≠ 8)))) (fun _ _ hF => opAssign rfl (hF.ev 0 rfl)) rfl (fun _ _ => rfl) (kM [false, true, true, true] rfl rfl) (by decide) ?_
        refine pxEnd ?_
        refine qxThen ?_
        refine cxP 0 rfl rfl (fun hc17 => ?_) (fun hc17 => ?_)
        · refine cxSeq ?_
          refine cxReg ?_
          refine pxV (v := (.slice none 0 0)) (fun _ _ hF => opAssign rfl rfl) rfl (fun _ _ => rfl) (kM [false, false, false, false] rfl rfl) (by decide) ?_
          refine pxV (v := (.int .i64 0)) (fun _ _ hF => opAssign rfl rfl) rfl (fun _ _ => rfl) (kA rfl) (by decide) ?_
          refine pxV (v := (.int .i64 10)) (fun _ _ hF => opAssign rfl rfl) rfl (fun _ _ => rfl) (kA rfl) (by decide) ?_
          refine pxEnd ?_
          refine qxThen ?_
          refine cxRet ?_
          refine qxInR ?_
          refine qxThenR ?_
          refine qxRet3 2 1 0 rfl rfl rfl rfl ?_
          have hk0 : kd s = 10 := by unfold kd; rw [hn, if_neg (by omega), if_pos (by omega)]
          have he : der s p m = ([], 0, 10) := by unfold der; rw [if_neg (by omega), hk0, if_pos (by decide)]
          rw [he]
          exact ⟨_, _, rfl, ⟨_, rfl, OwnT.nil _ _⟩, HH.out (HH.pad hH 1) [true]⟩
        · refine cxSeq ?_
          refine cxReg ?_
          refine pxV (v := (.slice (some ⟨b3, off4, none⟩) n c)) (fun _ _ hF => opMove rfl (hF.ev 1 rfl)) rfl (fun _ _ => rfl) (kM [false, true, true, true] rfl rfl) (by decide) ?_
          refine pxV (v := (.int .i64 (((n) : Nat) : Int))) (fun _ _ hF => opLen (e := 5) rfl (by kernel_rfl) (hF.ev 0 rfl)) rfl (fun _ _ => rfl) (kM [false, true, true, true] rfl rfl) (by decide) ?_
          refine pxV (v := (.bool (decide (n < 11)))) (fun _ _ hF => opLss rfl (hF.ev 0 rfl) rfl (dc (by omega))) rfl (fun _ _ => rfl) (kM [false, true, true, true] rfl rfl) (by decide) ?_
          refine pxV (v := (.bool (decide (n < 11)))) (fun _ _ hF => opAssign rfl (hF.ev 0 rfl)) rfl (fun _ _ => rfl) (kM [false, true, true, true] rfl rfl) (by decide) ?_
          refine pxEnd ?_
          refine qxThen ?_
          refine cxP 0 rfl rfl (fun hc18 => ?_) (fun hc18 => ?_)
          · refine cxSeq ?_
            refine cxReg ?_
            refine pxV (v := (.slice none 0 0)) (fun _ _ hF => opAssign rfl rfl) rfl (fun _ _ => rfl) (kM [false, false, false, false] rfl rfl) (by decide) ?_
            refine pxV (v := (.int .i64 0)) (fun _ _ hF => opAssign rfl rfl) rfl (fun _ _ => rfl) (kA rfl) (by decide) ?_
            refine pxV (v := (.int .i64 2)) (fun _ _ hF => opAssign rfl rfl) rfl (fun _ _ => rfl) (kA rfl) (by decide) ?_
            refine pxEnd ?_
            refine qxThen ?_
            refine cxRet ?_
            refine qxInR ?_
            refine qxThenR ?_
            refine qxRet3 2 1 0 rfl rfl rfl rfl ?_
            have hk0 : kd s = 2 := by unfold kd; rw [hn, if_neg (by omega), if_neg (by omega), if_pos (by omega)]
            have he : der s p m = ([], 0, 2) := by unfold der; rw [if_neg (by omega), hk0, if_pos (by decide)]
            rw [he]
            exact ⟨_, _, rfl, ⟨_, rfl, OwnT.nil _ _⟩, HH.out (HH.pad hH 1) [true]⟩
          · refine cxSeq ?_
            have hx10 : s[10]? = some (s.getD 10 0) := by rw [List.getD_eq_getElem?_getD, List.getElem?_eq_getElem (by omega)]; rfl
            have hb10 := UInt8.toNat_lt (s.getD 10 0)
            refine cxReg ?_
            refine pxV (v := (.slice (some ⟨b3, off4, none⟩) n c)) (fun _ _ hF => opMove rfl (hF.ev 1 rfl)) rfl (fun _ _ => rfl) (kM [false, true, true, true] rfl rfl) (by decide) ?_
            have hi19 : 10 < n := by omega
            have hj22 : 10 < s.length := by first | exact hi19 | (simp only [List.length_drop]; omega) | (simp only [List.length_drop, List.length_take]; omega) | omega
            refine pxV (v := (.pointer (some ⟨b3, off4 + 10 * 1, none⟩))) (fun _ _ hF => opIndex (i := 10) (e := 5) (sz := 1) rfl (by kernel_rfl) (by kernel_rfl) (hF.ev 0 rfl) rfl rfl hi19) rfl (fun _ _ => rfl) (kM [false, true, true, true] rfl rfl) (by decide) ?_
            refine pxS (v := (.int .u8 ((((s.getD 10 0).toNat) : Nat) : Int))) (fun w => HoldsL cByte w b3 off4 s) (hH.holdsL hL5 hb6 hR7) (fun _ _ hF hS => opLoadT (C := cByte) (y := (s.getD 10 0)) rfl (hF.ev 0 rfl) (by kernel_rfl) (hS 10 _ hx10) rfl) rfl (fun _ _ => rfl) (kM [false, true, true, true] rfl rfl) (by decide) ?_
            refine pxM hH (fun _ hF => Does.small ((rcount_c ((s.getD 10 0).toNat) (by first | omega | exact UInt8.toNat_lt _)).does) (fun w => opCall rfl Tryd.func10 rfl rfl (Evs.cons (v := (.int .u8 ((((s.getD 10 0).toNat) : Nat) : Int))) (hF.ev 0 rfl) Evs.nil) w)) trivial rfl (fun _ _ => rfl) (kM [false, true, true, true] rfl rfl) (by decide) ?_
            clear hH
            rintro _ _ w ⟨rfl, rfl⟩ hH
            replace hH : HH w0 [] [] w := hH.unpad
            refine pxV (v := (.bool (decide ((cnt ((s.getD 10 0).toNat)) > 131072)))) (fun _ _ hF => opGtr rfl (hF.ev 0 rfl) rfl (dc (by omega))) rfl (fun _ _ => rfl) (kM [false, true, true, true] rfl rfl) (by decide) ?_
            refine pxV (v := (.bool (decide ((cnt ((s.getD 10 0).toNat)) > 131072)))) (fun _ _ hF => opAssign rfl (hF.ev 0 rfl)) rfl (fun _ _ => rfl) (kM [false, true, true, true] rfl rfl) (by decide) ?_
            refine pxEnd ?_
            refine qxThen ?_
            refine cxP 0 rfl rfl (fun hc23 => ?_) (fun hc23 => ?_)
            · refine cxSeq ?_
              refine cxReg ?_
              refine pxV (v := (.slice none 0 0)) (fun _ _ hF => opAssign rfl rfl) rfl (fun _ _ => rfl) (kM [false, false, false, false] rfl rfl) (by decide) ?_
              refine pxV (v := (.int .i64 0)) (fun _ _ hF => opAssign rfl rfl) rfl (fun _ _ => rfl) (kA rfl) (by decide) ?_
              refine pxV (v := (.int .i64 6)) (fun _ _ hF => opAssign rfl rfl) rfl (fun _ _ => rfl) (kA rfl) (by decide) ?_
              refine pxEnd ?_
              refine qxThen ?_
              refine cxRet ?_
              refine qxInR ?_
              refine qxThenR ?_
              refine qxRet3 2 1 0 rfl rfl rfl rfl ?_
              have hk0 : kd s = 6 := by unfold kd; rw [hn, if_neg (by omega), if_neg (by omega), if_neg (by omega), if_pos (by omega)]
              have he : der s p m = ([], 0, 6) := by unfold der; rw [if_neg (by omega), hk0, if_pos (by decide)]
              rw [he]
              exact ⟨_, _, rfl, ⟨_, rfl, OwnT.nil _ _⟩, HH.out (HH.pad hH 1) [true]⟩
            · refine cxSkip ?_
              refine qxInN ?_
              refine qxThen ?_
              refine cxSeq ?_
              have hz : 11 ≤ n ∧ cnt (s.getD 10 0).toNat ≤ 131072 ∧ kd s = 0 := by
                refine ⟨by omega, by omega, ?_⟩
                unfold kd
                rw [hn, if_neg (by omega), if_neg (by omega), if_neg (by omega), if_neg (by omega)]
              have htl : (txt s p).length = 8 + k := by rw [txt_len (by omega), hk]
              have hct := cnt_pos (s.getD 10 0).toNat
              refine cxReg ?_
              refine pxM hH (fun _ hF => smLit0 (e := 5) rfl (by kernel_rfl) (by kernel_rfl)) trivial rfl (fun _ _ => rfl) (kM [false, true, true, true] rfl rfl) (by decide) ?_
              clear hH
              rintro _ _ w ⟨g24, rfl, rfl⟩ hH
              replace hH : HH w0 [] [[bl g24 5 #[]]] w := hH
              refine pxV (v := (.slice (some ⟨b3, off4, none⟩) n c)) (fun _ _ hF => opMove rfl (hF.ev 1 rfl)) rfl (fun _ _ => rfl) (kA rfl) (by decide) ?_
              refine pxV (v := (.slice (cutA (some ⟨b3, off4, none⟩) c 2 1) (10 - 2) (c - 2))) (fun _ _ hF => opCutLH (k := 2) (h := 10) (e := 5) (sz := 1) rfl (by kernel_rfl) (by kernel_rfl) (hF.ev 0 rfl) rfl rfl rfl rfl (by omega) (by omega)) rfl (fun _ _ => rfl) (kM [false, true, true, true, true] rfl rfl) (by decide) ?_
              refine pxE 0 hH rfl (fun _ hF => smAppT (C := cByte) (l := []) (m := ((s.take 10).drop 2)) (e := 5) (z := (.int .u8 0)) (by_ := 1) rfl (by kernel_rfl) (by kernel_rfl) rfl (ltb rfl) (hF.ev 1 rfl) ((Bk.lit0 (C := cByte)).own 5 g24 rfl) (hF.ev 0 rfl) (by rw [List.length_drop, List.length_take]; omega) (fun h => by rw [cutA_some (by omega)] at h; cases h) (by rw [List.length_nil]; unfold maxLen; omega) (by rw [List.length_nil]; omega)) ((hH.vu hR.1 (by decide) (Off.nil _ _)).cut (k := 2) (m := 10) (by omega) (by omega)) rfl (fun _ _ => rfl) (kM [false, false, true, true, true] rfl rfl) (by decide) ?_
              clear hH
              rintro v27 E28 w ⟨hO29, _⟩ hH
              replace hH : HH w0 [] [E28] w := hH
              replace hO29 : OwnT cByte 5 v27 ((s.take 10).drop 2) E28 := hO29
              obtain ⟨A25, c26, rfl⟩ := hO29.slice
              refine pxV (v := (.slice B k d)) (fun _ _ hF => opMove rfl (hF.ev 2 rfl)) rfl (fun _ _ => rfl) (kM [true, true, false, true] rfl rfl) (by decide) ?_
              refine pxE 0 hH rfl (fun _ hF => smAppT (C := cByte) (l := ((s.take 10).drop 2)) (m := p) (e := 5) (z := (.int .u8 0)) (by_ := 1) rfl (by kernel_rfl) (by kernel_rfl) rfl (ltb rfl) (hF.ev 1 rfl) hO29 (hF.ev 0 rfl) hk (fun h => ⟨by have := hR.2.nil h; omega, hR.2.nil h⟩) (by rw [List.length_drop, List.length_take]; unfold maxLen; omega) (by rw [List.length_drop, List.length_take]; omega)) (hH.vu hR.2 (by decide) (Off.nil _ _)) rfl (fun _ _ => rfl) (kM [false, false, true, true] rfl rfl) (by decide) ?_
              clear hH
              rintro v32 E33 w ⟨hO34, _⟩ hH
              replace hH : HH w0 [] [E33] w := hH
              replace hO34 : OwnT cByte 5 v32 (((s.take 10).drop 2) ++ p) E33 := hO34
              obtain ⟨A30, c31, rfl⟩ := hO34.slice
              refine pxV (v := (.slice A30 ((((s.take 10).drop 2) ++ p).length) c31)) (fun _ _ hF => opAssign rfl (hF.ev 0 rfl)) rfl (fun _ _ => rfl) (kM [false, true, true] rfl rfl) (by decide) ?_
              refine pxEnd ?_
              refine qxThen ?_
              refine cxSeq ?_
              refine cxReg ?_
              refine pxV (v := (.slice none 0 0)) (fun _ _ hF => opAssign rfl rfl) rfl (fun _ _ => rfl) (kA rfl) (by decide) ?_
              refine pxEnd ?_
              refine qxThen ?_
              refine cxSeq ?_
              refine cxBlock ?_
              replace hH := HH.pad hH 1
              replace hH : HH w0 [] [E33, []] w := hH
              replace hH : HH w0 [] [E33, []] w := hH.only [true, true]
              have hO1 : OwnT cByte 5 (.slice A30 (txt s p).length c31) (txt s p) E33 := hO34
              refine cxLoop (σ := Nat × (Option Addr) × Nat × (List UInt8) × Hl) (fun x => [(10, (.slice x.2.1 x.2.2.2.1.length x.2.2.1)), (9, (.slice A30 ((txt s p).length) c31)), (2, (.int .i64 (((m) : Nat) : Int))), (0, (.slice (some ⟨b3, off4, none⟩) n c))]) (fun x w => HH w0 [] [E33, x.2.2.2.2] w ∧ (OwnT cByte 5 (.slice x.2.1 x.2.2.2.1.length x.2.2.1) x.2.2.2.1 x.2.2.2.2) ∧ (x.2.2.2.1 = cyc (txt s p) (x.1 * (txt s p).length)) ∧ (x.2.2.2.1.length = x.1 * (txt s p).length) ∧ (x.1 * (txt s p).length ≤ 132080)) (fun x => 132080 - x.1 * (txt s p).length) (0, none, 0, [], []) ⟨hH, (OwnT.nil _ _), (by rw [Nat.zero_mul]; rfl), (by rw [Nat.zero_mul]; rfl), (by rw [Nat.zero_mul]; omega)⟩ (slots_at [0, 1, 3, 2] rfl) ?_
              clear hH
              rintro ⟨q, A1, c1, L, E1⟩ w ⟨hH, hO, hL, hlen, hq⟩
              change CX _ _ _ _ [(10, (.slice A1 L.length c1)), (9, (.slice A30 ((txt s p).length) c31)), (2, (.int .i64 (((m) : Nat) : Int))), (0, (.slice (some ⟨b3, off4, none⟩) n c))] _
              replace hH : HH w0 [] [E33, E1] w := hH
              replace hO : OwnT cByte 5 (.slice A1 L.length c1) L E1 := hO
              replace hL : L = cyc (txt s p) (q * (txt s p).length) := hL
              replace hlen : L.length = q * (txt s p).length := hlen
              replace hq : q * (txt s p).length ≤ 132080 := hq
              refine cxSeq ?_
              refine cxSeq ?_
              refine cxReg ?_
              refine pxV (v := (.slice A1 L.length c1)) (fun _ _ hF => opMove rfl (hF.ev 0 rfl)) rfl (fun _ _ => rfl) (kA rfl) (by decide) ?_
              refine pxV (v := (.int .i64 (((L.length) : Nat) : Int))) (fun _ _ hF => opLen (e := 5) rfl (by kernel_rfl) (hF.ev 0 rfl)) rfl (fun _ _ => rfl) (kM [false, true, true, true, true] rfl rfl) (by decide) ?_
              refine pxV (v := (.slice (some ⟨b3, off4, none⟩) n c)) (fun _ _ hF => opMove rfl (hF.ev 4 rfl)) rfl (fun _ _ => rfl) (kA rfl) (by decide) ?_
              have hi35 : 10 < n := by omega
              have hj38 : 10 < s.length := by first | exact hi35 | (simp only [List.length_drop]; omega) | (simp only [List.length_drop, List.length_take]; omega) | omega
              refine pxV (v := (.pointer (some ⟨b3, off4 + 10 * 1, none⟩))) (fun _ _ hF => opIndex (i := 10) (e := 5) (sz := 1) rfl (by kernel_rfl) (by kernel_rfl) (hF.ev 0 rfl) rfl rfl hi35) rfl (fun _ _ => rfl) (kM [false, true, true, true, true, true] rfl rfl) (by decide) ?_
              refine pxS (v := (.int .u8 ((((s.getD 10 0).toNat) : Nat) : Int))) (fun w => HoldsL cByte w b3 off4 s) (hH.holdsL hL5 hb6 hR7) (fun _ _ hF hS => opLoadT (C := cByte) (y := (s.getD 10 0)) rfl (hF.ev 0 rfl) (by kernel_rfl) (hS 10 _ hx10) rfl) rfl (fun _ _ => rfl) (kM [false, true, true, true, true, true] rfl rfl) (by decide) ?_
              refine pxM hH (fun _ hF => Does.small ((rcount_c ((s.getD 10 0).toNat) (by first | omega | exact UInt8.toNat_lt _)).does) (fun w => opCall rfl Tryd.func10 rfl rfl (Evs.cons (v := (.int .u8 ((((s.getD 10 0).toNat) : Nat) : Int))) (hF.ev 0 rfl) Evs.nil) w)) trivial rfl (fun _ _ => rfl) (kM [false, true, true, true, true, true] rfl rfl) (by decide) ?_
              clear hH
              rintro _ _ w ⟨rfl, rfl⟩ hH
              replace hH : HH w0 [] [E33, E1] w := hH.unpad
              refine pxV (v := (.bool (decide (L.length < (cnt ((s.getD 10 0).toNat)))))) (fun _ _ hF => opLss rfl (hF.ev 1 rfl) (hF.ev 0 rfl) (dc (by omega))) rfl (fun _ _ => rfl) (kM [false, false, true, true, true, true] rfl rfl) (by decide) ?_
              refine pxEnd ?_
              refine qxThen ?_
              refine cxP 0 rfl rfl (fun hc39 => ?_) (fun hc39 => ?_)
              · refine cxSkip ?_
                refine qxThen ?_
                refine cxBlock ?_
                refine cxReg ?_
                refine pxV (v := (.slice A1 L.length c1)) (fun _ _ hF => opMove rfl (hF.ev 1 rfl)) rfl (fun _ _ => rfl) (kM [false, false, true, true, true] rfl rfl) (by decide) ?_
                refine pxV (v := (.slice A30 ((txt s p).length) c31)) (fun _ _ hF => opMove rfl (hF.ev 1 rfl)) rfl (fun _ _ => rfl) (kA rfl) (by decide) ?_
                refine pxE 1 hH rfl (fun _ hF => smAppT (C := cByte) (l := L) (m := (txt s p)) (e := 5) (z := (.int .u8 0)) (by_ := 1) rfl (by kernel_rfl) (by kernel_rfl) rfl (ltb rfl) (hF.ev 1 rfl) hO (hF.ev 0 rfl) rfl hO1.nilA (by unfold maxLen; omega) (by omega)) (hO1.vuAt (hH.has 0 rfl)) rfl (fun _ _ => rfl) (kM [false, false, true, true, true] rfl rfl) (by decide) ?_
                clear hH
                rintro v42 E43 w ⟨hO44, _⟩ hH
                replace hH : HH w0 [] [E33, E43] w := hH
                replace hO44 : OwnT cByte 5 v42 (L ++ (txt s p)) E43 := hO44
                obtain ⟨A40, c41, rfl⟩ := hO44.slice
                refine pxV (v := (.slice A40 ((L ++ (txt s p)).length) c41)) (fun _ _ hF => opAssign rfl (hF.ev 0 rfl)) rfl (fun _ _ => rfl) (kM [false, true, true, true] rfl rfl) (by decide) ?_
                refine pxEnd ?_
                refine qxInN ?_
                exact qxRound (q + 1, A40, c41, (L ++ (txt s p)), E43) ⟨hH, hO44, (by rw [hL]; exact cyc_whole), (by rw [List.length_append, hlen, Nat.add_mul, Nat.one_mul]), (show (q + 1) * (txt s p).length ≤ 132080 from (by rw [Nat.add_mul, Nat.one_mul]; omega))⟩ (show 132080 - (q + 1) * (txt s p).length < 132080 - q * (txt s p).length by rw [Nat.add_mul, Nat.one_mul]; omega) (slots_at [0, 1, 2, 3] rfl)
              · refine cxExit ?_
                refine qxThenE ?_
                refine qxThenE ?_
                refine qxInE ?_
                refine qxThen ?_
                refine cxSeq ?_
                have hcl := hO.capLe
                have hbl : big s p ≤ L.length := by unfold big; omega
                have hbb : big s p ≤ 131072 := by unfold big; omega
                have hbe : L.take (big s p) = cyc (txt s p) (big s p) := by rw [hL]; exact cyc_take (by omega)
                refine cxReg ?_
                refine pxV (v := (.slice A1 L.length c1)) (fun _ _ hF => opMove rfl (hF.ev 1 rfl)) rfl (fun _ _ => rfl) (kM [false, true, true, true, true] rfl rfl) (by decide) ?_
                refine pxV (v := (.slice A30 ((txt s p).length) c31)) (fun _ _ hF => opMove rfl (hF.ev 2 rfl)) rfl (fun _ _ => rfl) (kM [true, true, false, true, true] rfl rfl) (by decide) ?_
                refine pxV (v := (.int .i64 ((((txt s p).length) : Nat) : Int))) (fun _ _ hF => opLen (e := 5) rfl (by kernel_rfl) (hF.ev 0 rfl)) rfl (fun _ _ => rfl) (kM [false, true, true, true, true] rfl rfl) (by decide) ?_
                refine pxV (v := (.slice A1 L.length c1)) (fun _ _ hF => opMove rfl (hF.ev 2 rfl)) rfl (fun _ _ => rfl) (kM [true, true, false, true, true] rfl rfl) (by decide) ?_
                refine pxV (v := (.int .i64 (((L.length) : Nat) : Int))) (fun _ _ hF => opLen (e := 5) rfl (by kernel_rfl) (hF.ev 0 rfl)) rfl (fun _ _ => rfl) (kM [false, true, true, true, true] rfl rfl) (by decide) ?_
                refine pxV (v := (.slice (some ⟨b3, off4, none⟩) n c)) (fun _ _ hF => opMove rfl (hF.ev 4 rfl)) rfl (fun _ _ => rfl) (kM [true, true, true, true, false] rfl rfl) (by decide) ?_
                have hi45 : 10 < n := by omega
                have hj48 : 10 < s.length := by first | exact hi45 | (simp only [List.length_drop]; omega) | (simp only [List.length_drop, List.length_take]; omega) | omega
                refine pxV (v := (.pointer (some ⟨b3, off4 + 10 * 1, none⟩))) (fun _ _ hF => opIndex (i := 10) (e := 5) (sz := 1) rfl (by kernel_rfl) (by kernel_rfl) (hF.ev 0 rfl) rfl rfl hi45) rfl (fun _ _ => rfl) (kM [false, true, true, true, true] rfl rfl) (by decide) ?_
                refine pxS (v := (.int .u8 ((((s.getD 10 0).toNat) : Nat) : Int))) (fun w => HoldsL cByte w b3 off4 s) (hH.holdsL hL5 hb6 hR7) (fun _ _ hF hS => opLoadT (C := cByte) (y := (s.getD 10 0)) rfl (hF.ev 0 rfl) (by kernel_rfl) (hS 10 _ hx10) rfl) rfl (fun _ _ => rfl) (kM [false, true, true, true, true] rfl rfl) (by decide) ?_
                refine pxM hH (fun _ hF => Does.small ((rcount_c ((s.getD 10 0).toNat) (by first | omega | exact UInt8.toNat_lt _)).does) (fun w => opCall rfl Tryd.func10 rfl rfl (Evs.cons (v := (.int .u8 ((((s.getD 10 0).toNat) : Nat) : Int))) (hF.ev 0 rfl) Evs.nil) w)) trivial rfl (fun _ _ => rfl) (kM [false, true, true, true, true] rfl rfl) (by decide) ?_
                clear hH
                rintro _ _ w ⟨rfl, rfl⟩ hH
                replace hH : HH w0 [] [E33, E1] w := hH.unpad
                refine pxV (v := (.int .i64 ((((cnt (s.getD 10 0).toNat)) : Nat) : Int))) (fun _ _ hF => opMin rfl (hF.ev 1 rfl) (hF.ev 0 rfl) (by omega)) rfl (fun _ _ => rfl) (kM [false, false, true, true, true] rfl rfl) (by decide) ?_
                refine pxV (v := (.int .i64 ((((big s p)) : Nat) : Int))) (fun _ _ hF => opMax rfl (hF.ev 1 rfl) (hF.ev 0 rfl) (by unfold big; omega)) rfl (fun _ _ => rfl) (kM [false, false, true, true] rfl rfl) (by decide) ?_
                refine pxV (v := (.slice A1 (big s p) c1)) (fun _ _ hF => opCutH (h := (big s p)) (e := 5) (sz := 1) rfl (by kernel_rfl) (by kernel_rfl) (hF.ev 1 rfl) (hF.ev 0 rfl) rfl (by omega)) rfl (fun _ _ => rfl) (kM [false, false, true] rfl rfl) (by decide) ?_
                refine pxV (v := (.slice A1 (big s p) c1)) (fun _ _ hF => opAssign rfl (hF.ev 0 rfl)) rfl (fun _ _ => rfl) (kM [false, true] rfl rfl) (by decide) ?_
                refine pxEnd ?_
                refine qxThen ?_
                refine cxSeq ?_
                refine cxReg ?_
                refine pxV (v := (.slice none 0 0)) (fun _ _ hF => opAssign rfl rfl) rfl (fun _ _ => rfl) (kA rfl) (by decide) ?_
                refine pxEnd ?_
                refine qxThen ?_
                refine cxSeq ?_
                refine cxSeq ?_
                refine cxReg ?_
                refine pxV (v := (.int .i64 0)) (fun _ _ hF => opAssign rfl rfl) rfl (fun _ _ => rfl) (kA rfl) (by decide) ?_
                refine pxEnd ?_
                refine qxThen ?_
                refine cxBlock ?_
                replace hH := HH.pad hH 1
                replace hH : HH w0 [] [E33, E1, []] w := hH
                replace hH : HH w0 [] [E1, []] w := hH.only [false, true, true]
                refine cxLoop (σ := Nat × (Option Addr) × Nat × (List UInt8) × Hl) (fun x => [(12, (.int .i64 (((x.1) : Nat) : Int))), (11, (.slice x.2.1 x.2.2.2.1.length x.2.2.1)), (10, (.slice A1 (big s p) c1)), (2, (.int .i64 (((m) : Nat) : Int)))]) (fun x w => HH w0 [] [E1, x.2.2.2.2] w ∧ (x.1 ≤ 2) ∧ (OwnT cByte 5 (.slice x.2.1 x.2.2.2.1.length x.2.2.1) x.2.2.2.1 x.2.2.2.2) ∧ (x.2.2.2.1 = kcat (txt s p) (big s p) x.1) ∧ (x.2.2.2.1.length = 32 * x.1)) (fun x => 2 - x.1) (0, none, 0, [], []) ⟨hH, (Nat.zero_le _), (OwnT.nil _ _), rfl, rfl⟩ (slots_at [0, 1, 2, 3] rfl) ?_
                clear hH
                rintro ⟨i, A2, c2, M, E2⟩ w ⟨hH, hi, hO2, hM, hml⟩
                change CX _ _ _ _ [(12, (.int .i64 (((i) : Nat) : Int))), (11, (.slice A2 M.length c2)), (10, (.slice A1 (big s p) c1)), (2, (.int .i64 (((m) : Nat) : Int)))] _
                replace hH : HH w0 [] [E1, E2] w := hH
                replace hi : i ≤ 2 := hi
                replace hO2 : OwnT cByte 5 (.slice A2 M.length c2) M E2 := hO2
                replace hM : M = kcat (txt s p) (big s p) i := hM
                replace hml : M.length = 32 * i := hml
                refine cxSeq ?_
                refine cxSeq ?_
                refine cxReg ?_
                refine pxV (v := (.slice A2 M.length c2)) (fun _ _ hF => opMove rfl (hF.ev 1 rfl)) rfl (fun _ _ => rfl) (kA rfl) (by decide) ?_
                refine pxV (v := (.int .i64 (((M.length) : Nat) : Int))) (fun _ _ hF => opLen (e := 5) rfl (by kernel_rfl) (hF.ev 0 rfl)) rfl (fun _ _ => rfl) (kM [false, true, true, true, true] rfl rfl) (by decide) ?_
                refine pxV (v := (.int .i64 (((m) : Nat) : Int))) (fun _ _ hF => opMove rfl (hF.ev 4 rfl)) rfl (fun _ _ => rfl) (kA rfl) (by decide) ?_
                refine pxV (v := (.bool (decide (M.length < m)))) (fun _ _ hF => opLss rfl (hF.ev 1 rfl) (hF.ev 0 rfl) (dc (by omega))) rfl (fun _ _ => rfl) (kM [false, false, true, true, true, true] rfl rfl) (by decide) ?_
                refine pxEnd ?_
                refine qxThen ?_
                refine cxP 0 rfl rfl (fun hc49 => ?_) (fun hc49 => ?_)
                · refine cxSkip ?_
                  refine qxThen ?_
                  refine cxSeq ?_
                  refine cxBlock ?_
                  refine cxSeq ?_
                  refine cxReg ?_
                  refine pxV (v := (.int .i64 (((i) : Nat) : Int))) (fun _ _ hF => opMove rfl (hF.ev 1 rfl)) rfl (fun _ _ => rfl) (kM [false, true, true, true, true] rfl rfl) (by decide) ?_
                  refine pxM hH (fun _ hF => smMake (e := 5) (n := i) (sz := 1) (by_ := 1) (z := (.int .u8 0)) (cs := madeCells (cByte.enc (0 : UInt8)) (i * 1)) rfl (by kernel_rfl) (by kernel_rfl) (hF.ev 0 rfl) (hF.ev 0 rfl) rfl rfl (by omega) (by omega) rfl) trivial rfl (fun _ _ => rfl) (kM [false, true, true, true, true] rfl rfl) (by decide) ?_
                  clear hH
                  rintro _ _ w ⟨g50, rfl, rfl⟩ hH
                  replace hH : HH w0 [] [E1, E2, [bl g50 5 (madeCells (cByte.enc (0 : UInt8)) (i * 1))]] w := hH
                  refine pxV (v := (.slice A1 (big s p) c1)) (fun _ _ hF => opMove rfl (hF.ev 3 rfl)) rfl (fun _ _ => rfl) (kA rfl) (by decide) ?_
                  refine pxE 2 hH rfl (fun _ hF => smAppT (C := cByte) (l := (List.replicate i (0 : UInt8))) (m := (L.take (big s p))) (e := 5) (z := (.int .u8 0)) (by_ := 1) rfl (by kernel_rfl) (by kernel_rfl) rfl (ltb rfl) (hF.ev 1 rfl) ((Bk.make (C := cByte) (0 : UInt8) i (ltb rfl) (by unfold maxLen; omega)).own 5 g50 List.length_replicate) (hF.ev 0 rfl) (by rw [hbe, cyc_len]) (fun h => ⟨by have := OwnT.nilA hO h; omega, (OwnT.nilA hO h).2⟩) (by rw [List.length_replicate]; unfold maxLen; omega) (by rw [List.length_replicate]; omega)) ((hO.vuAt (hH.has 0 rfl)).head (m := (big s p)) (by omega)) rfl (fun _ _ => rfl) (kM [false, false, true, true, true, true] rfl rfl) (by decide) ?_
                  clear hH
                  rintro v53 E54 w ⟨hO55, _⟩ hH
                  replace hH : HH w0 [] [E1, E2, E54] w := hH
                  replace hO55 : OwnT cByte 5 v53 ((List.replicate i (0 : UInt8)) ++ (L.take (big s p))) E54 := hO55
                  obtain ⟨A51, c52, rfl⟩ := hO55.slice
                  refine pxM hH (fun _ hF => Does.small ((rsum_c A51 _ c52 ((List.replicate i (0 : UInt8)) ++ (L.take (big s p))) (by rw [List.length_append, List.length_replicate, hbe, cyc_len]; omega)).does) (fun w => opCall rfl Tryd.func14 rfl rfl (Evs.cons (v := (.slice A51 (((List.replicate i (0 : UInt8)) ++ (L.take (big s p))).length) c52)) (hF.ev 0 rfl) Evs.nil) w)) (hO55.vuAt (hH.has 2 rfl)) rfl (fun _ _ => rfl) (kM [false, true, true, true, true] rfl rfl) (by decide) ?_
                  clear hH
                  rintro _ _ w ⟨rfl, rfl⟩ hH
                  replace hH : HH w0 [] [E1, E2, E54] w := hH.unpad
                  refine pxM hH (fun _ hF => smAlloc (cs := (cArr 32).enc (fun _ => 0)) (z := ((cArr 32).val (fun _ => 0))) rfl (by kernel_rfl) rfl) trivial rfl (fun _ _ => rfl) (kA rfl) (by decide) ?_
                  clear hH
                  rintro _ _ w ⟨g56, rfl, rfl⟩ hH
                  replace hH : HH w0 [] [E1, E2, E54, [bl g56 34 ((cArr 32).enc (fun _ => 0))]] w := hH
                  refine pxE0 3 hH rfl (fun _ hF => smStoreT (C := (cArr 32)) (z := (sha ((List.replicate i (0 : UInt8)) ++ (L.take (big s p))))) rfl (hF.ev 0 rfl) (hF.ev 1 rfl) rfl (by kernel_rfl) (by rw [Cod.size]; exact Nat.le_refl _) (put_whole (cArr 32) _ _)) trivial rfl (fun _ _ => rfl) ?_
                  clear hH
                  rintro _ _ w rfl hH
                  replace hH : HH w0 [] [E1, E2, E54, [bl g56 34 ((cArr 32).enc (sha ((List.replicate i (0 : UInt8)) ++ (L.take (big s p)))))]] w := hH
                  refine pxEnd ?_
                  refine qxThen ?_
                  refine cxReg ?_
                  refine pxV (v := (.slice A2 M.length c2)) (fun _ _ hF => opMove rfl (hF.ev 3 rfl)) rfl (fun _ _ => rfl) (kM [true, false, true, false, true, true] rfl rfl) (by decide) ?_
                  refine pxV (v := (.slice (some ⟨g56, 0, none⟩) 32 32)) (fun _ _ hF => opSliceA (n := 32) (e := 5) (sz := 1) rfl (by kernel_rfl) (by kernel_rfl) (hF.ev 1 rfl)) rfl (fun _ _ => rfl) (kM [true, false, true, true, true] rfl rfl) (by decide) ?_
                  refine pxE 1 hH rfl (fun _ hF => smAppT (C := cByte) (l := M) (m := (lst 32 (sha ((List.replicate i (0 : UInt8)) ++ (L.take (big s p)))))) (e := 5) (z := (.int .u8 0)) (by_ := 1) rfl (by kernel_rfl) (by kernel_rfl) rfl (ltb rfl) (hF.ev 1 rfl) hO2 (hF.ev 0 rfl) (lst_len _ _) (fun h => by cases h) (by unfold maxLen; omega) (by omega)) (vu_arr (hH.blk 3 rfl)) rfl (fun _ _ => rfl) (kM [false, false, true, true, true] rfl rfl) (by decide) ?_
                  clear hH
                  rintro v59 E60 w ⟨hO61, _⟩ hH
                  replace hH : HH w0 [] [E1, E60, E54, [bl g56 34 ((cArr 32).enc (sha ((List.replicate i (0 : UInt8)) ++ (L.take (big s p)))))]] w := hH
                  replace hO61 : OwnT cByte 5 v59 (M ++ (lst 32 (sha ((List.replicate i (0 : UInt8)) ++ (L.take (big s p)))))) E60 := hO61
                  obtain ⟨A57, c58, rfl⟩ := hO61.slice
                  refine pxV (v := (.slice A57 ((M ++ (lst 32 (sha ((List.replicate i (0 : UInt8)) ++ (L.take (big s p)))))).length) c58)) (fun _ _ hF => opAssign rfl (hF.ev 0 rfl)) rfl (fun _ _ => rfl) (kM [false, true, true, true] rfl rfl) (by decide) ?_
                  refine pxEnd ?_
                  refine qxInN ?_
                  refine qxThen ?_
                  refine cxReg ?_
                  refine pxV (v := (.int .i64 (((i) : Nat) : Int))) (fun _ _ hF => opMove rfl (hF.ev 1 rfl)) rfl (fun _ _ => rfl) (kM [true, false, true, true] rfl rfl) (by decide) ?_
                  refine pxV (v := (.int .i64 (((i + 1) : Nat) : Int))) (fun _ _ hF => opAdd rfl (hF.ev 0 rfl) rfl (wI (by omega) (by omega) (by omega))) rfl (fun _ _ => rfl) (kM [false, true, true, true] rfl rfl) (by decide) ?_
                  refine pxV (v := (.int .i64 (((i + 1) : Nat) : Int))) (fun _ _ hF => opAssign rfl (hF.ev 0 rfl)) rfl (fun _ _ => rfl) (kM [false, true, true, true] rfl rfl) (by decide) ?_
                  refine pxEnd ?_
                  replace hH : HH w0 [] [E1, E60] w := hH.only [true, true, false, false]
                  exact qxRound (i + 1, A57, c58, (M ++ (lst 32 (sha ((List.replicate i (0 : UInt8)) ++ (L.take (big s p)))))), E60) ⟨hH, (show (i + 1) ≤ 2 from (by omega)), hO61, (by rw [hM, hbe]; rfl), (show (M ++ (lst 32 (sha ((List.replicate i (0 : UInt8)) ++ (L.take (big s p)))))).length = 32 * (i + 1) from (by rw [List.length_append, hml, lst_len]; omega))⟩ (by omega) (slots_at [0, 1, 2, 3] rfl)
                · refine cxExit ?_
                  refine qxThenE ?_
                  refine qxThenE ?_
                  refine qxInE ?_
                  refine qxThen ?_
                  refine cxSeq ?_
                  have hcl2 := hO2.capLe
                  refine cxReg ?_
                  refine pxV (v := (.slice A2 M.length c2)) (fun _ _ hF => opMove rfl (hF.ev 2 rfl)) rfl (fun _ _ => rfl) (kM [false, false, false, false, true] rfl rfl) (by decide) ?_
                  refine pxV (v := (.int .i64 (((m) : Nat) : Int))) (fun _ _ hF => opMove rfl (hF.ev 1 rfl)) rfl (fun _ _ => rfl) (kM [true, false] rfl rfl) (by decide) ?_
                  refine pxV (v := (.slice A2 m c2)) (fun _ _ hF => opCutH (h := m) (e := 5) (sz := 1) rfl (by kernel_rfl) (by kernel_rfl) (hF.ev 1 rfl) (hF.ev 0 rfl) rfl (by omega)) rfl (fun _ _ => rfl) (kM [false, false] rfl rfl) (by decide) ?_
                  refine pxV (v := (.slice A2 m c2)) (fun _ _ hF => opAssign rfl (hF.ev 0 rfl)) rfl (fun _ _ => rfl) (kM [false] rfl rfl) (by decide) ?_
                  refine pxV (v := (.int .i64 11)) (fun _ _ hF => opAssign rfl rfl) rfl (fun _ _ => rfl) (kA rfl) (by decide) ?_
                  refine pxV (v := (.int .i64 0)) (fun _ _ hF => opAssign rfl rfl) rfl (fun _ _ => rfl) (kA rfl) (by decide) ?_
                  refine pxEnd ?_
                  refine qxThen ?_
                  refine cxRet ?_
                  refine qxRet3 2 1 0 rfl rfl rfl rfl ?_
                  have he : der s p m = (keyL s p m, 11, 0) := by unfold der; rw [if_neg (by omega), if_neg (by omega), Int.toNat_natCast]
                  rw [he]
                  have hLk : M.take m = keyL s p m := by rw [hM]; exact kcat_enough hi (by omega)
                  have hOk := hO2.head (m := m) (by omega)
                  rw [hLk] at hOk
                  exact ⟨_, _, rfl, ⟨_, rfl, hOk⟩, hH.out1 [false, true] rfl⟩
      · refine pxU rfl (gOff 0 rfl rfl rfl (by decide)) (kA rfl) (by decide) ?_
        refine pxU rfl (gOff 0 rfl rfl rfl (by decide)) (kA rfl) (by decide) ?_
        refine pxU rfl (gOff 0 rfl rfl rfl (by decide)) (kA rfl) (by decide) ?_
        refine pxU rfl (gOff 0 rfl rfl rfl (by decide)) (kA rfl) (by decide) ?_
        refine pxV (v := (.bool false)) (fun _ _ hF => opPickF rfl (hF.ev 0 rfl) rfl) rfl (gOn 1 rfl rfl rfl (by decide)) (kM [false, true, true, true, true] rfl rfl) (by decide) ?_
        refine pxV (v := (.bool false)) (fun _ _ hF => opPickF rfl (hF.ev 1 rfl) (hF.ev 0 rfl)) rfl (fun _ _ => rfl) (kM [false, false, true, true, true] rfl rfl) (by decide) ?_
        refine pxV (v := (.bool false)) (fun _ _ hF => opAssign rfl (hF.ev 0 rfl)) rfl (fun _ _ => rfl) (kM [false, true, true, true] rfl rfl) (by decide) ?_
        refine pxEnd ?_
        refine qxThen ?_
        refine cxF 0 rfl rfl ?_
        refine cxSeq ?_
        refine cxReg ?_
        refine pxV (v := (.slice (some ⟨b3, off4, none⟩) n c)) (fun _ _ hF => opMove rfl (hF.ev 1 rfl)) rfl (fun _ _ => rfl) (kM [false, true, true, true] rfl rfl) (by decide) ?_
        refine pxV (v := (.int .i64 (((n) : Nat) : Int))) (fun _ _ hF => opLen (e := 5) rfl (by kernel_rfl) (hF.ev 0 rfl)) rfl (fun _ _ => rfl) (kM [false, true, true, true] rfl rfl) (by decide) ?_
        refine pxV (v := (.bool (decide (n < 11)))) (fun _ _ hF => opLss rfl (hF.ev 0 rfl) rfl (dc (by omega))) rfl (fun _ _ => rfl) (kM [false, true, true, true] rfl rfl) (by decide) ?_
        refine pxV (v := (.bool (decide (n < 11)))) (fun _ _ hF => opAssign rfl (hF.ev 0 rfl)) rfl (fun _ _ => rfl) (kM [false, true, true, true] rfl rfl) (by decide) ?_
        refine pxEnd ?_
        refine qxThen ?_
        refine cxP 0 rfl rfl (fun hc62 => ?_) (fun hc62 => ?_)
        · refine cxSeq ?_
          refine cxReg ?_
          refine pxV (v := (.slice none 0 0)) (fun _ _ hF => opAssign rfl rfl) rfl (fun _ _ => rfl) (kM [false, false, false, false] rfl rfl) (by decide) ?_
          refine pxV (v := (.int .i64 0)) (fun _ _ hF => opAssign rfl rfl) rfl (fun _ _ => rfl) (kA rfl) (by decide) ?_
          refine pxV (v := (.int .i64 2)) (fun _ _ hF => opAssign rfl rfl) rfl (fun _ _ => rfl) (kA rfl) (by decide) ?_
          refine pxEnd ?_
          refine qxThen ?_
          refine cxRet ?_
          refine qxInR ?_
          refine qxThenR ?_
          refine qxRet3 2 1 0 rfl rfl rfl rfl ?_
          have hk0 : kd s = 2 := by unfold kd; rw [hn, if_neg (by omega), if_neg (by omega), if_pos (by omega)]
          have he : der s p m = ([], 0, 2) := by unfold der; rw [if_neg (by omega), hk0, if_pos (by decide)]
          rw [he]
          exact ⟨_, _, rfl, ⟨_, rfl, OwnT.nil _ _⟩, HH.out (HH.pad hH 1) [true]⟩
        · exact absurd h1 (by omega)

theorem rderive_c (A B : Option Addr) (n c k d : Nat) (s p : List UInt8) (m : Int) : Does Tryd.prog 8 #[.slice A n c, .slice B k d, .int .i64 m] [] (fun w => Vu cByte w A n c s ∧ Vu cByte w B k d p) (fun v E' => ∃ q, v = .tuple #[q, .int .i64 (((der s p m).2.1 : Nat) : Int), .int .i64 (((der s p m).2.2 : Nat) : Int)] ∧ OwnT cByte 5 q (der s p m).1 E') := by
  by_cases h : m < 1 ∨ 64 < m ∨ 1000 < k
  · exact rderive_bad A B n c k d s p m h
  · obtain ⟨q, rfl⟩ : ∃ q : Nat, m = (q : Int) := ⟨m.toNat, by omega⟩
    exact rderive_ok A B n c k d s p q (by omega) (by omega) (by omega)
end Go.Proofs.YticflflbogdljaaDoor
