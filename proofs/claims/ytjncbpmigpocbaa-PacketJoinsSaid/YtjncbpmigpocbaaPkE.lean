/- The document's Parse (mkpe.py writes this text). -/
import Derived.Test.YtjncbpmigpocbaaPkD
namespace Go.Proofs.Ytjncbpmigpocbaa
open Go Go.RowKit
set_option maxRecDepth 100000

theorem take_drop4 (b : List UInt8) : (b.take 5).drop 1 = (b.drop 1).take 4 := List.drop_take ..
theorem part_eq (b : List UInt8) (at_ k n : Nat) : (b.take (at_ + k + n)).drop (at_ + k) = ((b.drop at_).drop k).take n := by
  rw [List.drop_take, List.drop_drop, show at_ + k + n - (at_ + k) = n by omega]
theorem rest_eq (b : List UInt8) (at_ k n : Nat) : b.drop (at_ + k + n) = ((b.drop at_).drop k).drop n := by
  rw [List.drop_drop, List.drop_drop, Nat.add_assoc]
theorem tkn_at {b : List UInt8} {at_ : Nat} (h : at_ ≤ b.length) : at_ + (tkn (b.drop at_)).2.1 ≤ b.length := by
  have := tkn_le (b.drop at_)
  rw [List.length_drop] at this
  omega
theorem not_empty {body P : List UInt8} {n : Nat} (hn : 0 < n) (h : n ≤ P.length) : (false = true ↔ body ++ P.take n = []) := by
  constructor
  · intro h; cases h
  · intro q
    have := congrArg List.length q
    rw [List.length_append, List.length_take, List.length_nil] at this
    omega
theorem take_two {b : List UInt8} {k n : Nat} : (b.take (k + n)).drop k = [] ++ (b.drop k).take n := by
  rw [List.drop_take, Nat.add_sub_cancel_left, List.nil_append]
theorem leg_end {kind n : Nat} {b : List UInt8} (h3 : kind = 3) (hn : n = b.length) (h : n ≤ 20000) : leg kind b = (0, b.take (0 + n), b.drop (0 + n)) := by
  subst hn
  rw [leg_end_ok h3 h, Nat.zero_add, List.nil_append]
theorem leg_all {kind k : Nat} {b : List UInt8} (hk : legK kind = k) (h1 : k ≤ b.length) (h2 : legN kind b ≤ 20000) (h : k + legN kind b ≤ b.length) : leg kind b = (0, (b.take (k + legN kind b)).drop k, b.drop (k + legN kind b)) := by
  subst hk
  rw [leg_yes h1 h2 (by rw [List.length_drop]; omega), take_two, List.drop_drop]
theorem leg_few2 {kind k : Nat} {b : List UInt8} (hk : legK kind = k) (h1 : k ≤ b.length) (h2 : legN kind b ≤ 20000) (h : b.length < k + legN kind b) : leg kind b = (2, [], []) := by
  subst hk
  exact leg_few h1 h2 (by rw [List.length_drop]; omega)

set_option maxHeartbeats 8000000 in
theorem taken_c (A : Option Addr) (n c : Nat) (b : List UInt8) (hn : n = b.length) : Pure Try.prog 25 #[(.slice A n c)] (fun w => Vu cByte w A n c b) (.tuple #[.int .i64 ((tkn b).1 : Int), .int .i64 ((tkn b).2.1 : Int), .bool (tkn b).2.2]) := by
  refine pure_of (fn := Try.f25) Try.func25 rfl Try.ntmps25 (Nat.le_of_ble_eq_true rfl) rfl ?_
  intro w0 hH hR
  have hcap := hR.cap
  refine cxSeq ?_
  refine cxReg ?_
  refine pxV (v := (.int .i64 0)) (fun _ _ hF => opAssign rfl rfl) rfl (fun _ _ => rfl) (kA rfl) (by decide) ?_
  refine pxV (v := (.int .i64 0)) (fun _ _ hF => opAssign rfl rfl) rfl (fun _ _ => rfl) (kM [false, true] rfl rfl) (by decide) ?_
  refine pxV (v := (.bool false)) (fun _ _ hF => opAssign rfl rfl) rfl (fun _ _ => rfl) (kM [false, true] rfl rfl) (by decide) ?_
  refine pxEnd ?_
  refine qxThen ?_
  refine cxSeq ?_
  refine cxBlock ?_
  refine cxSeq ?_
  refine cxReg ?_
  refine pxV (v := (.slice A n c)) (fun _ _ hF => opMove rfl (hF.ev 1 rfl)) rfl (fun _ _ => rfl) (kM [false, true] rfl rfl) (by decide) ?_
  refine pxV (v := (.int .i64 (((n) : Nat) : Int))) (fun _ _ hF => opLen (e := 5) rfl (by kernel_rfl) (hF.ev 0 rfl)) rfl (fun _ _ => rfl) (kM [false, true] rfl rfl) (by decide) ?_
  refine pxV (v := (.bool (decide (n = 0)))) (fun _ _ hF => opEqI rfl (hF.ev 0 rfl) rfl (dc (by omega))) rfl (fun _ _ => rfl) (kM [false, true] rfl rfl) (by decide) ?_
  refine pxV (v := (.bool (decide (n = 0)))) (fun _ _ hF => opAssign rfl (hF.ev 0 rfl)) rfl (fun _ _ => rfl) (kM [false, true] rfl rfl) (by decide) ?_
  refine pxEnd ?_
  refine qxThen ?_
  refine cxP 0 rfl rfl (fun hc1 => ?_) (fun hc1 => ?_)
  · refine cxSeq ?_
    refine cxReg ?_
    refine pxV (v := (.int .i64 0)) (fun _ _ hF => opAssign rfl rfl) rfl (fun _ _ => rfl) (kM [false, false] rfl rfl) (by decide) ?_
    refine pxV (v := (.int .i64 0)) (fun _ _ hF => opAssign rfl rfl) rfl (fun _ _ => rfl) (kA rfl) (by decide) ?_
    refine pxV (v := (.bool false)) (fun _ _ hF => opAssign rfl rfl) rfl (fun _ _ => rfl) (kA rfl) (by decide) ?_
    refine pxEnd ?_
    refine qxThen ?_
    refine cxRet ?_
    refine qxInR ?_
    refine qxThenR ?_
    refine qxRet3 2 1 0 rfl rfl rfl rfl ?_
    have he : tkn b = (0, 0, false) := by unfold tkn; rw [if_pos (by omega)]
    exact ⟨by rw [he]; first | done | rfl, HH.toBelow hH⟩
  · refine cxSeq ?_
    obtain ⟨x0, hx0⟩ := get_at b 0 (by omega)
    have e0 : b.getD 0 0 = x0 := getD_el hx0
    have hb0 := UInt8.toNat_lt x0
    refine cxReg ?_
    refine pxV (v := (.slice A n c)) (fun _ _ hF => opMove rfl (hF.ev 1 rfl)) rfl (fun _ _ => rfl) (kM [false, true] rfl rfl) (by decide) ?_
    have hi2 : 0 < n := by omega
    obtain ⟨b3, off4, rfl, hL5, hb6, hR7⟩ := hR.blk (by decide) (Off.nil _ _) (by omega)
    have := hR.cap
    have hj10 : 0 < b.length := by first | exact hi2 | (simp only [List.length_drop, List.length_take]; omega) | omega
    refine pxV (v := (.pointer (some ⟨b3, off4 + 0 * 1, none⟩))) (fun _ _ hF => opIndex (i := 0) (e := 5) (sz := 1) rfl (by kernel_rfl) (by kernel_rfl) (hF.ev 0 rfl) rfl rfl hi2) rfl (fun _ _ => rfl) (kM [false, true] rfl rfl) (by decide) ?_
    refine pxS (v := (.int .u8 (((x0.toNat) : Nat) : Int))) (fun w => HoldsL cByte w b3 off4 b) (hH.holdsL hL5 hb6 hR7) (fun _ _ hF hS => opLoadT (C := cByte) (y := x0) rfl (hF.ev 0 rfl) (by kernel_rfl) (hS 0 _ hx0) rfl) rfl (fun _ _ => rfl) (kM [false, true] rfl rfl) (by decide) ?_
    refine pxV (v := (.bool (decide (x0.toNat < 192)))) (fun _ _ hF => opLss rfl (hF.ev 0 rfl) rfl (dc (by omega))) rfl (fun _ _ => rfl) (kM [false, true] rfl rfl) (by decide) ?_
    refine pxV (v := (.bool (decide (x0.toNat < 192)))) (fun _ _ hF => opAssign rfl (hF.ev 0 rfl)) rfl (fun _ _ => rfl) (kM [false, true] rfl rfl) (by decide) ?_
    refine pxEnd ?_
    refine qxThen ?_
    refine cxP 0 rfl rfl (fun hc11 => ?_) (fun hc11 => ?_)
    · refine cxSeq ?_
      refine cxReg ?_
      refine pxV (v := (.slice (some ⟨b3, off4, none⟩) n c)) (fun _ _ hF => opMove rfl (hF.ev 1 rfl)) rfl (fun _ _ => rfl) (kM [false, false] rfl rfl) (by decide) ?_
      have hi12 : 0 < n := by omega
      have hj15 : 0 < b.length := by first | exact hi12 | (simp only [List.length_drop, List.length_take]; omega) | omega
      refine pxV (v := (.pointer (some ⟨b3, off4 + 0 * 1, none⟩))) (fun _ _ hF => opIndex (i := 0) (e := 5) (sz := 1) rfl (by kernel_rfl) (by kernel_rfl) (hF.ev 0 rfl) rfl rfl hi12) rfl (fun _ _ => rfl) (kM [false] rfl rfl) (by decide) ?_
      refine pxS (v := (.int .u8 (((x0.toNat) : Nat) : Int))) (fun w => HoldsL cByte w b3 off4 b) (hH.holdsL hL5 hb6 hR7) (fun _ _ hF hS => opLoadT (C := cByte) (y := x0) rfl (hF.ev 0 rfl) (by kernel_rfl) (hS 0 _ hx0) rfl) rfl (fun _ _ => rfl) (kM [false] rfl rfl) (by decide) ?_
      refine pxV (v := (.int .i64 (((x0.toNat) : Nat) : Int))) (fun _ _ hF => opConvI (k' := .i64) rfl (by kernel_rfl) (by kernel_rfl) (hF.ev 0 rfl) (wI rfl (by omega) (by omega))) rfl (fun _ _ => rfl) (kM [false] rfl rfl) (by decide) ?_
      refine pxV (v := (.int .i64 (((x0.toNat) : Nat) : Int))) (fun _ _ hF => opAssign rfl (hF.ev 0 rfl)) rfl (fun _ _ => rfl) (kM [false] rfl rfl) (by decide) ?_
      refine pxV (v := (.int .i64 1)) (fun _ _ hF => opAssign rfl rfl) rfl (fun _ _ => rfl) (kA rfl) (by decide) ?_
      refine pxV (v := (.bool false)) (fun _ _ hF => opAssign rfl rfl) rfl (fun _ _ => rfl) (kA rfl) (by decide) ?_
      refine pxEnd ?_
      refine qxThen ?_
      refine cxRet ?_
      refine qxInR ?_
      refine qxThenR ?_
      refine qxRet3 2 1 0 rfl rfl rfl rfl ?_
      have he : tkn b = (x0.toNat, 1, false) := by unfold tkn; rw [if_neg (by omega), e0, if_pos hc11]
      exact ⟨by rw [he]; first | done | rfl, HH.toBelow hH⟩
    · refine cxSeq ?_
      refine cxReg ?_
      refine pxV (v := (.slice (some ⟨b3, off4, none⟩) n c)) (fun _ _ hF => opMove rfl (hF.ev 1 rfl)) rfl (fun _ _ => rfl) (kM [false, true] rfl rfl) (by decide) ?_
      have hi16 : 0 < n := by omega
      have hj19 : 0 < b.length := by first | exact hi16 | (simp only [List.length_drop, List.length_take]; omega) | omega
      refine pxV (v := (.pointer (some ⟨b3, off4 + 0 * 1, none⟩))) (fun _ _ hF => opIndex (i := 0) (e := 5) (sz := 1) rfl (by kernel_rfl) (by kernel_rfl) (hF.ev 0 rfl) rfl rfl hi16) rfl (fun _ _ => rfl) (kM [false, true] rfl rfl) (by decide) ?_
      refine pxS (v := (.int .u8 (((x0.toNat) : Nat) : Int))) (fun w => HoldsL cByte w b3 off4 b) (hH.holdsL hL5 hb6 hR7) (fun _ _ hF hS => opLoadT (C := cByte) (y := x0) rfl (hF.ev 0 rfl) (by kernel_rfl) (hS 0 _ hx0) rfl) rfl (fun _ _ => rfl) (kM [false, true] rfl rfl) (by decide) ?_
      refine pxV (v := (.bool (decide (x0.toNat < 224)))) (fun _ _ hF => opLss rfl (hF.ev 0 rfl) rfl (dc (by omega))) rfl (fun _ _ => rfl) (kM [false, true] rfl rfl) (by decide) ?_
      refine pxV (v := (.bool (decide (x0.toNat < 224)))) (fun _ _ hF => opAssign rfl (hF.ev 0 rfl)) rfl (fun _ _ => rfl) (kM [false, true] rfl rfl) (by decide) ?_
      refine pxEnd ?_
      refine qxThen ?_
      refine cxP 0 rfl rfl (fun hc20 => ?_) (fun hc20 => ?_)
      · refine cxSeq ?_
        refine cxSeq ?_
        refine cxReg ?_
        refine pxV (v := (.slice (some ⟨b3, off4, none⟩) n c)) (fun _ _ hF => opMove rfl (hF.ev 1 rfl)) rfl (fun _ _ => rfl) (kM [false, true] rfl rfl) (by decide) ?_
        refine pxV (v := (.int .i64 (((n) : Nat) : Int))) (fun _ _ hF => opLen (e := 5) rfl (by kernel_rfl) (hF.ev 0 rfl)) rfl (fun _ _ => rfl) (kM [false, true] rfl rfl) (by decide) ?_
        refine pxV (v := (.bool (decide (n < 2)))) (fun _ _ hF => opLss rfl (hF.ev 0 rfl) rfl (dc (by omega))) rfl (fun _ _ => rfl) (kM [false, true] rfl rfl) (by decide) ?_
        refine pxEnd ?_
        refine qxThen ?_
        refine cxP 0 rfl rfl (fun hc21 => ?_) (fun hc21 => ?_)
        · refine cxSeq ?_
          refine cxReg ?_
          refine pxV (v := (.int .i64 0)) (fun _ _ hF => opAssign rfl rfl) rfl (fun _ _ => rfl) (kM [false, false] rfl rfl) (by decide) ?_
          refine pxV (v := (.int .i64 0)) (fun _ _ hF => opAssign rfl rfl) rfl (fun _ _ => rfl) (kA rfl) (by decide) ?_
          refine pxV (v := (.bool false)) (fun _ _ hF => opAssign rfl rfl) rfl (fun _ _ => rfl) (kA rfl) (by decide) ?_
          refine pxEnd ?_
          refine qxThen ?_
          refine cxRet ?_
          refine qxThenR ?_
          refine qxInR ?_
          refine qxThenR ?_
          refine qxRet3 2 1 0 rfl rfl rfl rfl ?_
          have he : tkn b = (0, 0, false) := by unfold tkn; rw [if_neg (by omega), e0, if_neg hc11, if_pos hc20, if_pos (by omega)]
          exact ⟨by rw [he]; first | done | rfl, HH.toBelow hH⟩
        · refine cxSkip ?_
          refine qxThen ?_
          refine cxSeq ?_
          obtain ⟨x1, hx1⟩ := get_at b 1 (by omega)
          have e1 : b.getD 1 0 = x1 := getD_el hx1
          have hb1 := UInt8.toNat_lt x1
          refine cxRegX mixedOrders (by kernel_rfl) ?_
          replace hH := hH.drew
          refine rxV 0 rfl (by kernel_rfl) rfl (fun _ _ => rfl) (fun _ _ hF => opMove rfl (hF.ev 1 rfl)) (kM [false, true] rfl rfl) (by decide) (v := (.slice (some ⟨b3, off4, none⟩) n c)) ?_
          have hi22 : 0 < n := by omega
          have hj25 : 0 < b.length := by first | exact hi22 | (simp only [List.length_drop, List.length_take]; omega) | omega
          refine rxV 1 rfl (by kernel_rfl) rfl (fun _ _ => rfl) (fun _ _ hF => opIndex (i := 0) (e := 5) (sz := 1) rfl (by kernel_rfl) (by kernel_rfl) (hF.ev 0 rfl) rfl rfl hi22) (kM [false, true] rfl rfl) (by decide) (v := (.pointer (some ⟨b3, off4 + 0 * 1, none⟩))) ?_
          refine rxS (fun w => HoldsL cByte w b3 off4 b) 2 rfl (by kernel_rfl) rfl (fun _ _ => rfl) (hH.holdsL hL5 hb6 hR7) (fun _ _ hF hS => opLoadT (C := cByte) (y := x0) rfl (hF.ev 0 rfl) (by kernel_rfl) (hS 0 _ hx0) rfl) (kM [false, true] rfl rfl) (by decide) (v := (.int .u8 (((x0.toNat) : Nat) : Int))) ?_
          refine rxV 3 rfl (by kernel_rfl) rfl (fun _ _ => rfl) (fun _ _ hF => opConvI (k' := .i64) rfl (by kernel_rfl) (by kernel_rfl) (hF.ev 0 rfl) (wI rfl (by omega) (by omega))) (kM [false, true] rfl rfl) (by decide) (v := (.int .i64 (((x0.toNat) : Nat) : Int))) ?_
          refine rxV 4 rfl (by kernel_rfl) rfl (fun _ _ => rfl) (fun _ _ hF => opSub rfl (hF.ev 0 rfl) rfl (wI (by omega) (by omega) (by omega))) (kM [false, true] rfl rfl) (by decide) (v := (.int .i64 (((x0.toNat - 192) : Nat) : Int))) ?_
          refine rxV 5 rfl (by kernel_rfl) rfl (fun _ _ => rfl) (fun _ _ hF => opMul rfl rfl (hF.ev 0 rfl) (wI (by omega) (by omega) (by omega))) (kM [false, true] rfl rfl) (by decide) (v := (.int .i64 ((((x0.toNat - 192) * 256) : Nat) : Int))) ?_
          refine rxV 6 rfl (by kernel_rfl) rfl (fun _ _ => rfl) (fun _ _ hF => opMove rfl (hF.ev 1 rfl)) (kM [true, false] rfl rfl) (by decide) (v := (.slice (some ⟨b3, off4, none⟩) n c)) ?_
          have hi26 : 1 < n := by omega
          have hj29 : 1 < b.length := by first | exact hi26 | (simp only [List.length_drop, List.length_take]; omega) | omega
          refine rxV 7 rfl (by kernel_rfl) rfl (fun _ _ => rfl) (fun _ _ hF => opIndex (i := 1) (e := 5) (sz := 1) rfl (by kernel_rfl) (by kernel_rfl) (hF.ev 0 rfl) rfl rfl hi26) (kM [false, true] rfl rfl) (by decide) (v := (.pointer (some ⟨b3, off4 + 1 * 1, none⟩))) ?_
          refine rxS (fun w => HoldsL cByte w b3 off4 b) 8 rfl (by kernel_rfl) rfl (fun _ _ => rfl) (hH.holdsL hL5 hb6 hR7) (fun _ _ hF hS => opLoadT (C := cByte) (y := x1) rfl (hF.ev 0 rfl) (by kernel_rfl) (hS 1 _ hx1) rfl) (kM [false, true] rfl rfl) (by decide) (v := (.int .u8 (((x1.toNat) : Nat) : Int))) ?_
          refine rxV 9 rfl (by kernel_rfl) rfl (fun _ _ => rfl) (fun _ _ hF => opConvI (k' := .i64) rfl (by kernel_rfl) (by kernel_rfl) (hF.ev 0 rfl) (wI rfl (by omega) (by omega))) (kM [false, true] rfl rfl) (by decide) (v := (.int .i64 (((x1.toNat) : Nat) : Int))) ?_
          refine rxV 10 rfl (by kernel_rfl) rfl (fun _ _ => rfl) (fun _ _ hF => opAdd rfl (hF.ev 1 rfl) (hF.ev 0 rfl) (wI (by omega) (by omega) (by omega))) (kM [false, false] rfl rfl) (by decide) (v := (.int .i64 ((((x0.toNat - 192) * 256 + x1.toNat) : Nat) : Int))) ?_
          refine rxV 11 rfl (by kernel_rfl) rfl (fun _ _ => rfl) (fun _ _ hF => opAdd rfl (hF.ev 0 rfl) rfl (wI (by omega) (by omega) (by omega))) (kM [false] rfl rfl) (by decide) (v := (.int .i64 ((((x0.toNat - 192) * 256 + x1.toNat + 192) : Nat) : Int))) ?_
          refine rxV 12 rfl (by kernel_rfl) rfl (fun _ _ => rfl) (fun _ _ hF => opAssign rfl (hF.ev 0 rfl)) (kM [false] rfl rfl) (by decide) (v := (.int .i64 ((((x0.toNat - 192) * 256 + x1.toNat + 192) : Nat) : Int))) ?_
          refine rxV 13 rfl (by kernel_rfl) rfl (fun _ _ => rfl) (fun _ _ hF => opAssign rfl rfl) (kA rfl) (by decide) (v := (.int .i64 2)) ?_
          refine rxV 14 rfl (by kernel_rfl) rfl (fun _ _ => rfl) (fun _ _ hF => opAssign rfl rfl) (kA rfl) (by decide) (v := (.bool false)) ?_
          refine rxEnd (by kernel_rfl) ?_
          refine qxThen ?_
          refine cxRet ?_
          refine qxInR ?_
          refine qxThenR ?_
          refine qxRet3 2 1 0 rfl rfl rfl rfl ?_
          have he : tkn b = ((x0.toNat - 192) * 256 + x1.toNat + 192, 2, false) := by unfold tkn; rw [if_neg (by omega), e0, if_neg hc11, if_pos hc20, if_neg (by omega), e1]
          exact ⟨by rw [he]; first | done | rfl, HH.toBelow hH⟩
      · refine cxSeq ?_
        refine cxReg ?_
        refine pxV (v := (.slice (some ⟨b3, off4, none⟩) n c)) (fun _ _ hF => opMove rfl (hF.ev 1 rfl)) rfl (fun _ _ => rfl) (kM [false, true] rfl rfl) (by decide) ?_
        have hi30 : 0 < n := by omega
        have hj33 : 0 < b.length := by first | exact hi30 | (simp only [List.length_drop, List.length_take]; omega) | omega
        refine pxV (v := (.pointer (some ⟨b3, off4 + 0 * 1, none⟩))) (fun _ _ hF => opIndex (i := 0) (e := 5) (sz := 1) rfl (by kernel_rfl) (by kernel_rfl) (hF.ev 0 rfl) rfl rfl hi30) rfl (fun _ _ => rfl) (kM [false, true] rfl rfl) (by decide) ?_
        refine pxS (v := (.int .u8 (((x0.toNat) : Nat) : Int))) (fun w => HoldsL cByte w b3 off4 b) (hH.holdsL hL5 hb6 hR7) (fun _ _ hF hS => opLoadT (C := cByte) (y := x0) rfl (hF.ev 0 rfl) (by kernel_rfl) (hS 0 _ hx0) rfl) rfl (fun _ _ => rfl) (kM [false, true] rfl rfl) (by decide) ?_
        refine pxV (v := (.bool (decide (x0.toNat < 255)))) (fun _ _ hF => opLss rfl (hF.ev 0 rfl) rfl (dc (by omega))) rfl (fun _ _ => rfl) (kM [false, true] rfl rfl) (by decide) ?_
        refine pxV (v := (.bool (decide (x0.toNat < 255)))) (fun _ _ hF => opAssign rfl (hF.ev 0 rfl)) rfl (fun _ _ => rfl) (kM [false, true] rfl rfl) (by decide) ?_
        refine pxEnd ?_
        refine qxThen ?_
        refine cxP 0 rfl rfl (fun hc34 => ?_) (fun hc34 => ?_)
        · refine cxSeq ?_
          refine cxReg ?_
          refine pxV (v := (.slice (some ⟨b3, off4, none⟩) n c)) (fun _ _ hF => opMove rfl (hF.ev 1 rfl)) rfl (fun _ _ => rfl) (kM [false, false] rfl rfl) (by decide) ?_
          have hi35 : 0 < n := by omega
          have hj38 : 0 < b.length := by first | exact hi35 | (simp only [List.length_drop, List.length_take]; omega) | omega
          refine pxV (v := (.pointer (some ⟨b3, off4 + 0 * 1, none⟩))) (fun _ _ hF => opIndex (i := 0) (e := 5) (sz := 1) rfl (by kernel_rfl) (by kernel_rfl) (hF.ev 0 rfl) rfl rfl hi35) rfl (fun _ _ => rfl) (kM [false] rfl rfl) (by decide) ?_
          refine pxS (v := (.int .u8 (((x0.toNat) : Nat) : Int))) (fun w => HoldsL cByte w b3 off4 b) (hH.holdsL hL5 hb6 hR7) (fun _ _ hF hS => opLoadT (C := cByte) (y := x0) rfl (hF.ev 0 rfl) (by kernel_rfl) (hS 0 _ hx0) rfl) rfl (fun _ _ => rfl) (kM [false] rfl rfl) (by decide) ?_
          refine pxV (v := (.int .u8 (((x0.toNat % 32) : Nat) : Int))) (fun _ _ hF => opAndU (m := x0.toNat) (j := 31) (z := (x0.toNat % 32)) rfl rfl (hF.ev 0 rfl) rfl (UInt8.toNat_lt _) (by decide) (and_mask x0.toNat 5)) rfl (fun _ _ => rfl) (kM [false] rfl rfl) (by decide) ?_
          refine pxV (v := (.int .i64 (((2 ^ (x0.toNat % 32)) : Nat) : Int))) (fun _ _ hF => opShlI (m := 1) (n := x0.toNat % 32) (z := (2 ^ (x0.toNat % 32))) rfl rfl (hF.ev 0 rfl) (by omega) (Nat.one_mul _) (by have h2 : 2 ^ (x0.toNat % 32) ≤ 2 ^ 31 := Nat.pow_le_pow_right (by decide) (by omega); exact Nat.le_trans h2 (by decide))) rfl (fun _ _ => rfl) (kM [false] rfl rfl) (by decide) ?_
          refine pxV (v := (.int .i64 (((2 ^ (x0.toNat % 32)) : Nat) : Int))) (fun _ _ hF => opAssign rfl (hF.ev 0 rfl)) rfl (fun _ _ => rfl) (kM [false] rfl rfl) (by decide) ?_
          refine pxV (v := (.int .i64 1)) (fun _ _ hF => opAssign rfl rfl) rfl (fun _ _ => rfl) (kA rfl) (by decide) ?_
          refine pxV (v := (.bool true)) (fun _ _ hF => opAssign rfl rfl) rfl (fun _ _ => rfl) (kA rfl) (by decide) ?_
          refine pxEnd ?_
          refine qxThen ?_
          refine cxRet ?_
          refine qxInR ?_
          refine qxThenR ?_
          refine qxRet3 2 1 0 rfl rfl rfl rfl ?_
          have he : tkn b = (2 ^ (x0.toNat % 32), 1, true) := by unfold tkn; rw [if_neg (by omega), e0, if_neg hc11, if_neg hc20, if_pos hc34]
          exact ⟨by rw [he]; first | done | rfl, HH.toBelow hH⟩
        · refine cxSeq ?_
          refine cxReg ?_
          refine pxV (v := (.slice (some ⟨b3, off4, none⟩) n c)) (fun _ _ hF => opMove rfl (hF.ev 1 rfl)) rfl (fun _ _ => rfl) (kM [false, true] rfl rfl) (by decide) ?_
          refine pxV (v := (.int .i64 (((n) : Nat) : Int))) (fun _ _ hF => opLen (e := 5) rfl (by kernel_rfl) (hF.ev 0 rfl)) rfl (fun _ _ => rfl) (kM [false, true] rfl rfl) (by decide) ?_
          refine pxV (v := (.bool (decide (n < 5)))) (fun _ _ hF => opLss rfl (hF.ev 0 rfl) rfl (dc (by omega))) rfl (fun _ _ => rfl) (kM [false, true] rfl rfl) (by decide) ?_
          refine pxV (v := (.bool (decide (n < 5)))) (fun _ _ hF => opAssign rfl (hF.ev 0 rfl)) rfl (fun _ _ => rfl) (kM [false, true] rfl rfl) (by decide) ?_
          refine pxEnd ?_
          refine qxThen ?_
          refine cxP 0 rfl rfl (fun hc39 => ?_) (fun hc39 => ?_)
          · refine cxSeq ?_
            refine cxReg ?_
            refine pxV (v := (.int .i64 0)) (fun _ _ hF => opAssign rfl rfl) rfl (fun _ _ => rfl) (kM [false, false] rfl rfl) (by decide) ?_
            refine pxV (v := (.int .i64 0)) (fun _ _ hF => opAssign rfl rfl) rfl (fun _ _ => rfl) (kA rfl) (by decide) ?_
            refine pxV (v := (.bool false)) (fun _ _ hF => opAssign rfl rfl) rfl (fun _ _ => rfl) (kA rfl) (by decide) ?_
            refine pxEnd ?_
            refine qxThen ?_
            refine cxRet ?_
            refine qxInR ?_
            refine qxThenR ?_
            refine qxRet3 2 1 0 rfl rfl rfl rfl ?_
            have he : tkn b = (0, 0, false) := by unfold tkn; rw [if_neg (by omega), e0, if_neg hc11, if_neg hc20, if_neg hc34, if_pos (by omega)]
            exact ⟨by rw [he]; first | done | rfl, HH.toBelow hH⟩
          · refine cxSkip ?_
            refine qxInN ?_
            refine qxThen ?_
            refine cxSeq ?_
            have h4 := beN_lt ((b.drop 1).take 4)
            rw [show ((b.drop 1).take 4).length = 4 by rw [List.length_take, List.length_drop]; omega] at h4
            refine cxReg ?_
            refine pxV (v := (.slice (some ⟨b3, off4, none⟩) n c)) (fun _ _ hF => opMove rfl (hF.ev 1 rfl)) rfl (fun _ _ => rfl) (kM [false, false] rfl rfl) (by decide) ?_
            refine pxV (v := (.slice (cutA (some ⟨b3, off4, none⟩) c 1 1) (5 - 1) (c - 1))) (fun _ _ hF => opCutLH (k := 1) (h := 5) (e := 5) (sz := 1) rfl (by kernel_rfl) (by kernel_rfl) (hF.ev 0 rfl) rfl rfl rfl rfl (by omega) (by omega)) rfl (fun _ _ => rfl) (kM [false] rfl rfl) (by decide) ?_
            refine pxM hH (fun _ hF => Does.small ((Pure.as (v := (.int .u64 (((beN ((b.drop 1).take 4)) : Nat) : Int))) (number_r (cutA (some ⟨b3, off4, none⟩) c 1 1) (c - 1) ((b.take 5).drop 1) (5 - 1) (by simp only [List.length_drop, List.length_take]; omega) (leb rfl)) (by rw [take_drop4])).does) (fun w => opCall rfl Try.func26 rfl rfl (Evs.cons (v := (.slice (cutA (some ⟨b3, off4, none⟩) c 1 1) (5 - 1) (c - 1))) (hF.ev 0 rfl) Evs.nil) w)) ((hH.vu hR (by decide) (Off.nil _ _)).cut (k := 1) (m := 5) (by omega) (by omega)) rfl (fun _ _ => rfl) (kM [false] rfl rfl) (by decide) ?_
            clear hH
            rintro _ _ w ⟨rfl, rfl⟩ hH
            replace hH : HH w0 [] [] w := hH.unpad
            refine pxV (v := (.int .i64 (((beN ((b.drop 1).take 4)) : Nat) : Int))) (fun _ _ hF => opConvI (k' := .i64) rfl (by kernel_rfl) (by kernel_rfl) (hF.ev 0 rfl) (wI rfl (by omega) (by omega))) rfl (fun _ _ => rfl) (kM [false] rfl rfl) (by decide) ?_
            refine pxV (v := (.int .i64 (((beN ((b.drop 1).take 4)) : Nat) : Int))) (fun _ _ hF => opAssign rfl (hF.ev 0 rfl)) rfl (fun _ _ => rfl) (kM [false] rfl rfl) (by decide) ?_
            refine pxV (v := (.int .i64 5)) (fun _ _ hF => opAssign rfl rfl) rfl (fun _ _ => rfl) (kA rfl) (by decide) ?_
            refine pxV (v := (.bool false)) (fun _ _ hF => opAssign rfl rfl) rfl (fun _ _ => rfl) (kA rfl) (by decide) ?_
            refine pxEnd ?_
            refine qxThen ?_
            refine cxRet ?_
            refine qxRet3 2 1 0 rfl rfl rfl rfl ?_
            have he : tkn b = (beN ((b.drop 1).take 4), 5, false) := by unfold tkn; rw [if_neg (by omega), e0, if_neg hc11, if_neg hc20, if_neg hc34, if_neg (by omega)]
            exact ⟨by rw [he]; first | done | rfl, HH.toBelow hH⟩

set_option maxHeartbeats 8000000 in
theorem fresh_c (t : Nat) (A : Option Addr) (n c : Nat) (b : List UInt8) (hn : n = b.length) (hbig : n ≤ 4398046511104) : Does Try.prog 21 #[(.int .i64 (((t) : Nat) : Int)), (.slice A n c)] [] (fun w => Vu cByte w A n c b) (fun v E' => ∃ s m, v = .tuple #[s, .int .i64 ((m : Nat) : Int), .int .i64 ((frs (mayT t) [] b).1 : Int)] ∧ OwnT cByte 5 s (frs (mayT t) [] b).2.1 E' ∧ ((frs (mayT t) [] b).1 = 0 → m ≤ b.length ∧ b.drop m = (frs (mayT t) [] b).2.2)) := by
  refine does_of (fn := Try.f21) Try.func21 rfl Try.ntmps21 (Nat.le_of_ble_eq_true rfl) rfl ?_
  intro w0 hH hR
  replace hH : HH w0 [] [] w0 := hH.only [false]
  have hcap := hR.cap
  refine cxSeq ?_
  refine cxReg ?_
  refine pxV (v := (.slice none 0 0)) (fun _ _ hF => opAssign rfl rfl) rfl (fun _ _ => rfl) (kA rfl) (by decide) ?_
  refine pxV (v := (.int .i64 0)) (fun _ _ hF => opAssign rfl rfl) rfl (fun _ _ => rfl) (kM [false, true, true] rfl rfl) (by decide) ?_
  refine pxV (v := (.int .i64 0)) (fun _ _ hF => opAssign rfl rfl) rfl (fun _ _ => rfl) (kM [false, true, true] rfl rfl) (by decide) ?_
  refine pxEnd ?_
  refine qxThen ?_
  refine cxSeq ?_
  refine cxReg ?_
  refine pxV (v := (.slice none 0 0)) (fun _ _ hF => opAssign rfl rfl) rfl (fun _ _ => rfl) (kM [false, true, true] rfl rfl) (by decide) ?_
  refine pxEnd ?_
  refine qxThen ?_
  refine cxSeq ?_
  refine cxReg ?_
  refine pxV (v := (.int .i64 0)) (fun _ _ hF => opAssign rfl rfl) rfl (fun _ _ => rfl) (kA rfl) (by decide) ?_
  refine pxEnd ?_
  refine qxThen ?_
  refine cxSeq ?_
  refine cxReg ?_
  refine pxV (v := (.bool true)) (fun _ _ hF => opAssign rfl rfl) rfl (fun _ _ => rfl) (kA rfl) (by decide) ?_
  refine pxEnd ?_
  refine qxThen ?_
  refine cxBlock ?_
  replace hH := HH.pad hH 1
  replace hH : HH w0 [] [[]] w0 := hH
  refine cxLoop (σ := (List UInt8) × (Option Addr) × Nat × Hl × Nat × Bool) (fun x => [(9, (.bool (x.2.2.2.2.2))), (8, (.int .i64 (((x.2.2.2.2.1) : Nat) : Int))), (7, (.slice x.2.1 x.1.length x.2.2.1)), (1, (.slice A n c)), (0, (.int .i64 (((t) : Nat) : Int)))]) (fun x w => HH w0 [] [x.2.2.2.1] w ∧ (OwnT cByte 5 (.slice x.2.1 x.1.length x.2.2.1) x.1 x.2.2.2.1) ∧ (x.2.2.2.2.1 ≤ b.length) ∧ (frs (mayT t) [] b = frs (mayT t) x.1 (b.drop x.2.2.2.2.1)) ∧ (x.2.2.2.2.2 = true ↔ x.1 = []) ∧ (x.1.length ≤ 20000)) (fun x => b.length - x.2.2.2.2.1) ([], none, 0, [], 0, true) ⟨hH, (OwnT.nil _ _), (Nat.zero_le _), (by rw [List.drop_zero]), (by simp), (Nat.zero_le _)⟩ (slots_at [0, 1, 2, 4, 3] rfl) ?_
  clear hH
  rintro ⟨body, Ab, cb, Eb, at_, first⟩ w ⟨hH, hO, hat, hf, hfst, hbl⟩
  change CX _ _ _ _ [(9, (.bool (first))), (8, (.int .i64 (((at_) : Nat) : Int))), (7, (.slice Ab body.length cb)), (1, (.slice A n c)), (0, (.int .i64 (((t) : Nat) : Int)))] _
  replace hH : HH w0 [] [Eb] w := hH
  replace hO : OwnT cByte 5 (.slice Ab body.length cb) body Eb := hO
  replace hat : at_ ≤ b.length := hat
  replace hf : frs (mayT t) [] b = frs (mayT t) body (b.drop at_) := hf
  replace hfst : first = true ↔ body = [] := hfst
  replace hbl : body.length ≤ 20000 := hbl
  refine cxSeq ?_
  refine cxBlock ?_
  refine cxSeq ?_
  refine cxReg ?_
  refine pxV (v := (.slice A n c)) (fun _ _ hF => opMove rfl (hF.ev 3 rfl)) rfl (fun _ _ => rfl) (kA rfl) (by decide) ?_
  refine pxV (v := (.int .i64 (((at_) : Nat) : Int))) (fun _ _ hF => opMove rfl (hF.ev 2 rfl)) rfl (fun _ _ => rfl) (kA rfl) (by decide) ?_
  refine pxV (v := (.slice (cutA A c at_ 1) (n - at_) (c - at_))) (fun _ _ hF => opCutL (k := at_) (e := 5) (sz := 1) rfl (by kernel_rfl) (by kernel_rfl) (hF.ev 1 rfl) (hF.ev 0 rfl) rfl (by omega)) rfl (fun _ _ => rfl) (kM [false, false, true, true, true, true, true] rfl rfl) (by decide) ?_
  refine pxM hH (fun _ hF => Does.small ((taken_c (cutA A c at_ 1) (n - at_) (c - at_) (b.drop at_) (by rw [List.length_drop]; omega)).does) (fun w => opCall rfl Try.func25 rfl rfl (Evs.cons (v := (.slice (cutA A c at_ 1) (n - at_) (c - at_))) (hF.ev 0 rfl) Evs.nil) w)) ((hH.vu hR (by decide) (Off.nil _ _)).from (k := at_) (by omega)) rfl (fun _ _ => rfl) (kM [false, true, true, true, true, true] rfl rfl) (by decide) ?_
  clear hH
  rintro _ _ w ⟨rfl, rfl⟩ hH
  replace hH : HH w0 [] [Eb] w := hH.unpad
  refine pxV (v := (.tuple #[(.int .i64 ((((tkn (b.drop at_)).1) : Nat) : Int)), (.int .i64 ((((tkn (b.drop at_)).2.1) : Nat) : Int)), (.bool ((tkn (b.drop at_)).2.2))])) (fun _ _ hF => opMove rfl (hF.ev 0 rfl)) rfl (fun _ _ => rfl) (kM [false, true, true, true, true, true] rfl rfl) (by decide) ?_
  refine pxV (v := (.int .i64 ((((tkn (b.drop at_)).1) : Nat) : Int))) (fun _ _ hF => opExtract rfl (hF.ev 0 rfl) rfl) rfl (fun _ _ => rfl) (kA rfl) (by decide) ?_
  refine pxV (v := (.int .i64 ((((tkn (b.drop at_)).2.1) : Nat) : Int))) (fun _ _ hF => opExtract rfl (hF.ev 1 rfl) rfl) rfl (fun _ _ => rfl) (kA rfl) (by decide) ?_
  refine pxV (v := (.bool ((tkn (b.drop at_)).2.2))) (fun _ _ hF => opExtract rfl (hF.ev 2 rfl) rfl) rfl (fun _ _ => rfl) (kM [true, true, false, true, true, true, true, true] rfl rfl) (by decide) ?_
  refine pxV (v := (.int .i64 ((((tkn (b.drop at_)).1) : Nat) : Int))) (fun _ _ hF => opAssign rfl (hF.ev 2 rfl)) rfl (fun _ _ => rfl) (kM [true, true, false, true, true, true, true, true] rfl rfl) (by decide) ?_
  refine pxV (v := (.int .i64 ((((tkn (b.drop at_)).2.1) : Nat) : Int))) (fun _ _ hF => opAssign rfl (hF.ev 2 rfl)) rfl (fun _ _ => rfl) (kM [true, true, false, true, true, true, true, true] rfl rfl) (by decide) ?_
  refine pxV (v := (.bool ((tkn (b.drop at_)).2.2))) (fun _ _ hF => opAssign rfl (hF.ev 2 rfl)) rfl (fun _ _ => rfl) (kM [true, true, false, true, true, true, true, true] rfl rfl) (by decide) ?_
  refine pxEnd ?_
  refine qxThen ?_
  refine cxSeq ?_
  refine cxSeq ?_
  have hat2 := tkn_at (b := b) hat
  have hx32 := tkn_lt (b.drop at_)
  refine cxReg ?_
  refine pxV (v := (.int .i64 ((((tkn (b.drop at_)).2.1) : Nat) : Int))) (fun _ _ hF => opMove rfl (hF.ev 1 rfl)) rfl (fun _ _ => rfl) (kA rfl) (by decide) ?_
  refine pxV (v := (.bool (decide ((tkn (b.drop at_)).2.1 = 0)))) (fun _ _ hF => opEqI rfl (hF.ev 0 rfl) rfl (dc (by omega))) rfl (fun _ _ => rfl) (kM [false, true, true, true, true, true, true, true, true] rfl rfl) (by decide) ?_
  refine pxV (v := (.bool (decide ((tkn (b.drop at_)).2.1 = 0)))) (fun _ _ hF => opMove rfl (hF.ev 0 rfl)) rfl (fun _ _ => rfl) (kM [false, true, true, true, true, true, true, true, true] rfl rfl) (by decide) ?_
  refine pxSplitP 0 rfl (l1 := [(23, (.bool true)), (12, (.bool ((tkn (b.drop at_)).2.2))), (11, (.int .i64 ((((tkn (b.drop at_)).2.1) : Nat) : Int))), (10, (.int .i64 ((((tkn (b.drop at_)).1) : Nat) : Int))), (9, (.bool (first))), (8, (.int .i64 (((at_) : Nat) : Int))), (7, (.slice Ab body.length cb)), (1, (.slice A n c)), (0, (.int .i64 (((t) : Nat) : Int)))]) (l2 := [(23, (.bool false)), (12, (.bool ((tkn (b.drop at_)).2.2))), (11, (.int .i64 ((((tkn (b.drop at_)).2.1) : Nat) : Int))), (10, (.int .i64 ((((tkn (b.drop at_)).1) : Nat) : Int))), (9, (.bool (first))), (8, (.int .i64 (((at_) : Nat) : Int))), (7, (.slice Ab body.length cb)), (1, (.slice A n c)), (0, (.int .i64 (((t) : Nat) : Int)))]) rfl rfl (fun hg1 => ?_) (fun hg1 => ?_)
  · refine pxU rfl (gOff 0 rfl rfl rfl (by decide)) (kA rfl) (by decide) ?_
    refine pxUK rfl (gOff 0 rfl rfl rfl (by decide)) (kA rfl) (by decide) ?_
    refine pxU rfl (gOffU 0 rfl rfl rfl) (kA rfl) (by decide) ?_
    refine pxU rfl (gOffU 0 rfl rfl rfl) (kA rfl) (by decide) ?_
    refine pxUK rfl (gOffU 0 rfl rfl rfl) (kA rfl) (by decide) ?_
    refine pxU rfl (gOffU 0 rfl rfl rfl) (kA rfl) (by decide) ?_
    refine pxU rfl (gOffU 0 rfl rfl rfl) (kA rfl) (by decide) ?_
    refine pxU rfl (gOffU 1 rfl rfl rfl) (kM [false, true, true, true, true, true, true, true, true, true, true] rfl rfl) (by decide) ?_
    refine pxUK rfl (gOffU 0 rfl rfl rfl) (kA rfl) (by decide) ?_
    refine pxU rfl (gOffU 0 rfl rfl rfl) (kA rfl) (by decide) ?_
    refine pxU rfl (gOffU 0 rfl rfl rfl) (kA rfl) (by decide) ?_
    refine pxU rfl (gOffU 1 rfl rfl rfl) (kM [false, true, true, true, true, true, true, true, true, true, true] rfl rfl) (by decide) ?_
    refine pxUK rfl (gOffU 0 rfl rfl rfl) (kA rfl) (by decide) ?_
    refine pxU rfl (gOffU 0 rfl rfl rfl) (kA rfl) (by decide) ?_
    refine pxU rfl (gOffU 0 rfl rfl rfl) (kA rfl) (by decide) ?_
    refine pxU rfl (gOffU 1 rfl rfl rfl) (kM [false, true, true, true, true, true, true, true, true, true, true] rfl rfl) (by decide) ?_
    refine pxUK rfl (gOffU 0 rfl rfl rfl) (kA rfl) (by decide) ?_
    refine pxU rfl (gOffU 0 rfl rfl rfl) (kM [true, true, true, true, true, true, false, true, true, true, true] rfl rfl) (by decide) ?_
    refine pxUK rfl (gOffU 0 rfl rfl rfl) (kA rfl) (by decide) ?_
    refine pxU rfl (gOffU 0 rfl rfl rfl) (kA rfl) (by decide) ?_
    refine pxU rfl (gOffU 0 rfl rfl rfl) (kA rfl) (by decide) ?_
    refine pxU rfl (gOffU 1 rfl rfl rfl) (kM [false, true, true, true, true, true, true, true, true, true, true] rfl rfl) (by decide) ?_
    refine pxU rfl (gOffU 1 rfl rfl rfl) (kM [false, true, true, true, true, true, true, true, true, true] rfl rfl) (by decide) ?_
    refine pxU rfl (gOff 1 rfl rfl rfl (by decide)) (kM [false, true, true, true, true, true, true, true, true] rfl rfl) (by decide) ?_
    refine pxV (v := (.bool true)) (fun _ _ hF => opPickT rfl (hF.ev 0 rfl) rfl) rfl (fun _ _ => rfl) (kM [false, true, true, true, true, true, true, true] rfl rfl) (by decide) ?_
    refine pxEnd ?_
    refine qxThen ?_
    refine cxT 0 rfl rfl ?_
    refine cxSeq ?_
    refine cxReg ?_
    refine pxV (v := (.slice none 0 0)) (fun _ _ hF => opAssign rfl rfl) rfl (fun _ _ => rfl) (kM [false, false, false, false, false, false, false, false] rfl rfl) (by decide) ?_
    refine pxV (v := (.int .i64 0)) (fun _ _ hF => opAssign rfl rfl) rfl (fun _ _ => rfl) (kA rfl) (by decide) ?_
    refine pxV (v := (.int .i64 2)) (fun _ _ hF => opAssign rfl rfl) rfl (fun _ _ => rfl) (kA rfl) (by decide) ?_
    refine pxEnd ?_
    refine qxThen ?_
    refine cxRet ?_
    refine qxThenR ?_
    refine qxInR ?_
    refine qxThenR ?_
    refine qxThenR ?_
    refine qxInR ?_
    refine qxRet3 2 1 0 rfl rfl rfl rfl ?_
    have he := hf.trans (frs_form (may := mayT t) (body := body) (.inl hg1))
    exact ⟨_, [], rfl, ⟨.slice none 0 0, 0, (by rw [he]; first | done | rfl), (by rw [he]; exact OwnT.nil _ _), (by rw [he]; intro h; cases h)⟩, HH.out1 (HH.pad hH 1) [false, true] rfl⟩
  · refine pxV (v := (.bool ((tkn (b.drop at_)).2.2))) (fun _ _ hF => opMove rfl (hF.ev 1 rfl)) rfl (gOn 0 rfl rfl rfl (by decide)) (kA rfl) (by decide) ?_
    refine pxV (v := (.bool ((tkn (b.drop at_)).2.2))) (fun _ _ hF => opMove rfl (hF.ev 0 rfl)) rfl (gOn 1 rfl rfl rfl (by decide)) (kM [false, true, true, true, true, true, true, true, true, true] rfl rfl) (by decide) ?_
    refine pxSplitB 0 rfl (l1 := [(25, (.bool true)), (23, (.bool false)), (12, (.bool ((tkn (b.drop at_)).2.2))), (11, (.int .i64 ((((tkn (b.drop at_)).2.1) : Nat) : Int))), (10, (.int .i64 ((((tkn (b.drop at_)).1) : Nat) : Int))), (9, (.bool (first))), (8, (.int .i64 (((at_) : Nat) : Int))), (7, (.slice Ab body.length cb)), (1, (.slice A n c)), (0, (.int .i64 (((t) : Nat) : Int)))]) (l2 := [(25, (.bool false)), (23, (.bool false)), (12, (.bool ((tkn (b.drop at_)).2.2))), (11, (.int .i64 ((((tkn (b.drop at_)).2.1) : Nat) : Int))), (10, (.int .i64 ((((tkn (b.drop at_)).1) : Nat) : Int))), (9, (.bool (first))), (8, (.int .i64 (((at_) : Nat) : Int))), (7, (.slice Ab body.length cb)), (1, (.slice A n c)), (0, (.int .i64 (((t) : Nat) : Int)))]) rfl rfl (fun hg2 => ?_) (fun hg2 => ?_)
    · refine pxV (v := (.int .i64 (((t) : Nat) : Int))) (fun _ _ hF => opMove rfl (hF.ev 9 rfl)) rfl (gOn 0 rfl rfl rfl (by decide)) (kA rfl) (by decide) ?_
      refine pxV (v := (.bool (decide (t ≠ 8)))) (fun _ _ hF => opNeI rfl (hF.ev 0 rfl) rfl (dc (by omega))) rfl (gOn 1 rfl rfl rfl (by decide)) (kM [false, true, true, true, true, true, true, true, true, true, true] rfl rfl) (by decide) ?_
      refine pxV (v := (.bool (decide (t ≠ 8)))) (fun _ _ hF => opMove rfl (hF.ev 0 rfl)) rfl (gOn 1 rfl rfl rfl (by decide)) (kM [false, true, true, true, true, true, true, true, true, true, true] rfl rfl) (by decide) ?_
      refine pxSplitP 0 rfl (l1 := [(28, (.bool true)), (25, (.bool true)), (23, (.bool false)), (12, (.bool ((tkn (b.drop at_)).2.2))), (11, (.int .i64 ((((tkn (b.drop at_)).2.1) : Nat) : Int))), (10, (.int .i64 ((((tkn (b.drop at_)).1) : Nat) : Int))), (9, (.bool (first))), (8, (.int .i64 (((at_) : Nat) : Int))), (7, (.slice Ab body.length cb)), (1, (.slice A n c)), (0, (.int .i64 (((t) : Nat) : Int)))]) (l2 := [(28, (.bool false)), (25, (.bool true)), (23, (.bool false)), (12, (.bool ((tkn (b.drop at_)).2.2))), (11, (.int .i64 ((((tkn (b.drop at_)).2.1) : Nat) : Int))), (10, (.int .i64 ((((tkn (b.drop at_)).1) : Nat) : Int))), (9, (.bool (first))), (8, (.int .i64 (((at_) : Nat) : Int))), (7, (.slice Ab body.length cb)), (1, (.slice A n c)), (0, (.int .i64 (((t) : Nat) : Int)))]) rfl rfl (fun hg3 => ?_) (fun hg3 => ?_)
      · refine pxV (v := (.int .i64 (((t) : Nat) : Int))) (fun _ _ hF => opMove rfl (hF.ev 10 rfl)) rfl (gOn 0 rfl rfl rfl (by decide)) (kA rfl) (by decide) ?_
        refine pxV (v := (.bool (decide (t ≠ 9)))) (fun _ _ hF => opNeI rfl (hF.ev 0 rfl) rfl (dc (by omega))) rfl (gOn 1 rfl rfl rfl (by decide)) (kM [false, true, true, true, true, true, true, true, true, true, true, true] rfl rfl) (by decide) ?_
        refine pxV (v := (.bool (decide (t ≠ 9)))) (fun _ _ hF => opPickT rfl (hF.ev 1 rfl) (hF.ev 0 rfl)) rfl (gOn 2 rfl rfl rfl (by decide)) (kM [false, false, true, true, true, true, true, true, true, true, true, true] rfl rfl) (by decide) ?_
        refine pxV (v := (.bool (decide (t ≠ 9)))) (fun _ _ hF => opMove rfl (hF.ev 0 rfl)) rfl (gOn 1 rfl rfl rfl (by decide)) (kM [false, true, true, true, true, true, true, true, true, true, true] rfl rfl) (by decide) ?_
        refine pxSplitP 0 rfl (l1 := [(32, (.bool true)), (25, (.bool true)), (23, (.bool false)), (12, (.bool ((tkn (b.drop at_)).2.2))), (11, (.int .i64 ((((tkn (b.drop at_)).2.1) : Nat) : Int))), (10, (.int .i64 ((((tkn (b.drop at_)).1) : Nat) : Int))), (9, (.bool (first))), (8, (.int .i64 (((at_) : Nat) : Int))), (7, (.slice Ab body.length cb)), (1, (.slice A n c)), (0, (.int .i64 (((t) : Nat) : Int)))]) (l2 := [(32, (.bool false)), (25, (.bool true)), (23, (.bool false)), (12, (.bool ((tkn (b.drop at_)).2.2))), (11, (.int .i64 ((((tkn (b.drop at_)).2.1) : Nat) : Int))), (10, (.int .i64 ((((tkn (b.drop at_)).1) : Nat) : Int))), (9, (.bool (first))), (8, (.int .i64 (((at_) : Nat) : Int))), (7, (.slice Ab body.length cb)), (1, (.slice A n c)), (0, (.int .i64 (((t) : Nat) : Int)))]) rfl rfl (fun hg4 => ?_) (fun hg4 => ?_)
        · refine pxV (v := (.int .i64 (((t) : Nat) : Int))) (fun _ _ hF => opMove rfl (hF.ev 10 rfl)) rfl (gOn 0 rfl rfl rfl (by decide)) (kA rfl) (by decide) ?_
          refine pxV (v := (.bool (decide (t ≠ 11)))) (fun _ _ hF => opNeI rfl (hF.ev 0 rfl) rfl (dc (by omega))) rfl (gOn 1 rfl rfl rfl (by decide)) (kM [false, true, true, true, true, true, true, true, true, true, true, true] rfl rfl) (by decide) ?_
          refine pxV (v := (.bool (decide (t ≠ 11)))) (fun _ _ hF => opPickT rfl (hF.ev 1 rfl) (hF.ev 0 rfl)) rfl (gOn 2 rfl rfl rfl (by decide)) (kM [false, false, true, true, true, true, true, true, true, true, true, true] rfl rfl) (by decide) ?_
          refine pxV (v := (.bool (decide (t ≠ 11)))) (fun _ _ hF => opMove rfl (hF.ev 0 rfl)) rfl (gOn 1 rfl rfl rfl (by decide)) (kM [false, true, true, true, true, true, true, true, true, true, true] rfl rfl) (by decide) ?_
          refine pxSplitP 0 rfl (l1 := [(36, (.bool true)), (25, (.bool true)), (23, (.bool false)), (12, (.bool ((tkn (b.drop at_)).2.2))), (11, (.int .i64 ((((tkn (b.drop at_)).2.1) : Nat) : Int))), (10, (.int .i64 ((((tkn (b.drop at_)).1) : Nat) : Int))), (9, (.bool (first))), (8, (.int .i64 (((at_) : Nat) : Int))), (7, (.slice Ab body.length cb)), (1, (.slice A n c)), (0, (.int .i64 (((t) : Nat) : Int)))]) (l2 := [(36, (.bool false)), (25, (.bool true)), (23, (.bool false)), (12, (.bool ((tkn (b.drop at_)).2.2))), (11, (.int .i64 ((((tkn (b.drop at_)).2.1) : Nat) : Int))), (10, (.int .i64 ((((tkn (b.drop at_)).1) : Nat) : Int))), (9, (.bool (first))), (8, (.int .i64 (((at_) : Nat) : Int))), (7, (.slice Ab body.length cb)), (1, (.slice A n c)), (0, (.int .i64 (((t) : Nat) : Int)))]) rfl rfl (fun hg5 => ?_) (fun hg5 => ?_)
          · refine pxV (v := (.int .i64 (((t) : Nat) : Int))) (fun _ _ hF => opMove rfl (hF.ev 10 rfl)) rfl (gOn 0 rfl rfl rfl (by decide)) (kA rfl) (by decide) ?_
            refine pxV (v := (.bool (decide (t ≠ 18)))) (fun _ _ hF => opNeI rfl (hF.ev 0 rfl) rfl (dc (by omega))) rfl (gOn 1 rfl rfl rfl (by decide)) (kM [false, true, true, true, true, true, true, true, true, true, true, true] rfl rfl) (by decide) ?_
            refine pxV (v := (.bool (decide (t ≠ 18)))) (fun _ _ hF => opPickT rfl (hF.ev 1 rfl) (hF.ev 0 rfl)) rfl (gOn 2 rfl rfl rfl (by decide)) (kM [false, false, true, true, true, true, true, true, true, true, true, true] rfl rfl) (by decide) ?_
            refine pxV (v := (.bool (decide (t ≠ 18)))) (fun _ _ hF => opMove rfl (hF.ev 0 rfl)) rfl (gOn 1 rfl rfl rfl (by decide)) (kM [false, true, true, true, true, true, true, true, true, true, true] rfl rfl) (by decide) ?_
            refine pxSplitP 0 rfl (l1 := [(40, (.bool true)), (25, (.bool true)), (23, (.bool false)), (12, (.bool ((tkn (b.drop at_)).2.2))), (11, (.int .i64 ((((tkn (b.drop at_)).2.1) : Nat) : Int))), (10, (.int .i64 ((((tkn (b.drop at_)).1) : Nat) : Int))), (9, (.bool (first))), (8, (.int .i64 (((at_) : Nat) : Int))), (7, (.slice Ab body.length cb)), (1, (.slice A n c)), (0, (.int .i64 (((t) : Nat) : Int)))]) (l2 := [(40, (.bool false)), (25, (.bool true)), (23, (.bool false)), (12, (.bool ((tkn (b.drop at_)).2.2))), (11, (.int .i64 ((((tkn (b.drop at_)).2.1) : Nat) : Int))), (10, (.int .i64 ((((tkn (b.drop at_)).1) : Nat) : Int))), (9, (.bool (first))), (8, (.int .i64 (((at_) : Nat) : Int))), (7, (.slice Ab body.length cb)), (1, (.slice A n c)), (0, (.int .i64 (((t) : Nat) : Int)))]) rfl rfl (fun hg6 => ?_) (fun hg6 => ?_)
            · have hmay : mayT t = false := mayT_no (by omega)
              refine pxU rfl (gOff 0 rfl rfl rfl (by decide)) (kM [true, true, true, true, true, true, false, true, true, true, true] rfl rfl) (by decide) ?_
              refine pxUK rfl (gOff 0 rfl rfl rfl (by decide)) (kA rfl) (by decide) ?_
              refine pxU rfl (gOffU 0 rfl rfl rfl) (kA rfl) (by decide) ?_
              refine pxU rfl (gOffU 0 rfl rfl rfl) (kA rfl) (by decide) ?_
              refine pxU rfl (gOff 1 rfl rfl rfl (by decide)) (kM [false, true, true, true, true, true, true, true, true, true, true] rfl rfl) (by decide) ?_
              refine pxV (v := (.bool true)) (fun _ _ hF => opPickT rfl (hF.ev 0 rfl) rfl) rfl (gOn 1 rfl rfl rfl (by decide)) (kM [false, true, true, true, true, true, true, true, true, true] rfl rfl) (by decide) ?_
              refine pxV (v := (.bool true)) (fun _ _ hF => opPickT rfl (hF.ev 1 rfl) (hF.ev 0 rfl)) rfl (gOn 2 rfl rfl rfl (by decide)) (kM [false, false, true, true, true, true, true, true, true, true] rfl rfl) (by decide) ?_
              refine pxV (v := (.bool true)) (fun _ _ hF => opPickF rfl (hF.ev 1 rfl) (hF.ev 0 rfl)) rfl (fun _ _ => rfl) (kM [false, false, true, true, true, true, true, true, true] rfl rfl) (by decide) ?_
              refine pxEnd ?_
              refine qxThen ?_
              refine cxT 0 rfl rfl ?_
              refine cxSeq ?_
              refine cxReg ?_
              refine pxV (v := (.slice none 0 0)) (fun _ _ hF => opAssign rfl rfl) rfl (fun _ _ => rfl) (kM [false, false, false, false, false, false, false, false] rfl rfl) (by decide) ?_
              refine pxV (v := (.int .i64 0)) (fun _ _ hF => opAssign rfl rfl) rfl (fun _ _ => rfl) (kA rfl) (by decide) ?_
              refine pxV (v := (.int .i64 2)) (fun _ _ hF => opAssign rfl rfl) rfl (fun _ _ => rfl) (kA rfl) (by decide) ?_
              refine pxEnd ?_
              refine qxThen ?_
              refine cxRet ?_
              refine qxThenR ?_
              refine qxInR ?_
              refine qxThenR ?_
              refine qxThenR ?_
              refine qxInR ?_
              refine qxRet3 2 1 0 rfl rfl rfl rfl ?_
              have he := hf.trans (frs_form (body := body) (.inr ⟨hg2, .inl hmay⟩))
              exact ⟨_, [], rfl, ⟨.slice none 0 0, 0, (by rw [he]; first | done | rfl), (by rw [he]; exact OwnT.nil _ _), (by rw [he]; intro h; cases h)⟩, HH.out1 (HH.pad hH 1) [false, true] rfl⟩
            · have hmay : mayT t = true := mayT_yes (by omega)
              refine pxV (v := (.bool (first))) (fun _ _ hF => opMove rfl (hF.ev 6 rfl)) rfl (gOn 0 rfl rfl rfl (by decide)) (kM [true, true, true, true, true, true, false, true, true, true, true] rfl rfl) (by decide) ?_
              refine pxV (v := (.bool (first))) (fun _ _ hF => opMove rfl (hF.ev 0 rfl)) rfl (gOn 1 rfl rfl rfl (by decide)) (kM [false, true, true, true, true, true, true, true, true, true, true] rfl rfl) (by decide) ?_
              refine pxSplitB 0 rfl (l1 := [(42, (.bool true)), (40, (.bool false)), (25, (.bool true)), (23, (.bool false)), (12, (.bool ((tkn (b.drop at_)).2.2))), (11, (.int .i64 ((((tkn (b.drop at_)).2.1) : Nat) : Int))), (10, (.int .i64 ((((tkn (b.drop at_)).1) : Nat) : Int))), (8, (.int .i64 (((at_) : Nat) : Int))), (7, (.slice Ab body.length cb)), (1, (.slice A n c)), (0, (.int .i64 (((t) : Nat) : Int)))]) (l2 := [(42, (.bool false)), (40, (.bool false)), (25, (.bool true)), (23, (.bool false)), (12, (.bool ((tkn (b.drop at_)).2.2))), (11, (.int .i64 ((((tkn (b.drop at_)).2.1) : Nat) : Int))), (10, (.int .i64 ((((tkn (b.drop at_)).1) : Nat) : Int))), (8, (.int .i64 (((at_) : Nat) : Int))), (7, (.slice Ab body.length cb)), (1, (.slice A n c)), (0, (.int .i64 (((t) : Nat) : Int)))]) rfl rfl (fun hg7 => ?_) (fun hg7 => ?_)
              · refine pxV (v := (.int .i64 ((((tkn (b.drop at_)).1) : Nat) : Int))) (fun _ _ hF => opMove rfl (hF.ev 6 rfl)) rfl (gOn 0 rfl rfl rfl (by decide)) (kA rfl) (by decide) ?_
                refine pxV (v := (.bool (decide ((tkn (b.drop at_)).1 < 512)))) (fun _ _ hF => opLss rfl (hF.ev 0 rfl) rfl (dc (by omega))) rfl (gOn 1 rfl rfl rfl (by decide)) (kM [false, true, true, true, true, true, true, true, true, true, true, true] rfl rfl) (by decide) ?_
                refine pxV (v := (.bool (decide ((tkn (b.drop at_)).1 < 512)))) (fun _ _ hF => opPickT rfl (hF.ev 1 rfl) (hF.ev 0 rfl)) rfl (gOn 2 rfl rfl rfl (by decide)) (kM [false, false, true, true, true, true, true, true, true, true, true, true] rfl rfl) (by decide) ?_
                refine pxV (v := (.bool (decide ((tkn (b.drop at_)).1 < 512)))) (fun _ _ hF => opPickF rfl (hF.ev 1 rfl) (hF.ev 0 rfl)) rfl (gOn 2 rfl rfl rfl (by decide)) (kM [false, false, true, true, true, true, true, true, true, true, true] rfl rfl) (by decide) ?_
                refine pxV (v := (.bool (decide ((tkn (b.drop at_)).1 < 512)))) (fun _ _ hF => opPickT rfl (hF.ev 1 rfl) (hF.ev 0 rfl)) rfl (gOn 2 rfl rfl rfl (by decide)) (kM [false, false, true, true, true, true, true, true, true, true] rfl rfl) (by decide) ?_
                refine pxV (v := (.bool (decide ((tkn (b.drop at_)).1 < 512)))) (fun _ _ hF => opPickF rfl (hF.ev 1 rfl) (hF.ev 0 rfl)) rfl (fun _ _ => rfl) (kM [false, false, true, true, true, true, true, true, true] rfl rfl) (by decide) ?_
                refine pxEnd ?_
                refine qxThen ?_
                refine cxP 0 rfl rfl (fun hc8 => ?_) (fun hc8 => ?_)
                · refine cxSeq ?_
                  refine cxReg ?_
                  refine pxV (v := (.slice none 0 0)) (fun _ _ hF => opAssign rfl rfl) rfl (fun _ _ => rfl) (kM [false, false, false, false, false, false, false, false] rfl rfl) (by decide) ?_
                  refine pxV (v := (.int .i64 0)) (fun _ _ hF => opAssign rfl rfl) rfl (fun _ _ => rfl) (kA rfl) (by decide) ?_
                  refine pxV (v := (.int .i64 2)) (fun _ _ hF => opAssign rfl rfl) rfl (fun _ _ => rfl) (kA rfl) (by decide) ?_
                  refine pxEnd ?_
                  refine qxThen ?_
                  refine cxRet ?_
                  refine qxThenR ?_
                  refine qxInR ?_
                  refine qxThenR ?_
                  refine qxThenR ?_
                  refine qxInR ?_
                  refine qxRet3 2 1 0 rfl rfl rfl rfl ?_
                  have he := hf.trans (frs_form (may := mayT t) (.inr ⟨hg2, .inr ⟨hfst.1 hg7, hc8⟩⟩))
                  exact ⟨_, [], rfl, ⟨.slice none 0 0, 0, (by rw [he]; first | done | rfl), (by rw [he]; exact OwnT.nil _ _), (by rw [he]; intro h; cases h)⟩, HH.out1 (HH.pad hH 1) [false, true] rfl⟩
                · refine cxSkip ?_
                  refine qxThen ?_
                  refine cxSeq ?_
                  refine cxSeq ?_
                  have hform := frs_not (may := mayT t) (body := body) hg1 (.inr ⟨hmay, .inr (by omega)⟩)
                  refine cxReg ?_
                  refine pxV (v := (.int .i64 ((((tkn (b.drop at_)).1) : Nat) : Int))) (fun _ _ hF => opMove rfl (hF.ev 3 rfl)) rfl (fun _ _ => rfl) (kM [false, true, true, true, true, true, true, true] rfl rfl) (by decide) ?_
                  refine pxV (v := (.slice Ab body.length cb)) (fun _ _ hF => opMove rfl (hF.ev 5 rfl)) rfl (fun _ _ => rfl) (kA rfl) (by decide) ?_
                  refine pxV (v := (.int .i64 (((body.length) : Nat) : Int))) (fun _ _ hF => opLen (e := 5) rfl (by kernel_rfl) (hF.ev 0 rfl)) rfl (fun _ _ => rfl) (kM [false, true, true, true, true, true, true, true, true] rfl rfl) (by decide) ?_
                  refine pxV (v := (.int .i64 (((20000 - body.length) : Nat) : Int))) (fun _ _ hF => opSub rfl rfl (hF.ev 0 rfl) (wI (by omega) (by omega) (by omega))) rfl (fun _ _ => rfl) (kM [false, true, true, true, true, true, true, true, true] rfl rfl) (by decide) ?_
                  refine pxV (v := (.bool (decide ((tkn (b.drop at_)).1 > 20000 - body.length)))) (fun _ _ hF => opGtr rfl (hF.ev 1 rfl) (hF.ev 0 rfl) (dc (by omega))) rfl (fun _ _ => rfl) (kM [false, false, true, true, true, true, true, true, true] rfl rfl) (by decide) ?_
                  refine pxEnd ?_
                  refine qxThen ?_
                  refine cxP 0 rfl rfl (fun hc9 => ?_) (fun hc9 => ?_)
                  · refine cxSeq ?_
                    refine cxReg ?_
                    refine pxV (v := (.slice none 0 0)) (fun _ _ hF => opAssign rfl rfl) rfl (fun _ _ => rfl) (kM [false, false, false, false, false, false, false, false] rfl rfl) (by decide) ?_
                    refine pxV (v := (.int .i64 0)) (fun _ _ hF => opAssign rfl rfl) rfl (fun _ _ => rfl) (kA rfl) (by decide) ?_
                    refine pxV (v := (.int .i64 6)) (fun _ _ hF => opAssign rfl rfl) rfl (fun _ _ => rfl) (kA rfl) (by decide) ?_
                    refine pxEnd ?_
                    refine qxThen ?_
                    refine cxRet ?_
                    refine qxThenR ?_
                    refine qxInR ?_
                    refine qxThenR ?_
                    refine qxThenR ?_
                    refine qxInR ?_
                    refine qxRet3 2 1 0 rfl rfl rfl rfl ?_
                    have he := hf.trans (frs_long hform (by omega))
                    exact ⟨_, [], rfl, ⟨.slice none 0 0, 0, (by rw [he]; first | done | rfl), (by rw [he]; exact OwnT.nil _ _), (by rw [he]; intro h; cases h)⟩, HH.out1 (HH.pad hH 1) [false, true] rfl⟩
                  · refine cxSkip ?_
                    refine qxThen ?_
                    refine cxSeq ?_
                    refine cxReg ?_
                    refine pxV (v := (.int .i64 (((at_) : Nat) : Int))) (fun _ _ hF => opMove rfl (hF.ev 4 rfl)) rfl (fun _ _ => rfl) (kM [false, true, true, true, false, true, true, true] rfl rfl) (by decide) ?_
                    refine pxV (v := (.int .i64 ((((tkn (b.drop at_)).2.1) : Nat) : Int))) (fun _ _ hF => opMove rfl (hF.ev 2 rfl)) rfl (fun _ _ => rfl) (kM [true, true, false, true, true, true, true] rfl rfl) (by decide) ?_
                    refine pxV (v := (.int .i64 (((at_ + ((tkn (b.drop at_)).2.1)) : Nat) : Int))) (fun _ _ hF => opAdd rfl (hF.ev 1 rfl) (hF.ev 0 rfl) (wI (by omega) (by omega) (by omega))) rfl (fun _ _ => rfl) (kM [false, false, true, true, true, true, true] rfl rfl) (by decide) ?_
                    refine pxV (v := (.int .i64 (((at_ + ((tkn (b.drop at_)).2.1)) : Nat) : Int))) (fun _ _ hF => opAssign rfl (hF.ev 0 rfl)) rfl (fun _ _ => rfl) (kM [false, true, true, true, true, true] rfl rfl) (by decide) ?_
                    refine pxEnd ?_
                    refine qxThen ?_
                    refine cxSeq ?_
                    refine cxSeq ?_
                    refine cxReg ?_
                    refine pxV (v := (.int .i64 ((((tkn (b.drop at_)).1) : Nat) : Int))) (fun _ _ hF => opMove rfl (hF.ev 2 rfl)) rfl (fun _ _ => rfl) (kA rfl) (by decide) ?_
                    refine pxV (v := (.slice A n c)) (fun _ _ hF => opMove rfl (hF.ev 5 rfl)) rfl (fun _ _ => rfl) (kA rfl) (by decide) ?_
                    refine pxV (v := (.int .i64 (((n) : Nat) : Int))) (fun _ _ hF => opLen (e := 5) rfl (by kernel_rfl) (hF.ev 0 rfl)) rfl (fun _ _ => rfl) (kM [false, true, true, true, true, true, true, true] rfl rfl) (by decide) ?_
                    refine pxV (v := (.int .i64 (((at_ + ((tkn (b.drop at_)).2.1)) : Nat) : Int))) (fun _ _ hF => opMove rfl (hF.ev 2 rfl)) rfl (fun _ _ => rfl) (kA rfl) (by decide) ?_
                    refine pxV (v := (.int .i64 (((n - (at_ + (tkn (b.drop at_)).2.1)) : Nat) : Int))) (fun _ _ hF => opSub rfl (hF.ev 1 rfl) (hF.ev 0 rfl) (wI (by omega) (by omega) (by omega))) rfl (fun _ _ => rfl) (kM [false, false, true, true, true, true, true, true, true] rfl rfl) (by decide) ?_
                    refine pxV (v := (.bool (decide ((tkn (b.drop at_)).1 > n - (at_ + (tkn (b.drop at_)).2.1))))) (fun _ _ hF => opGtr rfl (hF.ev 1 rfl) (hF.ev 0 rfl) (dc (by omega))) rfl (fun _ _ => rfl) (kM [false, false, true, true, true, true, true, true] rfl rfl) (by decide) ?_
                    refine pxEnd ?_
                    refine qxThen ?_
                    refine cxP 0 rfl rfl (fun hc10 => ?_) (fun hc10 => ?_)
                    · refine cxSeq ?_
                      refine cxReg ?_
                      refine pxV (v := (.slice none 0 0)) (fun _ _ hF => opAssign rfl rfl) rfl (fun _ _ => rfl) (kM [false, false, false, false, false, false, false] rfl rfl) (by decide) ?_
                      refine pxV (v := (.int .i64 0)) (fun _ _ hF => opAssign rfl rfl) rfl (fun _ _ => rfl) (kA rfl) (by decide) ?_
                      refine pxV (v := (.int .i64 2)) (fun _ _ hF => opAssign rfl rfl) rfl (fun _ _ => rfl) (kA rfl) (by decide) ?_
                      refine pxEnd ?_
                      refine qxThen ?_
                      refine cxRet ?_
                      refine qxThenR ?_
                      refine qxInR ?_
                      refine qxThenR ?_
                      refine qxThenR ?_
                      refine qxInR ?_
                      refine qxRet3 2 1 0 rfl rfl rfl rfl ?_
                      have he := hf.trans (frs_few2 hform (by omega) (by rw [List.length_drop, List.length_drop]; omega))
                      exact ⟨_, [], rfl, ⟨.slice none 0 0, 0, (by rw [he]; first | done | rfl), (by rw [he]; exact OwnT.nil _ _), (by rw [he]; intro h; cases h)⟩, HH.out1 (HH.pad hH 1) [false, true] rfl⟩
                    · refine cxSkip ?_
                      refine qxThen ?_
                      refine cxSeq ?_
                      refine cxReg ?_
                      refine pxV (v := (.slice Ab body.length cb)) (fun _ _ hF => opMove rfl (hF.ev 4 rfl)) rfl (fun _ _ => rfl) (kM [false, true, true, true, false, true, true] rfl rfl) (by decide) ?_
                      refine pxV (v := (.slice A n c)) (fun _ _ hF => opMove rfl (hF.ev 4 rfl)) rfl (fun _ _ => rfl) (kA rfl) (by decide) ?_
                      refine pxV (v := (.int .i64 (((at_ + ((tkn (b.drop at_)).2.1)) : Nat) : Int))) (fun _ _ hF => opMove rfl (hF.ev 2 rfl)) rfl (fun _ _ => rfl) (kA rfl) (by decide) ?_
                      refine pxV (v := (.int .i64 (((at_ + ((tkn (b.drop at_)).2.1)) : Nat) : Int))) (fun _ _ hF => opMove rfl (hF.ev 3 rfl)) rfl (fun _ _ => rfl) (kA rfl) (by decide) ?_
                      refine pxV (v := (.int .i64 ((((tkn (b.drop at_)).1) : Nat) : Int))) (fun _ _ hF => opMove rfl (hF.ev 6 rfl)) rfl (fun _ _ => rfl) (kA rfl) (by decide) ?_
                      refine pxV (v := (.int .i64 ((((at_ + ((tkn (b.drop at_)).2.1)) + ((tkn (b.drop at_)).1)) : Nat) : Int))) (fun _ _ hF => opAdd rfl (hF.ev 1 rfl) (hF.ev 0 rfl) (wI (by omega) (by omega) (by omega))) rfl (fun _ _ => rfl) (kM [false, false, true, true, true, true, true, true, true, true] rfl rfl) (by decide) ?_
                      refine pxV (v := (.slice (cutA A c (at_ + ((tkn (b.drop at_)).2.1)) 1) (((at_ + ((tkn (b.drop at_)).2.1)) + ((tkn (b.drop at_)).1)) - (at_ + ((tkn (b.drop at_)).2.1))) (c - (at_ + ((tkn (b.drop at_)).2.1))))) (fun _ _ hF => opCutLH (k := at_ + ((tkn (b.drop at_)).2.1)) (h := (at_ + ((tkn (b.drop at_)).2.1)) + ((tkn (b.drop at_)).1)) (e := 5) (sz := 1) rfl (by kernel_rfl) (by kernel_rfl) (hF.ev 2 rfl) (hF.ev 1 rfl) (hF.ev 0 rfl) rfl rfl (by omega) (by omega)) rfl (fun _ _ => rfl) (kM [false, false, false, true, true, true, true, true, true] rfl rfl) (by decide) ?_
                      refine pxE 0 hH rfl (fun _ hF => smAppT (C := cByte) (l := body) (m := ((b.take ((at_ + ((tkn (b.drop at_)).2.1)) + ((tkn (b.drop at_)).1))).drop (at_ + ((tkn (b.drop at_)).2.1)))) (e := 5) (z := (.int .u8 0)) (by_ := 1) rfl (by kernel_rfl) (by kernel_rfl) rfl (ltb rfl) (hF.ev 1 rfl) hO (hF.ev 0 rfl) (by rw [List.length_drop, List.length_take]; omega) (((hH.vu hR (by decide) (Off.nil _ _)).cut (k := at_ + ((tkn (b.drop at_)).2.1)) (m := (at_ + ((tkn (b.drop at_)).2.1)) + ((tkn (b.drop at_)).1)) (by omega) (by omega))).nilA (by unfold maxLen; omega) (by omega)) ((hH.vu hR (by decide) (Off.nil _ _)).cut (k := at_ + ((tkn (b.drop at_)).2.1)) (m := (at_ + ((tkn (b.drop at_)).2.1)) + ((tkn (b.drop at_)).1)) (by omega) (by omega)) rfl (fun _ _ => rfl) (kM [false, false, true, true, true, true, true] rfl rfl) (by decide) ?_
                      clear hH
                      rintro v13 E14 w ⟨hO15, _⟩ hH
                      replace hH : HH w0 [] [E14] w := hH
                      replace hO15 : OwnT cByte 5 v13 (body ++ ((b.take ((at_ + ((tkn (b.drop at_)).2.1)) + ((tkn (b.drop at_)).1))).drop (at_ + ((tkn (b.drop at_)).2.1)))) E14 := hO15
                      obtain ⟨A11, c12, rfl⟩ := hO15.slice
                      refine pxV (v := (.slice A11 ((body ++ ((b.take ((at_ + ((tkn (b.drop at_)).2.1)) + ((tkn (b.drop at_)).1))).drop (at_ + ((tkn (b.drop at_)).2.1)))).length) c12)) (fun _ _ hF => opAssign rfl (hF.ev 0 rfl)) rfl (fun _ _ => rfl) (kM [false, true, true, true, true, true] rfl rfl) (by decide) ?_
                      refine pxEnd ?_
                      refine qxThen ?_
                      refine cxSeq ?_
                      refine cxReg ?_
                      refine pxV (v := (.int .i64 (((at_ + ((tkn (b.drop at_)).2.1)) : Nat) : Int))) (fun _ _ hF => opMove rfl (hF.ev 1 rfl)) rfl (fun _ _ => rfl) (kM [true, false, true, true, true, true] rfl rfl) (by decide) ?_
                      refine pxV (v := (.int .i64 ((((tkn (b.drop at_)).1) : Nat) : Int))) (fun _ _ hF => opMove rfl (hF.ev 3 rfl)) rfl (fun _ _ => rfl) (kM [true, true, true, false, true, true] rfl rfl) (by decide) ?_
                      refine pxV (v := (.int .i64 ((((at_ + ((tkn (b.drop at_)).2.1)) + ((tkn (b.drop at_)).1)) : Nat) : Int))) (fun _ _ hF => opAdd rfl (hF.ev 1 rfl) (hF.ev 0 rfl) (wI (by omega) (by omega) (by omega))) rfl (fun _ _ => rfl) (kM [false, false, true, true, true, true] rfl rfl) (by decide) ?_
                      refine pxV (v := (.int .i64 ((((at_ + ((tkn (b.drop at_)).2.1)) + ((tkn (b.drop at_)).1)) : Nat) : Int))) (fun _ _ hF => opAssign rfl (hF.ev 0 rfl)) rfl (fun _ _ => rfl) (kM [false, true, true, true, true] rfl rfl) (by decide) ?_
                      refine pxEnd ?_
                      refine qxThen ?_
                      refine cxSeq ?_
                      refine cxReg ?_
                      refine pxV (v := (.bool ((tkn (b.drop at_)).2.2))) (fun _ _ hF => opMove rfl (hF.ev 2 rfl)) rfl (fun _ _ => rfl) (kM [true, true, false, true, true] rfl rfl) (by decide) ?_
                      refine pxV (v := (.bool (!((tkn (b.drop at_)).2.2)))) (fun _ _ hF => opNot rfl (hF.ev 0 rfl) rfl) rfl (fun _ _ => rfl) (kM [false, true, true, true, true] rfl rfl) (by decide) ?_
                      refine pxEnd ?_
                      refine qxThen ?_
                      refine cxB 0 rfl rfl (fun hc16 => ?_) (fun hc16 => ?_)
                      · replace hc16 : ((tkn (b.drop at_)).2.2) = false := by simpa using hc16
                        rw [hg2] at hc16; cases hc16
                      · replace hc16 : ((tkn (b.drop at_)).2.2) = true := by simpa using hc16
                        refine cxSkip ?_
                        refine qxInN ?_
                        refine qxThen ?_
                        refine cxReg ?_
                        refine pxV (v := (.bool false)) (fun _ _ hF => opAssign rfl rfl) rfl (fun _ _ => rfl) (kM [false, true, true, true, true] rfl rfl) (by decide) ?_
                        refine pxEnd ?_
                        have hp := tkn_part hg2
                        have hle : (tkn (b.drop at_)).1 ≤ ((b.drop at_).drop (tkn (b.drop at_)).2.1).length := by rw [List.length_drop, List.length_drop]; omega
                        exact qxRound ((body ++ ((b.take ((at_ + ((tkn (b.drop at_)).2.1)) + ((tkn (b.drop at_)).1))).drop (at_ + ((tkn (b.drop at_)).2.1)))), A11, c12, E14, (at_ + (tkn (b.drop at_)).2.1 + (tkn (b.drop at_)).1), false) ⟨hH, hO15, (show (at_ + (tkn (b.drop at_)).2.1 + (tkn (b.drop at_)).1) ≤ b.length from (by omega)), (show frs (mayT t) [] b = frs (mayT t) (body ++ ((b.take ((at_ + ((tkn (b.drop at_)).2.1)) + ((tkn (b.drop at_)).1))).drop (at_ + ((tkn (b.drop at_)).2.1)))) (b.drop (at_ + (tkn (b.drop at_)).2.1 + (tkn (b.drop at_)).1)) from (by rw [hf, part_eq, rest_eq]; exact frs_more2 hform (by omega) hle hg2)), (by rw [part_eq]; exact not_empty hp.1 hle), (show (body ++ ((b.take ((at_ + ((tkn (b.drop at_)).2.1)) + ((tkn (b.drop at_)).1))).drop (at_ + ((tkn (b.drop at_)).2.1)))).length ≤ 20000 from (by rw [part_eq]; exact body_le (by omega)))⟩ (show b.length - (at_ + (tkn (b.drop at_)).2.1 + (tkn (b.drop at_)).1) < b.length - at_ from by omega) (slots_at [0, 1, 2, 3, 4] rfl)
              · refine pxU rfl (gOff 0 rfl rfl rfl (by decide)) (kA rfl) (by decide) ?_
                refine pxU rfl (gOff 0 rfl rfl rfl (by decide)) (kA rfl) (by decide) ?_
                refine pxV (v := (.bool false)) (fun _ _ hF => opPickF rfl (hF.ev 0 rfl) rfl) rfl (gOn 1 rfl rfl rfl (by decide)) (kM [false, true, true, true, true, true, true, true, true, true, true] rfl rfl) (by decide) ?_
                refine pxV (v := (.bool false)) (fun _ _ hF => opPickF rfl (hF.ev 1 rfl) (hF.ev 0 rfl)) rfl (gOn 2 rfl rfl rfl (by decide)) (kM [false, false, true, true, true, true, true, true, true, true, true] rfl rfl) (by decide) ?_
                refine pxV (v := (.bool false)) (fun _ _ hF => opPickT rfl (hF.ev 1 rfl) (hF.ev 0 rfl)) rfl (gOn 2 rfl rfl rfl (by decide)) (kM [false, false, true, true, true, true, true, true, true, true] rfl rfl) (by decide) ?_
                refine pxV (v := (.bool false)) (fun _ _ hF => opPickF rfl (hF.ev 1 rfl) (hF.ev 0 rfl)) rfl (fun _ _ => rfl) (kM [false, false, true, true, true, true, true, true, true] rfl rfl) (by decide) ?_
                refine pxEnd ?_
                refine qxThen ?_
                refine cxF 0 rfl rfl ?_
                refine cxSkip ?_
                refine qxThen ?_
                refine cxSeq ?_
                refine cxSeq ?_
                have hform := frs_not (may := mayT t) (body := body) hg1 (.inr ⟨hmay, .inl (fun q => by have := hfst.2 (List.eq_nil_of_length_eq_zero q); rw [this] at hg7; cases hg7)⟩)
                refine cxReg ?_
                refine pxV (v := (.int .i64 ((((tkn (b.drop at_)).1) : Nat) : Int))) (fun _ _ hF => opMove rfl (hF.ev 3 rfl)) rfl (fun _ _ => rfl) (kM [false, true, true, true, true, true, true, true] rfl rfl) (by decide) ?_
                refine pxV (v := (.slice Ab body.length cb)) (fun _ _ hF => opMove rfl (hF.ev 5 rfl)) rfl (fun _ _ => rfl) (kA rfl) (by decide) ?_
                refine pxV (v := (.int .i64 (((body.length) : Nat) : Int))) (fun _ _ hF => opLen (e := 5) rfl (by kernel_rfl) (hF.ev 0 rfl)) rfl (fun _ _ => rfl) (kM [false, true, true, true, true, true, true, true, true] rfl rfl) (by decide) ?_
                refine pxV (v := (.int .i64 (((20000 - body.length) : Nat) : Int))) (fun _ _ hF => opSub rfl rfl (hF.ev 0 rfl) (wI (by omega) (by omega) (by omega))) rfl (fun _ _ => rfl) (kM [false, true, true, true, true, true, true, true, true] rfl rfl) (by decide) ?_
                refine pxV (v := (.bool (decide ((tkn (b.drop at_)).1 > 20000 - body.length)))) (fun _ _ hF => opGtr rfl (hF.ev 1 rfl) (hF.ev 0 rfl) (dc (by omega))) rfl (fun _ _ => rfl) (kM [false, false, true, true, true, true, true, true, true] rfl rfl) (by decide) ?_
                refine pxEnd ?_
                refine qxThen ?_
                refine cxP 0 rfl rfl (fun hc17 => ?_) (fun hc17 => ?_)
                · refine cxSeq ?_
                  refine cxReg ?_
                  refine pxV (v := (.slice none 0 0)) (fun _ _ hF => opAssign rfl rfl) rfl (fun _ _ => rfl) (kM [false, false, false, false, false, false, false, false] rfl rfl) (by decide) ?_
                  refine pxV (v := (.int .i64 0)) (fun _ _ hF => opAssign rfl rfl) rfl (fun _ _ => rfl) (kA rfl) (by decide) ?_
                  refine pxV (v := (.int .i64 6)) (fun _ _ hF => opAssign rfl rfl) rfl (fun _ _ => rfl) (kA rfl) (by decide) ?_
                  refine pxEnd ?_
                  refine qxThen ?_
                  refine cxRet ?_
                  refine qxThenR ?_
                  refine qxInR ?_
                  refine qxThenR ?_
                  refine qxThenR ?_
                  refine qxInR ?_
                  refine qxRet3 2 1 0 rfl rfl rfl rfl ?_
                  have he := hf.trans (frs_long hform (by omega))
                  exact ⟨_, [], rfl, ⟨.slice none 0 0, 0, (by rw [he]; first | done | rfl), (by rw [he]; exact OwnT.nil _ _), (by rw [he]; intro h; cases h)⟩, HH.out1 (HH.pad hH 1) [false, true] rfl⟩
                · refine cxSkip ?_
                  refine qxThen ?_
                  refine cxSeq ?_
                  refine cxReg ?_
                  refine pxV (v := (.int .i64 (((at_) : Nat) : Int))) (fun _ _ hF => opMove rfl (hF.ev 4 rfl)) rfl (fun _ _ => rfl) (kM [false, true, true, true, false, true, true, true] rfl rfl) (by decide) ?_
                  refine pxV (v := (.int .i64 ((((tkn (b.drop at_)).2.1) : Nat) : Int))) (fun _ _ hF => opMove rfl (hF.ev 2 rfl)) rfl (fun _ _ => rfl) (kM [true, true, false, true, true, true, true] rfl rfl) (by decide) ?_
                  refine pxV (v := (.int .i64 (((at_ + ((tkn (b.drop at_)).2.1)) : Nat) : Int))) (fun _ _ hF => opAdd rfl (hF.ev 1 rfl) (hF.ev 0 rfl) (wI (by omega) (by omega) (by omega))) rfl (fun _ _ => rfl) (kM [false, false, true, true, true, true, true] rfl rfl) (by decide) ?_
                  refine pxV (v := (.int .i64 (((at_ + ((tkn (b.drop at_)).2.1)) : Nat) : Int))) (fun _ _ hF => opAssign rfl (hF.ev 0 rfl)) rfl (fun _ _ => rfl) (kM [false, true, true, true, true, true] rfl rfl) (by decide) ?_
                  refine pxEnd ?_
                  refine qxThen ?_
                  refine cxSeq ?_
                  refine cxSeq ?_
                  refine cxReg ?_
                  refine pxV (v := (.int .i64 ((((tkn (b.drop at_)).1) : Nat) : Int))) (fun _ _ hF => opMove rfl (hF.ev 2 rfl)) rfl (fun _ _ => rfl) (kA rfl) (by decide) ?_
                  refine pxV (v := (.slice A n c)) (fun _ _ hF => opMove rfl (hF.ev 5 rfl)) rfl (fun _ _ => rfl) (kA rfl) (by decide) ?_
                  refine pxV (v := (.int .i64 (((n) : Nat) : Int))) (fun _ _ hF => opLen (e := 5) rfl (by kernel_rfl) (hF.ev 0 rfl)) rfl (fun _ _ => rfl) (kM [false, true, true, true, true, true, true, true] rfl rfl) (by decide) ?_
                  refine pxV (v := (.int .i64 (((at_ + ((tkn (b.drop at_)).2.1)) : Nat) : Int))) (fun _ _ hF => opMove rfl (hF.ev 2 rfl)) rfl (fun _ _ => rfl) (kA rfl) (by decide) ?_
                  refine pxV (v := (.int .i64 (((n - (at_ + (tkn (b.drop at_)).2.1)) : Nat) : Int))) (fun _ _ hF => opSub rfl (hF.ev 1 rfl) (hF.ev 0 rfl) (wI (by omega) (by omega) (by omega))) rfl (fun _ _ => rfl) (kM [false, false, true, true, true, true, true, true, true] rfl rfl) (by decide) ?_
                  refine pxV (v := (.bool (decide ((tkn (b.drop at_)).1 > n - (at_ + (tkn (b.drop at_)).2.1))))) (fun _ _ hF => opGtr rfl (hF.ev 1 rfl) (hF.ev 0 rfl) (dc (by omega))) rfl (fun _ _ => rfl) (kM [false, false, true, true, true, true, true, true] rfl rfl) (by decide) ?_
                  refine pxEnd ?_
                  refine qxThen ?_
                  refine cxP 0 rfl rfl (fun hc18 => ?_) (fun hc18 => ?_)
                  · refine cxSeq ?_
                    refine cxReg ?_
                    refine pxV (v := (.slice none 0 0)) (fun _ _ hF => opAssign rfl rfl) rfl (fun _ _ => rfl) (kM [false, false, false, false, false, false, false] rfl rfl) (by decide) ?_
                    refine pxV (v := (.int .i64 0)) (fun _ _ hF => opAssign rfl rfl) rfl (fun _ _ => rfl) (kA rfl) (by decide) ?_
                    refine pxV (v := (.int .i64 2)) (fun _ _ hF => opAssign rfl rfl) rfl (fun _ _ => rfl) (kA rfl) (by decide) ?_
                    refine pxEnd ?_
                    refine qxThen ?_
                    refine cxRet ?_
                    refine qxThenR ?_
                    refine qxInR ?_
                    refine qxThenR ?_
                    refine qxThenR ?_
                    refine qxInR ?_
                    refine qxRet3 2 1 0 rfl rfl rfl rfl ?_
                    have he := hf.trans (frs_few2 hform (by omega) (by rw [List.length_drop, List.length_drop]; omega))
                    exact ⟨_, [], rfl, ⟨.slice none 0 0, 0, (by rw [he]; first | done | rfl), (by rw [he]; exact OwnT.nil _ _), (by rw [he]; intro h; cases h)⟩, HH.out1 (HH.pad hH 1) [false, true] rfl⟩
                  · refine cxSkip ?_
                    refine qxThen ?_
                    refine cxSeq ?_
                    refine cxReg ?_
                    refine pxV (v := (.slice Ab body.length cb)) (fun _ _ hF => opMove rfl (hF.ev 4 rfl)) rfl (fun _ _ => rfl) (kM [false, true, true, true, false, true, true] rfl rfl) (by decide) ?_
                    refine pxV (v := (.slice A n c)) (fun _ _ hF => opMove rfl (hF.ev 4 rfl)) rfl (fun _ _ => rfl) (kA rfl) (by decide) ?_
                    refine pxV (v := (.int .i64 (((at_ + ((tkn (b.drop at_)).2.1)) : Nat) : Int))) (fun _ _ hF => opMove rfl (hF.ev 2 rfl)) rfl (fun _ _ => rfl) (kA rfl) (by decide) ?_
                    refine pxV (v := (.int .i64 (((at_ + ((tkn (b.drop at_)).2.1)) : Nat) : Int))) (fun _ _ hF => opMove rfl (hF.ev 3 rfl)) rfl (fun _ _ => rfl) (kA rfl) (by decide) ?_
                    refine pxV (v := (.int .i64 ((((tkn (b.drop at_)).1) : Nat) : Int))) (fun _ _ hF => opMove rfl (hF.ev 6 rfl)) rfl (fun _ _ => rfl) (kA rfl) (by decide) ?_
                    refine pxV (v := (.int .i64 ((((at_ + ((tkn (b.drop at_)).2.1)) + ((tkn (b.drop at_)).1)) : Nat) : Int))) (fun _ _ hF => opAdd rfl (hF.ev 1 rfl) (hF.ev 0 rfl) (wI (by omega) (by omega) (by omega))) rfl (fun _ _ => rfl) (kM [false, false, true, true, true, true, true, true, true, true] rfl rfl) (by decide) ?_
                    refine pxV (v := (.slice (cutA A c (at_ + ((tkn (b.drop at_)).2.1)) 1) (((at_ + ((tkn (b.drop at_)).2.1)) + ((tkn (b.drop at_)).1)) - (at_ + ((tkn (b.drop at_)).2.1))) (c - (at_ + ((tkn (b.drop at_)).2.1))))) (fun _ _ hF => opCutLH (k := at_ + ((tkn (b.drop at_)).2.1)) (h := (at_ + ((tkn (b.drop at_)).2.1)) + ((tkn (b.drop at_)).1)) (e := 5) (sz := 1) rfl (by kernel_rfl) (by kernel_rfl) (hF.ev 2 rfl) (hF.ev 1 rfl) (hF.ev 0 rfl) rfl rfl (by omega) (by omega)) rfl (fun _ _ => rfl) (kM [false, false, false, true, true, true, true, true, true] rfl rfl) (by decide) ?_
                    refine pxE 0 hH rfl (fun _ hF => smAppT (C := cByte) (l := body) (m := ((b.take ((at_ + ((tkn (b.drop at_)).2.1)) + ((tkn (b.drop at_)).1))).drop (at_ + ((tkn (b.drop at_)).2.1)))) (e := 5) (z := (.int .u8 0)) (by_ := 1) rfl (by kernel_rfl) (by kernel_rfl) rfl (ltb rfl) (hF.ev 1 rfl) hO (hF.ev 0 rfl) (by rw [List.length_drop, List.length_take]; omega) (((hH.vu hR (by decide) (Off.nil _ _)).cut (k := at_ + ((tkn (b.drop at_)).2.1)) (m := (at_ + ((tkn (b.drop at_)).2.1)) + ((tkn (b.drop at_)).1)) (by omega) (by omega))).nilA (by unfold maxLen; omega) (by omega)) ((hH.vu hR (by decide) (Off.nil _ _)).cut (k := at_ + ((tkn (b.drop at_)).2.1)) (m := (at_ + ((tkn (b.drop at_)).2.1)) + ((tkn (b.drop at_)).1)) (by omega) (by omega)) rfl (fun _ _ => rfl) (kM [false, false, true, true, true, true, true] rfl rfl) (by decide) ?_
                    clear hH
                    rintro v21 E22 w ⟨hO23, _⟩ hH
                    replace hH : HH w0 [] [E22] w := hH
                    replace hO23 : OwnT cByte 5 v21 (body ++ ((b.take ((at_ + ((tkn (b.drop at_)).2.1)) + ((tkn (b.drop at_)).1))).drop (at_ + ((tkn (b.drop at_)).2.1)))) E22 := hO23
                    obtain ⟨A19, c20, rfl⟩ := hO23.slice
                    refine pxV (v := (.slice A19 ((body ++ ((b.take ((at_ + ((tkn (b.drop at_)).2.1)) + ((tkn (b.drop at_)).1))).drop (at_ + ((tkn (b.drop at_)).2.1)))).length) c20)) (fun _ _ hF => opAssign rfl (hF.ev 0 rfl)) rfl (fun _ _ => rfl) (kM [false, true, true, true, true, true] rfl rfl) (by decide) ?_
                    refine pxEnd ?_
                    refine qxThen ?_
                    refine cxSeq ?_
                    refine cxReg ?_
                    refine pxV (v := (.int .i64 (((at_ + ((tkn (b.drop at_)).2.1)) : Nat) : Int))) (fun _ _ hF => opMove rfl (hF.ev 1 rfl)) rfl (fun _ _ => rfl) (kM [true, false, true, true, true, true] rfl rfl) (by decide) ?_
                    refine pxV (v := (.int .i64 ((((tkn (b.drop at_)).1) : Nat) : Int))) (fun _ _ hF => opMove rfl (hF.ev 3 rfl)) rfl (fun _ _ => rfl) (kM [true, true, true, false, true, true] rfl rfl) (by decide) ?_
                    refine pxV (v := (.int .i64 ((((at_ + ((tkn (b.drop at_)).2.1)) + ((tkn (b.drop at_)).1)) : Nat) : Int))) (fun _ _ hF => opAdd rfl (hF.ev 1 rfl) (hF.ev 0 rfl) (wI (by omega) (by omega) (by omega))) rfl (fun _ _ => rfl) (kM [false, false, true, true, true, true] rfl rfl) (by decide) ?_
                    refine pxV (v := (.int .i64 ((((at_ + ((tkn (b.drop at_)).2.1)) + ((tkn (b.drop at_)).1)) : Nat) : Int))) (fun _ _ hF => opAssign rfl (hF.ev 0 rfl)) rfl (fun _ _ => rfl) (kM [false, true, true, true, true] rfl rfl) (by decide) ?_
                    refine pxEnd ?_
                    refine qxThen ?_
                    refine cxSeq ?_
                    refine cxReg ?_
                    refine pxV (v := (.bool ((tkn (b.drop at_)).2.2))) (fun _ _ hF => opMove rfl (hF.ev 2 rfl)) rfl (fun _ _ => rfl) (kM [true, true, false, true, true] rfl rfl) (by decide) ?_
                    refine pxV (v := (.bool (!((tkn (b.drop at_)).2.2)))) (fun _ _ hF => opNot rfl (hF.ev 0 rfl) rfl) rfl (fun _ _ => rfl) (kM [false, true, true, true, true] rfl rfl) (by decide) ?_
                    refine pxEnd ?_
                    refine qxThen ?_
                    refine cxB 0 rfl rfl (fun hc24 => ?_) (fun hc24 => ?_)
                    · replace hc24 : ((tkn (b.drop at_)).2.2) = false := by simpa using hc24
                      rw [hg2] at hc24; cases hc24
                    · replace hc24 : ((tkn (b.drop at_)).2.2) = true := by simpa using hc24
                      refine cxSkip ?_
                      refine qxInN ?_
                      refine qxThen ?_
                      refine cxReg ?_
                      refine pxV (v := (.bool false)) (fun _ _ hF => opAssign rfl rfl) rfl (fun _ _ => rfl) (kM [false, true, true, true, true] rfl rfl) (by decide) ?_
                      refine pxEnd ?_
                      have hp := tkn_part hg2
                      have hle : (tkn (b.drop at_)).1 ≤ ((b.drop at_).drop (tkn (b.drop at_)).2.1).length := by rw [List.length_drop, List.length_drop]; omega
                      exact qxRound ((body ++ ((b.take ((at_ + ((tkn (b.drop at_)).2.1)) + ((tkn (b.drop at_)).1))).drop (at_ + ((tkn (b.drop at_)).2.1)))), A19, c20, E22, (at_ + (tkn (b.drop at_)).2.1 + (tkn (b.drop at_)).1), false) ⟨hH, hO23, (show (at_ + (tkn (b.drop at_)).2.1 + (tkn (b.drop at_)).1) ≤ b.length from (by omega)), (show frs (mayT t) [] b = frs (mayT t) (body ++ ((b.take ((at_ + ((tkn (b.drop at_)).2.1)) + ((tkn (b.drop at_)).1))).drop (at_ + ((tkn (b.drop at_)).2.1)))) (b.drop (at_ + (tkn (b.drop at_)).2.1 + (tkn (b.drop at_)).1)) from (by rw [hf, part_eq, rest_eq]; exact frs_more2 hform (by omega) hle hg2)), (by rw [part_eq]; exact not_empty hp.1 hle), (show (body ++ ((b.take ((at_ + ((tkn (b.drop at_)).2.1)) + ((tkn (b.drop at_)).1))).drop (at_ + ((tkn (b.drop at_)).2.1)))).length ≤ 20000 from (by rw [part_eq]; exact body_le (by omega)))⟩ (show b.length - (at_ + (tkn (b.drop at_)).2.1 + (tkn (b.drop at_)).1) < b.length - at_ from by omega) (slots_at [0, 1, 2, 3, 4] rfl)
          · have hmay : mayT t = true := mayT_yes (by omega)
            refine pxU rfl (gOff 0 rfl rfl rfl (by decide)) (kA rfl) (by decide) ?_
            refine pxU rfl (gOff 0 rfl rfl rfl (by decide)) (kA rfl) (by decide) ?_
            refine pxV (v := (.bool false)) (fun _ _ hF => opPickF rfl (hF.ev 0 rfl) rfl) rfl (gOn 1 rfl rfl rfl (by decide)) (kM [false, true, true, true, true, true, true, true, true, true, true] rfl rfl) (by decide) ?_
            refine pxV (v := (.bool false)) (fun _ _ hF => opMove rfl (hF.ev 0 rfl)) rfl (gOn 1 rfl rfl rfl (by decide)) (kM [false, true, true, true, true, true, true, true, true, true, true] rfl rfl) (by decide) ?_
            refine pxV (v := (.bool (first))) (fun _ _ hF => opMove rfl (hF.ev 6 rfl)) rfl (gOn 0 rfl rfl rfl (by decide)) (kM [true, true, true, true, true, true, false, true, true, true, true] rfl rfl) (by decide) ?_
            refine pxV (v := (.bool (first))) (fun _ _ hF => opMove rfl (hF.ev 0 rfl)) rfl (gOn 1 rfl rfl rfl (by decide)) (kM [false, true, true, true, true, true, true, true, true, true, true] rfl rfl) (by decide) ?_
            refine pxSplitB 0 rfl (l1 := [(42, (.bool true)), (40, (.bool false)), (25, (.bool true)), (23, (.bool false)), (12, (.bool ((tkn (b.drop at_)).2.2))), (11, (.int .i64 ((((tkn (b.drop at_)).2.1) : Nat) : Int))), (10, (.int .i64 ((((tkn (b.drop at_)).1) : Nat) : Int))), (8, (.int .i64 (((at_) : Nat) : Int))), (7, (.slice Ab body.length cb)), (1, (.slice A n c)), (0, (.int .i64 (((t) : Nat) : Int)))]) (l2 := [(42, (.bool false)), (40, (.bool false)), (25, (.bool true)), (23, (.bool false)), (12, (.bool ((tkn (b.drop at_)).2.2))), (11, (.int .i64 ((((tkn (b.drop at_)).2.1) : Nat) : Int))), (10, (.int .i64 ((((tkn (b.drop at_)).1) : Nat) : Int))), (8, (.int .i64 (((at_) : Nat) : Int))), (7, (.slice Ab body.length cb)), (1, (.slice A n c)), (0, (.int .i64 (((t) : Nat) : Int)))]) rfl rfl (fun hg25 => ?_) (fun hg25 => ?_)
            · refine pxV (v := (.int .i64 ((((tkn (b.drop at_)).1) : Nat) : Int))) (fun _ _ hF => opMove rfl (hF.ev 6 rfl)) rfl (gOn 0 rfl rfl rfl (by decide)) (kA rfl) (by decide) ?_
              refine pxV (v := (.bool (decide ((tkn (b.drop at_)).1 < 512)))) (fun _ _ hF => opLss rfl (hF.ev 0 rfl) rfl (dc (by omega))) rfl (gOn 1 rfl rfl rfl (by decide)) (kM [false, true, true, true, true, true, true, true, true, true, true, true] rfl rfl) (by decide) ?_
              refine pxV (v := (.bool (decide ((tkn (b.drop at_)).1 < 512)))) (fun _ _ hF => opPickT rfl (hF.ev 1 rfl) (hF.ev 0 rfl)) rfl (gOn 2 rfl rfl rfl (by decide)) (kM [false, false, true, true, true, true, true, true, true, true, true, true] rfl rfl) (by decide) ?_
              refine pxV (v := (.bool (decide ((tkn (b.drop at_)).1 < 512)))) (fun _ _ hF => opPickF rfl (hF.ev 1 rfl) (hF.ev 0 rfl)) rfl (gOn 2 rfl rfl rfl (by decide)) (kM [false, false, true, true, true, true, true, true, true, true, true] rfl rfl) (by decide) ?_
              refine pxV (v := (.bool (decide ((tkn (b.drop at_)).1 < 512)))) (fun _ _ hF => opPickT rfl (hF.ev 1 rfl) (hF.ev 0 rfl)) rfl (gOn 2 rfl rfl rfl (by decide)) (kM [false, false, true, true, true, true, true, true, true, true] rfl rfl) (by decide) ?_
              refine pxV (v := (.bool (decide ((tkn (b.drop at_)).1 < 512)))) (fun _ _ hF => opPickF rfl (hF.ev 1 rfl) (hF.ev 0 rfl)) rfl (fun _ _ => rfl) (kM [false, false, true, true, true, true, true, true, true] rfl rfl) (by decide) ?_
              refine pxEnd ?_
              refine qxThen ?_
              refine cxP 0 rfl rfl (fun hc26 => ?_) (fun hc26 => ?_)
              · refine cxSeq ?_
                refine cxReg ?_
                refine pxV (v := (.slice none 0 0)) (fun _ _ hF => opAssign rfl rfl) rfl (fun _ _ => rfl) (kM [false, false, false, false, false, false, false, false] rfl rfl) (by decide) ?_
                refine pxV (v := (.int .i64 0)) (fun _ _ hF => opAssign rfl rfl) rfl (fun _ _ => rfl) (kA rfl) (by decide) ?_
                refine pxV (v := (.int .i64 2)) (fun _ _ hF => opAssign rfl rfl) rfl (fun _ _ => rfl) (kA rfl) (by decide) ?_
                refine pxEnd ?_
                refine qxThen ?_
                refine cxRet ?_
                refine qxThenR ?_
                refine qxInR ?_
                refine qxThenR ?_
                refine qxThenR ?_
                refine qxInR ?_
                refine qxRet3 2 1 0 rfl rfl rfl rfl ?_
                have he := hf.trans (frs_form (may := mayT t) (.inr ⟨hg2, .inr ⟨hfst.1 hg25, hc26⟩⟩))
                exact ⟨_, [], rfl, ⟨.slice none 0 0, 0, (by rw [he]; first | done | rfl), (by rw [he]; exact OwnT.nil _ _), (by rw [he]; intro h; cases h)⟩, HH.out1 (HH.pad hH 1) [false, true] rfl⟩
              · refine cxSkip ?_
                refine qxThen ?_
                refine cxSeq ?_
                refine cxSeq ?_
                have hform := frs_not (may := mayT t) (body := body) hg1 (.inr ⟨hmay, .inr (by omega)⟩)
                refine cxReg ?_
                refine pxV (v := (.int .i64 ((((tkn (b.drop at_)).1) : Nat) : Int))) (fun _ _ hF => opMove rfl (hF.ev 3 rfl)) rfl (fun _ _ => rfl) (kM [false, true, true, true, true, true, true, true] rfl rfl) (by decide) ?_
                refine pxV (v := (.slice Ab body.length cb)) (fun _ _ hF => opMove rfl (hF.ev 5 rfl)) rfl (fun _ _ => rfl) (kA rfl) (by decide) ?_
                refine pxV (v := (.int .i64 (((body.length) : Nat) : Int))) (fun _ _ hF => opLen (e := 5) rfl (by kernel_rfl) (hF.ev 0 rfl)) rfl (fun _ _ => rfl) (kM [false, true, true, true, true, true, true, true, true] rfl rfl) (by decide) ?_
                refine pxV (v := (.int .i64 (((20000 - body.length) : Nat) : Int))) (fun _ _ hF => opSub rfl rfl (hF.ev 0 rfl) (wI (by omega) (by omega) (by omega))) rfl (fun _ _ => rfl) (kM [false, true, true, true, true, true, true, true, true] rfl rfl) (by decide) ?_
                refine pxV (v := (.bool (decide ((tkn (b.drop at_)).1 > 20000 - body.length)))) (fun _ _ hF => opGtr rfl (hF.ev 1 rfl) (hF.ev 0 rfl) (dc (by omega))) rfl (fun _ _ => rfl) (kM [false, false, true, true, true, true, true, true, true] rfl rfl) (by decide) ?_
                refine pxEnd ?_
                refine qxThen ?_
                refine cxP 0 rfl rfl (fun hc27 => ?_) (fun hc27 => ?_)
                · refine cxSeq ?_
                  refine cxReg ?_
                  refine pxV (v := (.slice none 0 0)) (fun _ _ hF => opAssign rfl rfl) rfl (fun _ _ => rfl) (kM [false, false, false, false, false, false, false, false] rfl rfl) (by decide) ?_
                  refine pxV (v := (.int .i64 0)) (fun _ _ hF => opAssign rfl rfl) rfl (fun _ _ => rfl) (kA rfl) (by decide) ?_
                  refine pxV (v := (.int .i64 6)) (fun _ _ hF => opAssign rfl rfl) rfl (fun _ _ => rfl) (kA rfl) (by decide) ?_
                  refine pxEnd ?_
                  refine qxThen ?_
                  refine cxRet ?_
                  refine qxThenR ?_
                  refine qxInR ?_
                  refine qxThenR ?_
                  refine qxThenR ?_
                  refine qxInR ?_
                  refine qxRet3 2 1 0 rfl rfl rfl rfl ?_
                  have he := hf.trans (frs_long hform (by omega))
                  exact ⟨_, [], rfl, ⟨.slice none 0 0, 0, (by rw [he]; first | done | rfl), (by rw [he]; exact OwnT.nil _ _), (by rw [he]; intro h; cases h)⟩, HH.out1 (HH.pad hH 1) [false, true] rfl⟩
                · refine cxSkip ?_
                  refine qxThen ?_
                  refine cxSeq ?_
                  refine cxReg ?_
                  refine pxV (v := (.int .i64 (((at_) : Nat) : Int))) (fun _ _ hF => opMove rfl (hF.ev 4 rfl)) rfl (fun _ _ => rfl) (kM [false, true, true, true, false, true, true, true] rfl rfl) (by decide) ?_
                  refine pxV (v := (.int .i64 ((((tkn (b.drop at_)).2.1) : Nat) : Int))) (fun _ _ hF => opMove rfl (hF.ev 2 rfl)) rfl (fun _ _ => rfl) (kM [true, true, false, true, true, true, true] rfl rfl) (by decide) ?_
                  refine pxV (v := (.int .i64 (((at_ + ((tkn (b.drop at_)).2.1)) : Nat) : Int))) (fun _ _ hF => opAdd rfl (hF.ev 1 rfl) (hF.ev 0 rfl) (wI (by omega) (by omega) (by omega))) rfl (fun _ _ => rfl) (kM [false, false, true, true, true, true, true] rfl rfl) (by decide) ?_
                  refine pxV (v := (.int .i64 (((at_ + ((tkn (b.drop at_)).2.1)) : Nat) : Int))) (fun _ _ hF => opAssign rfl (hF.ev 0 rfl)) rfl (fun _ _ => rfl) (kM [false, true, true, true, true, true] rfl rfl) (by decide) ?_
                  refine pxEnd ?_
                  refine qxThen ?_
                  refine cxSeq ?_
                  refine cxSeq ?_
                  refine cxReg ?_
                  refine pxV (v := (.int .i64 ((((tkn (b.drop at_)).1) : Nat) : Int))) (fun _ _ hF => opMove rfl (hF.ev 2 rfl)) rfl (fun _ _ => rfl) (kA rfl) (by decide) ?_
                  refine pxV (v := (.slice A n c)) (fun _ _ hF => opMove rfl (hF.ev 5 rfl)) rfl (fun _ _ => rfl) (kA rfl) (by decide) ?_
                  refine pxV (v := (.int .i64 (((n) : Nat) : Int))) (fun _ _ hF => opLen (e := 5) rfl (by kernel_rfl) (hF.ev 0 rfl)) rfl (fun _ _ => rfl) (kM [false, true, true, true, true, true, true, true] rfl rfl) (by decide) ?_
                  refine pxV (v := (.int .i64 (((at_ + ((tkn (b.drop at_)).2.1)) : Nat) : Int))) (fun _ _ hF => opMove rfl (hF.ev 2 rfl)) rfl (fun _ _ => rfl) (kA rfl) (by decide) ?_
                  refine pxV (v := (.int .i64 (((n - (at_ + (tkn (b.drop at_)).2.1)) : Nat) : Int))) (fun _ _ hF => opSub rfl (hF.ev 1 rfl) (hF.ev 0 rfl) (wI (by omega) (by omega) (by omega))) rfl (fun _ _ => rfl) (kM [false, false, true, true, true, true, true, true, true] rfl rfl) (by decide) ?_
                  refine pxV (v := (.bool (decide ((tkn (b.drop at_)).1 > n - (at_ + (tkn (b.drop at_)).2.1))))) (fun _ _ hF => opGtr rfl (hF.ev 1 rfl) (hF.ev 0 rfl) (dc (by omega))) rfl (fun _ _ => rfl) (kM [false, false, true, true, true, true, true, true] rfl rfl) (by decide) ?_
                  refine pxEnd ?_
                  refine qxThen ?_
                  refine cxP 0 rfl rfl (fun hc28 => ?_) (fun hc28 => ?_)
                  · refine cxSeq ?_
                    refine cxReg ?_
                    refine pxV (v := (.slice none 0 0)) (fun _ _ hF => opAssign rfl rfl) rfl (fun _ _ => rfl) (kM [false, false, false, false, false, false, false] rfl rfl) (by decide) ?_
                    refine pxV (v := (.int .i64 0)) (fun _ _ hF => opAssign rfl rfl) rfl (fun _ _ => rfl) (kA rfl) (by decide) ?_
                    refine pxV (v := (.int .i64 2)) (fun _ _ hF => opAssign rfl rfl) rfl (fun _ _ => rfl) (kA rfl) (by decide) ?_
                    refine pxEnd ?_
                    refine qxThen ?_
                    refine cxRet ?_
                    refine qxThenR ?_
                    refine qxInR ?_
                    refine qxThenR ?_
                    refine qxThenR ?_
                    refine qxInR ?_
                    refine qxRet3 2 1 0 rfl rfl rfl rfl ?_
                    have he := hf.trans (frs_few2 hform (by omega) (by rw [List.length_drop, List.length_drop]; omega))
                    exact ⟨_, [], rfl, ⟨.slice none 0 0, 0, (by rw [he]; first | done | rfl), (by rw [he]; exact OwnT.nil _ _), (by rw [he]; intro h; cases h)⟩, HH.out1 (HH.pad hH 1) [false, true] rfl⟩
                  · refine cxSkip ?_
                    refine qxThen ?_
                    refine cxSeq ?_
                    refine cxReg ?_
                    refine pxV (v := (.slice Ab body.length cb)) (fun _ _ hF => opMove rfl (hF.ev 4 rfl)) rfl (fun _ _ => rfl) (kM [false, true, true, true, false, true, true] rfl rfl) (by decide) ?_
                    refine pxV (v := (.slice A n c)) (fun _ _ hF => opMove rfl (hF.ev 4 rfl)) rfl (fun _ _ => rfl) (kA rfl) (by decide) ?_
                    refine pxV (v := (.int .i64 (((at_ + ((tkn (b.drop at_)).2.1)) : Nat) : Int))) (fun _ _ hF => opMove rfl (hF.ev 2 rfl)) rfl (fun _ _ => rfl) (kA rfl) (by decide) ?_
                    refine pxV (v := (.int .i64 (((at_ + ((tkn (b.drop at_)).2.1)) : Nat) : Int))) (fun _ _ hF => opMove rfl (hF.ev 3 rfl)) rfl (fun _ _ => rfl) (kA rfl) (by decide) ?_
                    refine pxV (v := (.int .i64 ((((tkn (b.drop at_)).1) : Nat) : Int))) (fun _ _ hF => opMove rfl (hF.ev 6 rfl)) rfl (fun _ _ => rfl) (kA rfl) (by decide) ?_
                    refine pxV (v := (.int .i64 ((((at_ + ((tkn (b.drop at_)).2.1)) + ((tkn (b.drop at_)).1)) : Nat) : Int))) (fun _ _ hF => opAdd rfl (hF.ev 1 rfl) (hF.ev 0 rfl) (wI (by omega) (by omega) (by omega))) rfl (fun _ _ => rfl) (kM [false, false, true, true, true, true, true, true, true, true] rfl rfl) (by decide) ?_
                    refine pxV (v := (.slice (cutA A c (at_ + ((tkn (b.drop at_)).2.1)) 1) (((at_ + ((tkn (b.drop at_)).2.1)) + ((tkn (b.drop at_)).1)) - (at_ + ((tkn (b.drop at_)).2.1))) (c - (at_ + ((tkn (b.drop at_)).2.1))))) (fun _ _ hF => opCutLH (k := at_ + ((tkn (b.drop at_)).2.1)) (h := (at_ + ((tkn (b.drop at_)).2.1)) + ((tkn (b.drop at_)).1)) (e := 5) (sz := 1) rfl (by kernel_rfl) (by kernel_rfl) (hF.ev 2 rfl) (hF.ev 1 rfl) (hF.ev 0 rfl) rfl rfl (by omega) (by omega)) rfl (fun _ _ => rfl) (kM [false, false, false, true, true, true, true, true, true] rfl rfl) (by decide) ?_
                    refine pxE 0 hH rfl (fun _ hF => smAppT (C := cByte) (l := body) (m := ((b.take ((at_ + ((tkn (b.drop at_)).2.1)) + ((tkn (b.drop at_)).1))).drop (at_ + ((tkn (b.drop at_)).2.1)))) (e := 5) (z := (.int .u8 0)) (by_ := 1) rfl (by kernel_rfl) (by kernel_rfl) rfl (ltb rfl) (hF.ev 1 rfl) hO (hF.ev 0 rfl) (by rw [List.length_drop, List.length_take]; omega) (((hH.vu hR (by decide) (Off.nil _ _)).cut (k := at_ + ((tkn (b.drop at_)).2.1)) (m := (at_ + ((tkn (b.drop at_)).2.1)) + ((tkn (b.drop at_)).1)) (by omega) (by omega))).nilA (by unfold maxLen; omega) (by omega)) ((hH.vu hR (by decide) (Off.nil _ _)).cut (k := at_ + ((tkn (b.drop at_)).2.1)) (m := (at_ + ((tkn (b.drop at_)).2.1)) + ((tkn (b.drop at_)).1)) (by omega) (by omega)) rfl (fun _ _ => rfl) (kM [false, false, true, true, true, true, true] rfl rfl) (by decide) ?_
                    clear hH
                    rintro v31 E32 w ⟨hO33, _⟩ hH
                    replace hH : HH w0 [] [E32] w := hH
                    replace hO33 : OwnT cByte 5 v31 (body ++ ((b.take ((at_ + ((tkn (b.drop at_)).2.1)) + ((tkn (b.drop at_)).1))).drop (at_ + ((tkn (b.drop at_)).2.1)))) E32 := hO33
                    obtain ⟨A29, c30, rfl⟩ := hO33.slice
                    refine pxV (v := (.slice A29 ((body ++ ((b.take ((at_ + ((tkn (b.drop at_)).2.1)) + ((tkn (b.drop at_)).1))).drop (at_ + ((tkn (b.drop at_)).2.1)))).length) c30)) (fun _ _ hF => opAssign rfl (hF.ev 0 rfl)) rfl (fun _ _ => rfl) (kM [false, true, true, true, true, true] rfl rfl) (by decide) ?_
                    refine pxEnd ?_
                    refine qxThen ?_
                    refine cxSeq ?_
                    refine cxReg ?_
                    refine pxV (v := (.int .i64 (((at_ + ((tkn (b.drop at_)).2.1)) : Nat) : Int))) (fun _ _ hF => opMove rfl (hF.ev 1 rfl)) rfl (fun _ _ => rfl) (kM [true, false, true, true, true, true] rfl rfl) (by decide) ?_
                    refine pxV (v := (.int .i64 ((((tkn (b.drop at_)).1) : Nat) : Int))) (fun _ _ hF => opMove rfl (hF.ev 3 rfl)) rfl (fun _ _ => rfl) (kM [true, true, true, false, true, true] rfl rfl) (by decide) ?_
                    refine pxV (v := (.int .i64 ((((at_ + ((tkn (b.drop at_)).2.1)) + ((tkn (b.drop at_)).1)) : Nat) : Int))) (fun _ _ hF => opAdd rfl (hF.ev 1 rfl) (hF.ev 0 rfl) (wI (by omega) (by omega) (by omega))) rfl (fun _ _ => rfl) (kM [false, false, true, true, true, true] rfl rfl) (by decide) ?_
                    refine pxV (v := (.int .i64 ((((at_ + ((tkn (b.drop at_)).2.1)) + ((tkn (b.drop at_)).1)) : Nat) : Int))) (fun _ _ hF => opAssign rfl (hF.ev 0 rfl)) rfl (fun _ _ => rfl) (kM [false, true, true, true, true] rfl rfl) (by decide) ?_
                    refine pxEnd ?_
                    refine qxThen ?_
                    refine cxSeq ?_
                    refine cxReg ?_
                    refine pxV (v := (.bool ((tkn (b.drop at_)).2.2))) (fun _ _ hF => opMove rfl (hF.ev 2 rfl)) rfl (fun _ _ => rfl) (kM [true, true, false, true, true] rfl rfl) (by decide) ?_
                    refine pxV (v := (.bool (!((tkn (b.drop at_)).2.2)))) (fun _ _ hF => opNot rfl (hF.ev 0 rfl) rfl) rfl (fun _ _ => rfl) (kM [false, true, true, true, true] rfl rfl) (by decide) ?_
                    refine pxEnd ?_
                    refine qxThen ?_
                    refine cxB 0 rfl rfl (fun hc34 => ?_) (fun hc34 => ?_)
                    · replace hc34 : ((tkn (b.drop at_)).2.2) = false := by simpa using hc34
                      rw [hg2] at hc34; cases hc34
                    · replace hc34 : ((tkn (b.drop at_)).2.2) = true := by simpa using hc34
                      refine cxSkip ?_
                      refine qxInN ?_
                      refine qxThen ?_
                      refine cxReg ?_
                      refine pxV (v := (.bool false)) (fun _ _ hF => opAssign rfl rfl) rfl (fun _ _ => rfl) (kM [false, true, true, true, true] rfl rfl) (by decide) ?_
                      refine pxEnd ?_
                      have hp := tkn_part hg2
                      have hle : (tkn (b.drop at_)).1 ≤ ((b.drop at_).drop (tkn (b.drop at_)).2.1).length := by rw [List.length_drop, List.length_drop]; omega
                      exact qxRound ((body ++ ((b.take ((at_ + ((tkn (b.drop at_)).2.1)) + ((tkn (b.drop at_)).1))).drop (at_ + ((tkn (b.drop at_)).2.1)))), A29, c30, E32, (at_ + (tkn (b.drop at_)).2.1 + (tkn (b.drop at_)).1), false) ⟨hH, hO33, (show (at_ + (tkn (b.drop at_)).2.1 + (tkn (b.drop at_)).1) ≤ b.length from (by omega)), (show frs (mayT t) [] b = frs (mayT t) (body ++ ((b.take ((at_ + ((tkn (b.drop at_)).2.1)) + ((tkn (b.drop at_)).1))).drop (at_ + ((tkn (b.drop at_)).2.1)))) (b.drop (at_ + (tkn (b.drop at_)).2.1 + (tkn (b.drop at_)).1)) from (by rw [hf, part_eq, rest_eq]; exact frs_more2 hform (by omega) hle hg2)), (by rw [part_eq]; exact not_empty hp.1 hle), (show (body ++ ((b.take ((at_ + ((tkn (b.drop at_)).2.1)) + ((tkn (b.drop at_)).1))).drop (at_ + ((tkn (b.drop at_)).2.1)))).length ≤ 20000 from (by rw [part_eq]; exact body_le (by omega)))⟩ (show b.length - (at_ + (tkn (b.drop at_)).2.1 + (tkn (b.drop at_)).1) < b.length - at_ from by omega) (slots_at [0, 1, 2, 3, 4] rfl)
            · refine pxU rfl (gOff 0 rfl rfl rfl (by decide)) (kA rfl) (by decide) ?_
              refine pxU rfl (gOff 0 rfl rfl rfl (by decide)) (kA rfl) (by decide) ?_
              refine pxV (v := (.bool false)) (fun _ _ hF => opPickF rfl (hF.ev 0 rfl) rfl) rfl (gOn 1 rfl rfl rfl (by decide)) (kM [false, true, true, true, true, true, true, true, true, true, true] rfl rfl) (by decide) ?_
              refine pxV (v := (.bool false)) (fun _ _ hF => opPickF rfl (hF.ev 1 rfl) (hF.ev 0 rfl)) rfl (gOn 2 rfl rfl rfl (by decide)) (kM [false, false, true, true, true, true, true, true, true, true, true] rfl rfl) (by decide) ?_
              refine pxV (v := (.bool false)) (fun _ _ hF => opPickT rfl (hF.ev 1 rfl) (hF.ev 0 rfl)) rfl (gOn 2 rfl rfl rfl (by decide)) (kM [false, false, true, true, true, true, true, true, true, true] rfl rfl) (by decide) ?_
              refine pxV (v := (.bool false)) (fun _ _ hF => opPickF rfl (hF.ev 1 rfl) (hF.ev 0 rfl)) rfl (fun _ _ => rfl) (kM [false, false, true, true, true, true, true, true, true] rfl rfl) (by decide) ?_
              refine pxEnd ?_
              refine qxThen ?_
              refine cxF 0 rfl rfl ?_
              refine cxSkip ?_
              refine qxThen ?_
              refine cxSeq ?_
              refine cxSeq ?_
              have hform := frs_not (may := mayT t) (body := body) hg1 (.inr ⟨hmay, .inl (fun q => by have := hfst.2 (List.eq_nil_of_length_eq_zero q); rw [this] at hg25; cases hg25)⟩)
              refine cxReg ?_
              refine pxV (v := (.int .i64 ((((tkn (b.drop at_)).1) : Nat) : Int))) (fun _ _ hF => opMove rfl (hF.ev 3 rfl)) rfl (fun _ _ => rfl) (kM [false, true, true, true, true, true, true, true] rfl rfl) (by decide) ?_
              refine pxV (v := (.slice Ab body.length cb)) (fun _ _ hF => opMove rfl (hF.ev 5 rfl)) rfl (fun _ _ => rfl) (kA rfl) (by decide) ?_
              refine pxV (v := (.int .i64 (((body.length) : Nat) : Int))) (fun _ _ hF => opLen (e := 5) rfl (by kernel_rfl) (hF.ev 0 rfl)) rfl (fun _ _ => rfl) (kM [false, true, true, true, true, true, true, true, true] rfl rfl) (by decide) ?_
              refine pxV (v := (.int .i64 (((20000 - body.length) : Nat) : Int))) (fun _ _ hF => opSub rfl rfl (hF.ev 0 rfl) (wI (by omega) (by omega) (by omega))) rfl (fun _ _ => rfl) (kM [false, true, true, true, true, true, true, true, true] rfl rfl) (by decide) ?_
              refine pxV (v := (.bool (decide ((tkn (b.drop at_)).1 > 20000 - body.length)))) (fun _ _ hF => opGtr rfl (hF.ev 1 rfl) (hF.ev 0 rfl) (dc (by omega))) rfl (fun _ _ => rfl) (kM [false, false, true, true, true, true, true, true, true] rfl rfl) (by decide) ?_
              refine pxEnd ?_
              refine qxThen ?_
              refine cxP 0 rfl rfl (fun hc35 => ?_) (fun hc35 => ?_)
              · refine cxSeq ?_
                refine cxReg ?_
                refine pxV (v := (.slice none 0 0)) (fun _ _ hF => opAssign rfl rfl) rfl (fun _ _ => rfl) (kM [false, false, false, false, false, false, false, false] rfl rfl) (by decide) ?_
                refine pxV (v := (.int .i64 0)) (fun _ _ hF => opAssign rfl rfl) rfl (fun _ _ => rfl) (kA rfl) (by decide) ?_
                refine pxV (v := (.int .i64 6)) (fun _ _ hF => opAssign rfl rfl) rfl (fun _ _ => rfl) (kA rfl) (by decide) ?_
                refine pxEnd ?_
                refine qxThen ?_
                refine cxRet ?_
                refine qxThenR ?_
                refine qxInR ?_
                refine qxThenR ?_
                refine qxThenR ?_
                refine qxInR ?_
                refine qxRet3 2 1 0 rfl rfl rfl rfl ?_
                have he := hf.trans (frs_long hform (by omega))
                exact ⟨_, [], rfl, ⟨.slice none 0 0, 0, (by rw [he]; first | done | rfl), (by rw [he]; exact OwnT.nil _ _), (by rw [he]; intro h; cases h)⟩, HH.out1 (HH.pad hH 1) [false, true] rfl⟩
              · refine cxSkip ?_
                refine qxThen ?_
                refine cxSeq ?_
                refine cxReg ?_
                refine pxV (v := (.int .i64 (((at_) : Nat) : Int))) (fun _ _ hF => opMove rfl (hF.ev 4 rfl)) rfl (fun _ _ => rfl) (kM [false, true, true, true, false, true, true, true] rfl rfl) (by decide) ?_
                refine pxV (v := (.int .i64 ((((tkn (b.drop at_)).2.1) : Nat) : Int))) (fun _ _ hF => opMove rfl (hF.ev 2 rfl)) rfl (fun _ _ => rfl) (kM [true, true, false, true, true, true, true] rfl rfl) (by decide) ?_
                refine pxV (v := (.int .i64 (((at_ + ((tkn (b.drop at_)).2.1)) : Nat) : Int))) (fun _ _ hF => opAdd rfl (hF.ev 1 rfl) (hF.ev 0 rfl) (wI (by omega) (by omega) (by omega))) rfl (fun _ _ => rfl) (kM [false, false, true, true, true, true, true] rfl rfl) (by decide) ?_
                refine pxV (v := (.int .i64 (((at_ + ((tkn (b.drop at_)).2.1)) : Nat) : Int))) (fun _ _ hF => opAssign rfl (hF.ev 0 rfl)) rfl (fun _ _ => rfl) (kM [false, true, true, true, true, true] rfl rfl) (by decide) ?_
                refine pxEnd ?_
                refine qxThen ?_
                refine cxSeq ?_
                refine cxSeq ?_
                refine cxReg ?_
                refine pxV (v := (.int .i64 ((((tkn (b.drop at_)).1) : Nat) : Int))) (fun _ _ hF => opMove rfl (hF.ev 2 rfl)) rfl (fun _ _ => rfl) (kA rfl) (by decide) ?_
                refine pxV (v := (.slice A n c)) (fun _ _ hF => opMove rfl (hF.ev 5 rfl)) rfl (fun _ _ => rfl) (kA rfl) (by decide) ?_
                refine pxV (v := (.int .i64 (((n) : Nat) : Int))) (fun _ _ hF => opLen (e := 5) rfl (by kernel_rfl) (hF.ev 0 rfl)) rfl (fun _ _ => rfl) (kM [false, true, true, true, true, true, true, true] rfl rfl) (by decide) ?_
                refine pxV (v := (.int .i64 (((at_ + ((tkn (b.drop at_)).2.1)) : Nat) : Int))) (fun _ _ hF => opMove rfl (hF.ev 2 rfl)) rfl (fun _ _ => rfl) (kA rfl) (by decide) ?_
                refine pxV (v := (.int .i64 (((n - (at_ + (tkn (b.drop at_)).2.1)) : Nat) : Int))) (fun _ _ hF => opSub rfl (hF.ev 1 rfl) (hF.ev 0 rfl) (wI (by omega) (by omega) (by omega))) rfl (fun _ _ => rfl) (kM [false, false, true, true, true, true, true, true, true] rfl rfl) (by decide) ?_
                refine pxV (v := (.bool (decide ((tkn (b.drop at_)).1 > n - (at_ + (tkn (b.drop at_)).2.1))))) (fun _ _ hF => opGtr rfl (hF.ev 1 rfl) (hF.ev 0 rfl) (dc (by omega))) rfl (fun _ _ => rfl) (kM [false, false, true, true, true, true, true, true] rfl rfl) (by decide) ?_
                refine pxEnd ?_
                refine qxThen ?_
                refine cxP 0 rfl rfl (fun hc36 => ?_) (fun hc36 => ?_)
                · refine cxSeq ?_
                  refine cxReg ?_
                  refine pxV (v := (.slice none 0 0)) (fun _ _ hF => opAssign rfl rfl) rfl (fun _ _ => rfl) (kM [false, false, false, false, false, false, false] rfl rfl) (by decide) ?_
                  refine pxV (v := (.int .i64 0)) (fun _ _ hF => opAssign rfl rfl) rfl (fun _ _ => rfl) (kA rfl) (by decide) ?_
                  refine pxV (v := (.int .i64 2)) (fun _ _ hF => opAssign rfl rfl) rfl (fun _ _ => rfl) (kA rfl) (by decide) ?_
                  refine pxEnd ?_
                  refine qxThen ?_
                  refine cxRet ?_
                  refine qxThenR ?_
                  refine qxInR ?_
                  refine qxThenR ?_
                  refine qxThenR ?_
                  refine qxInR ?_
                  refine qxRet3 2 1 0 rfl rfl rfl rfl ?_
                  have he := hf.trans (frs_few2 hform (by omega) (by rw [List.length_drop, List.length_drop]; omega))
                  exact ⟨_, [], rfl, ⟨.slice none 0 0, 0, (by rw [he]; first | done | rfl), (by rw [he]; exact OwnT.nil _ _), (by rw [he]; intro h; cases h)⟩, HH.out1 (HH.pad hH 1) [false, true] rfl⟩
                · refine cxSkip ?_
                  refine qxThen ?_
                  refine cxSeq ?_
                  refine cxReg ?_
                  refine pxV (v := (.slice Ab body.length cb)) (fun _ _ hF => opMove rfl (hF.ev 4 rfl)) rfl (fun _ _ => rfl) (kM [false, true, true, true, false, true, true] rfl rfl) (by decide) ?_
                  refine pxV (v := (.slice A n c)) (fun _ _ hF => opMove rfl (hF.ev 4 rfl)) rfl (fun _ _ => rfl) (kA rfl) (by decide) ?_
                  refine pxV (v := (.int .i64 (((at_ + ((tkn (b.drop at_)).2.1)) : Nat) : Int))) (fun _ _ hF => opMove rfl (hF.ev 2 rfl)) rfl (fun _ _ => rfl) (kA rfl) (by decide) ?_
                  refine pxV (v := (.int .i64 (((at_ + ((tkn (b.drop at_)).2.1)) : Nat) : Int))) (fun _ _ hF => opMove rfl (hF.ev 3 rfl)) rfl (fun _ _ => rfl) (kA rfl) (by decide) ?_
                  refine pxV (v := (.int .i64 ((((tkn (b.drop at_)).1) : Nat) : Int))) (fun _ _ hF => opMove rfl (hF.ev 6 rfl)) rfl (fun _ _ => rfl) (kA rfl) (by decide) ?_
                  refine pxV (v := (.int .i64 ((((at_ + ((tkn (b.drop at_)).2.1)) + ((tkn (b.drop at_)).1)) : Nat) : Int))) (fun _ _ hF => opAdd rfl (hF.ev 1 rfl) (hF.ev 0 rfl) (wI (by omega) (by omega) (by omega))) rfl (fun _ _ => rfl) (kM [false, false, true, true, true, true, true, true, true, true] rfl rfl) (by decide) ?_
                  refine pxV (v := (.slice (cutA A c (at_ + ((tkn (b.drop at_)).2.1)) 1) (((at_ + ((tkn (b.drop at_)).2.1)) + ((tkn (b.drop at_)).1)) - (at_ + ((tkn (b.drop at_)).2.1))) (c - (at_ + ((tkn (b.drop at_)).2.1))))) (fun _ _ hF => opCutLH (k := at_ + ((tkn (b.drop at_)).2.1)) (h := (at_ + ((tkn (b.drop at_)).2.1)) + ((tkn (b.drop at_)).1)) (e := 5) (sz := 1) rfl (by kernel_rfl) (by kernel_rfl) (hF.ev 2 rfl) (hF.ev 1 rfl) (hF.ev 0 rfl) rfl rfl (by omega) (by omega)) rfl (fun _ _ => rfl) (kM [false, false, false, true, true, true, true, true, true] rfl rfl) (by decide) ?_
                  refine pxE 0 hH rfl (fun _ hF => smAppT (C := cByte) (l := body) (m := ((b.take ((at_ + ((tkn (b.drop at_)).2.1)) + ((tkn (b.drop at_)).1))).drop (at_ + ((tkn (b.drop at_)).2.1)))) (e := 5) (z := (.int .u8 0)) (by_ := 1) rfl (by kernel_rfl) (by kernel_rfl) rfl (ltb rfl) (hF.ev 1 rfl) hO (hF.ev 0 rfl) (by rw [List.length_drop, List.length_take]; omega) (((hH.vu hR (by decide) (Off.nil _ _)).cut (k := at_ + ((tkn (b.drop at_)).2.1)) (m := (at_ + ((tkn (b.drop at_)).2.1)) + ((tkn (b.drop at_)).1)) (by omega) (by omega))).nilA (by unfold maxLen; omega) (by omega)) ((hH.vu hR (by decide) (Off.nil _ _)).cut (k := at_ + ((tkn (b.drop at_)).2.1)) (m := (at_ + ((tkn (b.drop at_)).2.1)) + ((tkn (b.drop at_)).1)) (by omega) (by omega)) rfl (fun _ _ => rfl) (kM [false, false, true, true, true, true, true] rfl rfl) (by decide) ?_
                  clear hH
                  rintro v39 E40 w ⟨hO41, _⟩ hH
                  replace hH : HH w0 [] [E40] w := hH
                  replace hO41 : OwnT cByte 5 v39 (body ++ ((b.take ((at_ + ((tkn (b.drop at_)).2.1)) + ((tkn (b.drop at_)).1))).drop (at_ + ((tkn (b.drop at_)).2.1)))) E40 := hO41
                  obtain ⟨A37, c38, rfl⟩ := hO41.slice
                  refine pxV (v := (.slice A37 ((body ++ ((b.take ((at_ + ((tkn (b.drop at_)).2.1)) + ((tkn (b.drop at_)).1))).drop (at_ + ((tkn (b.drop at_)).2.1)))).length) c38)) (fun _ _ hF => opAssign rfl (hF.ev 0 rfl)) rfl (fun _ _ => rfl) (kM [false, true, true, true, true, true] rfl rfl) (by decide) ?_
                  refine pxEnd ?_
                  refine qxThen ?_
                  refine cxSeq ?_
                  refine cxReg ?_
                  refine pxV (v := (.int .i64 (((at_ + ((tkn (b.drop at_)).2.1)) : Nat) : Int))) (fun _ _ hF => opMove rfl (hF.ev 1 rfl)) rfl (fun _ _ => rfl) (kM [true, false, true, true, true, true] rfl rfl) (by decide) ?_
                  refine pxV (v := (.int .i64 ((((tkn (b.drop at_)).1) : Nat) : Int))) (fun _ _ hF => opMove rfl (hF.ev 3 rfl)) rfl (fun _ _ => rfl) (kM [true, true, true, false, true, true] rfl rfl) (by decide) ?_
                  refine pxV (v := (.int .i64 ((((at_ + ((tkn (b.drop at_)).2.1)) + ((tkn (b.drop at_)).1)) : Nat) : Int))) (fun _ _ hF => opAdd rfl (hF.ev 1 rfl) (hF.ev 0 rfl) (wI (by omega) (by omega) (by omega))) rfl (fun _ _ => rfl) (kM [false, false, true, true, true, true] rfl rfl) (by decide) ?_
                  refine pxV (v := (.int .i64 ((((at_ + ((tkn (b.drop at_)).2.1)) + ((tkn (b.drop at_)).1)) : Nat) : Int))) (fun _ _ hF => opAssign rfl (hF.ev 0 rfl)) rfl (fun _ _ => rfl) (kM [false, true, true, true, true] rfl rfl) (by decide) ?_
                  refine pxEnd ?_
                  refine qxThen ?_
                  refine cxSeq ?_
                  refine cxReg ?_
                  refine pxV (v := (.bool ((tkn (b.drop at_)).2.2))) (fun _ _ hF => opMove rfl (hF.ev 2 rfl)) rfl (fun _ _ => rfl) (kM [true, true, false, true, true] rfl rfl) (by decide) ?_
                  refine pxV (v := (.bool (!((tkn (b.drop at_)).2.2)))) (fun _ _ hF => opNot rfl (hF.ev 0 rfl) rfl) rfl (fun _ _ => rfl) (kM [false, true, true, true, true] rfl rfl) (by decide) ?_
                  refine pxEnd ?_
                  refine qxThen ?_
                  refine cxB 0 rfl rfl (fun hc42 => ?_) (fun hc42 => ?_)
                  · replace hc42 : ((tkn (b.drop at_)).2.2) = false := by simpa using hc42
                    rw [hg2] at hc42; cases hc42
                  · replace hc42 : ((tkn (b.drop at_)).2.2) = true := by simpa using hc42
                    refine cxSkip ?_
                    refine qxInN ?_
                    refine qxThen ?_
                    refine cxReg ?_
                    refine pxV (v := (.bool false)) (fun _ _ hF => opAssign rfl rfl) rfl (fun _ _ => rfl) (kM [false, true, true, true, true] rfl rfl) (by decide) ?_
                    refine pxEnd ?_
                    have hp := tkn_part hg2
                    have hle : (tkn (b.drop at_)).1 ≤ ((b.drop at_).drop (tkn (b.drop at_)).2.1).length := by rw [List.length_drop, List.length_drop]; omega
                    exact qxRound ((body ++ ((b.take ((at_ + ((tkn (b.drop at_)).2.1)) + ((tkn (b.drop at_)).1))).drop (at_ + ((tkn (b.drop at_)).2.1)))), A37, c38, E40, (at_ + (tkn (b.drop at_)).2.1 + (tkn (b.drop at_)).1), false) ⟨hH, hO41, (show (at_ + (tkn (b.drop at_)).2.1 + (tkn (b.drop at_)).1) ≤ b.length from (by omega)), (show frs (mayT t) [] b = frs (mayT t) (body ++ ((b.take ((at_ + ((tkn (b.drop at_)).2.1)) + ((tkn (b.drop at_)).1))).drop (at_ + ((tkn (b.drop at_)).2.1)))) (b.drop (at_ + (tkn (b.drop at_)).2.1 + (tkn (b.drop at_)).1)) from (by rw [hf, part_eq, rest_eq]; exact frs_more2 hform (by omega) hle hg2)), (by rw [part_eq]; exact not_empty hp.1 hle), (show (body ++ ((b.take ((at_ + ((tkn (b.drop at_)).2.1)) + ((tkn (b.drop at_)).1))).drop (at_ + ((tkn (b.drop at_)).2.1)))).length ≤ 20000 from (by rw [part_eq]; exact body_le (by omega)))⟩ (show b.length - (at_ + (tkn (b.drop at_)).2.1 + (tkn (b.drop at_)).1) < b.length - at_ from by omega) (slots_at [0, 1, 2, 3, 4] rfl)
        · have hmay : mayT t = true := mayT_yes (by omega)
          refine pxU rfl (gOff 0 rfl rfl rfl (by decide)) (kA rfl) (by decide) ?_
          refine pxU rfl (gOff 0 rfl rfl rfl (by decide)) (kA rfl) (by decide) ?_
          refine pxV (v := (.bool false)) (fun _ _ hF => opPickF rfl (hF.ev 0 rfl) rfl) rfl (gOn 1 rfl rfl rfl (by decide)) (kM [false, true, true, true, true, true, true, true, true, true, true] rfl rfl) (by decide) ?_
          refine pxV (v := (.bool false)) (fun _ _ hF => opMove rfl (hF.ev 0 rfl)) rfl (gOn 1 rfl rfl rfl (by decide)) (kM [false, true, true, true, true, true, true, true, true, true, true] rfl rfl) (by decide) ?_
          refine pxU rfl (gOff 0 rfl rfl rfl (by decide)) (kA rfl) (by decide) ?_
          refine pxU rfl (gOff 0 rfl rfl rfl (by decide)) (kA rfl) (by decide) ?_
          refine pxV (v := (.bool false)) (fun _ _ hF => opPickF rfl (hF.ev 0 rfl) rfl) rfl (gOn 1 rfl rfl rfl (by decide)) (kM [false, true, true, true, true, true, true, true, true, true, true] rfl rfl) (by decide) ?_
          refine pxV (v := (.bool false)) (fun _ _ hF => opMove rfl (hF.ev 0 rfl)) rfl (gOn 1 rfl rfl rfl (by decide)) (kM [false, true, true, true, true, true, true, true, true, true, true] rfl rfl) (by decide) ?_
          refine pxV (v := (.bool (first))) (fun _ _ hF => opMove rfl (hF.ev 6 rfl)) rfl (gOn 0 rfl rfl rfl (by decide)) (kM [true, true, true, true, true, true, false, true, true, true, true] rfl rfl) (by decide) ?_
          refine pxV (v := (.bool (first))) (fun _ _ hF => opMove rfl (hF.ev 0 rfl)) rfl (gOn 1 rfl rfl rfl (by decide)) (kM [false, true, true, true, true, true, true, true, true, true, true] rfl rfl) (by decide) ?_
          refine pxSplitB 0 rfl (l1 := [(42, (.bool true)), (40, (.bool false)), (25, (.bool true)), (23, (.bool false)), (12, (.bool ((tkn (b.drop at_)).2.2))), (11, (.int .i64 ((((tkn (b.drop at_)).2.1) : Nat) : Int))), (10, (.int .i64 ((((tkn (b.drop at_)).1) : Nat) : Int))), (8, (.int .i64 (((at_) : Nat) : Int))), (7, (.slice Ab body.length cb)), (1, (.slice A n c)), (0, (.int .i64 (((t) : Nat) : Int)))]) (l2 := [(42, (.bool false)), (40, (.bool false)), (25, (.bool true)), (23, (.bool false)), (12, (.bool ((tkn (b.drop at_)).2.2))), (11, (.int .i64 ((((tkn (b.drop at_)).2.1) : Nat) : Int))), (10, (.int .i64 ((((tkn (b.drop at_)).1) : Nat) : Int))), (8, (.int .i64 (((at_) : Nat) : Int))), (7, (.slice Ab body.length cb)), (1, (.slice A n c)), (0, (.int .i64 (((t) : Nat) : Int)))]) rfl rfl (fun hg43 => ?_) (fun hg43 => ?_)
          · refine pxV (v := (.int .i64 ((((tkn (b.drop at_)).1) : Nat) : Int))) (fun _ _ hF => opMove rfl (hF.ev 6 rfl)) rfl (gOn 0 rfl rfl rfl (by decide)) (kA rfl) (by decide) ?_
            refine pxV (v := (.bool (decide ((tkn (b.drop at_)).1 < 512)))) (fun _ _ hF => opLss rfl (hF.ev 0 rfl) rfl (dc (by omega))) rfl (gOn 1 rfl rfl rfl (by decide)) (kM [false, true, true, true, true, true, true, true, true, true, true, true] rfl rfl) (by decide) ?_
            refine pxV (v := (.bool (decide ((tkn (b.drop at_)).1 < 512)))) (fun _ _ hF => opPickT rfl (hF.ev 1 rfl) (hF.ev 0 rfl)) rfl (gOn 2 rfl rfl rfl (by decide)) (kM [false, false, true, true, true, true, true, true, true, true, true, true] rfl rfl) (by decide) ?_
            refine pxV (v := (.bool (decide ((tkn (b.drop at_)).1 < 512)))) (fun _ _ hF => opPickF rfl (hF.ev 1 rfl) (hF.ev 0 rfl)) rfl (gOn 2 rfl rfl rfl (by decide)) (kM [false, false, true, true, true, true, true, true, true, true, true] rfl rfl) (by decide) ?_
            refine pxV (v := (.bool (decide ((tkn (b.drop at_)).1 < 512)))) (fun _ _ hF => opPickT rfl (hF.ev 1 rfl) (hF.ev 0 rfl)) rfl (gOn 2 rfl rfl rfl (by decide)) (kM [false, false, true, true, true, true, true, true, true, true] rfl rfl) (by decide) ?_
            refine pxV (v := (.bool (decide ((tkn (b.drop at_)).1 < 512)))) (fun _ _ hF => opPickF rfl (hF.ev 1 rfl) (hF.ev 0 rfl)) rfl (fun _ _ => rfl) (kM [false, false, true, true, true, true, true, true, true] rfl rfl) (by decide) ?_
            refine pxEnd ?_
            refine qxThen ?_
            refine cxP 0 rfl rfl (fun hc44 => ?_) (fun hc44 => ?_)
            · refine cxSeq ?_
              refine cxReg ?_
              refine pxV (v := (.slice none 0 0)) (fun _ _ hF => opAssign rfl rfl) rfl (fun _ _ => rfl) (kM [false, false, false, false, false, false, false, false] rfl rfl) (by decide) ?_
              refine pxV (v := (.int .i64 0)) (fun _ _ hF => opAssign rfl rfl) rfl (fun _ _ => rfl) (kA rfl) (by decide) ?_
              refine pxV (v := (.int .i64 2)) (fun _ _ hF => opAssign rfl rfl) rfl (fun _ _ => rfl) (kA rfl) (by decide) ?_
              refine pxEnd ?_
              refine qxThen ?_
              refine cxRet ?_
              refine qxThenR ?_
              refine qxInR ?_
              refine qxThenR ?_
              refine qxThenR ?_
              refine qxInR ?_
              refine qxRet3 2 1 0 rfl rfl rfl rfl ?_
              have he := hf.trans (frs_form (may := mayT t) (.inr ⟨hg2, .inr ⟨hfst.1 hg43, hc44⟩⟩))
              exact ⟨_, [], rfl, ⟨.slice none 0 0, 0, (by rw [he]; first | done | rfl), (by rw [he]; exact OwnT.nil _ _), (by rw [he]; intro h; cases h)⟩, HH.out1 (HH.pad hH 1) [false, true] rfl⟩
            · refine cxSkip ?_
              refine qxThen ?_
              refine cxSeq ?_
              refine cxSeq ?_
              have hform := frs_not (may := mayT t) (body := body) hg1 (.inr ⟨hmay, .inr (by omega)⟩)
              refine cxReg ?_
              refine pxV (v := (.int .i64 ((((tkn (b.drop at_)).1) : Nat) : Int))) (fun _ _ hF => opMove rfl (hF.ev 3 rfl)) rfl (fun _ _ => rfl) (kM [false, true, true, true, true, true, true, true] rfl rfl) (by decide) ?_
              refine pxV (v := (.slice Ab body.length cb)) (fun _ _ hF => opMove rfl (hF.ev 5 rfl)) rfl (fun _ _ => rfl) (kA rfl) (by decide) ?_
              refine pxV (v := (.int .i64 (((body.length) : Nat) : Int))) (fun _ _ hF => opLen (e := 5) rfl (by kernel_rfl) (hF.ev 0 rfl)) rfl (fun _ _ => rfl) (kM [false, true, true, true, true, true, true, true, true] rfl rfl) (by decide) ?_
              refine pxV (v := (.int .i64 (((20000 - body.length) : Nat) : Int))) (fun _ _ hF => opSub rfl rfl (hF.ev 0 rfl) (wI (by omega) (by omega) (by omega))) rfl (fun _ _ => rfl) (kM [false, true, true, true, true, true, true, true, true] rfl rfl) (by decide) ?_
              refine pxV (v := (.bool (decide ((tkn (b.drop at_)).1 > 20000 - body.length)))) (fun _ _ hF => opGtr rfl (hF.ev 1 rfl) (hF.ev 0 rfl) (dc (by omega))) rfl (fun _ _ => rfl) (kM [false, false, true, true, true, true, true, true, true] rfl rfl) (by decide) ?_
              refine pxEnd ?_
              refine qxThen ?_
              refine cxP 0 rfl rfl (fun hc45 => ?_) (fun hc45 => ?_)
              · refine cxSeq ?_
                refine cxReg ?_
                refine pxV (v := (.slice none 0 0)) (fun _ _ hF => opAssign rfl rfl) rfl (fun _ _ => rfl) (kM [false, false, false, false, false, false, false, false] rfl rfl) (by decide) ?_
                refine pxV (v := (.int .i64 0)) (fun _ _ hF => opAssign rfl rfl) rfl (fun _ _ => rfl) (kA rfl) (by decide) ?_
                refine pxV (v := (.int .i64 6)) (fun _ _ hF => opAssign rfl rfl) rfl (fun _ _ => rfl) (kA rfl) (by decide) ?_
                refine pxEnd ?_
                refine qxThen ?_
                refine cxRet ?_
                refine qxThenR ?_
                refine qxInR ?_
                refine qxThenR ?_
                refine qxThenR ?_
                refine qxInR ?_
                refine qxRet3 2 1 0 rfl rfl rfl rfl ?_
                have he := hf.trans (frs_long hform (by omega))
                exact ⟨_, [], rfl, ⟨.slice none 0 0, 0, (by rw [he]; first | done | rfl), (by rw [he]; exact OwnT.nil _ _), (by rw [he]; intro h; cases h)⟩, HH.out1 (HH.pad hH 1) [false, true] rfl⟩
              · refine cxSkip ?_
                refine qxThen ?_
                refine cxSeq ?_
                refine cxReg ?_
                refine pxV (v := (.int .i64 (((at_) : Nat) : Int))) (fun _ _ hF => opMove rfl (hF.ev 4 rfl)) rfl (fun _ _ => rfl) (kM [false, true, true, true, false, true, true, true] rfl rfl) (by decide) ?_
                refine pxV (v := (.int .i64 ((((tkn (b.drop at_)).2.1) : Nat) : Int))) (fun _ _ hF => opMove rfl (hF.ev 2 rfl)) rfl (fun _ _ => rfl) (kM [true, true, false, true, true, true, true] rfl rfl) (by decide) ?_
                refine pxV (v := (.int .i64 (((at_ + ((tkn (b.drop at_)).2.1)) : Nat) : Int))) (fun _ _ hF => opAdd rfl (hF.ev 1 rfl) (hF.ev 0 rfl) (wI (by omega) (by omega) (by omega))) rfl (fun _ _ => rfl) (kM [false, false, true, true, true, true, true] rfl rfl) (by decide) ?_
                refine pxV (v := (.int .i64 (((at_ + ((tkn (b.drop at_)).2.1)) : Nat) : Int))) (fun _ _ hF => opAssign rfl (hF.ev 0 rfl)) rfl (fun _ _ => rfl) (kM [false, true, true, true, true, true] rfl rfl) (by decide) ?_
                refine pxEnd ?_
                refine qxThen ?_
                refine cxSeq ?_
                refine cxSeq ?_
                refine cxReg ?_
                refine pxV (v := (.int .i64 ((((tkn (b.drop at_)).1) : Nat) : Int))) (fun _ _ hF => opMove rfl (hF.ev 2 rfl)) rfl (fun _ _ => rfl) (kA rfl) (by decide) ?_
                refine pxV (v := (.slice A n c)) (fun _ _ hF => opMove rfl (hF.ev 5 rfl)) rfl (fun _ _ => rfl) (kA rfl) (by decide) ?_
                refine pxV (v := (.int .i64 (((n) : Nat) : Int))) (fun _ _ hF => opLen (e := 5) rfl (by kernel_rfl) (hF.ev 0 rfl)) rfl (fun _ _ => rfl) (kM [false, true, true, true, true, true, true, true] rfl rfl) (by decide) ?_
                refine pxV (v := (.int .i64 (((at_ + ((tkn (b.drop at_)).2.1)) : Nat) : Int))) (fun _ _ hF => opMove rfl (hF.ev 2 rfl)) rfl (fun _ _ => rfl) (kA rfl) (by decide) ?_
                refine pxV (v := (.int .i64 (((n - (at_ + (tkn (b.drop at_)).2.1)) : Nat) : Int))) (fun _ _ hF => opSub rfl (hF.ev 1 rfl) (hF.ev 0 rfl) (wI (by omega) (by omega) (by omega))) rfl (fun _ _ => rfl) (kM [false, false, true, true, true, true, true, true, true] rfl rfl) (by decide) ?_
                refine pxV (v := (.bool (decide ((tkn (b.drop at_)).1 > n - (at_ + (tkn (b.drop at_)).2.1))))) (fun _ _ hF => opGtr rfl (hF.ev 1 rfl) (hF.ev 0 rfl) (dc (by omega))) rfl (fun _ _ => rfl) (kM [false, false, true, true, true, true, true, true] rfl rfl) (by decide) ?_
                refine pxEnd ?_
                refine qxThen ?_
                refine cxP 0 rfl rfl (fun hc46 => ?_) (fun hc46 => ?_)
                · refine cxSeq ?_
                  refine cxReg ?_
                  refine pxV (v := (.slice none 0 0)) (fun _ _ hF => opAssign rfl rfl) rfl (fun _ _ => rfl) (kM [false, false, false, false, false, false, false] rfl rfl) (by decide) ?_
                  refine pxV (v := (.int .i64 0)) (fun _ _ hF => opAssign rfl rfl) rfl (fun _ _ => rfl) (kA rfl) (by decide) ?_
                  refine pxV (v := (.int .i64 2)) (fun _ _ hF => opAssign rfl rfl) rfl (fun _ _ => rfl) (kA rfl) (by decide) ?_
                  refine pxEnd ?_
                  refine qxThen ?_
                  refine cxRet ?_
                  refine qxThenR ?_
                  refine qxInR ?_
                  refine qxThenR ?_
                  refine qxThenR ?_
                  refine qxInR ?_
                  refine qxRet3 2 1 0 rfl rfl rfl rfl ?_
                  have he := hf.trans (frs_few2 hform (by omega) (by rw [List.length_drop, List.length_drop]; omega))
                  exact ⟨_, [], rfl, ⟨.slice none 0 0, 0, (by rw [he]; first | done | rfl), (by rw [he]; exact OwnT.nil _ _), (by rw [he]; intro h; cases h)⟩, HH.out1 (HH.pad hH 1) [false, true] rfl⟩
                · refine cxSkip ?_
                  refine qxThen ?_
                  refine cxSeq ?_
                  refine cxReg ?_
                  refine pxV (v := (.slice Ab body.length cb)) (fun _ _ hF => opMove rfl (hF.ev 4 rfl)) rfl (fun _ _ => rfl) (kM [false, true, true, true, false, true, true] rfl rfl) (by decide) ?_
                  refine pxV (v := (.slice A n c)) (fun _ _ hF => opMove rfl (hF.ev 4 rfl)) rfl (fun _ _ => rfl) (kA rfl) (by decide) ?_
                  refine pxV (v := (.int .i64 (((at_ + ((tkn (b.drop at_)).2.1)) : Nat) : Int))) (fun _ _ hF => opMove rfl (hF.ev 2 rfl)) rfl (fun _ _ => rfl) (kA rfl) (by decide) ?_
                  refine pxV (v := (.int .i64 (((at_ + ((tkn (b.drop at_)).2.1)) : Nat) : Int))) (fun _ _ hF => opMove rfl (hF.ev 3 rfl)) rfl (fun _ _ => rfl) (kA rfl) (by decide) ?_
                  refine pxV (v := (.int .i64 ((((tkn (b.drop at_)).1) : Nat) : Int))) (fun _ _ hF => opMove rfl (hF.ev 6 rfl)) rfl (fun _ _ => rfl) (kA rfl) (by decide) ?_
                  refine pxV (v := (.int .i64 ((((at_ + ((tkn (b.drop at_)).2.1)) + ((tkn (b.drop at_)).1)) : Nat) : Int))) (fun _ _ hF => opAdd rfl (hF.ev 1 rfl) (hF.ev 0 rfl) (wI (by omega) (by omega) (by omega))) rfl (fun _ _ => rfl) (kM [false, false, true, true, true, true, true, true, true, true] rfl rfl) (by decide) ?_
                  refine pxV (v := (.slice (cutA A c (at_ + ((tkn (b.drop at_)).2.1)) 1) (((at_ + ((tkn (b.drop at_)).2.1)) + ((tkn (b.drop at_)).1)) - (at_ + ((tkn (b.drop at_)).2.1))) (c - (at_ + ((tkn (b.drop at_)).2.1))))) (fun _ _ hF => opCutLH (k := at_ + ((tkn (b.drop at_)).2.1)) (h := (at_ + ((tkn (b.drop at_)).2.1)) + ((tkn (b.drop at_)).1)) (e := 5) (sz := 1) rfl (by kernel_rfl) (by kernel_rfl) (hF.ev 2 rfl) (hF.ev 1 rfl) (hF.ev 0 rfl) rfl rfl (by omega) (by omega)) rfl (fun _ _ => rfl) (kM [false, false, false, true, true, true, true, true, true] rfl rfl) (by decide) ?_
                  refine pxE 0 hH rfl (fun _ hF => smAppT (C := cByte) (l := body) (m := ((b.take ((at_ + ((tkn (b.drop at_)).2.1)) + ((tkn (b.drop at_)).1))).drop (at_ + ((tkn (b.drop at_)).2.1)))) (e := 5) (z := (.int .u8 0)) (by_ := 1) rfl (by kernel_rfl) (by kernel_rfl) rfl (ltb rfl) (hF.ev 1 rfl) hO (hF.ev 0 rfl) (by rw [List.length_drop, List.length_take]; omega) (((hH.vu hR (by decide) (Off.nil _ _)).cut (k := at_ + ((tkn (b.drop at_)).2.1)) (m := (at_ + ((tkn (b.drop at_)).2.1)) + ((tkn (b.drop at_)).1)) (by omega) (by omega))).nilA (by unfold maxLen; omega) (by omega)) ((hH.vu hR (by decide) (Off.nil _ _)).cut (k := at_ + ((tkn (b.drop at_)).2.1)) (m := (at_ + ((tkn (b.drop at_)).2.1)) + ((tkn (b.drop at_)).1)) (by omega) (by omega)) rfl (fun _ _ => rfl) (kM [false, false, true, true, true, true, true] rfl rfl) (by decide) ?_
                  clear hH
                  rintro v49 E50 w ⟨hO51, _⟩ hH
                  replace hH : HH w0 [] [E50] w := hH
                  replace hO51 : OwnT cByte 5 v49 (body ++ ((b.take ((at_ + ((tkn (b.drop at_)).2.1)) + ((tkn (b.drop at_)).1))).drop (at_ + ((tkn (b.drop at_)).2.1)))) E50 := hO51
                  obtain ⟨A47, c48, rfl⟩ := hO51.slice
                  refine pxV (v := (.slice A47 ((body ++ ((b.take ((at_ + ((tkn (b.drop at_)).2.1)) + ((tkn (b.drop at_)).1))).drop (at_ + ((tkn (b.drop at_)).2.1)))).length) c48)) (fun _ _ hF => opAssign rfl (hF.ev 0 rfl)) rfl (fun _ _ => rfl) (kM [false, true, true, true, true, true] rfl rfl) (by decide) ?_
                  refine pxEnd ?_
                  refine qxThen ?_
                  refine cxSeq ?_
                  refine cxReg ?_
                  refine pxV (v := (.int .i64 (((at_ + ((tkn (b.drop at_)).2.1)) : Nat) : Int))) (fun _ _ hF => opMove rfl (hF.ev 1 rfl)) rfl (fun _ _ => rfl) (kM [true, false, true, true, true, true] rfl rfl) (by decide) ?_
                  refine pxV (v := (.int .i64 ((((tkn (b.drop at_)).1) : Nat) : Int))) (fun _ _ hF => opMove rfl (hF.ev 3 rfl)) rfl (fun _ _ => rfl) (kM [true, true, true, false, true, true] rfl rfl) (by decide) ?_
                  refine pxV (v := (.int .i64 ((((at_ + ((tkn (b.drop at_)).2.1)) + ((tkn (b.drop at_)).1)) : Nat) : Int))) (fun _ _ hF => opAdd rfl (hF.ev 1 rfl) (hF.ev 0 rfl) (wI (by omega) (by omega) (by omega))) rfl (fun _ _ => rfl) (kM [false, false, true, true, true, true] rfl rfl) (by decide) ?_
                  refine pxV (v := (.int .i64 ((((at_ + ((tkn (b.drop at_)).2.1)) + ((tkn (b.drop at_)).1)) : Nat) : Int))) (fun _ _ hF => opAssign rfl (hF.ev 0 rfl)) rfl (fun _ _ => rfl) (kM [false, true, true, true, true] rfl rfl) (by decide) ?_
                  refine pxEnd ?_
                  refine qxThen ?_
                  refine cxSeq ?_
                  refine cxReg ?_
                  refine pxV (v := (.bool ((tkn (b.drop at_)).2.2))) (fun _ _ hF => opMove rfl (hF.ev 2 rfl)) rfl (fun _ _ => rfl) (kM [true, true, false, true, true] rfl rfl) (by decide) ?_
                  refine pxV (v := (.bool (!((tkn (b.drop at_)).2.2)))) (fun _ _ hF => opNot rfl (hF.ev 0 rfl) rfl) rfl (fun _ _ => rfl) (kM [false, true, true, true, true] rfl rfl) (by decide) ?_
                  refine pxEnd ?_
                  refine qxThen ?_
                  refine cxB 0 rfl rfl (fun hc52 => ?_) (fun hc52 => ?_)
                  · replace hc52 : ((tkn (b.drop at_)).2.2) = false := by simpa using hc52
                    rw [hg2] at hc52; cases hc52
                  · replace hc52 : ((tkn (b.drop at_)).2.2) = true := by simpa using hc52
                    refine cxSkip ?_
                    refine qxInN ?_
                    refine qxThen ?_
                    refine cxReg ?_
                    refine pxV (v := (.bool false)) (fun _ _ hF => opAssign rfl rfl) rfl (fun _ _ => rfl) (kM [false, true, true, true, true] rfl rfl) (by decide) ?_
                    refine pxEnd ?_
                    have hp := tkn_part hg2
                    have hle : (tkn (b.drop at_)).1 ≤ ((b.drop at_).drop (tkn (b.drop at_)).2.1).length := by rw [List.length_drop, List.length_drop]; omega
                    exact qxRound ((body ++ ((b.take ((at_ + ((tkn (b.drop at_)).2.1)) + ((tkn (b.drop at_)).1))).drop (at_ + ((tkn (b.drop at_)).2.1)))), A47, c48, E50, (at_ + (tkn (b.drop at_)).2.1 + (tkn (b.drop at_)).1), false) ⟨hH, hO51, (show (at_ + (tkn (b.drop at_)).2.1 + (tkn (b.drop at_)).1) ≤ b.length from (by omega)), (show frs (mayT t) [] b = frs (mayT t) (body ++ ((b.take ((at_ + ((tkn (b.drop at_)).2.1)) + ((tkn (b.drop at_)).1))).drop (at_ + ((tkn (b.drop at_)).2.1)))) (b.drop (at_ + (tkn (b.drop at_)).2.1 + (tkn (b.drop at_)).1)) from (by rw [hf, part_eq, rest_eq]; exact frs_more2 hform (by omega) hle hg2)), (by rw [part_eq]; exact not_empty hp.1 hle), (show (body ++ ((b.take ((at_ + ((tkn (b.drop at_)).2.1)) + ((tkn (b.drop at_)).1))).drop (at_ + ((tkn (b.drop at_)).2.1)))).length ≤ 20000 from (by rw [part_eq]; exact body_le (by omega)))⟩ (show b.length - (at_ + (tkn (b.drop at_)).2.1 + (tkn (b.drop at_)).1) < b.length - at_ from by omega) (slots_at [0, 1, 2, 3, 4] rfl)
          · refine pxU rfl (gOff 0 rfl rfl rfl (by decide)) (kA rfl) (by decide) ?_
            refine pxU rfl (gOff 0 rfl rfl rfl (by decide)) (kA rfl) (by decide) ?_
            refine pxV (v := (.bool false)) (fun _ _ hF => opPickF rfl (hF.ev 0 rfl) rfl) rfl (gOn 1 rfl rfl rfl (by decide)) (kM [false, true, true, true, true, true, true, true, true, true, true] rfl rfl) (by decide) ?_
            refine pxV (v := (.bool false)) (fun _ _ hF => opPickF rfl (hF.ev 1 rfl) (hF.ev 0 rfl)) rfl (gOn 2 rfl rfl rfl (by decide)) (kM [false, false, true, true, true, true, true, true, true, true, true] rfl rfl) (by decide) ?_
            refine pxV (v := (.bool false)) (fun _ _ hF => opPickT rfl (hF.ev 1 rfl) (hF.ev 0 rfl)) rfl (gOn 2 rfl rfl rfl (by decide)) (kM [false, false, true, true, true, true, true, true, true, true] rfl rfl) (by decide) ?_
            refine pxV (v := (.bool false)) (fun _ _ hF => opPickF rfl (hF.ev 1 rfl) (hF.ev 0 rfl)) rfl (fun _ _ => rfl) (kM [false, false, true, true, true, true, true, true, true] rfl rfl) (by decide) ?_
            refine pxEnd ?_
            refine qxThen ?_
            refine cxF 0 rfl rfl ?_
            refine cxSkip ?_
            refine qxThen ?_
            refine cxSeq ?_
            refine cxSeq ?_
            have hform := frs_not (may := mayT t) (body := body) hg1 (.inr ⟨hmay, .inl (fun q => by have := hfst.2 (List.eq_nil_of_length_eq_zero q); rw [this] at hg43; cases hg43)⟩)
            refine cxReg ?_
            refine pxV (v := (.int .i64 ((((tkn (b.drop at_)).1) : Nat) : Int))) (fun _ _ hF => opMove rfl (hF.ev 3 rfl)) rfl (fun _ _ => rfl) (kM [false, true, true, true, true, true, true, true] rfl rfl) (by decide) ?_
            refine pxV (v := (.slice Ab body.length cb)) (fun _ _ hF => opMove rfl (hF.ev 5 rfl)) rfl (fun _ _ => rfl) (kA rfl) (by decide) ?_
            refine pxV (v := (.int .i64 (((body.length) : Nat) : Int))) (fun _ _ hF => opLen (e := 5) rfl (by kernel_rfl) (hF.ev 0 rfl)) rfl (fun _ _ => rfl) (kM [false, true, true, true, true, true, true, true, true] rfl rfl) (by decide) ?_
            refine pxV (v := (.int .i64 (((20000 - body.length) : Nat) : Int))) (fun _ _ hF => opSub rfl rfl (hF.ev 0 rfl) (wI (by omega) (by omega) (by omega))) rfl (fun _ _ => rfl) (kM [false, true, true, true, true, true, true, true, true] rfl rfl) (by decide) ?_
            refine pxV (v := (.bool (decide ((tkn (b.drop at_)).1 > 20000 - body.length)))) (fun _ _ hF => opGtr rfl (hF.ev 1 rfl) (hF.ev 0 rfl) (dc (by omega))) rfl (fun _ _ => rfl) (kM [false, false, true, true, true, true, true, true, true] rfl rfl) (by decide) ?_
            refine pxEnd ?_
            refine qxThen ?_
            refine cxP 0 rfl rfl (fun hc53 => ?_) (fun hc53 => ?_)
            · refine cxSeq ?_
              refine cxReg ?_
              refine pxV (v := (.slice none 0 0)) (fun _ _ hF => opAssign rfl rfl) rfl (fun _ _ => rfl) (kM [false, false, false, false, false, false, false, false] rfl rfl) (by decide) ?_
              refine pxV (v := (.int .i64 0)) (fun _ _ hF => opAssign rfl rfl) rfl (fun _ _ => rfl) (kA rfl) (by decide) ?_
              refine pxV (v := (.int .i64 6)) (fun _ _ hF => opAssign rfl rfl) rfl (fun _ _ => rfl) (kA rfl) (by decide) ?_
              refine pxEnd ?_
              refine qxThen ?_
              refine cxRet ?_
              refine qxThenR ?_
              refine qxInR ?_
              refine qxThenR ?_
              refine qxThenR ?_
              refine qxInR ?_
              refine qxRet3 2 1 0 rfl rfl rfl rfl ?_
              have he := hf.trans (frs_long hform (by omega))
              exact ⟨_, [], rfl, ⟨.slice none 0 0, 0, (by rw [he]; first | done | rfl), (by rw [he]; exact OwnT.nil _ _), (by rw [he]; intro h; cases h)⟩, HH.out1 (HH.pad hH 1) [false, true] rfl⟩
            · refine cxSkip ?_
              refine qxThen ?_
              refine cxSeq ?_
              refine cxReg ?_
              refine pxV (v := (.int .i64 (((at_) : Nat) : Int))) (fun _ _ hF => opMove rfl (hF.ev 4 rfl)) rfl (fun _ _ => rfl) (kM [false, true, true, true, false, true, true, true] rfl rfl) (by decide) ?_
              refine pxV (v := (.int .i64 ((((tkn (b.drop at_)).2.1) : Nat) : Int))) (fun _ _ hF => opMove rfl (hF.ev 2 rfl)) rfl (fun _ _ => rfl) (kM [true, true, false, true, true, true, true] rfl rfl) (by decide) ?_
              refine pxV (v := (.int .i64 (((at_ + ((tkn (b.drop at_)).2.1)) : Nat) : Int))) (fun _ _ hF => opAdd rfl (hF.ev 1 rfl) (hF.ev 0 rfl) (wI (by omega) (by omega) (by omega))) rfl (fun _ _ => rfl) (kM [false, false, true, true, true, true, true] rfl rfl) (by decide) ?_
              refine pxV (v := (.int .i64 (((at_ + ((tkn (b.drop at_)).2.1)) : Nat) : Int))) (fun _ _ hF => opAssign rfl (hF.ev 0 rfl)) rfl (fun _ _ => rfl) (kM [false, true, true, true, true, true] rfl rfl) (by decide) ?_
              refine pxEnd ?_
              refine qxThen ?_
              refine cxSeq ?_
              refine cxSeq ?_
              refine cxReg ?_
              refine pxV (v := (.int .i64 ((((tkn (b.drop at_)).1) : Nat) : Int))) (fun _ _ hF => opMove rfl (hF.ev 2 rfl)) rfl (fun _ _ => rfl) (kA rfl) (by decide) ?_
              refine pxV (v := (.slice A n c)) (fun _ _ hF => opMove rfl (hF.ev 5 rfl)) rfl (fun _ _ => rfl) (kA rfl) (by decide) ?_
              refine pxV (v := (.int .i64 (((n) : Nat) : Int))) (fun _ _ hF => opLen (e := 5) rfl (by kernel_rfl) (hF.ev 0 rfl)) rfl (fun _ _ => rfl) (kM [false, true, true, true, true, true, true, true] rfl rfl) (by decide) ?_
              refine pxV (v := (.int .i64 (((at_ + ((tkn (b.drop at_)).2.1)) : Nat) : Int))) (fun _ _ hF => opMove rfl (hF.ev 2 rfl)) rfl (fun _ _ => rfl) (kA rfl) (by decide) ?_
              refine pxV (v := (.int .i64 (((n - (at_ + (tkn (b.drop at_)).2.1)) : Nat) : Int))) (fun _ _ hF => opSub rfl (hF.ev 1 rfl) (hF.ev 0 rfl) (wI (by omega) (by omega) (by omega))) rfl (fun _ _ => rfl) (kM [false, false, true, true, true, true, true, true, true] rfl rfl) (by decide) ?_
              refine pxV (v := (.bool (decide ((tkn (b.drop at_)).1 > n - (at_ + (tkn (b.drop at_)).2.1))))) (fun _ _ hF => opGtr rfl (hF.ev 1 rfl) (hF.ev 0 rfl) (dc (by omega))) rfl (fun _ _ => rfl) (kM [false, false, true, true, true, true, true, true] rfl rfl) (by decide) ?_
              refine pxEnd ?_
              refine qxThen ?_
              refine cxP 0 rfl rfl (fun hc54 => ?_) (fun hc54 => ?_)
              · refine cxSeq ?_
                refine cxReg ?_
                refine pxV (v := (.slice none 0 0)) (fun _ _ hF => opAssign rfl rfl) rfl (fun _ _ => rfl) (kM [false, false, false, false, false, false, false] rfl rfl) (by decide) ?_
                refine pxV (v := (.int .i64 0)) (fun _ _ hF => opAssign rfl rfl) rfl (fun _ _ => rfl) (kA rfl) (by decide) ?_
                refine pxV (v := (.int .i64 2)) (fun _ _ hF => opAssign rfl rfl) rfl (fun _ _ => rfl) (kA rfl) (by decide) ?_
                refine pxEnd ?_
                refine qxThen ?_
                refine cxRet ?_
                refine qxThenR ?_
                refine qxInR ?_
                refine qxThenR ?_
                refine qxThenR ?_
                refine qxInR ?_
                refine qxRet3 2 1 0 rfl rfl rfl rfl ?_
                have he := hf.trans (frs_few2 hform (by omega) (by rw [List.length_drop, List.length_drop]; omega))
                exact ⟨_, [], rfl, ⟨.slice none 0 0, 0, (by rw [he]; first | done | rfl), (by rw [he]; exact OwnT.nil _ _), (by rw [he]; intro h; cases h)⟩, HH.out1 (HH.pad hH 1) [false, true] rfl⟩
              · refine cxSkip ?_
                refine qxThen ?_
                refine cxSeq ?_
                refine cxReg ?_
                refine pxV (v := (.slice Ab body.length cb)) (fun _ _ hF => opMove rfl (hF.ev 4 rfl)) rfl (fun _ _ => rfl) (kM [false, true, true, true, false, true, true] rfl rfl) (by decide) ?_
                refine pxV (v := (.slice A n c)) (fun _ _ hF => opMove rfl (hF.ev 4 rfl)) rfl (fun _ _ => rfl) (kA rfl) (by decide) ?_
                refine pxV (v := (.int .i64 (((at_ + ((tkn (b.drop at_)).2.1)) : Nat) : Int))) (fun _ _ hF => opMove rfl (hF.ev 2 rfl)) rfl (fun _ _ => rfl) (kA rfl) (by decide) ?_
                refine pxV (v := (.int .i64 (((at_ + ((tkn (b.drop at_)).2.1)) : Nat) : Int))) (fun _ _ hF => opMove rfl (hF.ev 3 rfl)) rfl (fun _ _ => rfl) (kA rfl) (by decide) ?_
                refine pxV (v := (.int .i64 ((((tkn (b.drop at_)).1) : Nat) : Int))) (fun _ _ hF => opMove rfl (hF.ev 6 rfl)) rfl (fun _ _ => rfl) (kA rfl) (by decide) ?_
                refine pxV (v := (.int .i64 ((((at_ + ((tkn (b.drop at_)).2.1)) + ((tkn (b.drop at_)).1)) : Nat) : Int))) (fun _ _ hF => opAdd rfl (hF.ev 1 rfl) (hF.ev 0 rfl) (wI (by omega) (by omega) (by omega))) rfl (fun _ _ => rfl) (kM [false, false, true, true, true, true, true, true, true, true] rfl rfl) (by decide) ?_
                refine pxV (v := (.slice (cutA A c (at_ + ((tkn (b.drop at_)).2.1)) 1) (((at_ + ((tkn (b.drop at_)).2.1)) + ((tkn (b.drop at_)).1)) - (at_ + ((tkn (b.drop at_)).2.1))) (c - (at_ + ((tkn (b.drop at_)).2.1))))) (fun _ _ hF => opCutLH (k := at_ + ((tkn (b.drop at_)).2.1)) (h := (at_ + ((tkn (b.drop at_)).2.1)) + ((tkn (b.drop at_)).1)) (e := 5) (sz := 1) rfl (by kernel_rfl) (by kernel_rfl) (hF.ev 2 rfl) (hF.ev 1 rfl) (hF.ev 0 rfl) rfl rfl (by omega) (by omega)) rfl (fun _ _ => rfl) (kM [false, false, false, true, true, true, true, true, true] rfl rfl) (by decide) ?_
                refine pxE 0 hH rfl (fun _ hF => smAppT (C := cByte) (l := body) (m := ((b.take ((at_ + ((tkn (b.drop at_)).2.1)) + ((tkn (b.drop at_)).1))).drop (at_ + ((tkn (b.drop at_)).2.1)))) (e := 5) (z := (.int .u8 0)) (by_ := 1) rfl (by kernel_rfl) (by kernel_rfl) rfl (ltb rfl) (hF.ev 1 rfl) hO (hF.ev 0 rfl) (by rw [List.length_drop, List.length_take]; omega) (((hH.vu hR (by decide) (Off.nil _ _)).cut (k := at_ + ((tkn (b.drop at_)).2.1)) (m := (at_ + ((tkn (b.drop at_)).2.1)) + ((tkn (b.drop at_)).1)) (by omega) (by omega))).nilA (by unfold maxLen; omega) (by omega)) ((hH.vu hR (by decide) (Off.nil _ _)).cut (k := at_ + ((tkn (b.drop at_)).2.1)) (m := (at_ + ((tkn (b.drop at_)).2.1)) + ((tkn (b.drop at_)).1)) (by omega) (by omega)) rfl (fun _ _ => rfl) (kM [false, false, true, true, true, true, true] rfl rfl) (by decide) ?_
                clear hH
                rintro v57 E58 w ⟨hO59, _⟩ hH
                replace hH : HH w0 [] [E58] w := hH
                replace hO59 : OwnT cByte 5 v57 (body ++ ((b.take ((at_ + ((tkn (b.drop at_)).2.1)) + ((tkn (b.drop at_)).1))).drop (at_ + ((tkn (b.drop at_)).2.1)))) E58 := hO59
                obtain ⟨A55, c56, rfl⟩ := hO59.slice
                refine pxV (v := (.slice A55 ((body ++ ((b.take ((at_ + ((tkn (b.drop at_)).2.1)) + ((tkn (b.drop at_)).1))).drop (at_ + ((tkn (b.drop at_)).2.1)))).length) c56)) (fun _ _ hF => opAssign rfl (hF.ev 0 rfl)) rfl (fun _ _ => rfl) (kM [false, true, true, true, true, true] rfl rfl) (by decide) ?_
                refine pxEnd ?_
                refine qxThen ?_
                refine cxSeq ?_
                refine cxReg ?_
                refine pxV (v := (.int .i64 (((at_ + ((tkn (b.drop at_)).2.1)) : Nat) : Int))) (fun _ _ hF => opMove rfl (hF.ev 1 rfl)) rfl (fun _ _ => rfl) (kM [true, false, true, true, true, true] rfl rfl) (by decide) ?_
                refine pxV (v := (.int .i64 ((((tkn (b.drop at_)).1) : Nat) : Int))) (fun _ _ hF => opMove rfl (hF.ev 3 rfl)) rfl (fun _ _ => rfl) (kM [true, true, true, false, true, true] rfl rfl) (by decide) ?_
                refine pxV (v := (.int .i64 ((((at_ + ((tkn (b.drop at_)).2.1)) + ((tkn (b.drop at_)).1)) : Nat) : Int))) (fun _ _ hF => opAdd rfl (hF.ev 1 rfl) (hF.ev 0 rfl) (wI (by omega) (by omega) (by omega))) rfl (fun _ _ => rfl) (kM [false, false, true, true, true, true] rfl rfl) (by decide) ?_
                refine pxV (v := (.int .i64 ((((at_ + ((tkn (b.drop at_)).2.1)) + ((tkn (b.drop at_)).1)) : Nat) : Int))) (fun _ _ hF => opAssign rfl (hF.ev 0 rfl)) rfl (fun _ _ => rfl) (kM [false, true, true, true, true] rfl rfl) (by decide) ?_
                refine pxEnd ?_
                refine qxThen ?_
                refine cxSeq ?_
                refine cxReg ?_
                refine pxV (v := (.bool ((tkn (b.drop at_)).2.2))) (fun _ _ hF => opMove rfl (hF.ev 2 rfl)) rfl (fun _ _ => rfl) (kM [true, true, false, true, true] rfl rfl) (by decide) ?_
                refine pxV (v := (.bool (!((tkn (b.drop at_)).2.2)))) (fun _ _ hF => opNot rfl (hF.ev 0 rfl) rfl) rfl (fun _ _ => rfl) (kM [false, true, true, true, true] rfl rfl) (by decide) ?_
                refine pxEnd ?_
                refine qxThen ?_
                refine cxB 0 rfl rfl (fun hc60 => ?_) (fun hc60 => ?_)
                · replace hc60 : ((tkn (b.drop at_)).2.2) = false := by simpa using hc60
                  rw [hg2] at hc60; cases hc60
                · replace hc60 : ((tkn (b.drop at_)).2.2) = true := by simpa using hc60
                  refine cxSkip ?_
                  refine qxInN ?_
                  refine qxThen ?_
                  refine cxReg ?_
                  refine pxV (v := (.bool false)) (fun _ _ hF => opAssign rfl rfl) rfl (fun _ _ => rfl) (kM [false, true, true, true, true] rfl rfl) (by decide) ?_
                  refine pxEnd ?_
                  have hp := tkn_part hg2
                  have hle : (tkn (b.drop at_)).1 ≤ ((b.drop at_).drop (tkn (b.drop at_)).2.1).length := by rw [List.length_drop, List.length_drop]; omega
                  exact qxRound ((body ++ ((b.take ((at_ + ((tkn (b.drop at_)).2.1)) + ((tkn (b.drop at_)).1))).drop (at_ + ((tkn (b.drop at_)).2.1)))), A55, c56, E58, (at_ + (tkn (b.drop at_)).2.1 + (tkn (b.drop at_)).1), false) ⟨hH, hO59, (show (at_ + (tkn (b.drop at_)).2.1 + (tkn (b.drop at_)).1) ≤ b.length from (by omega)), (show frs (mayT t) [] b = frs (mayT t) (body ++ ((b.take ((at_ + ((tkn (b.drop at_)).2.1)) + ((tkn (b.drop at_)).1))).drop (at_ + ((tkn (b.drop at_)).2.1)))) (b.drop (at_ + (tkn (b.drop at_)).2.1 + (tkn (b.drop at_)).1)) from (by rw [hf, part_eq, rest_eq]; exact frs_more2 hform (by omega) hle hg2)), (by rw [part_eq]; exact not_empty hp.1 hle), (show (body ++ ((b.take ((at_ + ((tkn (b.drop at_)).2.1)) + ((tkn (b.drop at_)).1))).drop (at_ + ((tkn (b.drop at_)).2.1)))).length ≤ 20000 from (by rw [part_eq]; exact body_le (by omega)))⟩ (show b.length - (at_ + (tkn (b.drop at_)).2.1 + (tkn (b.drop at_)).1) < b.length - at_ from by omega) (slots_at [0, 1, 2, 3, 4] rfl)
      · have hmay : mayT t = true := mayT_yes (by omega)
        refine pxU rfl (gOff 0 rfl rfl rfl (by decide)) (kA rfl) (by decide) ?_
        refine pxU rfl (gOff 0 rfl rfl rfl (by decide)) (kA rfl) (by decide) ?_
        refine pxV (v := (.bool false)) (fun _ _ hF => opPickF rfl (hF.ev 0 rfl) rfl) rfl (gOn 1 rfl rfl rfl (by decide)) (kM [false, true, true, true, true, true, true, true, true, true, true] rfl rfl) (by decide) ?_
        refine pxV (v := (.bool false)) (fun _ _ hF => opMove rfl (hF.ev 0 rfl)) rfl (gOn 1 rfl rfl rfl (by decide)) (kM [false, true, true, true, true, true, true, true, true, true, true] rfl rfl) (by decide) ?_
        refine pxU rfl (gOff 0 rfl rfl rfl (by decide)) (kA rfl) (by decide) ?_
        refine pxU rfl (gOff 0 rfl rfl rfl (by decide)) (kA rfl) (by decide) ?_
        refine pxV (v := (.bool false)) (fun _ _ hF => opPickF rfl (hF.ev 0 rfl) rfl) rfl (gOn 1 rfl rfl rfl (by decide)) (kM [false, true, true, true, true, true, true, true, true, true, true] rfl rfl) (by decide) ?_
        refine pxV (v := (.bool false)) (fun _ _ hF => opMove rfl (hF.ev 0 rfl)) rfl (gOn 1 rfl rfl rfl (by decide)) (kM [false, true, true, true, true, true, true, true, true, true, true] rfl rfl) (by decide) ?_
        refine pxU rfl (gOff 0 rfl rfl rfl (by decide)) (kA rfl) (by decide) ?_
        refine pxU rfl (gOff 0 rfl rfl rfl (by decide)) (kA rfl) (by decide) ?_
        refine pxV (v := (.bool false)) (fun _ _ hF => opPickF rfl (hF.ev 0 rfl) rfl) rfl (gOn 1 rfl rfl rfl (by decide)) (kM [false, true, true, true, true, true, true, true, true, true, true] rfl rfl) (by decide) ?_
        refine pxV (v := (.bool false)) (fun _ _ hF => opMove rfl (hF.ev 0 rfl)) rfl (gOn 1 rfl rfl rfl (by decide)) (kM [false, true, true, true, true, true, true, true, true, true, true] rfl rfl) (by decide) ?_
        refine pxV (v := (.bool (first))) (fun _ _ hF => opMove rfl (hF.ev 6 rfl)) rfl (gOn 0 rfl rfl rfl (by decide)) (kM [true, true, true, true, true, true, false, true, true, true, true] rfl rfl) (by decide) ?_
        refine pxV (v := (.bool (first))) (fun _ _ hF => opMove rfl (hF.ev 0 rfl)) rfl (gOn 1 rfl rfl rfl (by decide)) (kM [false, true, true, true, true, true, true, true, true, true, true] rfl rfl) (by decide) ?_
        refine pxSplitB 0 rfl (l1 := [(42, (.bool true)), (40, (.bool false)), (25, (.bool true)), (23, (.bool false)), (12, (.bool ((tkn (b.drop at_)).2.2))), (11, (.int .i64 ((((tkn (b.drop at_)).2.1) : Nat) : Int))), (10, (.int .i64 ((((tkn (b.drop at_)).1) : Nat) : Int))), (8, (.int .i64 (((at_) : Nat) : Int))), (7, (.slice Ab body.length cb)), (1, (.slice A n c)), (0, (.int .i64 (((t) : Nat) : Int)))]) (l2 := [(42, (.bool false)), (40, (.bool false)), (25, (.bool true)), (23, (.bool false)), (12, (.bool ((tkn (b.drop at_)).2.2))), (11, (.int .i64 ((((tkn (b.drop at_)).2.1) : Nat) : Int))), (10, (.int .i64 ((((tkn (b.drop at_)).1) : Nat) : Int))), (8, (.int .i64 (((at_) : Nat) : Int))), (7, (.slice Ab body.length cb)), (1, (.slice A n c)), (0, (.int .i64 (((t) : Nat) : Int)))]) rfl rfl (fun hg61 => ?_) (fun hg61 => ?_)
        · refine pxV (v := (.int .i64 ((((tkn (b.drop at_)).1) : Nat) : Int))) (fun _ _ hF => opMove rfl (hF.ev 6 rfl)) rfl (gOn 0 rfl rfl rfl (by decide)) (kA rfl) (by decide) ?_
          refine pxV (v := (.bool (decide ((tkn (b.drop at_)).1 < 512)))) (fun _ _ hF => opLss rfl (hF.ev 0 rfl) rfl (dc (by omega))) rfl (gOn 1 rfl rfl rfl (by decide)) (kM [false, true, true, true, true, true, true, true, true, true, true, true] rfl rfl) (by decide) ?_
          refine pxV (v := (.bool (decide ((tkn (b.drop at_)).1 < 512)))) (fun _ _ hF => opPickT rfl (hF.ev 1 rfl) (hF.ev 0 rfl)) rfl (gOn 2 rfl rfl rfl (by decide)) (kM [false, false, true, true, true, true, true, true, true, true, true, true] rfl rfl) (by decide) ?_
          refine pxV (v := (.bool (decide ((tkn (b.drop at_)).1 < 512)))) (fun _ _ hF => opPickF rfl (hF.ev 1 rfl) (hF.ev 0 rfl)) rfl (gOn 2 rfl rfl rfl (by decide)) (kM [false, false, true, true, true, true, true, true, true, true, true] rfl rfl) (by decide) ?_
          refine pxV (v := (.bool (decide ((tkn (b.drop at_)).1 < 512)))) (fun _ _ hF => opPickT rfl (hF.ev 1 rfl) (hF.ev 0 rfl)) rfl (gOn 2 rfl rfl rfl (by decide)) (kM [false, false, true, true, true, true, true, true, true, true] rfl rfl) (by decide) ?_
          refine pxV (v := (.bool (decide ((tkn (b.drop at_)).1 < 512)))) (fun _ _ hF => opPickF rfl (hF.ev 1 rfl) (hF.ev 0 rfl)) rfl (fun _ _ => rfl) (kM [false, false, true, true, true, true, true, true, true] rfl rfl) (by decide) ?_
          refine pxEnd ?_
          refine qxThen ?_
          refine cxP 0 rfl rfl (fun hc62 => ?_) (fun hc62 => ?_)
          · refine cxSeq ?_
            refine cxReg ?_
            refine pxV (v := (.slice none 0 0)) (fun _ _ hF => opAssign rfl rfl) rfl (fun _ _ => rfl) (kM [false, false, false, false, false, false, false, false] rfl rfl) (by decide) ?_
            refine pxV (v := (.int .i64 0)) (fun _ _ hF => opAssign rfl rfl) rfl (fun _ _ => rfl) (kA rfl) (by decide) ?_
            refine pxV (v := (.int .i64 2)) (fun _ _ hF => opAssign rfl rfl) rfl (fun _ _ => rfl) (kA rfl) (by decide) ?_
            refine pxEnd ?_
            refine qxThen ?_
            refine cxRet ?_
            refine qxThenR ?_
            refine qxInR ?_
            refine qxThenR ?_
            refine qxThenR ?_
            refine qxInR ?_
            refine qxRet3 2 1 0 rfl rfl rfl rfl ?_
            have he := hf.trans (frs_form (may := mayT t) (.inr ⟨hg2, .inr ⟨hfst.1 hg61, hc62⟩⟩))
            exact ⟨_, [], rfl, ⟨.slice none 0 0, 0, (by rw [he]; first | done | rfl), (by rw [he]; exact OwnT.nil _ _), (by rw [he]; intro h; cases h)⟩, HH.out1 (HH.pad hH 1) [false, true] rfl⟩
          · refine cxSkip ?_
            refine qxThen ?_
            refine cxSeq ?_
            refine cxSeq ?_
            have hform := frs_not (may := mayT t) (body := body) hg1 (.inr ⟨hmay, .inr (by omega)⟩)
            refine cxReg ?_
            refine pxV (v := (.int .i64 ((((tkn (b.drop at_)).1) : Nat) : Int))) (fun _ _ hF => opMove rfl (hF.ev 3 rfl)) rfl (fun _ _ => rfl) (kM [false, true, true, true, true, true, true, true] rfl rfl) (by decide) ?_
            refine pxV (v := (.slice Ab body.length cb)) (fun _ _ hF => opMove rfl (hF.ev 5 rfl)) rfl (fun _ _ => rfl) (kA rfl) (by decide) ?_
            refine pxV (v := (.int .i64 (((body.length) : Nat) : Int))) (fun _ _ hF => opLen (e := 5) rfl (by kernel_rfl) (hF.ev 0 rfl)) rfl (fun _ _ => rfl) (kM [false, true, true, true, true, true, true, true, true] rfl rfl) (by decide) ?_
            refine pxV (v := (.int .i64 (((20000 - body.length) : Nat) : Int))) (fun _ _ hF => opSub rfl rfl (hF.ev 0 rfl) (wI (by omega) (by omega) (by omega))) rfl (fun _ _ => rfl) (kM [false, true, true, true, true, true, true, true, true] rfl rfl) (by decide) ?_
            refine pxV (v := (.bool (decide ((tkn (b.drop at_)).1 > 20000 - body.length)))) (fun _ _ hF => opGtr rfl (hF.ev 1 rfl) (hF.ev 0 rfl) (dc (by omega))) rfl (fun _ _ => rfl) (kM [false, false, true, true, true, true, true, true, true] rfl rfl) (by decide) ?_
            refine pxEnd ?_
            refine qxThen ?_
            refine cxP 0 rfl rfl (fun hc63 => ?_) (fun hc63 => ?_)
            · refine cxSeq ?_
              refine cxReg ?_
              refine pxV (v := (.slice none 0 0)) (fun _ _ hF => opAssign rfl rfl) rfl (fun _ _ => rfl) (kM [false, false, false, false, false, false, false, false] rfl rfl) (by decide) ?_
              refine pxV (v := (.int .i64 0)) (fun _ _ hF => opAssign rfl rfl) rfl (fun _ _ => rfl) (kA rfl) (by decide) ?_
              refine pxV (v := (.int .i64 6)) (fun _ _ hF => opAssign rfl rfl) rfl (fun _ _ => rfl) (kA rfl) (by decide) ?_
              refine pxEnd ?_
              refine qxThen ?_
              refine cxRet ?_
              refine qxThenR ?_
              refine qxInR ?_
              refine qxThenR ?_
              refine qxThenR ?_
              refine qxInR ?_
              refine qxRet3 2 1 0 rfl rfl rfl rfl ?_
              have he := hf.trans (frs_long hform (by omega))
              exact ⟨_, [], rfl, ⟨.slice none 0 0, 0, (by rw [he]; first | done | rfl), (by rw [he]; exact OwnT.nil _ _), (by rw [he]; intro h; cases h)⟩, HH.out1 (HH.pad hH 1) [false, true] rfl⟩
            · refine cxSkip ?_
              refine qxThen ?_
              refine cxSeq ?_
              refine cxReg ?_
              refine pxV (v := (.int .i64 (((at_) : Nat) : Int))) (fun _ _ hF => opMove rfl (hF.ev 4 rfl)) rfl (fun _ _ => rfl) (kM [false, true, true, true, false, true, true, true] rfl rfl) (by decide) ?_
              refine pxV (v := (.int .i64 ((((tkn (b.drop at_)).2.1) : Nat) : Int))) (fun _ _ hF => opMove rfl (hF.ev 2 rfl)) rfl (fun _ _ => rfl) (kM [true, true, false, true, true, true, true] rfl rfl) (by decide) ?_
              refine pxV (v := (.int .i64 (((at_ + ((tkn (b.drop at_)).2.1)) : Nat) : Int))) (fun _ _ hF => opAdd rfl (hF.ev 1 rfl) (hF.ev 0 rfl) (wI (by omega) (by omega) (by omega))) rfl (fun _ _ => rfl) (kM [false, false, true, true, true, true, true] rfl rfl) (by decide) ?_
              refine pxV (v := (.int .i64 (((at_ + ((tkn (b.drop at_)).2.1)) : Nat) : Int))) (fun _ _ hF => opAssign rfl (hF.ev 0 rfl)) rfl (fun _ _ => rfl) (kM [false, true, true, true, true, true] rfl rfl) (by decide) ?_
              refine pxEnd ?_
              refine qxThen ?_
              refine cxSeq ?_
              refine cxSeq ?_
              refine cxReg ?_
              refine pxV (v := (.int .i64 ((((tkn (b.drop at_)).1) : Nat) : Int))) (fun _ _ hF => opMove rfl (hF.ev 2 rfl)) rfl (fun _ _ => rfl) (kA rfl) (by decide) ?_
              refine pxV (v := (.slice A n c)) (fun _ _ hF => opMove rfl (hF.ev 5 rfl)) rfl (fun _ _ => rfl) (kA rfl) (by decide) ?_
              refine pxV (v := (.int .i64 (((n) : Nat) : Int))) (fun _ _ hF => opLen (e := 5) rfl (by kernel_rfl) (hF.ev 0 rfl)) rfl (fun _ _ => rfl) (kM [false, true, true, true, true, true, true, true] rfl rfl) (by decide) ?_
              refine pxV (v := (.int .i64 (((at_ + ((tkn (b.drop at_)).2.1)) : Nat) : Int))) (fun _ _ hF => opMove rfl (hF.ev 2 rfl)) rfl (fun _ _ => rfl) (kA rfl) (by decide) ?_
              refine pxV (v := (.int .i64 (((n - (at_ + (tkn (b.drop at_)).2.1)) : Nat) : Int))) (fun _ _ hF => opSub rfl (hF.ev 1 rfl) (hF.ev 0 rfl) (wI (by omega) (by omega) (by omega))) rfl (fun _ _ => rfl) (kM [false, false, true, true, true, true, true, true, true] rfl rfl) (by decide) ?_
              refine pxV (v := (.bool (decide ((tkn (b.drop at_)).1 > n - (at_ + (tkn (b.drop at_)).2.1))))) (fun _ _ hF => opGtr rfl (hF.ev 1 rfl) (hF.ev 0 rfl) (dc (by omega))) rfl (fun _ _ => rfl) (kM [false, false, true, true, true, true, true, true] rfl rfl) (by decide) ?_
              refine pxEnd ?_
              refine qxThen ?_
              refine cxP 0 rfl rfl (fun hc64 => ?_) (fun hc64 => ?_)
              · refine cxSeq ?_
                refine cxReg ?_
                refine pxV (v := (.slice none 0 0)) (fun _ _ hF => opAssign rfl rfl) rfl (fun _ _ => rfl) (kM [false, false, false, false, false, false, false] rfl rfl) (by decide) ?_
                refine pxV (v := (.int .i64 0)) (fun _ _ hF => opAssign rfl rfl) rfl (fun _ _ => rfl) (kA rfl) (by decide) ?_
                refine pxV (v := (.int .i64 2)) (fun _ _ hF => opAssign rfl rfl) rfl (fun _ _ => rfl) (kA rfl) (by decide) ?_
                refine pxEnd ?_
                refine qxThen ?_
                refine cxRet ?_
                refine qxThenR ?_
                refine qxInR ?_
                refine qxThenR ?_
                refine qxThenR ?_
                refine qxInR ?_
                refine qxRet3 2 1 0 rfl rfl rfl rfl ?_
                have he := hf.trans (frs_few2 hform (by omega) (by rw [List.length_drop, List.length_drop]; omega))
                exact ⟨_, [], rfl, ⟨.slice none 0 0, 0, (by rw [he]; first | done | rfl), (by rw [he]; exact OwnT.nil _ _), (by rw [he]; intro h; cases h)⟩, HH.out1 (HH.pad hH 1) [false, true] rfl⟩
              · refine cxSkip ?_
                refine qxThen ?_
                refine cxSeq ?_
                refine cxReg ?_
                refine pxV (v := (.slice Ab body.length cb)) (fun _ _ hF => opMove rfl (hF.ev 4 rfl)) rfl (fun _ _ => rfl) (kM [false, true, true, true, false, true, true] rfl rfl) (by decide) ?_
                refine pxV (v := (.slice A n c)) (fun _ _ hF => opMove rfl (hF.ev 4 rfl)) rfl (fun _ _ => rfl) (kA rfl) (by decide) ?_
                refine pxV (v := (.int .i64 (((at_ + ((tkn (b.drop at_)).2.1)) : Nat) : Int))) (fun _ _ hF => opMove rfl (hF.ev 2 rfl)) rfl (fun _ _ => rfl) (kA rfl) (by decide) ?_
                refine pxV (v := (.int .i64 (((at_ + ((tkn (b.drop at_)).2.1)) : Nat) : Int))) (fun _ _ hF => opMove rfl (hF.ev 3 rfl)) rfl (fun _ _ => rfl) (kA rfl) (by decide) ?_
                refine pxV (v := (.int .i64 ((((tkn (b.drop at_)).1) : Nat) : Int))) (fun _ _ hF => opMove rfl (hF.ev 6 rfl)) rfl (fun _ _ => rfl) (kA rfl) (by decide) ?_
                refine pxV (v := (.int .i64 ((((at_ + ((tkn (b.drop at_)).2.1)) + ((tkn (b.drop at_)).1)) : Nat) : Int))) (fun _ _ hF => opAdd rfl (hF.ev 1 rfl) (hF.ev 0 rfl) (wI (by omega) (by omega) (by omega))) rfl (fun _ _ => rfl) (kM [false, false, true, true, true, true, true, true, true, true] rfl rfl) (by decide) ?_
                refine pxV (v := (.slice (cutA A c (at_ + ((tkn (b.drop at_)).2.1)) 1) (((at_ + ((tkn (b.drop at_)).2.1)) + ((tkn (b.drop at_)).1)) - (at_ + ((tkn (b.drop at_)).2.1))) (c - (at_ + ((tkn (b.drop at_)).2.1))))) (fun _ _ hF => opCutLH (k := at_ + ((tkn (b.drop at_)).2.1)) (h := (at_ + ((tkn (b.drop at_)).2.1)) + ((tkn (b.drop at_)).1)) (e := 5) (sz := 1) rfl (by kernel_rfl) (by kernel_rfl) (hF.ev 2 rfl) (hF.ev 1 rfl) (hF.ev 0 rfl) rfl rfl (by omega) (by omega)) rfl (fun _ _ => rfl) (kM [false, false, false, true, true, true, true, true, true] rfl rfl) (by decide) ?_
                refine pxE 0 hH rfl (fun _ hF => smAppT (C := cByte) (l := body) (m := ((b.take ((at_ + ((tkn (b.drop at_)).2.1)) + ((tkn (b.drop at_)).1))).drop (at_ + ((tkn (b.drop at_)).2.1)))) (e := 5) (z := (.int .u8 0)) (by_ := 1) rfl (by kernel_rfl) (by kernel_rfl) rfl (ltb rfl) (hF.ev 1 rfl) hO (hF.ev 0 rfl) (by rw [List.length_drop, List.length_take]; omega) (((hH.vu hR (by decide) (Off.nil _ _)).cut (k := at_ + ((tkn (b.drop at_)).2.1)) (m := (at_ + ((tkn (b.drop at_)).2.1)) + ((tkn (b.drop at_)).1)) (by omega) (by omega))).nilA (by unfold maxLen; omega) (by omega)) ((hH.vu hR (by decide) (Off.nil _ _)).cut (k := at_ + ((tkn (b.drop at_)).2.1)) (m := (at_ + ((tkn (b.drop at_)).2.1)) + ((tkn (b.drop at_)).1)) (by omega) (by omega)) rfl (fun _ _ => rfl) (kM [false, false, true, true, true, true, true] rfl rfl) (by decide) ?_
                clear hH
                rintro v67 E68 w ⟨hO69, _⟩ hH
                replace hH : HH w0 [] [E68] w := hH
                replace hO69 : OwnT cByte 5 v67 (body ++ ((b.take ((at_ + ((tkn (b.drop at_)).2.1)) + ((tkn (b.drop at_)).1))).drop (at_ + ((tkn (b.drop at_)).2.1)))) E68 := hO69
                obtain ⟨A65, c66, rfl⟩ := hO69.slice
                refine pxV (v := (.slice A65 ((body ++ ((b.take ((at_ + ((tkn (b.drop at_)).2.1)) + ((tkn (b.drop at_)).1))).drop (at_ + ((tkn (b.drop at_)).2.1)))).length) c66)) (fun _ _ hF => opAssign rfl (hF.ev 0 rfl)) rfl (fun _ _ => rfl) (kM [false, true, true, true, true, true] rfl rfl) (by decide) ?_
                refine pxEnd ?_
                refine qxThen ?_
                refine cxSeq ?_
                refine cxReg ?_
                refine pxV (v := (.int .i64 (((at_ + ((tkn (b.drop at_)).2.1)) : Nat) : Int))) (fun _ _ hF => opMove rfl (hF.ev 1 rfl)) rfl (fun _ _ => rfl) (kM [true, false, true, true, true, true] rfl rfl) (by decide) ?_
                refine pxV (v := (.int .i64 ((((tkn (b.drop at_)).1) : Nat) : Int))) (fun _ _ hF => opMove rfl (hF.ev 3 rfl)) rfl (fun _ _ => rfl) (kM [true, true, true, false, true, true] rfl rfl) (by decide) ?_
                refine pxV (v := (.int .i64 ((((at_ + ((tkn (b.drop at_)).2.1)) + ((tkn (b.drop at_)).1)) : Nat) : Int))) (fun _ _ hF => opAdd rfl (hF.ev 1 rfl) (hF.ev 0 rfl) (wI (by omega) (by omega) (by omega))) rfl (fun _ _ => rfl) (kM [false, false, true, true, true, true] rfl rfl) (by decide) ?_
                refine pxV (v := (.int .i64 ((((at_ + ((tkn (b.drop at_)).2.1)) + ((tkn (b.drop at_)).1)) : Nat) : Int))) (fun _ _ hF => opAssign rfl (hF.ev 0 rfl)) rfl (fun _ _ => rfl) (kM [false, true, true, true, true] rfl rfl) (by decide) ?_
                refine pxEnd ?_
                refine qxThen ?_
                refine cxSeq ?_
                refine cxReg ?_
                refine pxV (v := (.bool ((tkn (b.drop at_)).2.2))) (fun _ _ hF => opMove rfl (hF.ev 2 rfl)) rfl (fun _ _ => rfl) (kM [true, true, false, true, true] rfl rfl) (by decide) ?_
                refine pxV (v := (.bool (!((tkn (b.drop at_)).2.2)))) (fun _ _ hF => opNot rfl (hF.ev 0 rfl) rfl) rfl (fun _ _ => rfl) (kM [false, true, true, true, true] rfl rfl) (by decide) ?_
                refine pxEnd ?_
                refine qxThen ?_
                refine cxB 0 rfl rfl (fun hc70 => ?_) (fun hc70 => ?_)
                · replace hc70 : ((tkn (b.drop at_)).2.2) = false := by simpa using hc70
                  rw [hg2] at hc70; cases hc70
                · replace hc70 : ((tkn (b.drop at_)).2.2) = true := by simpa using hc70
                  refine cxSkip ?_
                  refine qxInN ?_
                  refine qxThen ?_
                  refine cxReg ?_
                  refine pxV (v := (.bool false)) (fun _ _ hF => opAssign rfl rfl) rfl (fun _ _ => rfl) (kM [false, true, true, true, true] rfl rfl) (by decide) ?_
                  refine pxEnd ?_
                  have hp := tkn_part hg2
                  have hle : (tkn (b.drop at_)).1 ≤ ((b.drop at_).drop (tkn (b.drop at_)).2.1).length := by rw [List.length_drop, List.length_drop]; omega
                  exact qxRound ((body ++ ((b.take ((at_ + ((tkn (b.drop at_)).2.1)) + ((tkn (b.drop at_)).1))).drop (at_ + ((tkn (b.drop at_)).2.1)))), A65, c66, E68, (at_ + (tkn (b.drop at_)).2.1 + (tkn (b.drop at_)).1), false) ⟨hH, hO69, (show (at_ + (tkn (b.drop at_)).2.1 + (tkn (b.drop at_)).1) ≤ b.length from (by omega)), (show frs (mayT t) [] b = frs (mayT t) (body ++ ((b.take ((at_ + ((tkn (b.drop at_)).2.1)) + ((tkn (b.drop at_)).1))).drop (at_ + ((tkn (b.drop at_)).2.1)))) (b.drop (at_ + (tkn (b.drop at_)).2.1 + (tkn (b.drop at_)).1)) from (by rw [hf, part_eq, rest_eq]; exact frs_more2 hform (by omega) hle hg2)), (by rw [part_eq]; exact not_empty hp.1 hle), (show (body ++ ((b.take ((at_ + ((tkn (b.drop at_)).2.1)) + ((tkn (b.drop at_)).1))).drop (at_ + ((tkn (b.drop at_)).2.1)))).length ≤ 20000 from (by rw [part_eq]; exact body_le (by omega)))⟩ (show b.length - (at_ + (tkn (b.drop at_)).2.1 + (tkn (b.drop at_)).1) < b.length - at_ from by omega) (slots_at [0, 1, 2, 3, 4] rfl)
        · refine pxU rfl (gOff 0 rfl rfl rfl (by decide)) (kA rfl) (by decide) ?_
          refine pxU rfl (gOff 0 rfl rfl rfl (by decide)) (kA rfl) (by decide) ?_
          refine pxV (v := (.bool false)) (fun _ _ hF => opPickF rfl (hF.ev 0 rfl) rfl) rfl (gOn 1 rfl rfl rfl (by decide)) (kM [false, true, true, true, true, true, true, true, true, true, true] rfl rfl) (by decide) ?_
          refine pxV (v := (.bool false)) (fun _ _ hF => opPickF rfl (hF.ev 1 rfl) (hF.ev 0 rfl)) rfl (gOn 2 rfl rfl rfl (by decide)) (kM [false, false, true, true, true, true, true, true, true, true, true] rfl rfl) (by decide) ?_
          refine pxV (v := (.bool false)) (fun _ _ hF => opPickT rfl (hF.ev 1 rfl) (hF.ev 0 rfl)) rfl (gOn 2 rfl rfl rfl (by decide)) (kM [false, false, true, true, true, true, true, true, true, true] rfl rfl) (by decide) ?_
          refine pxV (v := (.bool false)) (fun _ _ hF => opPickF rfl (hF.ev 1 rfl) (hF.ev 0 rfl)) rfl (fun _ _ => rfl) (kM [false, false, true, true, true, true, true, true, true] rfl rfl) (by decide) ?_
          refine pxEnd ?_
          refine qxThen ?_
          refine cxF 0 rfl rfl ?_
          refine cxSkip ?_
          refine qxThen ?_
          refine cxSeq ?_
          refine cxSeq ?_
          have hform := frs_not (may := mayT t) (body := body) hg1 (.inr ⟨hmay, .inl (fun q => by have := hfst.2 (List.eq_nil_of_length_eq_zero q); rw [this] at hg61; cases hg61)⟩)
          refine cxReg ?_
          refine pxV (v := (.int .i64 ((((tkn (b.drop at_)).1) : Nat) : Int))) (fun _ _ hF => opMove rfl (hF.ev 3 rfl)) rfl (fun _ _ => rfl) (kM [false, true, true, true, true, true, true, true] rfl rfl) (by decide) ?_
          refine pxV (v := (.slice Ab body.length cb)) (fun _ _ hF => opMove rfl (hF.ev 5 rfl)) rfl (fun _ _ => rfl) (kA rfl) (by decide) ?_
          refine pxV (v := (.int .i64 (((body.length) : Nat) : Int))) (fun _ _ hF => opLen (e := 5) rfl (by kernel_rfl) (hF.ev 0 rfl)) rfl (fun _ _ => rfl) (kM [false, true, true, true, true, true, true, true, true] rfl rfl) (by decide) ?_
          refine pxV (v := (.int .i64 (((20000 - body.length) : Nat) : Int))) (fun _ _ hF => opSub rfl rfl (hF.ev 0 rfl) (wI (by omega) (by omega) (by omega))) rfl (fun _ _ => rfl) (kM [false, true, true, true, true, true, true, true, true] rfl rfl) (by decide) ?_
          refine pxV (v := (.bool (decide ((tkn (b.drop at_)).1 > 20000 - body.length)))) (fun _ _ hF => opGtr rfl (hF.ev 1 rfl) (hF.ev 0 rfl) (dc (by omega))) rfl (fun _ _ => rfl) (kM [false, false, true, true, true, true, true, true, true] rfl rfl) (by decide) ?_
          refine pxEnd ?_
          refine qxThen ?_
          refine cxP 0 rfl rfl (fun hc71 => ?_) (fun hc71 => ?_)
          · refine cxSeq ?_
            refine cxReg ?_
            refine pxV (v := (.slice none 0 0)) (fun _ _ hF => opAssign rfl rfl) rfl (fun _ _ => rfl) (kM [false, false, false, false, false, false, false, false] rfl rfl) (by decide) ?_
            refine pxV (v := (.int .i64 0)) (fun _ _ hF => opAssign rfl rfl) rfl (fun _ _ => rfl) (kA rfl) (by decide) ?_
            refine pxV (v := (.int .i64 6)) (fun _ _ hF => opAssign rfl rfl) rfl (fun _ _ => rfl) (kA rfl) (by decide) ?_
            refine pxEnd ?_
            refine qxThen ?_
            refine cxRet ?_
            refine qxThenR ?_
            refine qxInR ?_
            refine qxThenR ?_
            refine qxThenR ?_
            refine qxInR ?_
            refine qxRet3 2 1 0 rfl rfl rfl rfl ?_
            have he := hf.trans (frs_long hform (by omega))
            exact ⟨_, [], rfl, ⟨.slice none 0 0, 0, (by rw [he]; first | done | rfl), (by rw [he]; exact OwnT.nil _ _), (by rw [he]; intro h; cases h)⟩, HH.out1 (HH.pad hH 1) [false, true] rfl⟩
          · refine cxSkip ?_
            refine qxThen ?_
            refine cxSeq ?_
            refine cxReg ?_
            refine pxV (v := (.int .i64 (((at_) : Nat) : Int))) (fun _ _ hF => opMove rfl (hF.ev 4 rfl)) rfl (fun _ _ => rfl) (kM [false, true, true, true, false, true, true, true] rfl rfl) (by decide) ?_
            refine pxV (v := (.int .i64 ((((tkn (b.drop at_)).2.1) : Nat) : Int))) (fun _ _ hF => opMove rfl (hF.ev 2 rfl)) rfl (fun _ _ => rfl) (kM [true, true, false, true, true, true, true] rfl rfl) (by decide) ?_
            refine pxV (v := (.int .i64 (((at_ + ((tkn (b.drop at_)).2.1)) : Nat) : Int))) (fun _ _ hF => opAdd rfl (hF.ev 1 rfl) (hF.ev 0 rfl) (wI (by omega) (by omega) (by omega))) rfl (fun _ _ => rfl) (kM [false, false, true, true, true, true, true] rfl rfl) (by decide) ?_
            refine pxV (v := (.int .i64 (((at_ + ((tkn (b.drop at_)).2.1)) : Nat) : Int))) (fun _ _ hF => opAssign rfl (hF.ev 0 rfl)) rfl (fun _ _ => rfl) (kM [false, true, true, true, true, true] rfl rfl) (by decide) ?_
            refine pxEnd ?_
            refine qxThen ?_
            refine cxSeq ?_
            refine cxSeq ?_
            refine cxReg ?_
            refine pxV (v := (.int .i64 ((((tkn (b.drop at_)).1) : Nat) : Int))) (fun _ _ hF => opMove rfl (hF.ev 2 rfl)) rfl (fun _ _ => rfl) (kA rfl) (by decide) ?_
            refine pxV (v := (.slice A n c)) (fun _ _ hF => opMove rfl (hF.ev 5 rfl)) rfl (fun _ _ => rfl) (kA rfl) (by decide) ?_
            refine pxV (v := (.int .i64 (((n) : Nat) : Int))) (fun _ _ hF => opLen (e := 5) rfl (by kernel_rfl) (hF.ev 0 rfl)) rfl (fun _ _ => rfl) (kM [false, true, true, true, true, true, true, true] rfl rfl) (by decide) ?_
            refine pxV (v := (.int .i64 (((at_ + ((tkn (b.drop at_)).2.1)) : Nat) : Int))) (fun _ _ hF => opMove rfl (hF.ev 2 rfl)) rfl (fun _ _ => rfl) (kA rfl) (by decide) ?_
            refine pxV (v := (.int .i64 (((n - (at_ + (tkn (b.drop at_)).2.1)) : Nat) : Int))) (fun _ _ hF => opSub rfl (hF.ev 1 rfl) (hF.ev 0 rfl) (wI (by omega) (by omega) (by omega))) rfl (fun _ _ => rfl) (kM [false, false, true, true, true, true, true, true, true] rfl rfl) (by decide) ?_
            refine pxV (v := (.bool (decide ((tkn (b.drop at_)).1 > n - (at_ + (tkn (b.drop at_)).2.1))))) (fun _ _ hF => opGtr rfl (hF.ev 1 rfl) (hF.ev 0 rfl) (dc (by omega))) rfl (fun _ _ => rfl) (kM [false, false, true, true, true, true, true, true] rfl rfl) (by decide) ?_
            refine pxEnd ?_
            refine qxThen ?_
            refine cxP 0 rfl rfl (fun hc72 => ?_) (fun hc72 => ?_)
            · refine cxSeq ?_
              refine cxReg ?_
              refine pxV (v := (.slice none 0 0)) (fun _ _ hF => opAssign rfl rfl) rfl (fun _ _ => rfl) (kM [false, false, false, false, false, false, false] rfl rfl) (by decide) ?_
              refine pxV (v := (.int .i64 0)) (fun _ _ hF => opAssign rfl rfl) rfl (fun _ _ => rfl) (kA rfl) (by decide) ?_
              refine pxV (v := (.int .i64 2)) (fun _ _ hF => opAssign rfl rfl) rfl (fun _ _ => rfl) (kA rfl) (by decide) ?_
              refine pxEnd ?_
              refine qxThen ?_
              refine cxRet ?_
              refine qxThenR ?_
              refine qxInR ?_
              refine qxThenR ?_
              refine qxThenR ?_
              refine qxInR ?_
              refine qxRet3 2 1 0 rfl rfl rfl rfl ?_
              have he := hf.trans (frs_few2 hform (by omega) (by rw [List.length_drop, List.length_drop]; omega))
              exact ⟨_, [], rfl, ⟨.slice none 0 0, 0, (by rw [he]; first | done | rfl), (by rw [he]; exact OwnT.nil _ _), (by rw [he]; intro h; cases h)⟩, HH.out1 (HH.pad hH 1) [false, true] rfl⟩
            · refine cxSkip ?_
              refine qxThen ?_
              refine cxSeq ?_
              refine cxReg ?_
              refine pxV (v := (.slice Ab body.length cb)) (fun _ _ hF => opMove rfl (hF.ev 4 rfl)) rfl (fun _ _ => rfl) (kM [false, true, true, true, false, true, true] rfl rfl) (by decide) ?_
              refine pxV (v := (.slice A n c)) (fun _ _ hF => opMove rfl (hF.ev 4 rfl)) rfl (fun _ _ => rfl) (kA rfl) (by decide) ?_
              refine pxV (v := (.int .i64 (((at_ + ((tkn (b.drop at_)).2.1)) : Nat) : Int))) (fun _ _ hF => opMove rfl (hF.ev 2 rfl)) rfl (fun _ _ => rfl) (kA rfl) (by decide) ?_
              refine pxV (v := (.int .i64 (((at_ + ((tkn (b.drop at_)).2.1)) : Nat) : Int))) (fun _ _ hF => opMove rfl (hF.ev 3 rfl)) rfl (fun _ _ => rfl) (kA rfl) (by decide) ?_
              refine pxV (v := (.int .i64 ((((tkn (b.drop at_)).1) : Nat) : Int))) (fun _ _ hF => opMove rfl (hF.ev 6 rfl)) rfl (fun _ _ => rfl) (kA rfl) (by decide) ?_
              refine pxV (v := (.int .i64 ((((at_ + ((tkn (b.drop at_)).2.1)) + ((tkn (b.drop at_)).1)) : Nat) : Int))) (fun _ _ hF => opAdd rfl (hF.ev 1 rfl) (hF.ev 0 rfl) (wI (by omega) (by omega) (by omega))) rfl (fun _ _ => rfl) (kM [false, false, true, true, true, true, true, true, true, true] rfl rfl) (by decide) ?_
              refine pxV (v := (.slice (cutA A c (at_ + ((tkn (b.drop at_)).2.1)) 1) (((at_ + ((tkn (b.drop at_)).2.1)) + ((tkn (b.drop at_)).1)) - (at_ + ((tkn (b.drop at_)).2.1))) (c - (at_ + ((tkn (b.drop at_)).2.1))))) (fun _ _ hF => opCutLH (k := at_ + ((tkn (b.drop at_)).2.1)) (h := (at_ + ((tkn (b.drop at_)).2.1)) + ((tkn (b.drop at_)).1)) (e := 5) (sz := 1) rfl (by kernel_rfl) (by kernel_rfl) (hF.ev 2 rfl) (hF.ev 1 rfl) (hF.ev 0 rfl) rfl rfl (by omega) (by omega)) rfl (fun _ _ => rfl) (kM [false, false, false, true, true, true, true, true, true] rfl rfl) (by decide) ?_
              refine pxE 0 hH rfl (fun _ hF => smAppT (C := cByte) (l := body) (m := ((b.take ((at_ + ((tkn (b.drop at_)).2.1)) + ((tkn (b.drop at_)).1))).drop (at_ + ((tkn (b.drop at_)).2.1)))) (e := 5) (z := (.int .u8 0)) (by_ := 1) rfl (by kernel_rfl) (by kernel_rfl) rfl (ltb rfl) (hF.ev 1 rfl) hO (hF.ev 0 rfl) (by rw [List.length_drop, List.length_take]; omega) (((hH.vu hR (by decide) (Off.nil _ _)).cut (k := at_ + ((tkn (b.drop at_)).2.1)) (m := (at_ + ((tkn (b.drop at_)).2.1)) + ((tkn (b.drop at_)).1)) (by omega) (by omega))).nilA (by unfold maxLen; omega) (by omega)) ((hH.vu hR (by decide) (Off.nil _ _)).cut (k := at_ + ((tkn (b.drop at_)).2.1)) (m := (at_ + ((tkn (b.drop at_)).2.1)) + ((tkn (b.drop at_)).1)) (by omega) (by omega)) rfl (fun _ _ => rfl) (kM [false, false, true, true, true, true, true] rfl rfl) (by decide) ?_
              clear hH
              rintro v75 E76 w ⟨hO77, _⟩ hH
              replace hH : HH w0 [] [E76] w := hH
              replace hO77 : OwnT cByte 5 v75 (body ++ ((b.take ((at_ + ((tkn (b.drop at_)).2.1)) + ((tkn (b.drop at_)).1))).drop (at_ + ((tkn (b.drop at_)).2.1)))) E76 := hO77
              obtain ⟨A73, c74, rfl⟩ := hO77.slice
              refine pxV (v := (.slice A73 ((body ++ ((b.take ((at_ + ((tkn (b.drop at_)).2.1)) + ((tkn (b.drop at_)).1))).drop (at_ + ((tkn (b.drop at_)).2.1)))).length) c74)) (fun _ _ hF => opAssign rfl (hF.ev 0 rfl)) rfl (fun _ _ => rfl) (kM [false, true, true, true, true, true] rfl rfl) (by decide) ?_
              refine pxEnd ?_
              refine qxThen ?_
              refine cxSeq ?_
              refine cxReg ?_
              refine pxV (v := (.int .i64 (((at_ + ((tkn (b.drop at_)).2.1)) : Nat) : Int))) (fun _ _ hF => opMove rfl (hF.ev 1 rfl)) rfl (fun _ _ => rfl) (kM [true, false, true, true, true, true] rfl rfl) (by decide) ?_
              refine pxV (v := (.int .i64 ((((tkn (b.drop at_)).1) : Nat) : Int))) (fun _ _ hF => opMove rfl (hF.ev 3 rfl)) rfl (fun _ _ => rfl) (kM [true, true, true, false, true, true] rfl rfl) (by decide) ?_
              refine pxV (v := (.int .i64 ((((at_ + ((tkn (b.drop at_)).2.1)) + ((tkn (b.drop at_)).1)) : Nat) : Int))) (fun _ _ hF => opAdd rfl (hF.ev 1 rfl) (hF.ev 0 rfl) (wI (by omega) (by omega) (by omega))) rfl (fun _ _ => rfl) (kM [false, false, true, true, true, true] rfl rfl) (by decide) ?_
              refine pxV (v := (.int .i64 ((((at_ + ((tkn (b.drop at_)).2.1)) + ((tkn (b.drop at_)).1)) : Nat) : Int))) (fun _ _ hF => opAssign rfl (hF.ev 0 rfl)) rfl (fun _ _ => rfl) (kM [false, true, true, true, true] rfl rfl) (by decide) ?_
              refine pxEnd ?_
              refine qxThen ?_
              refine cxSeq ?_
              refine cxReg ?_
              refine pxV (v := (.bool ((tkn (b.drop at_)).2.2))) (fun _ _ hF => opMove rfl (hF.ev 2 rfl)) rfl (fun _ _ => rfl) (kM [true, true, false, true, true] rfl rfl) (by decide) ?_
              refine pxV (v := (.bool (!((tkn (b.drop at_)).2.2)))) (fun _ _ hF => opNot rfl (hF.ev 0 rfl) rfl) rfl (fun _ _ => rfl) (kM [false, true, true, true, true] rfl rfl) (by decide) ?_
              refine pxEnd ?_
              refine qxThen ?_
              refine cxB 0 rfl rfl (fun hc78 => ?_) (fun hc78 => ?_)
              · replace hc78 : ((tkn (b.drop at_)).2.2) = false := by simpa using hc78
                rw [hg2] at hc78; cases hc78
              · replace hc78 : ((tkn (b.drop at_)).2.2) = true := by simpa using hc78
                refine cxSkip ?_
                refine qxInN ?_
                refine qxThen ?_
                refine cxReg ?_
                refine pxV (v := (.bool false)) (fun _ _ hF => opAssign rfl rfl) rfl (fun _ _ => rfl) (kM [false, true, true, true, true] rfl rfl) (by decide) ?_
                refine pxEnd ?_
                have hp := tkn_part hg2
                have hle : (tkn (b.drop at_)).1 ≤ ((b.drop at_).drop (tkn (b.drop at_)).2.1).length := by rw [List.length_drop, List.length_drop]; omega
                exact qxRound ((body ++ ((b.take ((at_ + ((tkn (b.drop at_)).2.1)) + ((tkn (b.drop at_)).1))).drop (at_ + ((tkn (b.drop at_)).2.1)))), A73, c74, E76, (at_ + (tkn (b.drop at_)).2.1 + (tkn (b.drop at_)).1), false) ⟨hH, hO77, (show (at_ + (tkn (b.drop at_)).2.1 + (tkn (b.drop at_)).1) ≤ b.length from (by omega)), (show frs (mayT t) [] b = frs (mayT t) (body ++ ((b.take ((at_ + ((tkn (b.drop at_)).2.1)) + ((tkn (b.drop at_)).1))).drop (at_ + ((tkn (b.drop at_)).2.1)))) (b.drop (at_ + (tkn (b.drop at_)).2.1 + (tkn (b.drop at_)).1)) from (by rw [hf, part_eq, rest_eq]; exact frs_more2 hform (by omega) hle hg2)), (by rw [part_eq]; exact not_empty hp.1 hle), (show (body ++ ((b.take ((at_ + ((tkn (b.drop at_)).2.1)) + ((tkn (b.drop at_)).1))).drop (at_ + ((tkn (b.drop at_)).2.1)))).length ≤ 20000 from (by rw [part_eq]; exact body_le (by omega)))⟩ (show b.length - (at_ + (tkn (b.drop at_)).2.1 + (tkn (b.drop at_)).1) < b.length - at_ from by omega) (slots_at [0, 1, 2, 3, 4] rfl)
    · refine pxU rfl (gOff 0 rfl rfl rfl (by decide)) (kA rfl) (by decide) ?_
      refine pxU rfl (gOff 0 rfl rfl rfl (by decide)) (kA rfl) (by decide) ?_
      refine pxUK rfl (gOff 0 rfl rfl rfl (by decide)) (kA rfl) (by decide) ?_
      refine pxU rfl (gOffU 0 rfl rfl rfl) (kA rfl) (by decide) ?_
      refine pxU rfl (gOffU 0 rfl rfl rfl) (kA rfl) (by decide) ?_
      refine pxU rfl (gOff 1 rfl rfl rfl (by decide)) (kM [false, true, true, true, true, true, true, true, true, true, true] rfl rfl) (by decide) ?_
      refine pxUK rfl (gOff 0 rfl rfl rfl (by decide)) (kA rfl) (by decide) ?_
      refine pxU rfl (gOffU 0 rfl rfl rfl) (kA rfl) (by decide) ?_
      refine pxU rfl (gOffU 0 rfl rfl rfl) (kA rfl) (by decide) ?_
      refine pxU rfl (gOff 1 rfl rfl rfl (by decide)) (kM [false, true, true, true, true, true, true, true, true, true, true] rfl rfl) (by decide) ?_
      refine pxUK rfl (gOff 0 rfl rfl rfl (by decide)) (kA rfl) (by decide) ?_
      refine pxU rfl (gOffU 0 rfl rfl rfl) (kA rfl) (by decide) ?_
      refine pxU rfl (gOffU 0 rfl rfl rfl) (kA rfl) (by decide) ?_
      refine pxU rfl (gOff 1 rfl rfl rfl (by decide)) (kM [false, true, true, true, true, true, true, true, true, true, true] rfl rfl) (by decide) ?_
      refine pxUK rfl (gOff 0 rfl rfl rfl (by decide)) (kA rfl) (by decide) ?_
      refine pxU rfl (gOffU 0 rfl rfl rfl) (kM [true, true, true, true, true, true, false, true, true, true, true] rfl rfl) (by decide) ?_
      refine pxUK rfl (gOffU 0 rfl rfl rfl) (kA rfl) (by decide) ?_
      refine pxU rfl (gOffU 0 rfl rfl rfl) (kA rfl) (by decide) ?_
      refine pxU rfl (gOffU 0 rfl rfl rfl) (kA rfl) (by decide) ?_
      refine pxU rfl (gOffU 1 rfl rfl rfl) (kM [false, true, true, true, true, true, true, true, true, true, true] rfl rfl) (by decide) ?_
      refine pxU rfl (gOff 1 rfl rfl rfl (by decide)) (kM [false, true, true, true, true, true, true, true, true, true] rfl rfl) (by decide) ?_
      refine pxV (v := (.bool false)) (fun _ _ hF => opPickF rfl (hF.ev 0 rfl) rfl) rfl (gOn 1 rfl rfl rfl (by decide)) (kM [false, true, true, true, true, true, true, true, true] rfl rfl) (by decide) ?_
      refine pxV (v := (.bool false)) (fun _ _ hF => opPickF rfl (hF.ev 1 rfl) (hF.ev 0 rfl)) rfl (fun _ _ => rfl) (kM [false, false, true, true, true, true, true, true, true] rfl rfl) (by decide) ?_
      refine pxEnd ?_
      refine qxThen ?_
      refine cxF 0 rfl rfl ?_
      refine cxSkip ?_
      refine qxThen ?_
      refine cxSeq ?_
      refine cxSeq ?_
      have hform := frs_not (may := mayT t) (body := body) hg1 (.inl hg2)
      refine cxReg ?_
      refine pxV (v := (.int .i64 ((((tkn (b.drop at_)).1) : Nat) : Int))) (fun _ _ hF => opMove rfl (hF.ev 3 rfl)) rfl (fun _ _ => rfl) (kM [false, true, true, true, true, true, true, true] rfl rfl) (by decide) ?_
      refine pxV (v := (.slice Ab body.length cb)) (fun _ _ hF => opMove rfl (hF.ev 5 rfl)) rfl (fun _ _ => rfl) (kA rfl) (by decide) ?_
      refine pxV (v := (.int .i64 (((body.length) : Nat) : Int))) (fun _ _ hF => opLen (e := 5) rfl (by kernel_rfl) (hF.ev 0 rfl)) rfl (fun _ _ => rfl) (kM [false, true, true, true, true, true, true, true, true] rfl rfl) (by decide) ?_
      refine pxV (v := (.int .i64 (((20000 - body.length) : Nat) : Int))) (fun _ _ hF => opSub rfl rfl (hF.ev 0 rfl) (wI (by omega) (by omega) (by omega))) rfl (fun _ _ => rfl) (kM [false, true, true, true, true, true, true, true, true] rfl rfl) (by decide) ?_
      refine pxV (v := (.bool (decide ((tkn (b.drop at_)).1 > 20000 - body.length)))) (fun _ _ hF => opGtr rfl (hF.ev 1 rfl) (hF.ev 0 rfl) (dc (by omega))) rfl (fun _ _ => rfl) (kM [false, false, true, true, true, true, true, true, true] rfl rfl) (by decide) ?_
      refine pxEnd ?_
      refine qxThen ?_
      refine cxP 0 rfl rfl (fun hc79 => ?_) (fun hc79 => ?_)
      · refine cxSeq ?_
        refine cxReg ?_
        refine pxV (v := (.slice none 0 0)) (fun _ _ hF => opAssign rfl rfl) rfl (fun _ _ => rfl) (kM [false, false, false, false, false, false, false, false] rfl rfl) (by decide) ?_
        refine pxV (v := (.int .i64 0)) (fun _ _ hF => opAssign rfl rfl) rfl (fun _ _ => rfl) (kA rfl) (by decide) ?_
        refine pxV (v := (.int .i64 6)) (fun _ _ hF => opAssign rfl rfl) rfl (fun _ _ => rfl) (kA rfl) (by decide) ?_
        refine pxEnd ?_
        refine qxThen ?_
        refine cxRet ?_
        refine qxThenR ?_
        refine qxInR ?_
        refine qxThenR ?_
        refine qxThenR ?_
        refine qxInR ?_
        refine qxRet3 2 1 0 rfl rfl rfl rfl ?_
        have he := hf.trans (frs_long hform (by omega))
        exact ⟨_, [], rfl, ⟨.slice none 0 0, 0, (by rw [he]; first | done | rfl), (by rw [he]; exact OwnT.nil _ _), (by rw [he]; intro h; cases h)⟩, HH.out1 (HH.pad hH 1) [false, true] rfl⟩
      · refine cxSkip ?_
        refine qxThen ?_
        refine cxSeq ?_
        refine cxReg ?_
        refine pxV (v := (.int .i64 (((at_) : Nat) : Int))) (fun _ _ hF => opMove rfl (hF.ev 4 rfl)) rfl (fun _ _ => rfl) (kM [false, true, true, true, false, true, true, true] rfl rfl) (by decide) ?_
        refine pxV (v := (.int .i64 ((((tkn (b.drop at_)).2.1) : Nat) : Int))) (fun _ _ hF => opMove rfl (hF.ev 2 rfl)) rfl (fun _ _ => rfl) (kM [true, true, false, true, true, true, true] rfl rfl) (by decide) ?_
        refine pxV (v := (.int .i64 (((at_ + ((tkn (b.drop at_)).2.1)) : Nat) : Int))) (fun _ _ hF => opAdd rfl (hF.ev 1 rfl) (hF.ev 0 rfl) (wI (by omega) (by omega) (by omega))) rfl (fun _ _ => rfl) (kM [false, false, true, true, true, true, true] rfl rfl) (by decide) ?_
        refine pxV (v := (.int .i64 (((at_ + ((tkn (b.drop at_)).2.1)) : Nat) : Int))) (fun _ _ hF => opAssign rfl (hF.ev 0 rfl)) rfl (fun _ _ => rfl) (kM [false, true, true, true, true, true] rfl rfl) (by decide) ?_
        refine pxEnd ?_
        refine qxThen ?_
        refine cxSeq ?_
        refine cxSeq ?_
        refine cxReg ?_
        refine pxV (v := (.int .i64 ((((tkn (b.drop at_)).1) : Nat) : Int))) (fun _ _ hF => opMove rfl (hF.ev 2 rfl)) rfl (fun _ _ => rfl) (kA rfl) (by decide) ?_
        refine pxV (v := (.slice A n c)) (fun _ _ hF => opMove rfl (hF.ev 5 rfl)) rfl (fun _ _ => rfl) (kA rfl) (by decide) ?_
        refine pxV (v := (.int .i64 (((n) : Nat) : Int))) (fun _ _ hF => opLen (e := 5) rfl (by kernel_rfl) (hF.ev 0 rfl)) rfl (fun _ _ => rfl) (kM [false, true, true, true, true, true, true, true] rfl rfl) (by decide) ?_
        refine pxV (v := (.int .i64 (((at_ + ((tkn (b.drop at_)).2.1)) : Nat) : Int))) (fun _ _ hF => opMove rfl (hF.ev 2 rfl)) rfl (fun _ _ => rfl) (kA rfl) (by decide) ?_
        refine pxV (v := (.int .i64 (((n - (at_ + (tkn (b.drop at_)).2.1)) : Nat) : Int))) (fun _ _ hF => opSub rfl (hF.ev 1 rfl) (hF.ev 0 rfl) (wI (by omega) (by omega) (by omega))) rfl (fun _ _ => rfl) (kM [false, false, true, true, true, true, true, true, true] rfl rfl) (by decide) ?_
        refine pxV (v := (.bool (decide ((tkn (b.drop at_)).1 > n - (at_ + (tkn (b.drop at_)).2.1))))) (fun _ _ hF => opGtr rfl (hF.ev 1 rfl) (hF.ev 0 rfl) (dc (by omega))) rfl (fun _ _ => rfl) (kM [false, false, true, true, true, true, true, true] rfl rfl) (by decide) ?_
        refine pxEnd ?_
        refine qxThen ?_
        refine cxP 0 rfl rfl (fun hc80 => ?_) (fun hc80 => ?_)
        · refine cxSeq ?_
          refine cxReg ?_
          refine pxV (v := (.slice none 0 0)) (fun _ _ hF => opAssign rfl rfl) rfl (fun _ _ => rfl) (kM [false, false, false, false, false, false, false] rfl rfl) (by decide) ?_
          refine pxV (v := (.int .i64 0)) (fun _ _ hF => opAssign rfl rfl) rfl (fun _ _ => rfl) (kA rfl) (by decide) ?_
          refine pxV (v := (.int .i64 2)) (fun _ _ hF => opAssign rfl rfl) rfl (fun _ _ => rfl) (kA rfl) (by decide) ?_
          refine pxEnd ?_
          refine qxThen ?_
          refine cxRet ?_
          refine qxThenR ?_
          refine qxInR ?_
          refine qxThenR ?_
          refine qxThenR ?_
          refine qxInR ?_
          refine qxRet3 2 1 0 rfl rfl rfl rfl ?_
          have he := hf.trans (frs_few2 hform (by omega) (by rw [List.length_drop, List.length_drop]; omega))
          exact ⟨_, [], rfl, ⟨.slice none 0 0, 0, (by rw [he]; first | done | rfl), (by rw [he]; exact OwnT.nil _ _), (by rw [he]; intro h; cases h)⟩, HH.out1 (HH.pad hH 1) [false, true] rfl⟩
        · refine cxSkip ?_
          refine qxThen ?_
          refine cxSeq ?_
          refine cxReg ?_
          refine pxV (v := (.slice Ab body.length cb)) (fun _ _ hF => opMove rfl (hF.ev 4 rfl)) rfl (fun _ _ => rfl) (kM [false, true, true, true, false, true, true] rfl rfl) (by decide) ?_
          refine pxV (v := (.slice A n c)) (fun _ _ hF => opMove rfl (hF.ev 4 rfl)) rfl (fun _ _ => rfl) (kA rfl) (by decide) ?_
          refine pxV (v := (.int .i64 (((at_ + ((tkn (b.drop at_)).2.1)) : Nat) : Int))) (fun _ _ hF => opMove rfl (hF.ev 2 rfl)) rfl (fun _ _ => rfl) (kA rfl) (by decide) ?_
          refine pxV (v := (.int .i64 (((at_ + ((tkn (b.drop at_)).2.1)) : Nat) : Int))) (fun _ _ hF => opMove rfl (hF.ev 3 rfl)) rfl (fun _ _ => rfl) (kA rfl) (by decide) ?_
          refine pxV (v := (.int .i64 ((((tkn (b.drop at_)).1) : Nat) : Int))) (fun _ _ hF => opMove rfl (hF.ev 6 rfl)) rfl (fun _ _ => rfl) (kA rfl) (by decide) ?_
          refine pxV (v := (.int .i64 ((((at_ + ((tkn (b.drop at_)).2.1)) + ((tkn (b.drop at_)).1)) : Nat) : Int))) (fun _ _ hF => opAdd rfl (hF.ev 1 rfl) (hF.ev 0 rfl) (wI (by omega) (by omega) (by omega))) rfl (fun _ _ => rfl) (kM [false, false, true, true, true, true, true, true, true, true] rfl rfl) (by decide) ?_
          refine pxV (v := (.slice (cutA A c (at_ + ((tkn (b.drop at_)).2.1)) 1) (((at_ + ((tkn (b.drop at_)).2.1)) + ((tkn (b.drop at_)).1)) - (at_ + ((tkn (b.drop at_)).2.1))) (c - (at_ + ((tkn (b.drop at_)).2.1))))) (fun _ _ hF => opCutLH (k := at_ + ((tkn (b.drop at_)).2.1)) (h := (at_ + ((tkn (b.drop at_)).2.1)) + ((tkn (b.drop at_)).1)) (e := 5) (sz := 1) rfl (by kernel_rfl) (by kernel_rfl) (hF.ev 2 rfl) (hF.ev 1 rfl) (hF.ev 0 rfl) rfl rfl (by omega) (by omega)) rfl (fun _ _ => rfl) (kM [false, false, false, true, true, true, true, true, true] rfl rfl) (by decide) ?_
          refine pxE 0 hH rfl (fun _ hF => smAppT (C := cByte) (l := body) (m := ((b.take ((at_ + ((tkn (b.drop at_)).2.1)) + ((tkn (b.drop at_)).1))).drop (at_ + ((tkn (b.drop at_)).2.1)))) (e := 5) (z := (.int .u8 0)) (by_ := 1) rfl (by kernel_rfl) (by kernel_rfl) rfl (ltb rfl) (hF.ev 1 rfl) hO (hF.ev 0 rfl) (by rw [List.length_drop, List.length_take]; omega) (((hH.vu hR (by decide) (Off.nil _ _)).cut (k := at_ + ((tkn (b.drop at_)).2.1)) (m := (at_ + ((tkn (b.drop at_)).2.1)) + ((tkn (b.drop at_)).1)) (by omega) (by omega))).nilA (by unfold maxLen; omega) (by omega)) ((hH.vu hR (by decide) (Off.nil _ _)).cut (k := at_ + ((tkn (b.drop at_)).2.1)) (m := (at_ + ((tkn (b.drop at_)).2.1)) + ((tkn (b.drop at_)).1)) (by omega) (by omega)) rfl (fun _ _ => rfl) (kM [false, false, true, true, true, true, true] rfl rfl) (by decide) ?_
          clear hH
          rintro v83 E84 w ⟨hO85, _⟩ hH
          replace hH : HH w0 [] [E84] w := hH
          replace hO85 : OwnT cByte 5 v83 (body ++ ((b.take ((at_ + ((tkn (b.drop at_)).2.1)) + ((tkn (b.drop at_)).1))).drop (at_ + ((tkn (b.drop at_)).2.1)))) E84 := hO85
          obtain ⟨A81, c82, rfl⟩ := hO85.slice
          refine pxV (v := (.slice A81 ((body ++ ((b.take ((at_ + ((tkn (b.drop at_)).2.1)) + ((tkn (b.drop at_)).1))).drop (at_ + ((tkn (b.drop at_)).2.1)))).length) c82)) (fun _ _ hF => opAssign rfl (hF.ev 0 rfl)) rfl (fun _ _ => rfl) (kM [false, true, true, true, true, true] rfl rfl) (by decide) ?_
          refine pxEnd ?_
          refine qxThen ?_
          refine cxSeq ?_
          refine cxReg ?_
          refine pxV (v := (.int .i64 (((at_ + ((tkn (b.drop at_)).2.1)) : Nat) : Int))) (fun _ _ hF => opMove rfl (hF.ev 1 rfl)) rfl (fun _ _ => rfl) (kM [true, false, true, true, true, true] rfl rfl) (by decide) ?_
          refine pxV (v := (.int .i64 ((((tkn (b.drop at_)).1) : Nat) : Int))) (fun _ _ hF => opMove rfl (hF.ev 3 rfl)) rfl (fun _ _ => rfl) (kM [true, true, true, false, true, true] rfl rfl) (by decide) ?_
          refine pxV (v := (.int .i64 ((((at_ + ((tkn (b.drop at_)).2.1)) + ((tkn (b.drop at_)).1)) : Nat) : Int))) (fun _ _ hF => opAdd rfl (hF.ev 1 rfl) (hF.ev 0 rfl) (wI (by omega) (by omega) (by omega))) rfl (fun _ _ => rfl) (kM [false, false, true, true, true, true] rfl rfl) (by decide) ?_
          refine pxV (v := (.int .i64 ((((at_ + ((tkn (b.drop at_)).2.1)) + ((tkn (b.drop at_)).1)) : Nat) : Int))) (fun _ _ hF => opAssign rfl (hF.ev 0 rfl)) rfl (fun _ _ => rfl) (kM [false, true, true, true, true] rfl rfl) (by decide) ?_
          refine pxEnd ?_
          refine qxThen ?_
          refine cxSeq ?_
          refine cxReg ?_
          refine pxV (v := (.bool ((tkn (b.drop at_)).2.2))) (fun _ _ hF => opMove rfl (hF.ev 2 rfl)) rfl (fun _ _ => rfl) (kM [true, true, false, true, true] rfl rfl) (by decide) ?_
          refine pxV (v := (.bool (!((tkn (b.drop at_)).2.2)))) (fun _ _ hF => opNot rfl (hF.ev 0 rfl) rfl) rfl (fun _ _ => rfl) (kM [false, true, true, true, true] rfl rfl) (by decide) ?_
          refine pxEnd ?_
          refine qxThen ?_
          refine cxB 0 rfl rfl (fun hc86 => ?_) (fun hc86 => ?_)
          · replace hc86 : ((tkn (b.drop at_)).2.2) = false := by simpa using hc86
            refine cxSeq ?_
            refine cxReg ?_
            refine pxV (v := (.slice A81 ((body ++ ((b.take ((at_ + ((tkn (b.drop at_)).2.1)) + ((tkn (b.drop at_)).1))).drop (at_ + ((tkn (b.drop at_)).2.1)))).length) c82)) (fun _ _ hF => opMove rfl (hF.ev 2 rfl)) rfl (fun _ _ => rfl) (kM [false, true, false, false, false] rfl rfl) (by decide) ?_
            refine pxV (v := (.int .i64 ((((at_ + ((tkn (b.drop at_)).2.1)) + ((tkn (b.drop at_)).1)) : Nat) : Int))) (fun _ _ hF => opMove rfl (hF.ev 1 rfl)) rfl (fun _ _ => rfl) (kM [true, false] rfl rfl) (by decide) ?_
            refine pxV (v := (.slice A81 ((body ++ ((b.take ((at_ + ((tkn (b.drop at_)).2.1)) + ((tkn (b.drop at_)).1))).drop (at_ + ((tkn (b.drop at_)).2.1)))).length) c82)) (fun _ _ hF => opAssign rfl (hF.ev 1 rfl)) rfl (fun _ _ => rfl) (kM [true, false] rfl rfl) (by decide) ?_
            refine pxV (v := (.int .i64 ((((at_ + ((tkn (b.drop at_)).2.1)) + ((tkn (b.drop at_)).1)) : Nat) : Int))) (fun _ _ hF => opAssign rfl (hF.ev 1 rfl)) rfl (fun _ _ => rfl) (kM [true, false] rfl rfl) (by decide) ?_
            refine pxV (v := (.int .i64 0)) (fun _ _ hF => opAssign rfl rfl) rfl (fun _ _ => rfl) (kA rfl) (by decide) ?_
            refine pxEnd ?_
            refine qxThen ?_
            refine cxRet ?_
            refine qxInR ?_
            refine qxThenR ?_
            refine qxThenR ?_
            refine qxInR ?_
            refine qxRet3 2 1 0 rfl rfl rfl rfl ?_
            have hle : (tkn (b.drop at_)).1 ≤ ((b.drop at_).drop (tkn (b.drop at_)).2.1).length := by rw [List.length_drop, List.length_drop]; omega
            have hq := frs_last2 hform (by omega) hle hg2
            rw [← part_eq, ← rest_eq] at hq
            have he := hf.trans hq
            exact ⟨_, _, rfl, ⟨(.slice A81 ((body ++ ((b.take ((at_ + ((tkn (b.drop at_)).2.1)) + ((tkn (b.drop at_)).1))).drop (at_ + ((tkn (b.drop at_)).2.1)))).length) c82), (at_ + ((tkn (b.drop at_)).2.1)) + ((tkn (b.drop at_)).1), (by rw [he]; first | done | rfl), (by rw [he]; exact hO85), (by rw [he]; intro _; exact ⟨by omega, rfl⟩)⟩, hH.out1 [true] rfl⟩
          · replace hc86 : ((tkn (b.drop at_)).2.2) = true := by simpa using hc86
            rw [hg2] at hc86; cases hc86

set_option maxHeartbeats 8000000 in
theorem legacy_c (kind : Nat) (hk : kind < 4) (A : Option Addr) (n c : Nat) (b : List UInt8) (hn : n = b.length) (hbig : n ≤ 4398046511104) : Does Try.prog 22 #[(.int .u8 (((kind) : Nat) : Int)), (.slice A n c)] [] (fun w => Vu cByte w A n c b) (fun v E' => ∃ s m, v = .tuple #[s, .int .i64 ((m : Nat) : Int), .int .i64 ((leg kind b).1 : Int)] ∧ OwnT cByte 5 s (leg kind b).2.1 E' ∧ ((leg kind b).1 = 0 → m ≤ b.length ∧ b.drop m = (leg kind b).2.2)) := by
  refine does_of (fn := Try.f22) Try.func22 rfl Try.ntmps22 (Nat.le_of_ble_eq_true rfl) rfl ?_
  intro w0 hH hR
  replace hH : HH w0 [] [] w0 := hH.only [false]
  have hcap := hR.cap
  have h8 : 2 ^ kind ≤ 8 := Nat.le_trans (Nat.pow_le_pow_right (by decide) (show kind ≤ 3 by omega)) (by decide)
  refine cxSeq ?_
  refine cxReg ?_
  refine pxV (v := (.slice none 0 0)) (fun _ _ hF => opAssign rfl rfl) rfl (fun _ _ => rfl) (kA rfl) (by decide) ?_
  refine pxV (v := (.int .i64 0)) (fun _ _ hF => opAssign rfl rfl) rfl (fun _ _ => rfl) (kM [false, true, true] rfl rfl) (by decide) ?_
  refine pxV (v := (.int .i64 0)) (fun _ _ hF => opAssign rfl rfl) rfl (fun _ _ => rfl) (kM [false, true, true] rfl rfl) (by decide) ?_
  refine pxEnd ?_
  refine qxThen ?_
  refine cxSeq ?_
  refine cxReg ?_
  refine pxV (v := (.int .u8 (((kind) : Nat) : Int))) (fun _ _ hF => opMove rfl (hF.ev 1 rfl)) rfl (fun _ _ => rfl) (kM [false, true, true] rfl rfl) (by decide) ?_
  refine pxV (v := (.int .i64 (((2 ^ kind) : Nat) : Int))) (fun _ _ hF => opShlI (m := 1) (n := kind) (z := (2 ^ kind)) rfl rfl (hF.ev 0 rfl) (by omega) (Nat.one_mul _) (by omega)) rfl (fun _ _ => rfl) (kM [false, true, true] rfl rfl) (by decide) ?_
  refine pxV (v := (.int .i64 (((2 ^ kind) : Nat) : Int))) (fun _ _ hF => opAssign rfl (hF.ev 0 rfl)) rfl (fun _ _ => rfl) (kM [false, true, true] rfl rfl) (by decide) ?_
  refine pxEnd ?_
  refine qxThen ?_
  refine cxSeq ?_
  refine cxReg ?_
  refine pxV (v := (.slice A n c)) (fun _ _ hF => opMove rfl (hF.ev 2 rfl)) rfl (fun _ _ => rfl) (kA rfl) (by decide) ?_
  refine pxV (v := (.int .i64 (((n) : Nat) : Int))) (fun _ _ hF => opLen (e := 5) rfl (by kernel_rfl) (hF.ev 0 rfl)) rfl (fun _ _ => rfl) (kM [false, true, true, true] rfl rfl) (by decide) ?_
  refine pxV (v := (.int .i64 (((n) : Nat) : Int))) (fun _ _ hF => opAssign rfl (hF.ev 0 rfl)) rfl (fun _ _ => rfl) (kM [false, true, true, true] rfl rfl) (by decide) ?_
  refine pxEnd ?_
  refine qxThen ?_
  refine cxSeq ?_
  refine cxSeq ?_
  refine cxReg ?_
  refine pxV (v := (.int .u8 (((kind) : Nat) : Int))) (fun _ _ hF => opMove rfl (hF.ev 2 rfl)) rfl (fun _ _ => rfl) (kM [true, true, false, true] rfl rfl) (by decide) ?_
  refine pxV (v := (.bool (decide (kind = 3)))) (fun _ _ hF => opEqI rfl (hF.ev 0 rfl) rfl (dc (by omega))) rfl (fun _ _ => rfl) (kM [false, true, true, true] rfl rfl) (by decide) ?_
  refine pxEnd ?_
  refine qxThen ?_
  refine cxP 0 rfl rfl (fun hc1 => ?_) (fun hc1 => ?_)
  · refine cxReg ?_
    refine pxV (v := (.int .i64 0)) (fun _ _ hF => opAssign rfl rfl) rfl (fun _ _ => rfl) (kM [false, true, false, true] rfl rfl) (by decide) ?_
    refine pxEnd ?_
    refine qxThen ?_
    refine cxSeq ?_
    refine cxSeq ?_
    refine cxReg ?_
    refine pxV (v := (.int .i64 (((n) : Nat) : Int))) (fun _ _ hF => opMove rfl (hF.ev 1 rfl)) rfl (fun _ _ => rfl) (kA rfl) (by decide) ?_
    refine pxV (v := (.bool (decide (n > 20000)))) (fun _ _ hF => opGtr rfl (hF.ev 0 rfl) rfl (dc (by omega))) rfl (fun _ _ => rfl) (kM [false, true, true, true] rfl rfl) (by decide) ?_
    refine pxEnd ?_
    refine qxThen ?_
    refine cxP 0 rfl rfl (fun hc2 => ?_) (fun hc2 => ?_)
    · refine cxSeq ?_
      refine cxReg ?_
      refine pxV (v := (.slice none 0 0)) (fun _ _ hF => opAssign rfl rfl) rfl (fun _ _ => rfl) (kM [false, false, false, false] rfl rfl) (by decide) ?_
      refine pxV (v := (.int .i64 0)) (fun _ _ hF => opAssign rfl rfl) rfl (fun _ _ => rfl) (kA rfl) (by decide) ?_
      refine pxV (v := (.int .i64 6)) (fun _ _ hF => opAssign rfl rfl) rfl (fun _ _ => rfl) (kA rfl) (by decide) ?_
      refine pxEnd ?_
      refine qxThen ?_
      refine cxRet ?_
      refine qxThenR ?_
      refine qxRet3 2 1 0 rfl rfl rfl rfl ?_
      have he := leg_end_long hc1 (b := b) (by omega)
      exact ⟨_, [], rfl, ⟨.slice none 0 0, 0, (by rw [he]; first | done | rfl), (by rw [he]; exact OwnT.nil _ _), (by rw [he]; intro h; cases h)⟩, HH.out1 (HH.pad hH 1) [true] rfl⟩
    · refine cxSkip ?_
      refine qxThen ?_
      refine cxSeq ?_
      refine cxSeq ?_
      refine cxReg ?_
      refine pxV (v := (.int .i64 (((n) : Nat) : Int))) (fun _ _ hF => opMove rfl (hF.ev 2 rfl)) rfl (fun _ _ => rfl) (kM [false, true, true, true] rfl rfl) (by decide) ?_
      refine pxV (v := (.slice A n c)) (fun _ _ hF => opMove rfl (hF.ev 3 rfl)) rfl (fun _ _ => rfl) (kA rfl) (by decide) ?_
      refine pxV (v := (.int .i64 (((n) : Nat) : Int))) (fun _ _ hF => opLen (e := 5) rfl (by kernel_rfl) (hF.ev 0 rfl)) rfl (fun _ _ => rfl) (kM [false, true, true, true, true] rfl rfl) (by decide) ?_
      refine pxV (v := (.int .i64 0)) (fun _ _ hF => opMove rfl (hF.ev 2 rfl)) rfl (fun _ _ => rfl) (kA rfl) (by decide) ?_
      refine pxV (v := (.int .i64 (((n - 0) : Nat) : Int))) (fun _ _ hF => opSub rfl (hF.ev 1 rfl) (hF.ev 0 rfl) (wI (by omega) (by omega) (by omega))) rfl (fun _ _ => rfl) (kM [false, false, true, true, true, true] rfl rfl) (by decide) ?_
      refine pxV (v := (.bool (decide (n > n - 0)))) (fun _ _ hF => opGtr rfl (hF.ev 1 rfl) (hF.ev 0 rfl) (dc (by omega))) rfl (fun _ _ => rfl) (kM [false, false, true, true, true] rfl rfl) (by decide) ?_
      refine pxEnd ?_
      refine qxThen ?_
      refine cxP 0 rfl rfl (fun hc3 => ?_) (fun hc3 => ?_)
      · refine cxSeq ?_
        refine cxReg ?_
        refine pxV (v := (.slice none 0 0)) (fun _ _ hF => opAssign rfl rfl) rfl (fun _ _ => rfl) (kM [false, false, false, false] rfl rfl) (by decide) ?_
        refine pxV (v := (.int .i64 0)) (fun _ _ hF => opAssign rfl rfl) rfl (fun _ _ => rfl) (kA rfl) (by decide) ?_
        refine pxV (v := (.int .i64 2)) (fun _ _ hF => opAssign rfl rfl) rfl (fun _ _ => rfl) (kA rfl) (by decide) ?_
        refine pxEnd ?_
        refine qxThen ?_
        refine cxRet ?_
        refine qxThenR ?_
        refine qxRet3 2 1 0 rfl rfl rfl rfl ?_
        exact absurd hc3 (by omega)
      · refine cxSkip ?_
        refine qxThen ?_
        refine cxSeq ?_
        refine cxReg ?_
        refine pxM hH (fun _ hF => smLit0 (e := 5) rfl (by kernel_rfl) (by kernel_rfl)) trivial rfl (fun _ _ => rfl) (kM [false, true, true, true] rfl rfl) (by decide) ?_
        clear hH
        rintro _ _ w ⟨g4, rfl, rfl⟩ hH
        replace hH : HH w0 [] [[bl g4 5 #[]]] w := hH
        refine pxV (v := (.slice A n c)) (fun _ _ hF => opMove rfl (hF.ev 3 rfl)) rfl (fun _ _ => rfl) (kM [true, true, true, false] rfl rfl) (by decide) ?_
        refine pxV (v := (.int .i64 0)) (fun _ _ hF => opMove rfl (hF.ev 2 rfl)) rfl (fun _ _ => rfl) (kA rfl) (by decide) ?_
        refine pxV (v := (.int .i64 0)) (fun _ _ hF => opMove rfl (hF.ev 3 rfl)) rfl (fun _ _ => rfl) (kA rfl) (by decide) ?_
        refine pxV (v := (.int .i64 (((n) : Nat) : Int))) (fun _ _ hF => opMove rfl (hF.ev 5 rfl)) rfl (fun _ _ => rfl) (kA rfl) (by decide) ?_
        refine pxV (v := (.int .i64 (((0 + n) : Nat) : Int))) (fun _ _ hF => opAdd rfl (hF.ev 1 rfl) (hF.ev 0 rfl) (wI (by omega) (by omega) (by omega))) rfl (fun _ _ => rfl) (kM [false, false, true, true, true, true, true] rfl rfl) (by decide) ?_
        refine pxV (v := (.slice (cutA A c 0 1) ((0 + n) - 0) (c - 0))) (fun _ _ hF => opCutLH (k := 0) (h := 0 + n) (e := 5) (sz := 1) rfl (by kernel_rfl) (by kernel_rfl) (hF.ev 2 rfl) (hF.ev 1 rfl) (hF.ev 0 rfl) rfl rfl (by omega) (by omega)) rfl (fun _ _ => rfl) (kM [false, false, false, true, true, true] rfl rfl) (by decide) ?_
        refine pxE 0 hH rfl (fun _ hF => smAppT (C := cByte) (l := []) (m := (b.take (0 + n))) (e := 5) (z := (.int .u8 0)) (by_ := 1) rfl (by kernel_rfl) (by kernel_rfl) rfl (ltb rfl) (hF.ev 1 rfl) ((Bk.lit0 (C := cByte)).own 5 g4 rfl) (hF.ev 0 rfl) (by first | (rw [List.length_drop, List.length_take]; omega) | (rw [List.length_take]; omega)) (((hH.vu hR (by decide) (Off.nil _ _)).cut (k := 0) (m := 0 + n) (by omega) (by omega))).nilA (by rw [List.length_nil]; unfold maxLen; omega) (by rw [List.length_nil]; omega)) ((hH.vu hR (by decide) (Off.nil _ _)).cut (k := 0) (m := 0 + n) (by omega) (by omega)) rfl (fun _ _ => rfl) (kM [false, false, true, true] rfl rfl) (by decide) ?_
        clear hH
        rintro v7 E8 w ⟨hO9, _⟩ hH
        replace hH : HH w0 [] [E8] w := hH
        replace hO9 : OwnT cByte 5 v7 (b.take (0 + n)) E8 := hO9
        obtain ⟨A5, c6, rfl⟩ := hO9.slice
        refine pxV (v := (.int .i64 0)) (fun _ _ hF => opMove rfl (hF.ev 1 rfl)) rfl (fun _ _ => rfl) (kM [true, false, true] rfl rfl) (by decide) ?_
        refine pxV (v := (.int .i64 (((n) : Nat) : Int))) (fun _ _ hF => opMove rfl (hF.ev 2 rfl)) rfl (fun _ _ => rfl) (kM [true, true, false] rfl rfl) (by decide) ?_
        refine pxV (v := (.int .i64 (((0 + n) : Nat) : Int))) (fun _ _ hF => opAdd rfl (hF.ev 1 rfl) (hF.ev 0 rfl) (wI (by omega) (by omega) (by omega))) rfl (fun _ _ => rfl) (kM [false, false, true] rfl rfl) (by decide) ?_
        refine pxV (v := (.slice A5 ((b.take (0 + n)).length) c6)) (fun _ _ hF => opAssign rfl (hF.ev 1 rfl)) rfl (fun _ _ => rfl) (kM [true, false] rfl rfl) (by decide) ?_
        refine pxV (v := (.int .i64 (((0 + n) : Nat) : Int))) (fun _ _ hF => opAssign rfl (hF.ev 1 rfl)) rfl (fun _ _ => rfl) (kM [true, false] rfl rfl) (by decide) ?_
        refine pxV (v := (.int .i64 0)) (fun _ _ hF => opAssign rfl rfl) rfl (fun _ _ => rfl) (kA rfl) (by decide) ?_
        refine pxEnd ?_
        refine qxThen ?_
        refine cxRet ?_
        refine qxRet3 2 1 0 rfl rfl rfl rfl ?_
        have he := leg_end hc1 hn (by omega)
        exact ⟨_, _, rfl, ⟨(.slice A5 ((b.take (0 + n)).length) c6), 0 + n, (by rw [he]; first | done | rfl), (by rw [he]; exact hO9), (by rw [he]; intro _; exact ⟨by omega, rfl⟩)⟩, hH.out1 [true] rfl⟩
  · obtain ⟨hK, hK8⟩ := legK_small hk hc1
    have hN := legN_lt (b := b) hk hc1
    refine cxSeq ?_
    refine cxSeq ?_
    refine cxReg ?_
    refine pxV (v := (.slice A n c)) (fun _ _ hF => opMove rfl (hF.ev 3 rfl)) rfl (fun _ _ => rfl) (kM [false, false, true, true] rfl rfl) (by decide) ?_
    refine pxV (v := (.int .i64 (((n) : Nat) : Int))) (fun _ _ hF => opLen (e := 5) rfl (by kernel_rfl) (hF.ev 0 rfl)) rfl (fun _ _ => rfl) (kM [false, true, true] rfl rfl) (by decide) ?_
    refine pxV (v := (.int .i64 (((2 ^ kind) : Nat) : Int))) (fun _ _ hF => opMove rfl (hF.ev 1 rfl)) rfl (fun _ _ => rfl) (kA rfl) (by decide) ?_
    refine pxV (v := (.bool (decide (n < 2 ^ kind)))) (fun _ _ hF => opLss rfl (hF.ev 1 rfl) (hF.ev 0 rfl) (dc (by omega))) rfl (fun _ _ => rfl) (kM [false, false, true, true] rfl rfl) (by decide) ?_
    refine pxEnd ?_
    refine qxThen ?_
    refine cxP 0 rfl rfl (fun hc10 => ?_) (fun hc10 => ?_)
    · refine cxSeq ?_
      refine cxReg ?_
      refine pxV (v := (.slice none 0 0)) (fun _ _ hF => opAssign rfl rfl) rfl (fun _ _ => rfl) (kM [false, false, false] rfl rfl) (by decide) ?_
      refine pxV (v := (.int .i64 0)) (fun _ _ hF => opAssign rfl rfl) rfl (fun _ _ => rfl) (kA rfl) (by decide) ?_
      refine pxV (v := (.int .i64 2)) (fun _ _ hF => opAssign rfl rfl) rfl (fun _ _ => rfl) (kA rfl) (by decide) ?_
      refine pxEnd ?_
      refine qxThen ?_
      refine cxRet ?_
      refine qxThenR ?_
      refine qxThenR ?_
      refine qxRet3 2 1 0 rfl rfl rfl rfl ?_
      have he := leg_no (kind := kind) (b := b) (by omega)
      exact ⟨_, [], rfl, ⟨.slice none 0 0, 0, (by rw [he]; first | done | rfl), (by rw [he]; exact OwnT.nil _ _), (by rw [he]; intro h; cases h)⟩, HH.out1 (HH.pad hH 1) [true] rfl⟩
    · refine cxSkip ?_
      refine qxThen ?_
      refine cxReg ?_
      refine pxV (v := (.slice A n c)) (fun _ _ hF => opMove rfl (hF.ev 2 rfl)) rfl (fun _ _ => rfl) (kM [false, true, true] rfl rfl) (by decide) ?_
      refine pxV (v := (.int .i64 (((2 ^ kind) : Nat) : Int))) (fun _ _ hF => opMove rfl (hF.ev 1 rfl)) rfl (fun _ _ => rfl) (kA rfl) (by decide) ?_
      refine pxV (v := (.slice A (2 ^ kind) c)) (fun _ _ hF => opCutH (h := 2 ^ kind) (e := 5) (sz := 1) rfl (by kernel_rfl) (by kernel_rfl) (hF.ev 1 rfl) (hF.ev 0 rfl) rfl (by omega)) rfl (fun _ _ => rfl) (kM [false, false, true, true] rfl rfl) (by decide) ?_
      refine pxM hH (fun _ hF => Does.small ((Pure.as (v := (.int .u64 ((((legN kind b)) : Nat) : Int))) (number_r A c (b.take (2 ^ kind)) (2 ^ kind) (by rw [List.length_take]; omega) (by omega)) (by rw [← hK, legN_of hc1])).does) (fun w => opCall rfl Try.func26 rfl rfl (Evs.cons (v := (.slice A (2 ^ kind) c)) (hF.ev 0 rfl) Evs.nil) w)) ((hH.vu hR (by decide) (Off.nil _ _)).head (m := 2 ^ kind) (by omega)) rfl (fun _ _ => rfl) (kM [false, true, true] rfl rfl) (by decide) ?_
      clear hH
      rintro _ _ w ⟨rfl, rfl⟩ hH
      replace hH : HH w0 [] [] w := hH.unpad
      refine pxV (v := (.int .i64 ((((legN kind b)) : Nat) : Int))) (fun _ _ hF => opConvI (k' := .i64) rfl (by kernel_rfl) (by kernel_rfl) (hF.ev 0 rfl) (wI rfl (by omega) (by omega))) rfl (fun _ _ => rfl) (kM [false, true, true] rfl rfl) (by decide) ?_
      refine pxV (v := (.int .i64 ((((legN kind b)) : Nat) : Int))) (fun _ _ hF => opAssign rfl (hF.ev 0 rfl)) rfl (fun _ _ => rfl) (kM [false, true, true] rfl rfl) (by decide) ?_
      refine pxEnd ?_
      refine qxThen ?_
      refine cxSeq ?_
      refine cxSeq ?_
      refine cxReg ?_
      refine pxV (v := (.int .i64 ((((legN kind b)) : Nat) : Int))) (fun _ _ hF => opMove rfl (hF.ev 0 rfl)) rfl (fun _ _ => rfl) (kA rfl) (by decide) ?_
      refine pxV (v := (.bool (decide ((legN kind b) > 20000)))) (fun _ _ hF => opGtr rfl (hF.ev 0 rfl) rfl (dc (by omega))) rfl (fun _ _ => rfl) (kM [false, true, true, true] rfl rfl) (by decide) ?_
      refine pxEnd ?_
      refine qxThen ?_
      refine cxP 0 rfl rfl (fun hc11 => ?_) (fun hc11 => ?_)
      · refine cxSeq ?_
        refine cxReg ?_
        refine pxV (v := (.slice none 0 0)) (fun _ _ hF => opAssign rfl rfl) rfl (fun _ _ => rfl) (kM [false, false, false, false] rfl rfl) (by decide) ?_
        refine pxV (v := (.int .i64 0)) (fun _ _ hF => opAssign rfl rfl) rfl (fun _ _ => rfl) (kA rfl) (by decide) ?_
        refine pxV (v := (.int .i64 6)) (fun _ _ hF => opAssign rfl rfl) rfl (fun _ _ => rfl) (kA rfl) (by decide) ?_
        refine pxEnd ?_
        refine qxThen ?_
        refine cxRet ?_
        refine qxThenR ?_
        refine qxRet3 2 1 0 rfl rfl rfl rfl ?_
        have he := leg_long (kind := kind) (b := b) (by omega) hc11
        exact ⟨_, [], rfl, ⟨.slice none 0 0, 0, (by rw [he]; first | done | rfl), (by rw [he]; exact OwnT.nil _ _), (by rw [he]; intro h; cases h)⟩, HH.out1 (HH.pad hH 1) [true] rfl⟩
      · refine cxSkip ?_
        refine qxThen ?_
        refine cxSeq ?_
        refine cxSeq ?_
        refine cxReg ?_
        refine pxV (v := (.int .i64 ((((legN kind b)) : Nat) : Int))) (fun _ _ hF => opMove rfl (hF.ev 1 rfl)) rfl (fun _ _ => rfl) (kM [false, true, true, true] rfl rfl) (by decide) ?_
        refine pxV (v := (.slice A n c)) (fun _ _ hF => opMove rfl (hF.ev 3 rfl)) rfl (fun _ _ => rfl) (kA rfl) (by decide) ?_
        refine pxV (v := (.int .i64 (((n) : Nat) : Int))) (fun _ _ hF => opLen (e := 5) rfl (by kernel_rfl) (hF.ev 0 rfl)) rfl (fun _ _ => rfl) (kM [false, true, true, true, true] rfl rfl) (by decide) ?_
        refine pxV (v := (.int .i64 (((2 ^ kind) : Nat) : Int))) (fun _ _ hF => opMove rfl (hF.ev 3 rfl)) rfl (fun _ _ => rfl) (kA rfl) (by decide) ?_
        refine pxV (v := (.int .i64 (((n - 2 ^ kind) : Nat) : Int))) (fun _ _ hF => opSub rfl (hF.ev 1 rfl) (hF.ev 0 rfl) (wI (by omega) (by omega) (by omega))) rfl (fun _ _ => rfl) (kM [false, false, true, true, true, true] rfl rfl) (by decide) ?_
        refine pxV (v := (.bool (decide ((legN kind b) > n - 2 ^ kind)))) (fun _ _ hF => opGtr rfl (hF.ev 1 rfl) (hF.ev 0 rfl) (dc (by omega))) rfl (fun _ _ => rfl) (kM [false, false, true, true, true] rfl rfl) (by decide) ?_
        refine pxEnd ?_
        refine qxThen ?_
        refine cxP 0 rfl rfl (fun hc12 => ?_) (fun hc12 => ?_)
        · refine cxSeq ?_
          refine cxReg ?_
          refine pxV (v := (.slice none 0 0)) (fun _ _ hF => opAssign rfl rfl) rfl (fun _ _ => rfl) (kM [false, false, false, false] rfl rfl) (by decide) ?_
          refine pxV (v := (.int .i64 0)) (fun _ _ hF => opAssign rfl rfl) rfl (fun _ _ => rfl) (kA rfl) (by decide) ?_
          refine pxV (v := (.int .i64 2)) (fun _ _ hF => opAssign rfl rfl) rfl (fun _ _ => rfl) (kA rfl) (by decide) ?_
          refine pxEnd ?_
          refine qxThen ?_
          refine cxRet ?_
          refine qxThenR ?_
          refine qxRet3 2 1 0 rfl rfl rfl rfl ?_
          have he := leg_few2 (b := b) hK (by omega) (by omega) (by omega)
          exact ⟨_, [], rfl, ⟨.slice none 0 0, 0, (by rw [he]; first | done | rfl), (by rw [he]; exact OwnT.nil _ _), (by rw [he]; intro h; cases h)⟩, HH.out1 (HH.pad hH 1) [true] rfl⟩
        · refine cxSkip ?_
          refine qxThen ?_
          refine cxSeq ?_
          refine cxReg ?_
          refine pxM hH (fun _ hF => smLit0 (e := 5) rfl (by kernel_rfl) (by kernel_rfl)) trivial rfl (fun _ _ => rfl) (kM [false, true, true, true] rfl rfl) (by decide) ?_
          clear hH
          rintro _ _ w ⟨g13, rfl, rfl⟩ hH
          replace hH : HH w0 [] [[bl g13 5 #[]]] w := hH
          refine pxV (v := (.slice A n c)) (fun _ _ hF => opMove rfl (hF.ev 3 rfl)) rfl (fun _ _ => rfl) (kM [true, true, true, false] rfl rfl) (by decide) ?_
          refine pxV (v := (.int .i64 (((2 ^ kind) : Nat) : Int))) (fun _ _ hF => opMove rfl (hF.ev 3 rfl)) rfl (fun _ _ => rfl) (kA rfl) (by decide) ?_
          refine pxV (v := (.int .i64 (((2 ^ kind) : Nat) : Int))) (fun _ _ hF => opMove rfl (hF.ev 4 rfl)) rfl (fun _ _ => rfl) (kA rfl) (by decide) ?_
          refine pxV (v := (.int .i64 ((((legN kind b)) : Nat) : Int))) (fun _ _ hF => opMove rfl (hF.ev 4 rfl)) rfl (fun _ _ => rfl) (kA rfl) (by decide) ?_
          refine pxV (v := (.int .i64 ((((2 ^ kind) + (legN kind b)) : Nat) : Int))) (fun _ _ hF => opAdd rfl (hF.ev 1 rfl) (hF.ev 0 rfl) (wI (by omega) (by omega) (by omega))) rfl (fun _ _ => rfl) (kM [false, false, true, true, true, true, true] rfl rfl) (by decide) ?_
          refine pxV (v := (.slice (cutA A c (2 ^ kind) 1) (((2 ^ kind) + (legN kind b)) - (2 ^ kind)) (c - (2 ^ kind)))) (fun _ _ hF => opCutLH (k := 2 ^ kind) (h := (2 ^ kind) + (legN kind b)) (e := 5) (sz := 1) rfl (by kernel_rfl) (by kernel_rfl) (hF.ev 2 rfl) (hF.ev 1 rfl) (hF.ev 0 rfl) rfl rfl (by omega) (by omega)) rfl (fun _ _ => rfl) (kM [false, false, false, true, true, true] rfl rfl) (by decide) ?_
          refine pxE 0 hH rfl (fun _ hF => smAppT (C := cByte) (l := []) (m := ((b.take ((2 ^ kind) + (legN kind b))).drop (2 ^ kind))) (e := 5) (z := (.int .u8 0)) (by_ := 1) rfl (by kernel_rfl) (by kernel_rfl) rfl (ltb rfl) (hF.ev 1 rfl) ((Bk.lit0 (C := cByte)).own 5 g13 rfl) (hF.ev 0 rfl) (by first | (rw [List.length_drop, List.length_take]; omega) | (rw [List.length_take]; omega)) (((hH.vu hR (by decide) (Off.nil _ _)).cut (k := 2 ^ kind) (m := (2 ^ kind) + (legN kind b)) (by omega) (by omega))).nilA (by rw [List.length_nil]; unfold maxLen; omega) (by rw [List.length_nil]; omega)) ((hH.vu hR (by decide) (Off.nil _ _)).cut (k := 2 ^ kind) (m := (2 ^ kind) + (legN kind b)) (by omega) (by omega)) rfl (fun _ _ => rfl) (kM [false, false, true, true] rfl rfl) (by decide) ?_
          clear hH
          rintro v16 E17 w ⟨hO18, _⟩ hH
          replace hH : HH w0 [] [E17] w := hH
          replace hO18 : OwnT cByte 5 v16 ((b.take ((2 ^ kind) + (legN kind b))).drop (2 ^ kind)) E17 := hO18
          obtain ⟨A14, c15, rfl⟩ := hO18.slice
          refine pxV (v := (.int .i64 (((2 ^ kind) : Nat) : Int))) (fun _ _ hF => opMove rfl (hF.ev 2 rfl)) rfl (fun _ _ => rfl) (kM [true, true, false] rfl rfl) (by decide) ?_
          refine pxV (v := (.int .i64 ((((legN kind b)) : Nat) : Int))) (fun _ _ hF => opMove rfl (hF.ev 2 rfl)) rfl (fun _ _ => rfl) (kM [true, true, false] rfl rfl) (by decide) ?_
          refine pxV (v := (.int .i64 ((((2 ^ kind) + (legN kind b)) : Nat) : Int))) (fun _ _ hF => opAdd rfl (hF.ev 1 rfl) (hF.ev 0 rfl) (wI (by omega) (by omega) (by omega))) rfl (fun _ _ => rfl) (kM [false, false, true] rfl rfl) (by decide) ?_
          refine pxV (v := (.slice A14 (((b.take ((2 ^ kind) + (legN kind b))).drop (2 ^ kind)).length) c15)) (fun _ _ hF => opAssign rfl (hF.ev 1 rfl)) rfl (fun _ _ => rfl) (kM [true, false] rfl rfl) (by decide) ?_
          refine pxV (v := (.int .i64 ((((2 ^ kind) + (legN kind b)) : Nat) : Int))) (fun _ _ hF => opAssign rfl (hF.ev 1 rfl)) rfl (fun _ _ => rfl) (kM [true, false] rfl rfl) (by decide) ?_
          refine pxV (v := (.int .i64 0)) (fun _ _ hF => opAssign rfl rfl) rfl (fun _ _ => rfl) (kA rfl) (by decide) ?_
          refine pxEnd ?_
          refine qxThen ?_
          refine cxRet ?_
          refine qxRet3 2 1 0 rfl rfl rfl rfl ?_
          have he := leg_all (b := b) hK (by omega) (by omega) (by omega)
          exact ⟨_, _, rfl, ⟨(.slice A14 (((b.take ((2 ^ kind) + (legN kind b))).drop (2 ^ kind)).length) c15), (2 ^ kind) + (legN kind b), (by rw [he]; first | done | rfl), (by rw [he]; exact hO18), (by rw [he]; intro _; exact ⟨by omega, rfl⟩)⟩, hH.out1 [true] rfl⟩
end Go.Proofs.Ytjncbpmigpocbaa
