/- What the laws of layer 11 ask first (mkpl.py writes this text). -/
import Derived.Test.YtjncbpmigpocbaaPkD
namespace Go.Proofs.Ytjncbpmigpocbaa
open Go Go.RowKit
set_option maxRecDepth 100000

theorem wr_ab : wrt [((2 : Int), [97, 98])] = (0, [194, 2, 97, 98]) := by decide

set_option maxHeartbeats 8000000 in
theorem awake_c  : Pure Try.prog 8 #[] (fun _ => True) (.bool true) := by
  refine pure_of (fn := Try.f8) Try.func8 rfl Try.ntmps8 (Nat.le_of_ble_eq_true rfl) rfl ?_
  intro w0 hH hR
  refine cxSeq ?_
  refine cxReg ?_
  refine pxV (v := (.bool false)) (fun _ _ hF => opAssign rfl rfl) rfl (fun _ _ => rfl) (kA rfl) (by decide) ?_
  refine pxEnd ?_
  refine qxThen ?_
  refine cxSeq ?_
  refine cxReg ?_
  refine pxM hH (fun _ hF => smLits (C := cByte) (e := 5) (z := (.int .u8 0)) (by_ := 1) [97, 98] rfl (by kernel_rfl) (by kernel_rfl) (EvP.cons (v := cByte.val 97) rfl (EvP.cons (v := cByte.val 98) rfl EvP.nil)) rfl (ltb rfl) (leb rfl) rfl) trivial rfl (fun _ _ => rfl) (kM [false] rfl rfl) (by decide) ?_
  clear hH
  rintro _ _ w ⟨g1, rfl, rfl⟩ hH
  replace hH : HH w0 [] [[bl g1 5 (flat cByte [97, 98]).toArray]] w := hH
  refine pxE 0 hH rfl (fun _ hF => smMark (e := 5) rfl (by kernel_rfl) (by kernel_rfl) (hF.ev 0 rfl)) trivial rfl (fun _ _ => rfl) (kM [false] rfl rfl) (by decide) ?_
  clear hH
  rintro _ _ w ⟨rfl, rfl⟩ hH
  replace hH : HH w0 [] [[mk g1 5 ((flat cByte [97, 98]).toArray)]] w := hH
  refine pxV (v := (cPk.val (2, ((some ⟨g1, 0, none⟩), 2, 2)))) (fun _ _ hF => opBuildP (cells := cPk.enc (2, ((some ⟨g1, 0, none⟩), 2, 2))) rfl (EvP.cons (v := (.int .i64 2)) rfl (EvP.cons (v := (.slice (some ⟨g1, 0, none⟩) 2 2)) (hF.ev 0 rfl) EvP.nil)) (built_pair (x := ((2, ((some ⟨g1, 0, none⟩), 2, 2)) : PkH)) (by kernel_rfl) rfl rfl) _) rfl (fun _ _ => rfl) (kM [false] rfl rfl) (by decide) ?_
  refine pxM hH (fun _ hF => smLit1 (e := 31) (sz := 2) (z := (cPk.val (0, none, 0, 0))) (by_ := 32) (cs := cPk.enc (2, ((some ⟨g1, 0, none⟩), 2, 2))) rfl (by kernel_rfl) (by kernel_rfl) (hF.ev 0 rfl) (cPk.len (2, ((some ⟨g1, 0, none⟩), 2, 2))) (ltb rfl) (leb rfl) rfl) trivial rfl (fun _ _ => rfl) (kM [false] rfl rfl) (by decide) ?_
  clear hH
  rintro _ _ w ⟨g2, rfl, rfl⟩ hH
  replace hH : HH w0 [] [[mk g1 5 ((flat cByte [97, 98]).toArray)], [bl g2 31 (cPk.enc (2, ((some ⟨g1, 0, none⟩), 2, 2)))]] w := hH
  refine pxM hH (fun _ hF => Does.small (write_c ([(2, ((some ⟨g1, 0, none⟩), 2, 2))]) ([((2 : Int), [97, 98])]) (some ⟨g2, 0, none⟩) 1 (leb rfl)) (fun w => opCall rfl Try.func10 rfl rfl (Evs.cons (v := (.slice (some ⟨g2, 0, none⟩) 1 1)) (hF.ev 0 rfl) Evs.nil) w)) ⟨((Bk.lit1 (C := cPk) (2, ((some ⟨g1, 0, none⟩), 2, 2))).vu (hH.blk 1 rfl) rfl), (Beh.one (b := [97, 98]) ((Bk.lits (C := cByte) [97, 98] (by show 2 ≤ _; unfold maxLen; decide)).vuM (hH.blk 0 rfl) rfl))⟩ rfl (fun _ _ => rfl) (kM [false] rfl rfl) (by decide) ?_
  clear hH
  rintro _ E4 w ⟨s3, rfl, hO5⟩ hH
  replace hH : HH w0 [] [[mk g1 5 ((flat cByte [97, 98]).toArray)], [bl g2 31 (cPk.enc (2, ((some ⟨g1, 0, none⟩), 2, 2)))], E4] w := hH
  obtain ⟨A6, c7, rfl⟩ := hO5.slice
  refine pxV (v := (.tuple #[(.slice A6 ((wrt ([((2 : Int), [97, 98])])).2.length) c7), (.int .i64 ((((wrt ([((2 : Int), [97, 98])])).1) : Nat) : Int))])) (fun _ _ hF => opMove rfl (hF.ev 0 rfl)) rfl (fun _ _ => rfl) (kM [false] rfl rfl) (by decide) ?_
  refine pxV (v := (.slice A6 ((wrt ([((2 : Int), [97, 98])])).2.length) c7)) (fun _ _ hF => opExtract rfl (hF.ev 0 rfl) rfl) rfl (fun _ _ => rfl) (kA rfl) (by decide) ?_
  refine pxV (v := (.int .i64 ((((wrt ([((2 : Int), [97, 98])])).1) : Nat) : Int))) (fun _ _ hF => opExtract rfl (hF.ev 1 rfl) rfl) rfl (fun _ _ => rfl) (kM [true, false] rfl rfl) (by decide) ?_
  refine pxV (v := (.slice A6 ((wrt ([((2 : Int), [97, 98])])).2.length) c7)) (fun _ _ hF => opAssign rfl (hF.ev 1 rfl)) rfl (fun _ _ => rfl) (kM [true, false] rfl rfl) (by decide) ?_
  refine pxV (v := (.int .i64 ((((wrt ([((2 : Int), [97, 98])])).1) : Nat) : Int))) (fun _ _ hF => opAssign rfl (hF.ev 1 rfl)) rfl (fun _ _ => rfl) (kM [true, false] rfl rfl) (by decide) ?_
  refine pxEnd ?_
  refine qxThen ?_
  refine cxSeq ?_
  refine cxReg ?_
  refine pxV (v := (.int .i64 ((((wrt ([((2 : Int), [97, 98])])).1) : Nat) : Int))) (fun _ _ hF => opMove rfl (hF.ev 0 rfl)) rfl (fun _ _ => rfl) (kM [false, true] rfl rfl) (by decide) ?_
  refine pxV (v := (.bool true)) (fun _ _ hF => opEqI rfl (hF.ev 0 rfl) rfl (decide_eq_true (by rw [wr_ab]; rfl))) rfl (fun _ _ => rfl) (kM [false, true] rfl rfl) (by decide) ?_
  refine pxV (v := (.bool true)) (fun _ _ hF => opMove rfl (hF.ev 0 rfl)) rfl (fun _ _ => rfl) (kM [false, true] rfl rfl) (by decide) ?_
  refine pxV (v := (.slice A6 ((wrt ([((2 : Int), [97, 98])])).2.length) c7)) (fun _ _ hF => opMove rfl (hF.ev 1 rfl)) rfl (gOn 0 rfl rfl rfl (by decide)) (kM [true, false] rfl rfl) (by decide) ?_
  refine pxS (v := (.string (strL ((wrt ([((2 : Int), [97, 98])])).2)))) (fun w => Vu cByte w A6 ((wrt ([((2 : Int), [97, 98])])).2.length) c7 ((wrt ([((2 : Int), [97, 98])])).2)) (hO5.vuAt (hH.has 2 rfl)) (fun _ _ hF hS => opStr (e := 5) rfl (by kernel_rfl) (by kernel_rfl) (by kernel_rfl) (hF.ev 0 rfl) hS) rfl (gOn 1 rfl rfl rfl (by decide)) (kM [false, true] rfl rfl) (by decide) ?_
  refine pxV (v := (.bool true)) (fun _ _ hF => opEqS rfl (hF.ev 0 rfl) rfl (decide_eq_true (by rw [wr_ab]))) rfl (gOn 1 rfl rfl rfl (by decide)) (kM [false, true] rfl rfl) (by decide) ?_
  refine pxV (v := (.bool true)) (fun _ _ hF => opPickT rfl (hF.ev 1 rfl) (hF.ev 0 rfl)) rfl (fun _ _ => rfl) (kM [false, false] rfl rfl) (by decide) ?_
  refine pxV (v := (.bool true)) (fun _ _ hF => opAssign rfl (hF.ev 0 rfl)) rfl (fun _ _ => rfl) (kM [false] rfl rfl) (by decide) ?_
  refine pxEnd ?_
  refine qxThen ?_
  refine cxRet ?_
  refine qxRet1 0 rfl rfl ?_
  exact ⟨rfl, HH.toBelow hH⟩
end Go.Proofs.Ytjncbpmigpocbaa
