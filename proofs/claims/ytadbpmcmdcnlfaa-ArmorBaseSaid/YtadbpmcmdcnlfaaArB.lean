/- The laws of layer 12: ArmorBase. -/
import Derived.Test.YtadbpmcmdcnlfaaArW
import Derived.Test.YtadbpmcmdcnlfaaArV
namespace Go.Proofs.Ytadbpmcmdcnlfaa
open Go Go.RowKit
set_option maxRecDepth 100000

theorem unr_uni {r : Option (List UInt8)} {v : Value} {E' : Hl} (h : UnPostR r v E') : ∃ A c, v = .tuple #[.slice A (r.getD []).length c, .int .i64 ((ers r : Nat) : Int)] ∧ OwnT cByte 5 (.slice A (r.getD []).length c) (r.getD []) E' := by
  rcases h with ⟨rfl, rfl, rfl⟩ | ⟨b, A, c, rfl, rfl, hO⟩
  · exact ⟨none, 0, rfl, OwnT.nil _ _⟩
  · exact ⟨A, c, rfl, hO⟩

set_option maxHeartbeats 8000000 in
theorem base_l (l : List UInt8) (A : Option Addr) (c : Nat) (s : List UInt8) (hl : l.length ≤ 9223372036854775807) (hs : s.length ≤ 9223372036854775807) : Pure Try.prog 3 #[(.slice A l.length c), (.string (strL s))] (fun w => Vu cByte w A l.length c l) (.bool true) := by
  refine pure_of (fn := Try.f3) Try.func3 rfl Try.ntmps3 (Nat.le_of_ble_eq_true rfl) rfl ?_
  intro w0 hH hR
  have hcl := hR.len
  have hcc := hR.cap
  refine cxSeq ?_
  refine cxReg ?_
  refine pxV (v := (.bool false)) (fun _ _ hF => opAssign rfl rfl) rfl (fun _ _ => rfl) (kA rfl) (by decide) ?_
  refine pxEnd ?_
  refine qxThen ?_
  refine cxSeq ?_
  refine cxSeq ?_
  refine cxReg ?_
  refine pxM hH (fun _ hF => Does.small ((awake_c ).does) (fun w => opCall rfl Try.func4 rfl rfl Evs.nil w)) trivial rfl (fun _ _ => rfl) (kM [false, true, true] rfl rfl) (by decide) ?_
  clear hH
  rintro _ _ w ⟨rfl, rfl⟩ hH
  replace hH : HH w0 [] [] w := hH.unpad
  refine pxV (v := (.bool false)) (fun _ _ hF => opNot rfl (hF.ev 0 rfl) rfl) rfl (fun _ _ => rfl) (kM [false, true, true] rfl rfl) (by decide) ?_
  refine pxV (v := (.bool false)) (fun _ _ hF => opMove rfl (hF.ev 0 rfl)) rfl (fun _ _ => rfl) (kM [false, true, true] rfl rfl) (by decide) ?_
  refine pxV (v := (.slice A l.length c)) (fun _ _ hF => opMove rfl (hF.ev 1 rfl)) rfl (gOn 0 rfl rfl rfl (by decide)) (kA rfl) (by decide) ?_
  refine pxV (v := (.int .i64 (((l.length) : Nat) : Int))) (fun _ _ hF => opLen (e := 5) rfl (by kernel_rfl) (hF.ev 0 rfl)) rfl (gOn 1 rfl rfl rfl (by decide)) (kM [false, true, true, true] rfl rfl) (by decide) ?_
  refine pxV (v := (.bool (decide (l.length > 3000)))) (fun _ _ hF => opGtr rfl (hF.ev 0 rfl) rfl (dc (by omega))) rfl (gOn 1 rfl rfl rfl (by decide)) (kM [false, true, true, true] rfl rfl) (by decide) ?_
  refine pxV (v := (.bool (decide (l.length > 3000)))) (fun _ _ hF => opPickF rfl (hF.ev 1 rfl) (hF.ev 0 rfl)) rfl (fun _ _ => rfl) (kM [false, false, true, true] rfl rfl) (by decide) ?_
  refine pxV (v := (.bool (decide (l.length > 3000)))) (fun _ _ hF => opMove rfl (hF.ev 0 rfl)) rfl (fun _ _ => rfl) (kM [false, true, true] rfl rfl) (by decide) ?_
  refine pxSplitP 0 rfl (l1 := [(19, (.bool true)), (0, (.slice A l.length c)), (1, (.string (strL s)))]) (l2 := [(19, (.bool false)), (0, (.slice A l.length c)), (1, (.string (strL s)))]) rfl rfl (fun hg1 => ?_) (fun hg1 => ?_)
  · refine pxU rfl (gOff 0 rfl rfl rfl (by decide)) (kA rfl) (by decide) ?_
    refine pxU rfl (gOff 0 rfl rfl rfl (by decide)) (kA rfl) (by decide) ?_
    refine pxU rfl (gOff 0 rfl rfl rfl (by decide)) (kA rfl) (by decide) ?_
    refine pxV (v := (.bool true)) (fun _ _ hF => opPickT rfl (hF.ev 0 rfl) rfl) rfl (fun _ _ => rfl) (kM [false, true, true] rfl rfl) (by decide) ?_
    refine pxEnd ?_
    refine qxThen ?_
    refine cxT 0 rfl rfl ?_
    refine cxSeq ?_
    refine cxReg ?_
    refine pxM hH (fun _ hF => Does.small ((awake_c ).does) (fun w => opCall rfl Try.func4 rfl rfl Evs.nil w)) trivial rfl (fun _ _ => rfl) (kM [false, false, false] rfl rfl) (by decide) ?_
    clear hH
    rintro _ _ w ⟨rfl, rfl⟩ hH
    replace hH : HH w0 [] [] w := hH.unpad
    refine pxV (v := (.bool true)) (fun _ _ hF => opAssign rfl (hF.ev 0 rfl)) rfl (fun _ _ => rfl) (kM [false] rfl rfl) (by decide) ?_
    refine pxEnd ?_
    refine qxThen ?_
    refine cxRet ?_
    refine qxThenR ?_
    refine qxRet1 0 rfl rfl ?_
    exact ⟨rfl, hH.toBelow⟩
  · refine pxV (v := (.string (strL s))) (fun _ _ hF => opMove rfl (hF.ev 2 rfl)) rfl (gOn 0 rfl rfl rfl (by decide)) (kA rfl) (by decide) ?_
    refine pxV (v := (.int .i64 (((s.length) : Nat) : Int))) (fun _ _ hF => opLenL (l := s) rfl (by kernel_rfl) (hF.ev 0 rfl)) rfl (gOn 1 rfl rfl rfl (by decide)) (kM [false, true, true, true] rfl rfl) (by decide) ?_
    refine pxV (v := (.bool (decide (s.length > 4000)))) (fun _ _ hF => opGtr rfl (hF.ev 0 rfl) rfl (dc (by omega))) rfl (gOn 1 rfl rfl rfl (by decide)) (kM [false, true, true, true] rfl rfl) (by decide) ?_
    refine pxV (v := (.bool (decide (s.length > 4000)))) (fun _ _ hF => opPickF rfl (hF.ev 1 rfl) (hF.ev 0 rfl)) rfl (fun _ _ => rfl) (kM [false, false, true, true] rfl rfl) (by decide) ?_
    refine pxEnd ?_
    refine qxThen ?_
    refine cxP 0 rfl rfl (fun hc2 => ?_) (fun hc2 => ?_)
    · refine cxSeq ?_
      refine cxReg ?_
      refine pxM hH (fun _ hF => Does.small ((awake_c ).does) (fun w => opCall rfl Try.func4 rfl rfl Evs.nil w)) trivial rfl (fun _ _ => rfl) (kM [false, false, false] rfl rfl) (by decide) ?_
      clear hH
      rintro _ _ w ⟨rfl, rfl⟩ hH
      replace hH : HH w0 [] [] w := hH.unpad
      refine pxV (v := (.bool true)) (fun _ _ hF => opAssign rfl (hF.ev 0 rfl)) rfl (fun _ _ => rfl) (kM [false] rfl rfl) (by decide) ?_
      refine pxEnd ?_
      refine qxThen ?_
      refine cxRet ?_
      refine qxThenR ?_
      refine qxRet1 0 rfl rfl ?_
      exact ⟨rfl, hH.toBelow⟩
    · refine cxSkip ?_
      refine qxThen ?_
      refine cxSeq ?_
      refine cxReg ?_
      refine pxV (v := (.string (strL s))) (fun _ _ hF => opMove rfl (hF.ev 2 rfl)) rfl (fun _ _ => rfl) (kM [false, true, true] rfl rfl) (by decide) ?_
      refine pxM hH (fun _ hF => Does.small (unbase64_c s (by omega)) (fun w => opCall rfl Try.func5 rfl rfl (Evs.cons (v := (.string (strL s))) (hF.ev 0 rfl) Evs.nil) w)) trivial rfl (fun _ _ => rfl) (kM [false, true, true] rfl rfl) (by decide) ?_
      clear hH
      rintro v7 E3 w hU4 hH
      replace hH : HH w0 [] [E3] w := hH
      obtain ⟨A5, c6, rfl, hO8⟩ := unp_uni hU4
      refine pxV (v := (.tuple #[(.slice A5 (((unP s).getD []).length) c6), (.int .i64 (((ers (unP s)) : Nat) : Int))])) (fun _ _ hF => opMove rfl (hF.ev 0 rfl)) rfl (fun _ _ => rfl) (kM [false, true, true] rfl rfl) (by decide) ?_
      refine pxV (v := (.slice A5 (((unP s).getD []).length) c6)) (fun _ _ hF => opExtract rfl (hF.ev 0 rfl) rfl) rfl (fun _ _ => rfl) (kA rfl) (by decide) ?_
      refine pxV (v := (.int .i64 (((ers (unP s)) : Nat) : Int))) (fun _ _ hF => opExtract rfl (hF.ev 1 rfl) rfl) rfl (fun _ _ => rfl) (kM [true, false, true, true] rfl rfl) (by decide) ?_
      refine pxV (v := (.slice A5 (((unP s).getD []).length) c6)) (fun _ _ hF => opAssign rfl (hF.ev 1 rfl)) rfl (fun _ _ => rfl) (kM [true, false, true, true] rfl rfl) (by decide) ?_
      refine pxV (v := (.int .i64 (((ers (unP s)) : Nat) : Int))) (fun _ _ hF => opAssign rfl (hF.ev 1 rfl)) rfl (fun _ _ => rfl) (kM [true, false, true, true] rfl rfl) (by decide) ?_
      refine pxEnd ?_
      refine qxThen ?_
      refine cxSeq ?_
      refine cxReg ?_
      refine pxV (v := (.string (strL s))) (fun _ _ hF => opMove rfl (hF.ev 3 rfl)) rfl (fun _ _ => rfl) (kM [true, true, true, false] rfl rfl) (by decide) ?_
      refine pxM hH (fun _ hF => Does.small (runbase64_c s (by omega)) (fun w => opCall rfl Try.func6 rfl rfl (Evs.cons (v := (.string (strL s))) (hF.ev 0 rfl) Evs.nil) w)) trivial rfl (fun _ _ => rfl) (kM [false, true, true, true] rfl rfl) (by decide) ?_
      clear hH
      rintro v14 E10 w hU11 hH
      replace hH : HH w0 [] [E3, E10] w := hH
      obtain ⟨A12, c13, rfl, hO15⟩ := unr_uni hU11
      refine pxV (v := (.tuple #[(.slice A12 (((unR s).getD []).length) c13), (.int .i64 (((ers (unR s)) : Nat) : Int))])) (fun _ _ hF => opMove rfl (hF.ev 0 rfl)) rfl (fun _ _ => rfl) (kM [false, true, true, true] rfl rfl) (by decide) ?_
      refine pxV (v := (.slice A12 (((unR s).getD []).length) c13)) (fun _ _ hF => opExtract rfl (hF.ev 0 rfl) rfl) rfl (fun _ _ => rfl) (kA rfl) (by decide) ?_
      refine pxV (v := (.int .i64 (((ers (unR s)) : Nat) : Int))) (fun _ _ hF => opExtract rfl (hF.ev 1 rfl) rfl) rfl (fun _ _ => rfl) (kM [true, false, true, true, true] rfl rfl) (by decide) ?_
      refine pxV (v := (.slice A12 (((unR s).getD []).length) c13)) (fun _ _ hF => opAssign rfl (hF.ev 1 rfl)) rfl (fun _ _ => rfl) (kM [true, false, true, true, true] rfl rfl) (by decide) ?_
      refine pxV (v := (.int .i64 (((ers (unR s)) : Nat) : Int))) (fun _ _ hF => opAssign rfl (hF.ev 1 rfl)) rfl (fun _ _ => rfl) (kM [true, false, true, true, true] rfl rfl) (by decide) ?_
      refine pxEnd ?_
      refine qxThen ?_
      refine cxSeq ?_
      refine cxReg ?_
      refine pxV (v := (.slice A l.length c)) (fun _ _ hF => opMove rfl (hF.ev 4 rfl)) rfl (fun _ _ => rfl) (kA rfl) (by decide) ?_
      refine pxM hH (fun _ hF => Does.small ((base64_c l A c (by omega)).does) (fun w => opCall rfl Try.func7 rfl rfl (Evs.cons (v := (.slice A l.length c)) (hF.ev 0 rfl) Evs.nil) w)) (hH.vu hR (by decide) (Off.nil _ _)) rfl (fun _ _ => rfl) (kM [false, true, true, true, true, true] rfl rfl) (by decide) ?_
      clear hH
      rintro _ _ w ⟨rfl, rfl⟩ hH
      replace hH : HH w0 [] [E3, E10] w := hH.unpad
      refine pxV (v := (.string (strL (b64 l)))) (fun _ _ hF => opAssign rfl (hF.ev 0 rfl)) rfl (fun _ _ => rfl) (kM [false, true, true, true, true, true] rfl rfl) (by decide) ?_
      refine pxEnd ?_
      refine qxThen ?_
      refine cxSeq ?_
      refine cxReg ?_
      refine pxV (v := (.string (strL (b64 l)))) (fun _ _ hF => opMove rfl (hF.ev 0 rfl)) rfl (fun _ _ => rfl) (kA rfl) (by decide) ?_
      refine pxM hH (fun _ hF => Does.small (unbase64_c (b64 l) (by rw [b64_len]; omega)) (fun w => opCall rfl Try.func5 rfl rfl (Evs.cons (v := (.string (strL (b64 l)))) (hF.ev 0 rfl) Evs.nil) w)) trivial rfl (fun _ _ => rfl) (kM [false, true, true, true, true, true, true] rfl rfl) (by decide) ?_
      clear hH
      rintro v21 E17 w hU18 hH
      replace hH : HH w0 [] [E3, E10, E17] w := hH
      obtain ⟨A19, c20, rfl, hO22⟩ := unp_uni hU18
      refine pxV (v := (.tuple #[(.slice A19 (((unP (b64 l)).getD []).length) c20), (.int .i64 (((ers (unP (b64 l))) : Nat) : Int))])) (fun _ _ hF => opMove rfl (hF.ev 0 rfl)) rfl (fun _ _ => rfl) (kM [false, true, true, true, true, true, true] rfl rfl) (by decide) ?_
      refine pxV (v := (.slice A19 (((unP (b64 l)).getD []).length) c20)) (fun _ _ hF => opExtract rfl (hF.ev 0 rfl) rfl) rfl (fun _ _ => rfl) (kA rfl) (by decide) ?_
      refine pxV (v := (.int .i64 (((ers (unP (b64 l))) : Nat) : Int))) (fun _ _ hF => opExtract rfl (hF.ev 1 rfl) rfl) rfl (fun _ _ => rfl) (kM [true, false, true, true, true, true, true, true] rfl rfl) (by decide) ?_
      refine pxV (v := (.slice A19 (((unP (b64 l)).getD []).length) c20)) (fun _ _ hF => opAssign rfl (hF.ev 1 rfl)) rfl (fun _ _ => rfl) (kM [true, false, true, true, true, true, true, true] rfl rfl) (by decide) ?_
      refine pxV (v := (.int .i64 (((ers (unP (b64 l))) : Nat) : Int))) (fun _ _ hF => opAssign rfl (hF.ev 1 rfl)) rfl (fun _ _ => rfl) (kM [true, false, true, true, true, true, true, true] rfl rfl) (by decide) ?_
      refine pxEnd ?_
      refine qxThen ?_
      refine cxSeq ?_
      refine cxReg ?_
      refine pxV (v := (.slice A5 (((unP s).getD []).length) c6)) (fun _ _ hF => opMove rfl (hF.ev 6 rfl)) rfl (fun _ _ => rfl) (kM [true, true, true, true, true, true, false, true] rfl rfl) (by decide) ?_
      refine pxS (v := (.string (strL ((unP s).getD [])))) (fun w => Vu cByte w A5 (((unP s).getD []).length) c6 ((unP s).getD [])) (hO8.vuAt (hH.has 0 rfl)) (fun _ _ hF hS => opStr (e := 5) rfl (by kernel_rfl) (by kernel_rfl) (by kernel_rfl) (hF.ev 0 rfl) hS) rfl (fun _ _ => rfl) (kM [false, true, true, true, true, true, true, true] rfl rfl) (by decide) ?_
      refine pxV (v := (.slice A12 (((unR s).getD []).length) c13)) (fun _ _ hF => opMove rfl (hF.ev 5 rfl)) rfl (fun _ _ => rfl) (kM [true, true, true, true, true, false, true, true] rfl rfl) (by decide) ?_
      refine pxS (v := (.string (strL ((unR s).getD [])))) (fun w => Vu cByte w A12 (((unR s).getD []).length) c13 ((unR s).getD [])) (hO15.vuAt (hH.has 1 rfl)) (fun _ _ hF hS => opStr (e := 5) rfl (by kernel_rfl) (by kernel_rfl) (by kernel_rfl) (hF.ev 0 rfl) hS) rfl (fun _ _ => rfl) (kM [false, true, true, true, true, true, true, true] rfl rfl) (by decide) ?_
      refine pxV (v := (.bool true)) (fun _ _ hF => opEqLb (l := ((unP s).getD [])) (m := ((unR s).getD [])) rfl (hF.ev 1 rfl) (hF.ev 0 rfl) (decide_eq_true (by rw [un_same]))) rfl (fun _ _ => rfl) (kM [false, false, true, true, true, true, true, true] rfl rfl) (by decide) ?_
      refine pxV (v := (.bool true)) (fun _ _ hF => opMove rfl (hF.ev 0 rfl)) rfl (fun _ _ => rfl) (kM [false, true, true, true, true, true, true] rfl rfl) (by decide) ?_
      refine pxV (v := (.int .i64 (((ers (unP s)) : Nat) : Int))) (fun _ _ hF => opMove rfl (hF.ev 5 rfl)) rfl (gOn 0 rfl rfl rfl (by decide)) (kM [true, true, true, true, true, false, true] rfl rfl) (by decide) ?_
      refine pxV (v := (.int .i64 (((ers (unR s)) : Nat) : Int))) (fun _ _ hF => opMove rfl (hF.ev 5 rfl)) rfl (gOn 1 rfl rfl rfl (by decide)) (kM [true, true, true, true, true, false, true] rfl rfl) (by decide) ?_
      refine pxV (v := (.bool true)) (fun _ _ hF => opEqI rfl (hF.ev 1 rfl) (hF.ev 0 rfl) (decide_eq_true (by rw [un_same]))) rfl (gOn 2 rfl rfl rfl (by decide)) (kM [false, false, true, true, true, true, true] rfl rfl) (by decide) ?_
      refine pxV (v := (.bool true)) (fun _ _ hF => opPickT rfl (hF.ev 1 rfl) (hF.ev 0 rfl)) rfl (fun _ _ => rfl) (kM [false, false, true, true, true, true] rfl rfl) (by decide) ?_
      refine pxV (v := (.bool true)) (fun _ _ hF => opMove rfl (hF.ev 0 rfl)) rfl (fun _ _ => rfl) (kM [false, true, true, true, true] rfl rfl) (by decide) ?_
      refine pxV (v := (.string (strL (b64 l)))) (fun _ _ hF => opMove rfl (hF.ev 3 rfl)) rfl (gOn 0 rfl rfl rfl (by decide)) (kM [true, true, true, false, true] rfl rfl) (by decide) ?_
      refine pxV (v := (.slice A l.length c)) (fun _ _ hF => opMove rfl (hF.ev 4 rfl)) rfl (gOn 1 rfl rfl rfl (by decide)) (kA rfl) (by decide) ?_
      refine pxM hH (fun _ hF => Does.small ((rbase64_c l A c (by omega)).does) (fun w => opCall rfl Try.func8 rfl rfl (Evs.cons (v := (.slice A l.length c)) (hF.ev 0 rfl) Evs.nil) w)) (hH.vu hR (by decide) (Off.nil _ _)) rfl (gOn 2 rfl rfl rfl (by decide)) (kM [false, true, true, true, true, true] rfl rfl) (by decide) ?_
      clear hH
      rintro _ _ w ⟨rfl, rfl⟩ hH
      replace hH : HH w0 [] [E3, E10, E17] w := hH.unpad
      refine pxV (v := (.bool true)) (fun _ _ hF => opEqLb (l := (b64 l)) (m := (b64 l)) rfl (hF.ev 1 rfl) (hF.ev 0 rfl) (decide_eq_true (rfl))) rfl (gOn 2 rfl rfl rfl (by decide)) (kM [false, false, true, true, true, true] rfl rfl) (by decide) ?_
      refine pxV (v := (.bool true)) (fun _ _ hF => opPickT rfl (hF.ev 1 rfl) (hF.ev 0 rfl)) rfl (fun _ _ => rfl) (kM [false, false, true, true, true] rfl rfl) (by decide) ?_
      refine pxV (v := (.bool true)) (fun _ _ hF => opMove rfl (hF.ev 0 rfl)) rfl (fun _ _ => rfl) (kM [false, true, true, true] rfl rfl) (by decide) ?_
      refine pxV (v := (.int .i64 (((ers (unP (b64 l))) : Nat) : Int))) (fun _ _ hF => opMove rfl (hF.ev 1 rfl)) rfl (gOn 0 rfl rfl rfl (by decide)) (kM [true, false, true, true] rfl rfl) (by decide) ?_
      refine pxV (v := (.bool true)) (fun _ _ hF => opEqI rfl (hF.ev 0 rfl) rfl (decide_eq_true (by rw [un_b64]; rfl))) rfl (gOn 1 rfl rfl rfl (by decide)) (kM [false, true, true, true] rfl rfl) (by decide) ?_
      refine pxV (v := (.bool true)) (fun _ _ hF => opPickT rfl (hF.ev 1 rfl) (hF.ev 0 rfl)) rfl (fun _ _ => rfl) (kM [false, false, true, true] rfl rfl) (by decide) ?_
      refine pxV (v := (.bool true)) (fun _ _ hF => opMove rfl (hF.ev 0 rfl)) rfl (fun _ _ => rfl) (kM [false, true, true] rfl rfl) (by decide) ?_
      refine pxV (v := (.slice A19 (((unP (b64 l)).getD []).length) c20)) (fun _ _ hF => opMove rfl (hF.ev 1 rfl)) rfl (gOn 0 rfl rfl rfl (by decide)) (kM [true, false, true] rfl rfl) (by decide) ?_
      refine pxS (v := (.string (strL ((unP (b64 l)).getD [])))) (fun w => Vu cByte w A19 (((unP (b64 l)).getD []).length) c20 ((unP (b64 l)).getD [])) (hO22.vuAt (hH.has 2 rfl)) (fun _ _ hF hS => opStr (e := 5) rfl (by kernel_rfl) (by kernel_rfl) (by kernel_rfl) (hF.ev 0 rfl) hS) rfl (gOn 1 rfl rfl rfl (by decide)) (kM [false, true, true] rfl rfl) (by decide) ?_
      refine pxV (v := (.slice A l.length c)) (fun _ _ hF => opMove rfl (hF.ev 2 rfl)) rfl (gOn 1 rfl rfl rfl (by decide)) (kA rfl) (by decide) ?_
      refine pxS (v := (.string (strL l))) (fun w => Vu cByte w A l.length c l) (hH.vu hR (by decide) (Off.nil _ _)) (fun _ _ hF hS => opStr (e := 5) rfl (by kernel_rfl) (by kernel_rfl) (by kernel_rfl) (hF.ev 0 rfl) hS) rfl (gOn 2 rfl rfl rfl (by decide)) (kM [false, true, true, true] rfl rfl) (by decide) ?_
      refine pxV (v := (.bool true)) (fun _ _ hF => opEqLb (l := ((unP (b64 l)).getD [])) (m := l) rfl (hF.ev 1 rfl) (hF.ev 0 rfl) (decide_eq_true (by rw [un_b64]; rfl))) rfl (gOn 2 rfl rfl rfl (by decide)) (kM [false, false, true, true] rfl rfl) (by decide) ?_
      refine pxV (v := (.bool true)) (fun _ _ hF => opPickT rfl (hF.ev 1 rfl) (hF.ev 0 rfl)) rfl (fun _ _ => rfl) (kM [false, false, true] rfl rfl) (by decide) ?_
      refine pxV (v := (.bool true)) (fun _ _ hF => opMove rfl (hF.ev 0 rfl)) rfl (fun _ _ => rfl) (kM [false, true] rfl rfl) (by decide) ?_
      refine pxV (v := (.slice A l.length c)) (fun _ _ hF => opMove rfl (hF.ev 1 rfl)) rfl (gOn 0 rfl rfl rfl (by decide)) (kA rfl) (by decide) ?_
      refine pxM hH (fun _ hF => Does.small ((sum_c l A c (by omega)).does) (fun w => opCall rfl Try.func9 rfl rfl (Evs.cons (v := (.slice A l.length c)) (hF.ev 0 rfl) Evs.nil) w)) (hH.vu hR (by decide) (Off.nil _ _)) rfl (gOn 1 rfl rfl rfl (by decide)) (kM [false, true, true] rfl rfl) (by decide) ?_
      clear hH
      rintro _ _ w ⟨rfl, rfl⟩ hH
      replace hH : HH w0 [] [E3, E10, E17] w := hH.unpad
      refine pxV (v := (.slice A l.length c)) (fun _ _ hF => opMove rfl (hF.ev 2 rfl)) rfl (gOn 1 rfl rfl rfl (by decide)) (kM [true, true, false] rfl rfl) (by decide) ?_
      refine pxM hH (fun _ hF => Does.small ((rsum_c l A c (by omega)).does) (fun w => opCall rfl Try.func10 rfl rfl (Evs.cons (v := (.slice A l.length c)) (hF.ev 0 rfl) Evs.nil) w)) (hH.vu hR (by decide) (Off.nil _ _)) rfl (gOn 2 rfl rfl rfl (by decide)) (kM [false, true, true] rfl rfl) (by decide) ?_
      clear hH
      rintro _ _ w ⟨rfl, rfl⟩ hH
      replace hH : HH w0 [] [E3, E10, E17] w := hH.unpad
      refine pxV (v := (.bool true)) (fun _ _ hF => opEqI rfl (hF.ev 1 rfl) (hF.ev 0 rfl) (decide_eq_true (rfl))) rfl (gOn 2 rfl rfl rfl (by decide)) (kM [false, false, true] rfl rfl) (by decide) ?_
      refine pxV (v := (.bool true)) (fun _ _ hF => opPickT rfl (hF.ev 1 rfl) (hF.ev 0 rfl)) rfl (fun _ _ => rfl) (kM [false, false] rfl rfl) (by decide) ?_
      refine pxV (v := (.bool true)) (fun _ _ hF => opAssign rfl (hF.ev 0 rfl)) rfl (fun _ _ => rfl) (kM [false] rfl rfl) (by decide) ?_
      refine pxEnd ?_
      refine qxThen ?_
      refine cxRet ?_
      refine qxRet1 0 rfl rfl ?_
      exact ⟨rfl, hH.toBelow⟩

end Go.Proofs.Ytadbpmcmdcnlfaa
