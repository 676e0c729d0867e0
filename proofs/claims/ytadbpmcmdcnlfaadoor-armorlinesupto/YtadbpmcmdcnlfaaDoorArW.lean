/- The laws of layer 12: awake. -/
import Derived.Test.YtadbpmcmdcnlfaaDoorArU
namespace Go.Proofs.YtadbpmcmdcnlfaaDoor
open Go Go.RowKit
set_option maxRecDepth 100000

def ers (r : Option (List UInt8)) : Nat := if r.isSome then 0 else 2
theorem unp_uni {r : Option (List UInt8)} {v : Value} {E' : Hl} (h : UnPost r v E') : ∃ A c, v = .tuple #[.slice A (r.getD []).length c, .int .i64 ((ers r : Nat) : Int)] ∧ OwnT cByte 5 (.slice A (r.getD []).length c) (r.getD []) E' := by
  rcases h with ⟨rfl, rfl, rfl⟩ | ⟨b, A, c, rfl, rfl, hO⟩
  · exact ⟨none, 0, rfl, OwnT.nil _ _⟩
  · exact ⟨A, c, rfl, hO⟩
theorem hello_un : unP [97, 71, 86, 115, 98, 71, 56, 61] = some [104, 101, 108, 108, 111] := (unP_iff _ _).2 (by decide +kernel)

set_option maxHeartbeats 8000000 in
theorem awake_c  : Pure Tryd.prog 7 #[] (fun _ => True) (.bool true) := by
  refine pure_of (fn := Tryd.f7) Tryd.func7 rfl Tryd.ntmps7 (Nat.le_of_ble_eq_true rfl) rfl ?_
  intro w0 hH hR
  refine cxSeq ?_
  refine cxReg ?_
  refine pxV (v := (.bool false)) (fun _ _ hF => opAssign rfl rfl) rfl (fun _ _ => rfl) (kA rfl) (by decide) ?_
  refine pxEnd ?_
  refine qxThen ?_
  refine cxSeq ?_
  refine cxReg ?_
  refine pxM hH (fun _ hF => Does.small (unbase64_c ([97, 71, 86, 115, 98, 71, 56, 61]) (leb rfl)) (fun w => opCall rfl Tryd.func15 rfl rfl (Evs.cons (v := (.string (strL ([97, 71, 86, 115, 98, 71, 56, 61])))) rfl Evs.nil) w)) trivial rfl (fun _ _ => rfl) (kM [false] rfl rfl) (by decide) ?_
  clear hH
  rintro v5 E1 w hU2 hH
  replace hH : HH w0 [] [E1] w := hH
  rw [hello_un] at hU2
  obtain ⟨A3, c4, rfl, hO6⟩ := unp_uni hU2
  replace hO6 : OwnT cByte 5 (.slice A3 5 c4) [104, 101, 108, 108, 111] E1 := hO6
  refine pxV (v := (.tuple #[(.slice A3 5 c4), (.int .i64 0)])) (fun _ _ hF => opMove rfl (hF.ev 0 rfl)) rfl (fun _ _ => rfl) (kM [false] rfl rfl) (by decide) ?_
  refine pxV (v := (.slice A3 5 c4)) (fun _ _ hF => opExtract rfl (hF.ev 0 rfl) rfl) rfl (fun _ _ => rfl) (kA rfl) (by decide) ?_
  refine pxV (v := (.int .i64 0)) (fun _ _ hF => opExtract rfl (hF.ev 1 rfl) rfl) rfl (fun _ _ => rfl) (kM [true, false] rfl rfl) (by decide) ?_
  refine pxV (v := (.slice A3 5 c4)) (fun _ _ hF => opAssign rfl (hF.ev 1 rfl)) rfl (fun _ _ => rfl) (kM [true, false] rfl rfl) (by decide) ?_
  refine pxV (v := (.int .i64 0)) (fun _ _ hF => opAssign rfl (hF.ev 1 rfl)) rfl (fun _ _ => rfl) (kM [true, false] rfl rfl) (by decide) ?_
  refine pxEnd ?_
  refine qxThen ?_
  refine cxSeq ?_
  refine cxReg ?_
  refine pxV (v := (.int .i64 0)) (fun _ _ hF => opMove rfl (hF.ev 0 rfl)) rfl (fun _ _ => rfl) (kM [false, true] rfl rfl) (by decide) ?_
  refine pxV (v := (.bool true)) (fun _ _ hF => opEqI rfl (hF.ev 0 rfl) rfl (by decide)) rfl (fun _ _ => rfl) (kM [false, true] rfl rfl) (by decide) ?_
  refine pxV (v := (.bool true)) (fun _ _ hF => opMove rfl (hF.ev 0 rfl)) rfl (fun _ _ => rfl) (kM [false, true] rfl rfl) (by decide) ?_
  refine pxV (v := (.slice A3 5 c4)) (fun _ _ hF => opMove rfl (hF.ev 1 rfl)) rfl (gOn 0 rfl rfl rfl (by decide)) (kM [true, false] rfl rfl) (by decide) ?_
  refine pxS (v := (.string (strL ([104, 101, 108, 108, 111])))) (fun w => Vu cByte w A3 5 c4 ([104, 101, 108, 108, 111])) (hO6.vuAt (hH.has 0 rfl)) (fun _ _ hF hS => opStr (e := 5) rfl (by kernel_rfl) (by kernel_rfl) (by kernel_rfl) (hF.ev 0 rfl) hS) rfl (gOn 1 rfl rfl rfl (by decide)) (kM [false, true] rfl rfl) (by decide) ?_
  refine pxV (v := (.bool true)) (fun _ _ hF => opEqLb (l := [104, 101, 108, 108, 111]) (m := [104, 101, 108, 108, 111]) rfl (hF.ev 0 rfl) rfl (by decide)) rfl (gOn 1 rfl rfl rfl (by decide)) (kM [false, true] rfl rfl) (by decide) ?_
  refine pxV (v := (.bool true)) (fun _ _ hF => opPickT rfl (hF.ev 1 rfl) (hF.ev 0 rfl)) rfl (fun _ _ => rfl) (kM [false, false] rfl rfl) (by decide) ?_
  refine pxV (v := (.bool true)) (fun _ _ hF => opMove rfl (hF.ev 0 rfl)) rfl (fun _ _ => rfl) (kM [false] rfl rfl) (by decide) ?_
  refine pxM hH (fun _ hF => Does.small ((sum_c [] none 0 (leb rfl)).does) (fun w => opCall rfl Tryd.func16 rfl rfl (Evs.cons (v := (.slice none 0 0)) rfl Evs.nil) w)) (Vu.none cByte _) rfl (gOn 0 rfl rfl rfl (by decide)) (kA rfl) (by decide) ?_
  clear hH
  rintro _ _ w ⟨rfl, rfl⟩ hH
  replace hH : HH w0 [] [E1] w := hH.unpad
  refine pxV (v := (.bool true)) (fun _ _ hF => opEqI rfl (hF.ev 0 rfl) rfl (by decide)) rfl (gOn 1 rfl rfl rfl (by decide)) (kM [false, true] rfl rfl) (by decide) ?_
  refine pxV (v := (.bool true)) (fun _ _ hF => opPickT rfl (hF.ev 1 rfl) (hF.ev 0 rfl)) rfl (fun _ _ => rfl) (kM [false, false] rfl rfl) (by decide) ?_
  refine pxV (v := (.bool true)) (fun _ _ hF => opAssign rfl (hF.ev 0 rfl)) rfl (fun _ _ => rfl) (kM [false] rfl rfl) (by decide) ?_
  refine pxEnd ?_
  refine qxThen ?_
  refine cxRet ?_
  refine qxRet1 0 rfl rfl ?_
  exact ⟨rfl, hH.toBelow⟩

end Go.Proofs.YtadbpmcmdcnlfaaDoor
