/- The document's Decode. What the laws of layer 12 lean on. -/
import Derived.Test.YtadbpmcmdcnlfaaDoorArD
import Derived.Test.YtadbpmcmdcnlfaaDoorArL
import Derived.Test.YtadbpmcmdcnlfaaDoorArmQA
import Derived.Test.YtadbpmcmdcnlfaaDoorArW
namespace Go.Proofs.YtadbpmcmdcnlfaaDoor
open Go Go.RowKit
set_option maxRecDepth 100000

theorem unr_uni' {r : Option (List UInt8)} {v : Value} {E' : Hl} (h : UnPostR r v E') : ∃ A c, v = .tuple #[.slice A (r.getD []).length c, .int .i64 ((ers r : Nat) : Int)] ∧ OwnT cByte 5 (.slice A (r.getD []).length c) (r.getD []) E' := by
  rcases h with ⟨rfl, rfl, rfl⟩ | ⟨b, A, c, rfl, rfl, hO⟩
  · exact ⟨none, 0, rfl, OwnT.nil _ _⟩
  · exact ⟨A, c, rfl, hO⟩
theorem ers_no (r : Option (List UInt8)) : decide (((ers r : Nat) : Int) ≠ 0) = r.isNone := by cases r <;> rfl
theorem unr_len (a : List UInt8) : ((unR a).getD []).length ≤ a.length := by rw [← un_same]; exact unP_le a

set_option maxHeartbeats 8000000 in
theorem rdecode_c (s : List UInt8) (hs : s.length ≤ 16777216) : Does Tryd.prog 11 #[(.string (strL s))] [] (fun _ => True) (fun v E' => DecPost (accR (lns s)) v E') := by
  refine does_of (fn := Tryd.f11) Tryd.func11 rfl Tryd.ntmps11 (Nat.le_of_ble_eq_true rfl) rfl ?_
  intro w0 hH hR
  replace hH : HH w0 [] [] w0 := hH.only [false]
  refine cxSeq ?_
  refine cxReg ?_
  refine pxV (v := (.string (strL ([])))) (fun _ _ hF => opAssign rfl rfl) rfl (fun _ _ => rfl) (kA rfl) (by decide) ?_
  refine pxV (v := (.slice none 0 0)) (fun _ _ hF => opAssign rfl rfl) rfl (fun _ _ => rfl) (kM [false, true] rfl rfl) (by decide) ?_
  refine pxV (v := (.int .i64 0)) (fun _ _ hF => opAssign rfl rfl) rfl (fun _ _ => rfl) (kM [false, true] rfl rfl) (by decide) ?_
  refine pxEnd ?_
  refine qxThen ?_
  refine cxSeq ?_
  refine cxReg ?_
  refine pxV (v := (.string (strL s))) (fun _ _ hF => opMove rfl (hF.ev 1 rfl)) rfl (fun _ _ => rfl) (kM [false, false] rfl rfl) (by decide) ?_
  refine pxM hH (fun _ hF => Does.small (rlines_c s (by omega)) (fun w => opCall rfl Tryd.func31 rfl rfl (Evs.cons (v := (.string (strL s))) (hF.ev 0 rfl) Evs.nil) w)) trivial rfl (fun _ _ => rfl) (kM [false] rfl rfl) (by decide) ?_
  clear hH
  rintro v5 E1 w hO2 hH
  replace hH : HH w0 [] [E1] w := hH
  obtain ⟨A3, c4, rfl⟩ := hO2.slice
  refine pxV (v := (.slice A3 ((lns s).length) c4)) (fun _ _ hF => opAssign rfl (hF.ev 0 rfl)) rfl (fun _ _ => rfl) (kM [false] rfl rfl) (by decide) ?_
  refine pxEnd ?_
  refine qxThen ?_
  refine cxSeq ?_
  refine cxSeq ?_
  refine CX.cut ?_ (mono_then (mono_then (mono_base hH)))
  obtain ⟨L, hLq⟩ : ∃ L, lns s = L := ⟨_, rfl⟩
  have hV := hO2.vuAt (hH.has 0 rfl)
  rw [hLq] at hV
  rw [hLq]
  have hLl := lns_len s
  rw [hLq] at hLl
  have hLm : ∀ x ∈ L, x.length ≤ s.length := fun x hx => lns_mem (hLq ▸ hx)
  clear hH
  generalize w = w0 at *
  have hH : HH w0 [] [] w0 := Hold.init w0
  have hLc := hV.cap
  refine cxRegX mixedOrders (by kernel_rfl) ?_
  replace hH := hH.drew
  refine rxV 0 rfl (by kernel_rfl) rfl (fun _ _ => rfl) (fun _ _ hF => opMove rfl (hF.ev 0 rfl)) (kA rfl) (by decide) (v := (.slice A3 L.length c4)) ?_
  refine rxV 1 rfl (by kernel_rfl) rfl (fun _ _ => rfl) (fun _ _ hF => opLen (e := 9) rfl (by kernel_rfl) (hF.ev 0 rfl)) (kM [false, true] rfl rfl) (by decide) (v := (.int .i64 (((L.length) : Nat) : Int))) ?_
  refine rxV 2 rfl (by kernel_rfl) rfl (fun _ _ => rfl) (fun _ _ hF => opLss rfl (hF.ev 0 rfl) rfl (dc (by omega))) (kM [false, true] rfl rfl) (by decide) (v := (.bool (decide (L.length < 3)))) ?_
  refine rxV 3 rfl (by kernel_rfl) rfl (fun _ _ => rfl) (fun _ _ hF => opMove rfl (hF.ev 0 rfl)) (kM [false, true] rfl rfl) (by decide) (v := (.bool (decide (L.length < 3)))) ?_
  refine rxSplitP 0 rfl (l1 := [(17, (.bool true)), (5, (.slice A3 L.length c4))]) (l2 := [(17, (.bool false)), (5, (.slice A3 L.length c4))]) rfl rfl (fun hg7 => ?_) (fun hg7 => ?_)
  · refine rxU 4 rfl (by kernel_rfl) rfl (gOff 0 rfl rfl rfl (by decide)) (kA rfl) (by decide) ?_
    refine rxU 5 rfl (by kernel_rfl) rfl (gOff 0 rfl rfl rfl (by decide)) (kA rfl) (by decide) ?_
    refine rxU 6 rfl (by kernel_rfl) rfl (gOff 0 rfl rfl rfl (by decide)) (kA rfl) (by decide) ?_
    refine rxU 7 rfl (by kernel_rfl) rfl (gOff 0 rfl rfl rfl (by decide)) (kA rfl) (by decide) ?_
    refine rxU 8 rfl (by kernel_rfl) rfl (gOff 0 rfl rfl rfl (by decide)) (kA rfl) (by decide) ?_
    refine rxV 9 rfl (by kernel_rfl) rfl (fun _ _ => rfl) (fun _ _ hF => opPickT rfl (hF.ev 0 rfl) rfl) (kM [false, true] rfl rfl) (by decide) (v := (.bool true)) ?_
    refine rxV 10 rfl (by kernel_rfl) rfl (fun _ _ => rfl) (fun _ _ hF => opMove rfl (hF.ev 0 rfl)) (kM [false, true] rfl rfl) (by decide) (v := (.bool true)) ?_
    refine rxU 11 rfl (by kernel_rfl) rfl (gOff 0 rfl rfl rfl (by decide)) (kA rfl) (by decide) ?_
    refine rxU 12 rfl (by kernel_rfl) rfl (gOff 0 rfl rfl rfl (by decide)) (kA rfl) (by decide) ?_
    refine rxU 13 rfl (by kernel_rfl) rfl (gOff 0 rfl rfl rfl (by decide)) (kA rfl) (by decide) ?_
    refine rxU 14 rfl (by kernel_rfl) rfl (gOff 0 rfl rfl rfl (by decide)) (kA rfl) (by decide) ?_
    refine rxU 15 rfl (by kernel_rfl) rfl (gOff 0 rfl rfl rfl (by decide)) (kA rfl) (by decide) ?_
    refine rxV 16 rfl (by kernel_rfl) rfl (fun _ _ => rfl) (fun _ _ hF => opPickT rfl (hF.ev 0 rfl) rfl) (kM [false, true] rfl rfl) (by decide) (v := (.bool true)) ?_
    refine rxV 17 rfl (by kernel_rfl) rfl (fun _ _ => rfl) (fun _ _ hF => opMove rfl (hF.ev 0 rfl)) (kM [false, true] rfl rfl) (by decide) (v := (.bool true)) ?_
    refine rxU 18 rfl (by kernel_rfl) rfl (gOff 0 rfl rfl rfl (by decide)) (kA rfl) (by decide) ?_
    refine rxU 19 rfl (by kernel_rfl) rfl (gOff 0 rfl rfl rfl (by decide)) (kA rfl) (by decide) ?_
    refine rxU 20 rfl (by kernel_rfl) rfl (gOff 0 rfl rfl rfl (by decide)) (kA rfl) (by decide) ?_
    refine rxU 21 rfl (by kernel_rfl) rfl (gOff 0 rfl rfl rfl (by decide)) (kA rfl) (by decide) ?_
    refine rxU 22 rfl (by kernel_rfl) rfl (gOff 0 rfl rfl rfl (by decide)) (kA rfl) (by decide) ?_
    refine rxU 23 rfl (by kernel_rfl) rfl (gOff 0 rfl rfl rfl (by decide)) (kA rfl) (by decide) ?_
    refine rxU 24 rfl (by kernel_rfl) rfl (gOff 0 rfl rfl rfl (by decide)) (kA rfl) (by decide) ?_
    refine rxU 25 rfl (by kernel_rfl) rfl (gOff 0 rfl rfl rfl (by decide)) (kA rfl) (by decide) ?_
    refine rxU 26 rfl (by kernel_rfl) rfl (gOff 0 rfl rfl rfl (by decide)) (kA rfl) (by decide) ?_
    refine rxU 27 rfl (by kernel_rfl) rfl (gOff 0 rfl rfl rfl (by decide)) (kA rfl) (by decide) ?_
    refine rxV 28 rfl (by kernel_rfl) rfl (fun _ _ => rfl) (fun _ _ hF => opPickT rfl (hF.ev 0 rfl) rfl) (kM [false, true] rfl rfl) (by decide) (v := (.bool true)) ?_
    refine rxEnd (by kernel_rfl) ?_
    refine qxThen ?_
    refine cxT 0 rfl rfl ?_
    refine cxSeq ?_
    refine cxReg ?_
    refine pxV (v := (.string (strL ([])))) (fun _ _ hF => opAssign rfl rfl) rfl (fun _ _ => rfl) (kM [false, false] rfl rfl) (by decide) ?_
    refine pxV (v := (.slice none 0 0)) (fun _ _ hF => opAssign rfl rfl) rfl (fun _ _ => rfl) (kA rfl) (by decide) ?_
    refine pxV (v := (.int .i64 2)) (fun _ _ hF => opAssign rfl rfl) rfl (fun _ _ => rfl) (kA rfl) (by decide) ?_
    refine pxEnd ?_
    refine qxThen ?_
    refine cxRet ?_
    refine qxThenR ?_
    refine qxRet3 2 1 0 rfl rfl rfl rfl ?_
    exact ⟨_, _, rfl, dec_none (accR_a hg7), hH.out []⟩
  · refine rxV 4 rfl (by kernel_rfl) rfl (gOn 0 rfl rfl rfl (by decide)) (fun _ _ hF => opMove rfl (hF.ev 1 rfl)) (kA rfl) (by decide) (v := (.slice A3 L.length c4)) ?_
    have hi8 : 0 < L.length := by omega
    obtain ⟨b9, off10, rfl, hL11, hb12, hR13⟩ := hV.blk (by decide) (Off.nil _ _) (by omega)
    have := hV.cap
    have hj16 : 0 < L.length := by first | exact hi8 | (simp only [List.length_drop]; omega) | (simp only [List.length_drop, List.length_take]; omega) | omega
    obtain ⟨x14, hx15⟩ := get_at L 0 hj16
    refine rxV 5 rfl (by kernel_rfl) rfl (gOn 1 rfl rfl rfl (by decide)) (fun _ _ hF => opIndex (i := 0) (e := 9) (sz := 1) rfl (by kernel_rfl) (by kernel_rfl) (hF.ev 0 rfl) rfl rfl hi8) (kM [false, true, true] rfl rfl) (by decide) (v := (.pointer (some ⟨b9, off10 + 0 * 1, none⟩))) ?_
    refine rxS (fun w => HoldsL cTx w b9 off10 L) 6 rfl (by kernel_rfl) rfl (gOn 1 rfl rfl rfl (by decide)) (hH.holdsL hL11 hb12 hR13) (fun _ _ hF hS => opLoadT (C := cTx) (y := x14) rfl (hF.ev 0 rfl) (by kernel_rfl) (hS 0 _ hx15) rfl) (kM [false, true, true] rfl rfl) (by decide) (v := (.string (strL x14))) ?_
    refine rxV 7 rfl (by kernel_rfl) rfl (gOn 1 rfl rfl rfl (by decide)) (fun _ _ hF => opLenL (l := x14) rfl (by kernel_rfl) (hF.ev 0 rfl)) (kM [false, true, true] rfl rfl) (by decide) (v := (.int .i64 (((x14.length) : Nat) : Int))) ?_
    refine rxV 8 rfl (by kernel_rfl) rfl (gOn 1 rfl rfl rfl (by decide)) (fun _ _ hF => opLss rfl (hF.ev 0 rfl) rfl (dc (by omega))) (kM [false, true, true] rfl rfl) (by decide) (v := (.bool (decide (x14.length < 20)))) ?_
    refine rxV 9 rfl (by kernel_rfl) rfl (fun _ _ => rfl) (fun _ _ hF => opPickF rfl (hF.ev 1 rfl) (hF.ev 0 rfl)) (kM [false, false, true] rfl rfl) (by decide) (v := (.bool (decide (x14.length < 20)))) ?_
    refine rxV 10 rfl (by kernel_rfl) rfl (fun _ _ => rfl) (fun _ _ hF => opMove rfl (hF.ev 0 rfl)) (kM [false, true] rfl rfl) (by decide) (v := (.bool (decide (x14.length < 20)))) ?_
    refine rxSplitP 0 rfl (l1 := [(24, (.bool true)), (5, (.slice (some ⟨b9, off10, none⟩) L.length c4))]) (l2 := [(24, (.bool false)), (5, (.slice (some ⟨b9, off10, none⟩) L.length c4))]) rfl rfl (fun hg17 => ?_) (fun hg17 => ?_)
    · refine rxU 11 rfl (by kernel_rfl) rfl (gOff 0 rfl rfl rfl (by decide)) (kA rfl) (by decide) ?_
      refine rxU 12 rfl (by kernel_rfl) rfl (gOff 0 rfl rfl rfl (by decide)) (kA rfl) (by decide) ?_
      refine rxU 13 rfl (by kernel_rfl) rfl (gOff 0 rfl rfl rfl (by decide)) (kA rfl) (by decide) ?_
      refine rxU 14 rfl (by kernel_rfl) rfl (gOff 0 rfl rfl rfl (by decide)) (kA rfl) (by decide) ?_
      refine rxU 15 rfl (by kernel_rfl) rfl (gOff 0 rfl rfl rfl (by decide)) (kA rfl) (by decide) ?_
      refine rxV 16 rfl (by kernel_rfl) rfl (fun _ _ => rfl) (fun _ _ hF => opPickT rfl (hF.ev 0 rfl) rfl) (kM [false, true] rfl rfl) (by decide) (v := (.bool true)) ?_
      refine rxV 17 rfl (by kernel_rfl) rfl (fun _ _ => rfl) (fun _ _ hF => opMove rfl (hF.ev 0 rfl)) (kM [false, true] rfl rfl) (by decide) (v := (.bool true)) ?_
      refine rxU 18 rfl (by kernel_rfl) rfl (gOff 0 rfl rfl rfl (by decide)) (kA rfl) (by decide) ?_
      refine rxU 19 rfl (by kernel_rfl) rfl (gOff 0 rfl rfl rfl (by decide)) (kA rfl) (by decide) ?_
      refine rxU 20 rfl (by kernel_rfl) rfl (gOff 0 rfl rfl rfl (by decide)) (kA rfl) (by decide) ?_
      refine rxU 21 rfl (by kernel_rfl) rfl (gOff 0 rfl rfl rfl (by decide)) (kA rfl) (by decide) ?_
      refine rxU 22 rfl (by kernel_rfl) rfl (gOff 0 rfl rfl rfl (by decide)) (kA rfl) (by decide) ?_
      refine rxU 23 rfl (by kernel_rfl) rfl (gOff 0 rfl rfl rfl (by decide)) (kA rfl) (by decide) ?_
      refine rxU 24 rfl (by kernel_rfl) rfl (gOff 0 rfl rfl rfl (by decide)) (kA rfl) (by decide) ?_
      refine rxU 25 rfl (by kernel_rfl) rfl (gOff 0 rfl rfl rfl (by decide)) (kA rfl) (by decide) ?_
      refine rxU 26 rfl (by kernel_rfl) rfl (gOff 0 rfl rfl rfl (by decide)) (kA rfl) (by decide) ?_
      refine rxU 27 rfl (by kernel_rfl) rfl (gOff 0 rfl rfl rfl (by decide)) (kA rfl) (by decide) ?_
      refine rxV 28 rfl (by kernel_rfl) rfl (fun _ _ => rfl) (fun _ _ hF => opPickT rfl (hF.ev 0 rfl) rfl) (kM [false, true] rfl rfl) (by decide) (v := (.bool true)) ?_
      refine rxEnd (by kernel_rfl) ?_
      refine qxThen ?_
      refine cxT 0 rfl rfl ?_
      refine cxSeq ?_
      refine cxReg ?_
      refine pxV (v := (.string (strL ([])))) (fun _ _ hF => opAssign rfl rfl) rfl (fun _ _ => rfl) (kM [false, false] rfl rfl) (by decide) ?_
      refine pxV (v := (.slice none 0 0)) (fun _ _ hF => opAssign rfl rfl) rfl (fun _ _ => rfl) (kA rfl) (by decide) ?_
      refine pxV (v := (.int .i64 2)) (fun _ _ hF => opAssign rfl rfl) rfl (fun _ _ => rfl) (kA rfl) (by decide) ?_
      refine pxEnd ?_
      refine qxThen ?_
      refine cxRet ?_
      refine qxThenR ?_
      refine qxRet3 2 1 0 rfl rfl rfl rfl ?_
      exact ⟨_, _, rfl, dec_none (accR_b hx15 (.inl hg17)), hH.out []⟩
    · refine rxV 11 rfl (by kernel_rfl) rfl (gOn 0 rfl rfl rfl (by decide)) (fun _ _ hF => opMove rfl (hF.ev 1 rfl)) (kA rfl) (by decide) (v := (.slice (some ⟨b9, off10, none⟩) L.length c4)) ?_
      have hi18 : 0 < L.length := by omega
      have hj21 : 0 < L.length := by first | exact hi18 | (simp only [List.length_drop]; omega) | (simp only [List.length_drop, List.length_take]; omega) | omega
      refine rxV 12 rfl (by kernel_rfl) rfl (gOn 1 rfl rfl rfl (by decide)) (fun _ _ hF => opIndex (i := 0) (e := 9) (sz := 1) rfl (by kernel_rfl) (by kernel_rfl) (hF.ev 0 rfl) rfl rfl hi18) (kM [false, true, true] rfl rfl) (by decide) (v := (.pointer (some ⟨b9, off10 + 0 * 1, none⟩))) ?_
      refine rxS (fun w => HoldsL cTx w b9 off10 L) 13 rfl (by kernel_rfl) rfl (gOn 1 rfl rfl rfl (by decide)) (hH.holdsL hL11 hb12 hR13) (fun _ _ hF hS => opLoadT (C := cTx) (y := x14) rfl (hF.ev 0 rfl) (by kernel_rfl) (hS 0 _ hx15) rfl) (kM [false, true, true] rfl rfl) (by decide) (v := (.string (strL x14))) ?_
      refine rxV 14 rfl (by kernel_rfl) rfl (gOn 1 rfl rfl rfl (by decide)) (fun _ _ hF => opSlcHL (l := x14) (h := 15) (r := (x14.take 15)) rfl (by kernel_rfl) (hF.ev 0 rfl) rfl rfl (by omega) (rfl)) (kM [false, true, true] rfl rfl) (by decide) (v := (.string (strL (x14.take 15)))) ?_
      refine rxV 15 rfl (by kernel_rfl) rfl (gOn 1 rfl rfl rfl (by decide)) (fun _ _ hF => opNeL (l := (x14.take 15)) (m := begL) rfl (hF.ev 0 rfl) rfl Iff.rfl) (kM [false, true, true] rfl rfl) (by decide) (v := (.bool (decide ((x14.take 15) ≠ begL)))) ?_
      refine rxV 16 rfl (by kernel_rfl) rfl (fun _ _ => rfl) (fun _ _ hF => opPickF rfl (hF.ev 1 rfl) (hF.ev 0 rfl)) (kM [false, false, true] rfl rfl) (by decide) (v := (.bool (decide ((x14.take 15) ≠ begL)))) ?_
      refine rxV 17 rfl (by kernel_rfl) rfl (fun _ _ => rfl) (fun _ _ hF => opMove rfl (hF.ev 0 rfl)) (kM [false, true] rfl rfl) (by decide) (v := (.bool (decide ((x14.take 15) ≠ begL)))) ?_
      refine rxSplitP 0 rfl (l1 := [(31, (.bool true)), (5, (.slice (some ⟨b9, off10, none⟩) L.length c4))]) (l2 := [(31, (.bool false)), (5, (.slice (some ⟨b9, off10, none⟩) L.length c4))]) rfl rfl (fun hg22 => ?_) (fun hg22 => ?_)
      · refine rxU 18 rfl (by kernel_rfl) rfl (gOff 0 rfl rfl rfl (by decide)) (kA rfl) (by decide) ?_
        refine rxU 19 rfl (by kernel_rfl) rfl (gOff 0 rfl rfl rfl (by decide)) (kA rfl) (by decide) ?_
        refine rxU 20 rfl (by kernel_rfl) rfl (gOff 0 rfl rfl rfl (by decide)) (kA rfl) (by decide) ?_
        refine rxU 21 rfl (by kernel_rfl) rfl (gOff 0 rfl rfl rfl (by decide)) (kA rfl) (by decide) ?_
        refine rxU 22 rfl (by kernel_rfl) rfl (gOff 0 rfl rfl rfl (by decide)) (kA rfl) (by decide) ?_
        refine rxU 23 rfl (by kernel_rfl) rfl (gOff 0 rfl rfl rfl (by decide)) (kA rfl) (by decide) ?_
        refine rxU 24 rfl (by kernel_rfl) rfl (gOff 0 rfl rfl rfl (by decide)) (kA rfl) (by decide) ?_
        refine rxU 25 rfl (by kernel_rfl) rfl (gOff 0 rfl rfl rfl (by decide)) (kA rfl) (by decide) ?_
        refine rxU 26 rfl (by kernel_rfl) rfl (gOff 0 rfl rfl rfl (by decide)) (kA rfl) (by decide) ?_
        refine rxU 27 rfl (by kernel_rfl) rfl (gOff 0 rfl rfl rfl (by decide)) (kA rfl) (by decide) ?_
        refine rxV 28 rfl (by kernel_rfl) rfl (fun _ _ => rfl) (fun _ _ hF => opPickT rfl (hF.ev 0 rfl) rfl) (kM [false, true] rfl rfl) (by decide) (v := (.bool true)) ?_
        refine rxEnd (by kernel_rfl) ?_
        refine qxThen ?_
        refine cxT 0 rfl rfl ?_
        refine cxSeq ?_
        refine cxReg ?_
        refine pxV (v := (.string (strL ([])))) (fun _ _ hF => opAssign rfl rfl) rfl (fun _ _ => rfl) (kM [false, false] rfl rfl) (by decide) ?_
        refine pxV (v := (.slice none 0 0)) (fun _ _ hF => opAssign rfl rfl) rfl (fun _ _ => rfl) (kA rfl) (by decide) ?_
        refine pxV (v := (.int .i64 2)) (fun _ _ hF => opAssign rfl rfl) rfl (fun _ _ => rfl) (kA rfl) (by decide) ?_
        refine pxEnd ?_
        refine qxThen ?_
        refine cxRet ?_
        refine qxThenR ?_
        refine qxRet3 2 1 0 rfl rfl rfl rfl ?_
        exact ⟨_, _, rfl, dec_none (accR_b hx15 (.inr (.inl hg22))), hH.out []⟩
      · refine rxV 18 rfl (by kernel_rfl) rfl (gOn 0 rfl rfl rfl (by decide)) (fun _ _ hF => opMove rfl (hF.ev 1 rfl)) (kA rfl) (by decide) (v := (.slice (some ⟨b9, off10, none⟩) L.length c4)) ?_
        have hi23 : 0 < L.length := by omega
        have hj26 : 0 < L.length := by first | exact hi23 | (simp only [List.length_drop]; omega) | (simp only [List.length_drop, List.length_take]; omega) | omega
        refine rxV 19 rfl (by kernel_rfl) rfl (gOn 1 rfl rfl rfl (by decide)) (fun _ _ hF => opIndex (i := 0) (e := 9) (sz := 1) rfl (by kernel_rfl) (by kernel_rfl) (hF.ev 0 rfl) rfl rfl hi23) (kM [false, true, true] rfl rfl) (by decide) (v := (.pointer (some ⟨b9, off10 + 0 * 1, none⟩))) ?_
        refine rxS (fun w => HoldsL cTx w b9 off10 L) 20 rfl (by kernel_rfl) rfl (gOn 1 rfl rfl rfl (by decide)) (hH.holdsL hL11 hb12 hR13) (fun _ _ hF hS => opLoadT (C := cTx) (y := x14) rfl (hF.ev 0 rfl) (by kernel_rfl) (hS 0 _ hx15) rfl) (kM [false, true, true] rfl rfl) (by decide) (v := (.string (strL x14))) ?_
        refine rxV 21 rfl (by kernel_rfl) rfl (gOn 1 rfl rfl rfl (by decide)) (fun _ _ hF => opMove rfl (hF.ev 2 rfl)) (kA rfl) (by decide) (v := (.slice (some ⟨b9, off10, none⟩) L.length c4)) ?_
        have hi27 : 0 < L.length := by omega
        have hj30 : 0 < L.length := by first | exact hi27 | (simp only [List.length_drop]; omega) | (simp only [List.length_drop, List.length_take]; omega) | omega
        refine rxV 22 rfl (by kernel_rfl) rfl (gOn 2 rfl rfl rfl (by decide)) (fun _ _ hF => opIndex (i := 0) (e := 9) (sz := 1) rfl (by kernel_rfl) (by kernel_rfl) (hF.ev 0 rfl) rfl rfl hi27) (kM [false, true, true, true] rfl rfl) (by decide) (v := (.pointer (some ⟨b9, off10 + 0 * 1, none⟩))) ?_
        refine rxS (fun w => HoldsL cTx w b9 off10 L) 23 rfl (by kernel_rfl) rfl (gOn 2 rfl rfl rfl (by decide)) (hH.holdsL hL11 hb12 hR13) (fun _ _ hF hS => opLoadT (C := cTx) (y := x14) rfl (hF.ev 0 rfl) (by kernel_rfl) (hS 0 _ hx15) rfl) (kM [false, true, true, true] rfl rfl) (by decide) (v := (.string (strL x14))) ?_
        refine rxV 24 rfl (by kernel_rfl) rfl (gOn 2 rfl rfl rfl (by decide)) (fun _ _ hF => opLenL (l := x14) rfl (by kernel_rfl) (hF.ev 0 rfl)) (kM [false, true, true, true] rfl rfl) (by decide) (v := (.int .i64 (((x14.length) : Nat) : Int))) ?_
        refine rxV 25 rfl (by kernel_rfl) rfl (gOn 2 rfl rfl rfl (by decide)) (fun _ _ hF => opSub rfl (hF.ev 0 rfl) rfl (wI (by omega) (by omega) (by have := hLm _ (List.mem_of_getElem? hx15); omega))) (kM [false, true, true, true] rfl rfl) (by decide) (v := (.int .i64 (((x14.length - 5) : Nat) : Int))) ?_
        refine rxV 26 rfl (by kernel_rfl) rfl (gOn 2 rfl rfl rfl (by decide)) (fun _ _ hF => opSlcLL (l := x14) (k := x14.length - 5) (r := (x14.drop (x14.length - 5))) rfl (by kernel_rfl) (hF.ev 1 rfl) (hF.ev 0 rfl) rfl (by omega) (rfl)) (kM [false, false, true, true] rfl rfl) (by decide) (v := (.string (strL (x14.drop (x14.length - 5))))) ?_
        refine rxV 27 rfl (by kernel_rfl) rfl (gOn 1 rfl rfl rfl (by decide)) (fun _ _ hF => opNeL (l := (x14.drop (x14.length - 5))) (m := dasL) rfl (hF.ev 0 rfl) rfl Iff.rfl) (kM [false, true, true] rfl rfl) (by decide) (v := (.bool (decide ((x14.drop (x14.length - 5)) ≠ dasL)))) ?_
        refine rxV 28 rfl (by kernel_rfl) rfl (fun _ _ => rfl) (fun _ _ hF => opPickF rfl (hF.ev 1 rfl) (hF.ev 0 rfl)) (kM [false, false, true] rfl rfl) (by decide) (v := (.bool (decide ((x14.drop (x14.length - 5)) ≠ dasL)))) ?_
        refine rxEnd (by kernel_rfl) ?_
        refine qxThen ?_
        refine cxP 0 rfl rfl (fun hc31 => ?_) (fun hc31 => ?_)
        · refine cxSeq ?_
          refine cxReg ?_
          refine pxV (v := (.string (strL ([])))) (fun _ _ hF => opAssign rfl rfl) rfl (fun _ _ => rfl) (kM [false, false] rfl rfl) (by decide) ?_
          refine pxV (v := (.slice none 0 0)) (fun _ _ hF => opAssign rfl rfl) rfl (fun _ _ => rfl) (kA rfl) (by decide) ?_
          refine pxV (v := (.int .i64 2)) (fun _ _ hF => opAssign rfl rfl) rfl (fun _ _ => rfl) (kA rfl) (by decide) ?_
          refine pxEnd ?_
          refine qxThen ?_
          refine cxRet ?_
          refine qxThenR ?_
          refine qxRet3 2 1 0 rfl rfl rfl rfl ?_
          exact ⟨_, _, rfl, dec_none (accR_b hx15 (.inr (.inr hc31))), hH.out []⟩
        · refine cxSkip ?_
          refine qxThen ?_
          refine cxSeq ?_
          refine cxRegX mixedOrders (by kernel_rfl) ?_
          replace hH := hH.drew
          refine rxV 0 rfl (by kernel_rfl) rfl (fun _ _ => rfl) (fun _ _ hF => opMove rfl (hF.ev 1 rfl)) (kM [false, true] rfl rfl) (by decide) (v := (.slice (some ⟨b9, off10, none⟩) L.length c4)) ?_
          have hi32 : 0 < L.length := by omega
          have hj35 : 0 < L.length := by first | exact hi32 | (simp only [List.length_drop]; omega) | (simp only [List.length_drop, List.length_take]; omega) | omega
          refine rxV 1 rfl (by kernel_rfl) rfl (fun _ _ => rfl) (fun _ _ hF => opIndex (i := 0) (e := 9) (sz := 1) rfl (by kernel_rfl) (by kernel_rfl) (hF.ev 0 rfl) rfl rfl hi32) (kM [false, true] rfl rfl) (by decide) (v := (.pointer (some ⟨b9, off10 + 0 * 1, none⟩))) ?_
          refine rxS (fun w => HoldsL cTx w b9 off10 L) 2 rfl (by kernel_rfl) rfl (fun _ _ => rfl) (hH.holdsL hL11 hb12 hR13) (fun _ _ hF hS => opLoadT (C := cTx) (y := x14) rfl (hF.ev 0 rfl) (by kernel_rfl) (hS 0 _ hx15) rfl) (kM [false, true] rfl rfl) (by decide) (v := (.string (strL x14))) ?_
          refine rxV 3 rfl (by kernel_rfl) rfl (fun _ _ => rfl) (fun _ _ hF => opMove rfl (hF.ev 1 rfl)) (kA rfl) (by decide) (v := (.slice (some ⟨b9, off10, none⟩) L.length c4)) ?_
          have hi36 : 0 < L.length := by omega
          have hj39 : 0 < L.length := by first | exact hi36 | (simp only [List.length_drop]; omega) | (simp only [List.length_drop, List.length_take]; omega) | omega
          refine rxV 4 rfl (by kernel_rfl) rfl (fun _ _ => rfl) (fun _ _ hF => opIndex (i := 0) (e := 9) (sz := 1) rfl (by kernel_rfl) (by kernel_rfl) (hF.ev 0 rfl) rfl rfl hi36) (kM [false, true, true] rfl rfl) (by decide) (v := (.pointer (some ⟨b9, off10 + 0 * 1, none⟩))) ?_
          refine rxS (fun w => HoldsL cTx w b9 off10 L) 5 rfl (by kernel_rfl) rfl (fun _ _ => rfl) (hH.holdsL hL11 hb12 hR13) (fun _ _ hF hS => opLoadT (C := cTx) (y := x14) rfl (hF.ev 0 rfl) (by kernel_rfl) (hS 0 _ hx15) rfl) (kM [false, true, true] rfl rfl) (by decide) (v := (.string (strL x14))) ?_
          refine rxV 6 rfl (by kernel_rfl) rfl (fun _ _ => rfl) (fun _ _ hF => opLenL (l := x14) rfl (by kernel_rfl) (hF.ev 0 rfl)) (kM [false, true, true] rfl rfl) (by decide) (v := (.int .i64 (((x14.length) : Nat) : Int))) ?_
          refine rxV 7 rfl (by kernel_rfl) rfl (fun _ _ => rfl) (fun _ _ hF => opSub rfl (hF.ev 0 rfl) rfl (wI (by omega) (by omega) (by have := hLm _ (List.mem_of_getElem? hx15); omega))) (kM [false, true, true] rfl rfl) (by decide) (v := (.int .i64 (((x14.length - 5) : Nat) : Int))) ?_
          refine rxV 8 rfl (by kernel_rfl) rfl (fun _ _ => rfl) (fun _ _ hF => opSlcLH' (l := x14) (k := 15) (h := x14.length - 5) (r := (kR x14)) rfl (by kernel_rfl) (hF.ev 1 rfl) rfl (hF.ev 0 rfl) rfl rfl (by omega) (by omega) (rfl)) (kM [false, false, true] rfl rfl) (by decide) (v := (.string (strL (kR x14)))) ?_
          refine rxV 9 rfl (by kernel_rfl) rfl (fun _ _ => rfl) (fun _ _ hF => opAssign rfl (hF.ev 0 rfl)) (kM [false, true] rfl rfl) (by decide) (v := (.string (strL (kR x14)))) ?_
          refine rxEnd (by kernel_rfl) ?_
          refine qxThen ?_
          refine cxSeq ?_
          refine cxSeq ?_
          have hkl : (kR x14).length ≤ x14.length := by unfold kR; rw [List.length_drop, List.length_take]; omega
          refine cxReg ?_
          refine pxV (v := (.string (strL (kR x14)))) (fun _ _ hF => opMove rfl (hF.ev 0 rfl)) rfl (fun _ _ => rfl) (kA rfl) (by decide) ?_
          refine pxM hH (fun _ hF => Does.small ((rkind_c (kR x14)).does) (fun w => opCall rfl Tryd.func25 rfl rfl (Evs.cons (v := (.string (strL (kR x14)))) (hF.ev 0 rfl) Evs.nil) w)) trivial rfl (fun _ _ => rfl) (kM [false, true, true] rfl rfl) (by decide) ?_
          clear hH
          rintro _ _ w ⟨rfl, rfl⟩ hH
          replace hH : HH w0 [] [] w := hH.unpad
          refine pxV (v := (.bool (decide (¬ (isK (kR x14)))))) (fun _ _ hF => opNot rfl (hF.ev 0 rfl) decide_not.symm) rfl (fun _ _ => rfl) (kM [false, true, true] rfl rfl) (by decide) ?_
          refine pxV (v := (.bool (decide (¬ (isK (kR x14)))))) (fun _ _ hF => opMove rfl (hF.ev 0 rfl)) rfl (fun _ _ => rfl) (kM [false, true, true] rfl rfl) (by decide) ?_
          refine pxSplitP 0 rfl (l1 := [(55, (.bool true)), (6, (.string (strL (kR x14)))), (5, (.slice (some ⟨b9, off10, none⟩) L.length c4))]) (l2 := [(55, (.bool false)), (6, (.string (strL (kR x14)))), (5, (.slice (some ⟨b9, off10, none⟩) L.length c4))]) rfl rfl (fun hg40 => ?_) (fun hg40 => ?_)
          · refine pxU rfl (gOff 0 rfl rfl rfl (by decide)) (kA rfl) (by decide) ?_
            refine pxU rfl (gOff 0 rfl rfl rfl (by decide)) (kA rfl) (by decide) ?_
            refine pxU rfl (gOff 0 rfl rfl rfl (by decide)) (kA rfl) (by decide) ?_
            refine pxU rfl (gOff 0 rfl rfl rfl (by decide)) (kA rfl) (by decide) ?_
            refine pxU rfl (gOff 0 rfl rfl rfl (by decide)) (kA rfl) (by decide) ?_
            refine pxU rfl (gOff 0 rfl rfl rfl (by decide)) (kA rfl) (by decide) ?_
            refine pxU rfl (gOff 0 rfl rfl rfl (by decide)) (kA rfl) (by decide) ?_
            refine pxU rfl (gOff 0 rfl rfl rfl (by decide)) (kA rfl) (by decide) ?_
            refine pxU rfl (gOff 0 rfl rfl rfl (by decide)) (kA rfl) (by decide) ?_
            refine pxU rfl (gOff 0 rfl rfl rfl (by decide)) (kA rfl) (by decide) ?_
            refine pxV (v := (.bool true)) (fun _ _ hF => opPickT rfl (hF.ev 0 rfl) rfl) rfl (fun _ _ => rfl) (kM [false, true, true] rfl rfl) (by decide) ?_
            refine pxEnd ?_
            refine qxThen ?_
            refine cxT 0 rfl rfl ?_
            refine cxSeq ?_
            refine cxReg ?_
            refine pxV (v := (.string (strL ([])))) (fun _ _ hF => opAssign rfl rfl) rfl (fun _ _ => rfl) (kM [false, false, false] rfl rfl) (by decide) ?_
            refine pxV (v := (.slice none 0 0)) (fun _ _ hF => opAssign rfl rfl) rfl (fun _ _ => rfl) (kA rfl) (by decide) ?_
            refine pxV (v := (.int .i64 2)) (fun _ _ hF => opAssign rfl rfl) rfl (fun _ _ => rfl) (kA rfl) (by decide) ?_
            refine pxEnd ?_
            refine qxThen ?_
            refine cxRet ?_
            refine qxThenR ?_
            refine qxRet3 2 1 0 rfl rfl rfl rfl ?_
            have hac := accR_c hg7 hx15 hg17 hg22 hc31
            rw [if_pos (.inl hg40)] at hac
            exact ⟨_, _, rfl, dec_none (hac), hH.out []⟩
          · refine pxV (v := (.slice (some ⟨b9, off10, none⟩) L.length c4)) (fun _ _ hF => opMove rfl (hF.ev 2 rfl)) rfl (gOn 0 rfl rfl rfl (by decide)) (kA rfl) (by decide) ?_
            refine pxV (v := (.slice (some ⟨b9, off10, none⟩) L.length c4)) (fun _ _ hF => opMove rfl (hF.ev 3 rfl)) rfl (gOn 1 rfl rfl rfl (by decide)) (kA rfl) (by decide) ?_
            refine pxV (v := (.int .i64 (((L.length) : Nat) : Int))) (fun _ _ hF => opLen (e := 9) rfl (by kernel_rfl) (hF.ev 0 rfl)) rfl (gOn 2 rfl rfl rfl (by decide)) (kM [false, true, true, true, true] rfl rfl) (by decide) ?_
            refine pxV (v := (.int .i64 ((((L.length - 1)) : Nat) : Int))) (fun _ _ hF => opSub rfl (hF.ev 0 rfl) rfl (wI (by omega) (by omega) (by omega))) rfl (gOn 2 rfl rfl rfl (by decide)) (kM [false, true, true, true, true] rfl rfl) (by decide) ?_
            have hi41 : (L.length - 1) < L.length := by omega
            have hj44 : (L.length - 1) < L.length := by first | exact hi41 | (simp only [List.length_drop]; omega) | (simp only [List.length_drop, List.length_take]; omega) | omega
            obtain ⟨x42, hx43⟩ := get_at L (L.length - 1) hj44
            refine pxV (v := (.pointer (some ⟨b9, off10 + (L.length - 1) * 1, none⟩))) (fun _ _ hF => opIndex (i := (L.length - 1)) (e := 9) (sz := 1) rfl (by kernel_rfl) (by kernel_rfl) (hF.ev 1 rfl) (hF.ev 0 rfl) rfl hi41) rfl (gOn 2 rfl rfl rfl (by decide)) (kM [false, false, true, true, true] rfl rfl) (by decide) ?_
            refine pxS (v := (.string (strL x42))) (fun w => HoldsL cTx w b9 off10 L) (hH.holdsL hL11 hb12 hR13) (fun _ _ hF hS => opLoadT (C := cTx) (y := x42) rfl (hF.ev 0 rfl) (by kernel_rfl) (hS (L.length - 1) _ hx43) rfl) rfl (gOn 1 rfl rfl rfl (by decide)) (kM [false, true, true, true] rfl rfl) (by decide) ?_
            refine pxV (v := (.string (strL (kR x14)))) (fun _ _ hF => opMove rfl (hF.ev 2 rfl)) rfl (gOn 1 rfl rfl rfl (by decide)) (kA rfl) (by decide) ?_
            refine pxV (v := (.string (strL (endL ++ (kR x14))))) (fun _ _ hF => opAddL (l := endL) (m := (kR x14)) (r := (endL ++ (kR x14))) rfl rfl (hF.ev 0 rfl) (by have := isK_len (Decidable.not_not.1 hg40); simp only [endL, List.length_cons, List.length_nil]; omega) (rfl)) rfl (gOn 2 rfl rfl rfl (by decide)) (kM [false, true, true, true, true] rfl rfl) (by decide) ?_
            refine pxV (v := (.string (strL (footK (kR x14))))) (fun _ _ hF => opAddL (l := (endL ++ (kR x14))) (m := dasL) (r := (footK (kR x14))) rfl (hF.ev 0 rfl) rfl (by have := isK_len (Decidable.not_not.1 hg40); simp only [endL, dasL, List.length_append, List.length_cons, List.length_nil]; omega) (rfl)) rfl (gOn 2 rfl rfl rfl (by decide)) (kM [false, true, true, true, true] rfl rfl) (by decide) ?_
            refine pxV (v := (.bool (decide (x42 ≠ (footK (kR x14)))))) (fun _ _ hF => opNeL (l := x42) (m := (footK (kR x14))) rfl (hF.ev 1 rfl) (hF.ev 0 rfl) Iff.rfl) rfl (gOn 2 rfl rfl rfl (by decide)) (kM [false, false, true, true, true] rfl rfl) (by decide) ?_
            refine pxV (v := (.bool (decide (x42 ≠ (footK (kR x14)))))) (fun _ _ hF => opPickF rfl (hF.ev 1 rfl) (hF.ev 0 rfl)) rfl (fun _ _ => rfl) (kM [false, false, true, true] rfl rfl) (by decide) ?_
            refine pxEnd ?_
            refine qxThen ?_
            refine cxP 0 rfl rfl (fun hc45 => ?_) (fun hc45 => ?_)
            · refine cxSeq ?_
              refine cxReg ?_
              refine pxV (v := (.string (strL ([])))) (fun _ _ hF => opAssign rfl rfl) rfl (fun _ _ => rfl) (kM [false, false, false] rfl rfl) (by decide) ?_
              refine pxV (v := (.slice none 0 0)) (fun _ _ hF => opAssign rfl rfl) rfl (fun _ _ => rfl) (kA rfl) (by decide) ?_
              refine pxV (v := (.int .i64 2)) (fun _ _ hF => opAssign rfl rfl) rfl (fun _ _ => rfl) (kA rfl) (by decide) ?_
              refine pxEnd ?_
              refine qxThen ?_
              refine cxRet ?_
              refine qxThenR ?_
              refine qxRet3 2 1 0 rfl rfl rfl rfl ?_
              have hac := accR_c hg7 hx15 hg17 hg22 hc31
              rw [lastD_at hx43, if_pos (.inr hc45)] at hac
              exact ⟨_, _, rfl, dec_none (hac), hH.out []⟩
            · refine cxSkip ?_
              refine qxThen ?_
              refine cxSeq ?_
              refine cxReg ?_
              refine pxV (v := (.slice (some ⟨b9, off10, none⟩) L.length c4)) (fun _ _ hF => opMove rfl (hF.ev 2 rfl)) rfl (fun _ _ => rfl) (kM [false, true, true] rfl rfl) (by decide) ?_
              refine pxV (v := (.slice (some ⟨b9, off10, none⟩) L.length c4)) (fun _ _ hF => opMove rfl (hF.ev 2 rfl)) rfl (fun _ _ => rfl) (kM [true, true, false] rfl rfl) (by decide) ?_
              refine pxV (v := (.int .i64 (((L.length) : Nat) : Int))) (fun _ _ hF => opLen (e := 9) rfl (by kernel_rfl) (hF.ev 0 rfl)) rfl (fun _ _ => rfl) (kM [false, true, true] rfl rfl) (by decide) ?_
              refine pxV (v := (.int .i64 ((((L.length - 1)) : Nat) : Int))) (fun _ _ hF => opSub rfl (hF.ev 0 rfl) rfl (wI (by omega) (by omega) (by omega))) rfl (fun _ _ => rfl) (kM [false, true, true] rfl rfl) (by decide) ?_
              refine pxV (v := (.slice (cutA (some ⟨b9, off10, none⟩) c4 1 1) ((L.length - 1) - 1) (c4 - 1))) (fun _ _ hF => opCutLH (k := 1) (h := (L.length - 1)) (e := 9) (sz := 1) rfl (by kernel_rfl) (by kernel_rfl) (hF.ev 1 rfl) rfl (hF.ev 0 rfl) rfl rfl (by omega) (by omega)) rfl (fun _ _ => rfl) (kM [false, false, true] rfl rfl) (by decide) ?_
              refine pxV (v := (.slice (cutA (some ⟨b9, off10, none⟩) c4 1 1) ((L.length - 1) - 1) (c4 - 1))) (fun _ _ hF => opAssign rfl (hF.ev 0 rfl)) rfl (fun _ _ => rfl) (kM [false, true] rfl rfl) (by decide) ?_
              refine pxEnd ?_
              refine qxThen ?_
              refine cxSeq ?_
              refine cxBlock ?_
              refine cxLoop (σ := (Option Addr) × Nat × Nat × (List (List UInt8))) (fun x => [(6, (.string (strL (kR x14)))), (5, (.slice x.1 x.2.1 x.2.2.1))]) (fun x w => HH w0 [] [] w ∧ (Vu cTx w0 x.1 x.2.1 x.2.2.1 x.2.2.2) ∧ (x.2.2.2.dropWhile hdr = ((L.take (L.length - 1)).drop 1).dropWhile hdr) ∧ (x.2.1 ≤ L.length) ∧ (∀ q ∈ x.2.2.2, q.length ≤ 16777216)) (fun x => x.2.1) ((cutA (some ⟨b9, off10, none⟩) c4 1 1), ((L.length - 1) - 1), (c4 - 1), ((L.take (L.length - 1)).drop 1)) ⟨hH, (hV.cut (k := 1) (m := (L.length - 1)) (by omega) (by omega)), rfl, (by show ((L.length - 1) - 1) ≤ L.length; omega), (fun x hx => by have := hLm x (List.mem_of_mem_take (List.mem_of_mem_drop hx)); omega)⟩ (slots_at [1, 0] rfl) ?_
              clear hH
              rintro ⟨A1, n1, c1, l1⟩ w ⟨hH, hV1, hdw, hn1, hsub⟩
              change CX _ _ _ _ [(6, (.string (strL (kR x14)))), (5, (.slice A1 n1 c1))] _
              replace hH : HH w0 [] [] w := hH
              replace hV1 : Vu cTx w0 A1 n1 c1 l1 := hV1
              replace hdw : l1.dropWhile hdr = ((L.take (L.length - 1)).drop 1).dropWhile hdr := hdw
              replace hn1 : n1 ≤ L.length := hn1
              replace hsub : ∀ q ∈ l1, q.length ≤ 16777216 := hsub
              have hl1 := hV1.len
              have hc1 := hV1.cap
              refine cxSeq ?_
              refine cxSeq ?_
              refine cxReg ?_
              refine pxV (v := (.slice A1 n1 c1)) (fun _ _ hF => opMove rfl (hF.ev 1 rfl)) rfl (fun _ _ => rfl) (kA rfl) (by decide) ?_
              refine pxV (v := (.int .i64 (((n1) : Nat) : Int))) (fun _ _ hF => opLen (e := 9) rfl (by kernel_rfl) (hF.ev 0 rfl)) rfl (fun _ _ => rfl) (kM [false, true, true] rfl rfl) (by decide) ?_
              refine pxV (v := (.bool (decide (n1 > 0)))) (fun _ _ hF => opGtr rfl (hF.ev 0 rfl) rfl (dc (by omega))) rfl (fun _ _ => rfl) (kM [false, true, true] rfl rfl) (by decide) ?_
              refine pxV (v := (.bool (decide (n1 > 0)))) (fun _ _ hF => opMove rfl (hF.ev 0 rfl)) rfl (fun _ _ => rfl) (kM [false, true, true] rfl rfl) (by decide) ?_
              refine pxSplitP 0 rfl (l1 := [(75, (.bool true)), (6, (.string (strL (kR x14)))), (5, (.slice A1 n1 c1))]) (l2 := [(75, (.bool false)), (6, (.string (strL (kR x14)))), (5, (.slice A1 n1 c1))]) rfl rfl (fun hg46 => ?_) (fun hg46 => ?_)
              · refine pxV (v := (.slice A1 n1 c1)) (fun _ _ hF => opMove rfl (hF.ev 2 rfl)) rfl (gOn 0 rfl rfl rfl (by decide)) (kA rfl) (by decide) ?_
                have hi47 : 0 < n1 := by omega
                obtain ⟨b48, off49, rfl, hL50, hb51, hR52⟩ := hV1.blk (by decide) (Off.nil _ _) (by omega)
                have := hV1.cap
                have hj55 : 0 < l1.length := by first | exact hi47 | (simp only [List.length_drop]; omega) | (simp only [List.length_drop, List.length_take]; omega) | omega
                obtain ⟨x53, hx54⟩ := get_at l1 0 hj55
                refine pxV (v := (.pointer (some ⟨b48, off49 + 0 * 1, none⟩))) (fun _ _ hF => opIndex (i := 0) (e := 9) (sz := 1) rfl (by kernel_rfl) (by kernel_rfl) (hF.ev 0 rfl) rfl rfl hi47) rfl (gOn 1 rfl rfl rfl (by decide)) (kM [false, true, true, true] rfl rfl) (by decide) ?_
                refine pxS (v := (.string (strL x53))) (fun w => HoldsL cTx w b48 off49 l1) (hH.holdsL hL50 hb51 hR52) (fun _ _ hF hS => opLoadT (C := cTx) (y := x53) rfl (hF.ev 0 rfl) (by kernel_rfl) (hS 0 _ hx54) rfl) rfl (gOn 1 rfl rfl rfl (by decide)) (kM [false, true, true, true] rfl rfl) (by decide) ?_
                refine pxM hH (fun _ hF => Does.small ((rnamed_c x53 (by have := hsub _ (List.mem_of_getElem? hx54); omega)).does) (fun w => opCall rfl Tryd.func32 rfl rfl (Evs.cons (v := (.string (strL x53))) (hF.ev 0 rfl) Evs.nil) w)) trivial rfl (gOn 1 rfl rfl rfl (by decide)) (kM [false, true, true, true] rfl rfl) (by decide) ?_
                clear hH
                rintro _ _ w ⟨rfl, rfl⟩ hH
                replace hH : HH w0 [] [] w := hH.unpad
                refine pxV (v := (.bool (hdr x53))) (fun _ _ hF => opPickT rfl (hF.ev 1 rfl) (hF.ev 0 rfl)) rfl (fun _ _ => rfl) (kM [false, false, true, true] rfl rfl) (by decide) ?_
                refine pxEnd ?_
                refine qxThen ?_
                refine cxB 0 rfl rfl (fun hc56 => ?_) (fun hc56 => ?_)
                · refine cxSkip ?_
                  refine qxThen ?_
                  refine cxBlock ?_
                  refine cxReg ?_
                  refine pxV (v := (.slice (some ⟨b48, off49, none⟩) n1 c1)) (fun _ _ hF => opMove rfl (hF.ev 2 rfl)) rfl (fun _ _ => rfl) (kM [false, true, false] rfl rfl) (by decide) ?_
                  refine pxV (v := (.slice (cutA (some ⟨b48, off49, none⟩) c1 1 1) (n1 - 1) (c1 - 1))) (fun _ _ hF => opCutL (k := 1) (e := 9) (sz := 1) rfl (by kernel_rfl) (by kernel_rfl) (hF.ev 0 rfl) rfl rfl (by omega)) rfl (fun _ _ => rfl) (kM [false, true] rfl rfl) (by decide) ?_
                  refine pxV (v := (.slice (cutA (some ⟨b48, off49, none⟩) c1 1 1) (n1 - 1) (c1 - 1))) (fun _ _ hF => opAssign rfl (hF.ev 0 rfl)) rfl (fun _ _ => rfl) (kM [false, true] rfl rfl) (by decide) ?_
                  refine pxEnd ?_
                  refine qxInN ?_
                  exact qxRound ((cutA (some ⟨b48, off49, none⟩) c1 1 1), (n1 - 1), (c1 - 1), (l1.drop 1)) ⟨hH, (show Vu cTx w0 (cutA (some ⟨b48, off49, none⟩) c1 1 1) (n1 - 1) (c1 - 1) (l1.drop 1) from (hV1.from (k := 1) (by omega))), ((dw_go hx54 hc56).trans hdw), (show (n1 - 1) ≤ L.length from (by show (n1 - 1) ≤ L.length; omega)), (fun x hx => hsub x (List.mem_of_mem_drop hx))⟩ (by show n1 - 1 < n1; omega) (slots_at [1, 0] rfl)
                · refine cxExit ?_
                  refine qxThenE ?_
                  refine qxThenE ?_
                  refine qxInE ?_
                  refine qxThen ?_
                  refine cxSeq ?_
                  refine cxSeq ?_
                  refine cxReg ?_
                  refine pxV (v := (.slice (some ⟨b48, off49, none⟩) n1 c1)) (fun _ _ hF => opMove rfl (hF.ev 2 rfl)) rfl (fun _ _ => rfl) (kM [false, true, true] rfl rfl) (by decide) ?_
                  refine pxV (v := (.int .i64 (((n1) : Nat) : Int))) (fun _ _ hF => opLen (e := 9) rfl (by kernel_rfl) (hF.ev 0 rfl)) rfl (fun _ _ => rfl) (kM [false, true, true] rfl rfl) (by decide) ?_
                  refine pxV (v := (.bool false)) (fun _ _ hF => opEqI rfl (hF.ev 0 rfl) rfl (decide_eq_false (by omega))) rfl (fun _ _ => rfl) (kM [false, true, true] rfl rfl) (by decide) ?_
                  refine pxV (v := (.bool false)) (fun _ _ hF => opMove rfl (hF.ev 0 rfl)) rfl (fun _ _ => rfl) (kM [false, true, true] rfl rfl) (by decide) ?_
                  refine pxV (v := (.slice (some ⟨b48, off49, none⟩) n1 c1)) (fun _ _ hF => opMove rfl (hF.ev 2 rfl)) rfl (gOn 0 rfl rfl rfl (by decide)) (kA rfl) (by decide) ?_
                  have hi57 : 0 < n1 := by omega
                  have hj60 : 0 < l1.length := by first | exact hi57 | (simp only [List.length_drop]; omega) | (simp only [List.length_drop, List.length_take]; omega) | omega
                  refine pxV (v := (.pointer (some ⟨b48, off49 + 0 * 1, none⟩))) (fun _ _ hF => opIndex (i := 0) (e := 9) (sz := 1) rfl (by kernel_rfl) (by kernel_rfl) (hF.ev 0 rfl) rfl rfl hi57) rfl (gOn 1 rfl rfl rfl (by decide)) (kM [false, true, true, true] rfl rfl) (by decide) ?_
                  refine pxS (v := (.string (strL x53))) (fun w => HoldsL cTx w b48 off49 l1) (hH.holdsL hL50 hb51 hR52) (fun _ _ hF hS => opLoadT (C := cTx) (y := x53) rfl (hF.ev 0 rfl) (by kernel_rfl) (hS 0 _ hx54) rfl) rfl (gOn 1 rfl rfl rfl (by decide)) (kM [false, true, true, true] rfl rfl) (by decide) ?_
                  refine pxV (v := (.bool (decide (x53 ≠ [])))) (fun _ _ hF => opNeL (l := x53) (m := []) rfl (hF.ev 0 rfl) rfl Iff.rfl) rfl (gOn 1 rfl rfl rfl (by decide)) (kM [false, true, true, true] rfl rfl) (by decide) ?_
                  refine pxV (v := (.bool (decide (x53 ≠ [])))) (fun _ _ hF => opPickF rfl (hF.ev 1 rfl) (hF.ev 0 rfl)) rfl (fun _ _ => rfl) (kM [false, false, true, true] rfl rfl) (by decide) ?_
                  refine pxEnd ?_
                  refine qxThen ?_
                  refine cxP 0 rfl rfl (fun hc61 => ?_) (fun hc61 => ?_)
                  · refine cxSeq ?_
                    refine cxReg ?_
                    refine pxV (v := (.string (strL ([])))) (fun _ _ hF => opAssign rfl rfl) rfl (fun _ _ => rfl) (kM [false, false, false] rfl rfl) (by decide) ?_
                    refine pxV (v := (.slice none 0 0)) (fun _ _ hF => opAssign rfl rfl) rfl (fun _ _ => rfl) (kA rfl) (by decide) ?_
                    refine pxV (v := (.int .i64 2)) (fun _ _ hF => opAssign rfl rfl) rfl (fun _ _ => rfl) (kA rfl) (by decide) ?_
                    refine pxEnd ?_
                    refine qxThen ?_
                    refine cxRet ?_
                    refine qxThenR ?_
                    refine qxRet3 2 1 0 rfl rfl rfl rfl ?_
                    have hac := accR_c hg7 hx15 hg17 hg22 hc31
                    rw [lastD_at hx43, if_neg (fun h => h.elim hg40 hc45)] at hac
                    rw [bodyR_ne (hdw.symm.trans (dw_stop hx54 hc56)) hc61] at hac
                    exact ⟨_, _, rfl, dec_none (hac), hH.out []⟩
                  · refine cxSkip ?_
                    refine qxThen ?_
                    refine cxSeq ?_
                    refine cxReg ?_
                    refine pxV (v := (.slice (some ⟨b48, off49, none⟩) n1 c1)) (fun _ _ hF => opMove rfl (hF.ev 2 rfl)) rfl (fun _ _ => rfl) (kM [false, true, false] rfl rfl) (by decide) ?_
                    refine pxV (v := (.slice (cutA (some ⟨b48, off49, none⟩) c1 1 1) (n1 - 1) (c1 - 1))) (fun _ _ hF => opCutL (k := 1) (e := 9) (sz := 1) rfl (by kernel_rfl) (by kernel_rfl) (hF.ev 0 rfl) rfl rfl (by omega)) rfl (fun _ _ => rfl) (kM [false, true] rfl rfl) (by decide) ?_
                    refine pxV (v := (.slice (cutA (some ⟨b48, off49, none⟩) c1 1 1) (n1 - 1) (c1 - 1))) (fun _ _ hF => opAssign rfl (hF.ev 0 rfl)) rfl (fun _ _ => rfl) (kM [false, true] rfl rfl) (by decide) ?_
                    refine pxEnd ?_
                    refine qxThen ?_
                    refine cxSeq ?_
                    refine cxReg ?_
                    refine pxV (v := (.string (strL ([])))) (fun _ _ hF => opAssign rfl rfl) rfl (fun _ _ => rfl) (kA rfl) (by decide) ?_
                    refine pxEnd ?_
                    refine qxThen ?_
                    refine cxJoin (σ := (Option Addr) × Nat × Nat × (List (List UInt8)) × (List UInt8)) (fun x => [(7, (.string (strL x.2.2.2.2))), (6, (.string (strL (kR x14)))), (5, (.slice x.1 x.2.1 x.2.2.1))]) (fun x w => HH w0 [] [] w ∧ (Vu cTx w0 x.1 x.2.1 x.2.2.1 x.2.2.2.1) ∧ (partR (l1.drop 1) = (x.2.2.2.2, x.2.2.2.1)) ∧ (x.2.1 ≤ L.length)) ?_ ?_
                    · refine cxSeq ?_
                      have hd1 : (l1.drop 1).length = n1 - 1 := by rw [List.length_drop]; omega
                      refine cxReg ?_
                      refine pxV (v := (.slice (cutA (some ⟨b48, off49, none⟩) c1 1 1) (n1 - 1) (c1 - 1))) (fun _ _ hF => opMove rfl (hF.ev 1 rfl)) rfl (fun _ _ => rfl) (kA rfl) (by decide) ?_
                      refine pxV (v := (.int .i64 ((((n1 - 1)) : Nat) : Int))) (fun _ _ hF => opLen (e := 9) rfl (by kernel_rfl) (hF.ev 0 rfl)) rfl (fun _ _ => rfl) (kM [false, true, true, true] rfl rfl) (by decide) ?_
                      refine pxV (v := (.bool (decide ((n1 - 1) > 0)))) (fun _ _ hF => opGtr rfl (hF.ev 0 rfl) rfl (dc (by omega))) rfl (fun _ _ => rfl) (kM [false, true, true, true] rfl rfl) (by decide) ?_
                      refine pxV (v := (.bool (decide ((n1 - 1) > 0)))) (fun _ _ hF => opMove rfl (hF.ev 0 rfl)) rfl (fun _ _ => rfl) (kM [false, true, true, true] rfl rfl) (by decide) ?_
                      refine pxSplitP 0 rfl (l1 := [(97, (.bool true)), (7, (.string (strL ([])))), (5, (.slice (cutA (some ⟨b48, off49, none⟩) c1 1 1) (n1 - 1) (c1 - 1))), (6, (.string (strL (kR x14))))]) (l2 := [(97, (.bool false)), (7, (.string (strL ([])))), (5, (.slice (cutA (some ⟨b48, off49, none⟩) c1 1 1) (n1 - 1) (c1 - 1))), (6, (.string (strL (kR x14))))]) rfl rfl (fun hg62 => ?_) (fun hg62 => ?_)
                      · refine pxV (v := (.slice (cutA (some ⟨b48, off49, none⟩) c1 1 1) (n1 - 1) (c1 - 1))) (fun _ _ hF => opMove rfl (hF.ev 2 rfl)) rfl (gOn 0 rfl rfl rfl (by decide)) (kA rfl) (by decide) ?_
                        refine pxV (v := (.slice (cutA (some ⟨b48, off49, none⟩) c1 1 1) (n1 - 1) (c1 - 1))) (fun _ _ hF => opMove rfl (hF.ev 3 rfl)) rfl (gOn 1 rfl rfl rfl (by decide)) (kA rfl) (by decide) ?_
                        refine pxV (v := (.int .i64 ((((n1 - 1)) : Nat) : Int))) (fun _ _ hF => opLen (e := 9) rfl (by kernel_rfl) (hF.ev 0 rfl)) rfl (gOn 2 rfl rfl rfl (by decide)) (kM [false, true, true, true, true, true] rfl rfl) (by decide) ?_
                        refine pxV (v := (.int .i64 ((((n1 - 1 - 1)) : Nat) : Int))) (fun _ _ hF => opSub rfl (hF.ev 0 rfl) rfl (wI (by omega) (by omega) (by omega))) rfl (gOn 2 rfl rfl rfl (by decide)) (kM [false, true, true, true, true, true] rfl rfl) (by decide) ?_
                        have hi63 : (n1 - 1 - 1) < (n1 - 1) := by omega
                        have hj66 : (n1 - 1 - 1) < (l1.drop 1).length := by first | exact hi63 | (simp only [List.length_drop]; omega) | (simp only [List.length_drop, List.length_take]; omega) | omega
                        obtain ⟨x64, hx65⟩ := get_at (l1.drop 1) (n1 - 1 - 1) hj66
                        refine pxV (v := (.pointer (some ⟨b48, off49 + 1 * 1 + (n1 - 1 - 1) * 1, none⟩))) (fun _ _ hF => opIndexC (i := (n1 - 1 - 1)) (e := 9) (sz := 1) rfl (by kernel_rfl) (by kernel_rfl) (hF.ev 1 rfl) (cutA_some (by omega)) (hF.ev 0 rfl) rfl hi63) rfl (gOn 2 rfl rfl rfl (by decide)) (kM [false, false, true, true, true, true] rfl rfl) (by decide) ?_
                        refine pxS (v := (.string (strL x64))) (fun w => HoldsL cTx w b48 off49 l1) (hH.holdsL hL50 hb51 hR52) (fun _ _ hF hS => opLoadT (C := cTx) (y := x64) rfl (hF.ev 0 rfl) (by kernel_rfl) ((hS.drop 1) (n1 - 1 - 1) _ hx65) rfl) rfl (gOn 1 rfl rfl rfl (by decide)) (kM [false, true, true, true, true] rfl rfl) (by decide) ?_
                        refine pxV (v := (.int .i64 (((x64.length) : Nat) : Int))) (fun _ _ hF => opLenL (l := x64) rfl (by kernel_rfl) (hF.ev 0 rfl)) rfl (gOn 1 rfl rfl rfl (by decide)) (kM [false, true, true, true, true] rfl rfl) (by decide) ?_
                        refine pxV (v := (.bool (decide (x64.length = 5)))) (fun _ _ hF => opEqI rfl (hF.ev 0 rfl) rfl (dc (by omega))) rfl (gOn 1 rfl rfl rfl (by decide)) (kM [false, true, true, true, true] rfl rfl) (by decide) ?_
                        refine pxV (v := (.bool (decide (x64.length = 5)))) (fun _ _ hF => opPickT rfl (hF.ev 1 rfl) (hF.ev 0 rfl)) rfl (fun _ _ => rfl) (kM [false, false, true, true, true] rfl rfl) (by decide) ?_
                        refine pxV (v := (.bool (decide (x64.length = 5)))) (fun _ _ hF => opMove rfl (hF.ev 0 rfl)) rfl (fun _ _ => rfl) (kM [false, true, true, true] rfl rfl) (by decide) ?_
                        refine pxSplitP 0 rfl (l1 := [(107, (.bool true)), (7, (.string (strL ([])))), (5, (.slice (cutA (some ⟨b48, off49, none⟩) c1 1 1) (n1 - 1) (c1 - 1))), (6, (.string (strL (kR x14))))]) (l2 := [(107, (.bool false)), (7, (.string (strL ([])))), (5, (.slice (cutA (some ⟨b48, off49, none⟩) c1 1 1) (n1 - 1) (c1 - 1))), (6, (.string (strL (kR x14))))]) rfl rfl (fun hg67 => ?_) (fun hg67 => ?_)
                        · refine pxV (v := (.slice (cutA (some ⟨b48, off49, none⟩) c1 1 1) (n1 - 1) (c1 - 1))) (fun _ _ hF => opMove rfl (hF.ev 2 rfl)) rfl (gOn 0 rfl rfl rfl (by decide)) (kA rfl) (by decide) ?_
                          refine pxV (v := (.slice (cutA (some ⟨b48, off49, none⟩) c1 1 1) (n1 - 1) (c1 - 1))) (fun _ _ hF => opMove rfl (hF.ev 3 rfl)) rfl (gOn 1 rfl rfl rfl (by decide)) (kA rfl) (by decide) ?_
                          refine pxV (v := (.int .i64 ((((n1 - 1)) : Nat) : Int))) (fun _ _ hF => opLen (e := 9) rfl (by kernel_rfl) (hF.ev 0 rfl)) rfl (gOn 2 rfl rfl rfl (by decide)) (kM [false, true, true, true, true, true] rfl rfl) (by decide) ?_
                          refine pxV (v := (.int .i64 ((((n1 - 1 - 1)) : Nat) : Int))) (fun _ _ hF => opSub rfl (hF.ev 0 rfl) rfl (wI (by omega) (by omega) (by omega))) rfl (gOn 2 rfl rfl rfl (by decide)) (kM [false, true, true, true, true, true] rfl rfl) (by decide) ?_
                          have hi68 : (n1 - 1 - 1) < (n1 - 1) := by omega
                          have hj71 : (n1 - 1 - 1) < (l1.drop 1).length := by first | exact hi68 | (simp only [List.length_drop]; omega) | (simp only [List.length_drop, List.length_take]; omega) | omega
                          refine pxV (v := (.pointer (some ⟨b48, off49 + 1 * 1 + (n1 - 1 - 1) * 1, none⟩))) (fun _ _ hF => opIndexC (i := (n1 - 1 - 1)) (e := 9) (sz := 1) rfl (by kernel_rfl) (by kernel_rfl) (hF.ev 1 rfl) (cutA_some (by omega)) (hF.ev 0 rfl) rfl hi68) rfl (gOn 2 rfl rfl rfl (by decide)) (kM [false, false, true, true, true, true] rfl rfl) (by decide) ?_
                          refine pxS (v := (.string (strL x64))) (fun w => HoldsL cTx w b48 off49 l1) (hH.holdsL hL50 hb51 hR52) (fun _ _ hF hS => opLoadT (C := cTx) (y := x64) rfl (hF.ev 0 rfl) (by kernel_rfl) ((hS.drop 1) (n1 - 1 - 1) _ hx65) rfl) rfl (gOn 1 rfl rfl rfl (by decide)) (kM [false, true, true, true, true] rfl rfl) (by decide) ?_
                          obtain ⟨x72, hx73⟩ := get_at x64 0 (by omega)
                          have hb74 := UInt8.toNat_lt x72
                          refine pxV (v := (.int .u8 (((x72.toNat) : Nat) : Int))) (fun _ _ hF => opIdxL (l := x64) (i := 0) (c := x72) rfl (by kernel_rfl) (hF.ev 0 rfl) rfl rfl hx73) rfl (gOn 1 rfl rfl rfl (by decide)) (kM [false, true, true, true, true] rfl rfl) (by decide) ?_
                          refine pxV (v := (.bool (decide (x72.toNat = 61)))) (fun _ _ hF => opEqI rfl (hF.ev 0 rfl) rfl (dc (by omega))) rfl (gOn 1 rfl rfl rfl (by decide)) (kM [false, true, true, true, true] rfl rfl) (by decide) ?_
                          refine pxV (v := (.bool (decide (x72.toNat = 61)))) (fun _ _ hF => opPickT rfl (hF.ev 1 rfl) (hF.ev 0 rfl)) rfl (fun _ _ => rfl) (kM [false, false, true, true, true] rfl rfl) (by decide) ?_
                          refine pxEnd ?_
                          refine qxThen ?_
                          refine cxP 0 rfl rfl (fun hc75 => ?_) (fun hc75 => ?_)
                          · refine cxSeq ?_
                            refine cxReg ?_
                            refine pxV (v := (.slice (cutA (some ⟨b48, off49, none⟩) c1 1 1) (n1 - 1) (c1 - 1))) (fun _ _ hF => opMove rfl (hF.ev 2 rfl)) rfl (fun _ _ => rfl) (kM [false, false, true, true] rfl rfl) (by decide) ?_
                            refine pxV (v := (.slice (cutA (some ⟨b48, off49, none⟩) c1 1 1) (n1 - 1) (c1 - 1))) (fun _ _ hF => opMove rfl (hF.ev 1 rfl)) rfl (fun _ _ => rfl) (kA rfl) (by decide) ?_
                            refine pxV (v := (.int .i64 ((((n1 - 1)) : Nat) : Int))) (fun _ _ hF => opLen (e := 9) rfl (by kernel_rfl) (hF.ev 0 rfl)) rfl (fun _ _ => rfl) (kM [false, true, true, true] rfl rfl) (by decide) ?_
                            refine pxV (v := (.int .i64 ((((n1 - 1 - 1)) : Nat) : Int))) (fun _ _ hF => opSub rfl (hF.ev 0 rfl) rfl (wI (by omega) (by omega) (by omega))) rfl (fun _ _ => rfl) (kM [false, true, true, true] rfl rfl) (by decide) ?_
                            have hi76 : (n1 - 1 - 1) < (n1 - 1) := by omega
                            have hj79 : (n1 - 1 - 1) < (l1.drop 1).length := by first | exact hi76 | (simp only [List.length_drop]; omega) | (simp only [List.length_drop, List.length_take]; omega) | omega
                            refine pxV (v := (.pointer (some ⟨b48, off49 + 1 * 1 + (n1 - 1 - 1) * 1, none⟩))) (fun _ _ hF => opIndexC (i := (n1 - 1 - 1)) (e := 9) (sz := 1) rfl (by kernel_rfl) (by kernel_rfl) (hF.ev 1 rfl) (cutA_some (by omega)) (hF.ev 0 rfl) rfl hi76) rfl (fun _ _ => rfl) (kM [false, false, true, true] rfl rfl) (by decide) ?_
                            refine pxS (v := (.string (strL x64))) (fun w => HoldsL cTx w b48 off49 l1) (hH.holdsL hL50 hb51 hR52) (fun _ _ hF hS => opLoadT (C := cTx) (y := x64) rfl (hF.ev 0 rfl) (by kernel_rfl) ((hS.drop 1) (n1 - 1 - 1) _ hx65) rfl) rfl (fun _ _ => rfl) (kM [false, true, true] rfl rfl) (by decide) ?_
                            refine pxV (v := (.string (strL (x64.drop 1)))) (fun _ _ hF => opSlcLL (l := x64) (k := 1) (r := (x64.drop 1)) rfl (by kernel_rfl) (hF.ev 0 rfl) rfl rfl (by omega) (rfl)) rfl (fun _ _ => rfl) (kM [false, true, true] rfl rfl) (by decide) ?_
                            refine pxV (v := (.string (strL (x64.drop 1)))) (fun _ _ hF => opAssign rfl (hF.ev 0 rfl)) rfl (fun _ _ => rfl) (kM [false, true, true] rfl rfl) (by decide) ?_
                            refine pxEnd ?_
                            refine qxThen ?_
                            refine cxReg ?_
                            refine pxV (v := (.slice (cutA (some ⟨b48, off49, none⟩) c1 1 1) (n1 - 1) (c1 - 1))) (fun _ _ hF => opMove rfl (hF.ev 1 rfl)) rfl (fun _ _ => rfl) (kA rfl) (by decide) ?_
                            refine pxV (v := (.slice (cutA (some ⟨b48, off49, none⟩) c1 1 1) (n1 - 1) (c1 - 1))) (fun _ _ hF => opMove rfl (hF.ev 2 rfl)) rfl (fun _ _ => rfl) (kM [true, true, false, true] rfl rfl) (by decide) ?_
                            refine pxV (v := (.int .i64 ((((n1 - 1)) : Nat) : Int))) (fun _ _ hF => opLen (e := 9) rfl (by kernel_rfl) (hF.ev 0 rfl)) rfl (fun _ _ => rfl) (kM [false, true, true, true] rfl rfl) (by decide) ?_
                            refine pxV (v := (.int .i64 ((((n1 - 1 - 1)) : Nat) : Int))) (fun _ _ hF => opSub rfl (hF.ev 0 rfl) rfl (wI (by omega) (by omega) (by omega))) rfl (fun _ _ => rfl) (kM [false, true, true, true] rfl rfl) (by decide) ?_
                            refine pxV (v := (.slice (cutA (some ⟨b48, off49, none⟩) c1 1 1) (n1 - 1 - 1) (c1 - 1))) (fun _ _ hF => opCutH (h := (n1 - 1 - 1)) (e := 9) (sz := 1) rfl (by kernel_rfl) (by kernel_rfl) (hF.ev 1 rfl) (hF.ev 0 rfl) rfl (by omega)) rfl (fun _ _ => rfl) (kM [false, false, true, true] rfl rfl) (by decide) ?_
                            refine pxV (v := (.slice (cutA (some ⟨b48, off49, none⟩) c1 1 1) (n1 - 1 - 1) (c1 - 1))) (fun _ _ hF => opAssign rfl (hF.ev 0 rfl)) rfl (fun _ _ => rfl) (kM [false, true, true] rfl rfl) (by decide) ?_
                            refine pxEnd ?_
                            exact qxJoin ((cutA (some ⟨b48, off49, none⟩) c1 1 1), (n1 - 1 - 1), (c1 - 1), ((l1.drop 1).take (n1 - 1 - 1)), (x64.drop 1)) ⟨hH, (show Vu cTx w0 (cutA (some ⟨b48, off49, none⟩) c1 1 1) (n1 - 1 - 1) (c1 - 1) ((l1.drop 1).take (n1 - 1 - 1)) from ((hV1.from (k := 1) (by omega)).head (m := (n1 - 1 - 1)) (by omega))), (by rw [part_yes (by rw [hd1]; exact hg62) (by rw [hd1]; exact hx65) hg67 hx73 hc75, hd1]), (show (n1 - 1 - 1) ≤ L.length from (by omega))⟩ (slots_at [1, 2, 0] rfl)
                          · refine cxSkip ?_
                            exact qxJoin ((cutA (some ⟨b48, off49, none⟩) c1 1 1), (n1 - 1), (c1 - 1), (l1.drop 1), []) ⟨hH, (show Vu cTx w0 (cutA (some ⟨b48, off49, none⟩) c1 1 1) (n1 - 1) (c1 - 1) (l1.drop 1) from (hV1.from (k := 1) (by omega))), (part_no61 (by rw [hd1]; exact hx65) hx73 hc75), (show (n1 - 1) ≤ L.length from (by omega))⟩ (slots_at [1, 3, 2] rfl)
                        · refine pxU rfl (gOff 0 rfl rfl rfl (by decide)) (kA rfl) (by decide) ?_
                          refine pxU rfl (gOff 0 rfl rfl rfl (by decide)) (kA rfl) (by decide) ?_
                          refine pxU rfl (gOff 0 rfl rfl rfl (by decide)) (kA rfl) (by decide) ?_
                          refine pxU rfl (gOff 0 rfl rfl rfl (by decide)) (kA rfl) (by decide) ?_
                          refine pxU rfl (gOff 0 rfl rfl rfl (by decide)) (kA rfl) (by decide) ?_
                          refine pxU rfl (gOff 0 rfl rfl rfl (by decide)) (kA rfl) (by decide) ?_
                          refine pxU rfl (gOff 0 rfl rfl rfl (by decide)) (kA rfl) (by decide) ?_
                          refine pxU rfl (gOff 0 rfl rfl rfl (by decide)) (kA rfl) (by decide) ?_
                          refine pxV (v := (.bool false)) (fun _ _ hF => opPickF rfl (hF.ev 0 rfl) rfl) rfl (fun _ _ => rfl) (kM [false, true, true, true] rfl rfl) (by decide) ?_
                          refine pxEnd ?_
                          refine qxThen ?_
                          refine cxF 0 rfl rfl ?_
                          refine cxSkip ?_
                          exact qxJoin ((cutA (some ⟨b48, off49, none⟩) c1 1 1), (n1 - 1), (c1 - 1), (l1.drop 1), []) ⟨hH, (show Vu cTx w0 (cutA (some ⟨b48, off49, none⟩) c1 1 1) (n1 - 1) (c1 - 1) (l1.drop 1) from (hV1.from (k := 1) (by omega))), (part_no5 (by rw [hd1]; exact hx65) hg67), (show (n1 - 1) ≤ L.length from (by omega))⟩ (slots_at [1, 3, 2] rfl)
                      · refine pxU rfl (gOff 0 rfl rfl rfl (by decide)) (kA rfl) (by decide) ?_
                        refine pxU rfl (gOff 0 rfl rfl rfl (by decide)) (kA rfl) (by decide) ?_
                        refine pxU rfl (gOff 0 rfl rfl rfl (by decide)) (kA rfl) (by decide) ?_
                        refine pxU rfl (gOff 0 rfl rfl rfl (by decide)) (kA rfl) (by decide) ?_
                        refine pxU rfl (gOff 0 rfl rfl rfl (by decide)) (kA rfl) (by decide) ?_
                        refine pxU rfl (gOff 0 rfl rfl rfl (by decide)) (kA rfl) (by decide) ?_
                        refine pxU rfl (gOff 0 rfl rfl rfl (by decide)) (kA rfl) (by decide) ?_
                        refine pxU rfl (gOff 0 rfl rfl rfl (by decide)) (kA rfl) (by decide) ?_
                        refine pxV (v := (.bool false)) (fun _ _ hF => opPickF rfl (hF.ev 0 rfl) rfl) rfl (fun _ _ => rfl) (kM [false, true, true, true] rfl rfl) (by decide) ?_
                        refine pxV (v := (.bool false)) (fun _ _ hF => opMove rfl (hF.ev 0 rfl)) rfl (fun _ _ => rfl) (kM [false, true, true, true] rfl rfl) (by decide) ?_
                        refine pxU rfl (gOff 0 rfl rfl rfl (by decide)) (kA rfl) (by decide) ?_
                        refine pxU rfl (gOff 0 rfl rfl rfl (by decide)) (kA rfl) (by decide) ?_
                        refine pxU rfl (gOff 0 rfl rfl rfl (by decide)) (kA rfl) (by decide) ?_
                        refine pxU rfl (gOff 0 rfl rfl rfl (by decide)) (kA rfl) (by decide) ?_
                        refine pxU rfl (gOff 0 rfl rfl rfl (by decide)) (kA rfl) (by decide) ?_
                        refine pxU rfl (gOff 0 rfl rfl rfl (by decide)) (kA rfl) (by decide) ?_
                        refine pxU rfl (gOff 0 rfl rfl rfl (by decide)) (kA rfl) (by decide) ?_
                        refine pxU rfl (gOff 0 rfl rfl rfl (by decide)) (kA rfl) (by decide) ?_
                        refine pxV (v := (.bool false)) (fun _ _ hF => opPickF rfl (hF.ev 0 rfl) rfl) rfl (fun _ _ => rfl) (kM [false, true, true, true] rfl rfl) (by decide) ?_
                        refine pxEnd ?_
                        refine qxThen ?_
                        refine cxF 0 rfl rfl ?_
                        refine cxSkip ?_
                        exact qxJoin ((cutA (some ⟨b48, off49, none⟩) c1 1 1), (n1 - 1), (c1 - 1), (l1.drop 1), []) ⟨hH, (show Vu cTx w0 (cutA (some ⟨b48, off49, none⟩) c1 1 1) (n1 - 1) (c1 - 1) (l1.drop 1) from (hV1.from (k := 1) (by omega))), (part_no0 (by rw [hd1]; exact hg62)), (show (n1 - 1) ≤ L.length from (by omega))⟩ (slots_at [1, 3, 2] rfl)
                    · clear hH
                      rintro ⟨A2, n2, c2, M3, sm⟩ w ⟨hH, hV2, hpt, hn2⟩
                      change CX _ _ _ _ [(7, (.string (strL sm))), (6, (.string (strL (kR x14)))), (5, (.slice A2 n2 c2))] _
                      replace hH : HH w0 [] [] w := hH
                      replace hV2 : Vu cTx w0 A2 n2 c2 M3 := hV2
                      replace hpt : partR (l1.drop 1) = (sm, M3) := hpt
                      replace hn2 : n2 ≤ L.length := hn2
                      have hl2 := hV2.len
                      have hc2 := hV2.cap
                      refine cxSeq ?_
                      refine cxReg ?_
                      refine pxV (v := (.string (strL ([])))) (fun _ _ hF => opAssign rfl rfl) rfl (fun _ _ => rfl) (kA rfl) (by decide) ?_
                      refine pxEnd ?_
                      refine qxThen ?_
                      refine cxSeq ?_
                      refine cxSeq ?_
                      refine cxReg ?_
                      refine pxV (v := (.slice A2 n2 c2)) (fun _ _ hF => opMove rfl (hF.ev 3 rfl)) rfl (fun _ _ => rfl) (kA rfl) (by decide) ?_
                      refine pxV (v := (.int .i64 (((n2) : Nat) : Int))) (fun _ _ hF => opLen (e := 9) rfl (by kernel_rfl) (hF.ev 0 rfl)) rfl (fun _ _ => rfl) (kM [false, true, true, true, true] rfl rfl) (by decide) ?_
                      refine pxV (v := (.int .i64 0)) (fun _ _ hF => opMove rfl rfl) rfl (fun _ _ => rfl) (kA rfl) (by decide) ?_
                      refine pxEnd ?_
                      refine qxThen ?_
                      refine cxBlock ?_
                      refine cxLoop (σ := Nat × (List UInt8)) (fun x => [(131, (.int .i64 (((x.1) : Nat) : Int))), (130, (.int .i64 (((n2) : Nat) : Int))), (8, (.string (strL x.2))), (7, (.string (strL sm))), (6, (.string (strL (kR x14)))), (5, (.slice A2 n2 c2))]) (fun x w => HH w0 [] [] w ∧ (x.1 ≤ n2) ∧ (x.2 = (M3.take x.1).flatten) ∧ (lokL (M3.drop x.1) = lokL M3) ∧ (x.2.length ≤ 76 * x.1)) (fun x => n2 - x.1) (0, []) ⟨hH, Nat.zero_le _, rfl, rfl, Nat.le_refl _⟩ (slots_at [0, 1, 2, 3, 4, 5] rfl) ?_
                      clear hH
                      rintro ⟨i, al⟩ w ⟨hH, hi, hal, hlok, hall⟩
                      change CX _ _ _ _ [(131, (.int .i64 (((i) : Nat) : Int))), (130, (.int .i64 (((n2) : Nat) : Int))), (8, (.string (strL al))), (7, (.string (strL sm))), (6, (.string (strL (kR x14)))), (5, (.slice A2 n2 c2))] _
                      replace hH : HH w0 [] [] w := hH
                      replace hi : i ≤ n2 := hi
                      replace hal : al = (M3.take i).flatten := hal
                      replace hlok : lokL (M3.drop i) = lokL M3 := hlok
                      replace hall : al.length ≤ 76 * i := hall
                      refine cxSeq ?_
                      refine cxReg ?_
                      refine pxV (v := (.bool (decide (i < n2)))) (fun _ _ hF => opLss rfl (hF.ev 0 rfl) (hF.ev 1 rfl) (dc (by omega))) rfl (fun _ _ => rfl) (kA rfl) (by decide) ?_
                      refine pxEnd ?_
                      refine qxThen ?_
                      refine cxSeq ?_
                      refine cxP 0 rfl rfl (fun hc80 => ?_) (fun hc80 => ?_)
                      · refine cxSkip ?_
                        refine qxThen ?_
                        refine cxSeq ?_
                        refine cxBlock ?_
                        refine cxSeq ?_
                        refine cxReg ?_
                        refine pxV (v := (.int .i64 (((i) : Nat) : Int))) (fun _ _ hF => opMove rfl (hF.ev 1 rfl)) rfl (fun _ _ => rfl) (kM [false, true, true, true, true, true, true] rfl rfl) (by decide) ?_
                        refine pxV (v := (.int .i64 (((i) : Nat) : Int))) (fun _ _ hF => opAssign rfl (hF.ev 0 rfl)) rfl (fun _ _ => rfl) (kM [false, true, true, true, true, true, true] rfl rfl) (by decide) ?_
                        refine pxEnd ?_
                        refine qxThen ?_
                        refine cxSeq ?_
                        refine cxSeq ?_
                        refine cxReg ?_
                        refine pxV (v := (.slice A2 n2 c2)) (fun _ _ hF => opMove rfl (hF.ev 6 rfl)) rfl (fun _ _ => rfl) (kA rfl) (by decide) ?_
                        refine pxV (v := (.int .i64 (((i) : Nat) : Int))) (fun _ _ hF => opMove rfl (hF.ev 1 rfl)) rfl (fun _ _ => rfl) (kA rfl) (by decide) ?_
                        have hi81 : i < n2 := by omega
                        obtain ⟨b82, off83, rfl, hL84, hb85, hR86⟩ := hV2.blk (by decide) (Off.nil _ _) (by omega)
                        have := hV2.cap
                        have hj89 : i < M3.length := by first | exact hi81 | (simp only [List.length_drop]; omega) | (simp only [List.length_drop, List.length_take]; omega) | omega
                        obtain ⟨x87, hx88⟩ := get_at M3 i hj89
                        refine pxV (v := (.pointer (some ⟨b82, off83 + i * 1, none⟩))) (fun _ _ hF => opIndex (i := i) (e := 9) (sz := 1) rfl (by kernel_rfl) (by kernel_rfl) (hF.ev 1 rfl) (hF.ev 0 rfl) rfl hi81) rfl (fun _ _ => rfl) (kM [false, false, true, true, true, true, true, true, true] rfl rfl) (by decide) ?_
                        refine pxS (v := (.string (strL x87))) (fun w => HoldsL cTx w b82 off83 M3) (hH.holdsL hL84 hb85 hR86) (fun _ _ hF hS => opLoadT (C := cTx) (y := x87) rfl (hF.ev 0 rfl) (by kernel_rfl) (hS i _ hx88) rfl) rfl (fun _ _ => rfl) (kM [false, true, true, true, true, true, true, true] rfl rfl) (by decide) ?_
                        refine pxV (v := (.bool (decide (x87 = [])))) (fun _ _ hF => opEqL (l := x87) (m := []) rfl (hF.ev 0 rfl) rfl Iff.rfl) rfl (fun _ _ => rfl) (kM [false, true, true, true, true, true, true, true] rfl rfl) (by decide) ?_
                        refine pxV (v := (.bool (decide (x87 = [])))) (fun _ _ hF => opMove rfl (hF.ev 0 rfl)) rfl (fun _ _ => rfl) (kM [false, true, true, true, true, true, true, true] rfl rfl) (by decide) ?_
                        refine pxSplitP 0 rfl (l1 := [(139, (.bool true)), (9, (.int .i64 (((i) : Nat) : Int))), (131, (.int .i64 (((i) : Nat) : Int))), (130, (.int .i64 (((n2) : Nat) : Int))), (8, (.string (strL al))), (7, (.string (strL sm))), (6, (.string (strL (kR x14)))), (5, (.slice (some ⟨b82, off83, none⟩) n2 c2))]) (l2 := [(139, (.bool false)), (9, (.int .i64 (((i) : Nat) : Int))), (131, (.int .i64 (((i) : Nat) : Int))), (130, (.int .i64 (((n2) : Nat) : Int))), (8, (.string (strL al))), (7, (.string (strL sm))), (6, (.string (strL (kR x14)))), (5, (.slice (some ⟨b82, off83, none⟩) n2 c2))]) rfl rfl (fun hg90 => ?_) (fun hg90 => ?_)
                        · refine pxU rfl (gOff 0 rfl rfl rfl (by decide)) (kA rfl) (by decide) ?_
                          refine pxU rfl (gOff 0 rfl rfl rfl (by decide)) (kA rfl) (by decide) ?_
                          refine pxU rfl (gOff 0 rfl rfl rfl (by decide)) (kA rfl) (by decide) ?_
                          refine pxU rfl (gOff 0 rfl rfl rfl (by decide)) (kA rfl) (by decide) ?_
                          refine pxU rfl (gOff 0 rfl rfl rfl (by decide)) (kA rfl) (by decide) ?_
                          refine pxU rfl (gOff 0 rfl rfl rfl (by decide)) (kA rfl) (by decide) ?_
                          refine pxV (v := (.bool true)) (fun _ _ hF => opPickT rfl (hF.ev 0 rfl) rfl) rfl (fun _ _ => rfl) (kM [false, true, true, true, true, true, true, true] rfl rfl) (by decide) ?_
                          refine pxV (v := (.bool true)) (fun _ _ hF => opMove rfl (hF.ev 0 rfl)) rfl (fun _ _ => rfl) (kM [false, true, true, true, true, true, true, true] rfl rfl) (by decide) ?_
                          refine pxU rfl (gOff 0 rfl rfl rfl (by decide)) (kA rfl) (by decide) ?_
                          refine pxU rfl (gOff 0 rfl rfl rfl (by decide)) (kA rfl) (by decide) ?_
                          refine pxU rfl (gOff 0 rfl rfl rfl (by decide)) (kA rfl) (by decide) ?_
                          refine pxU rfl (gOff 0 rfl rfl rfl (by decide)) (kA rfl) (by decide) ?_
                          refine pxU rfl (gOff 0 rfl rfl rfl (by decide)) (kA rfl) (by decide) ?_
                          refine pxUK rfl (gOff 0 rfl rfl rfl (by decide)) (kA rfl) (by decide) ?_
                          refine pxU rfl (gOffU 0 rfl rfl rfl) (kA rfl) (by decide) ?_
                          refine pxU rfl (gOffU 0 rfl rfl rfl) (kA rfl) (by decide) ?_
                          refine pxU rfl (gOffU 0 rfl rfl rfl) (kA rfl) (by decide) ?_
                          refine pxU rfl (gOffU 0 rfl rfl rfl) (kA rfl) (by decide) ?_
                          refine pxU rfl (gOffU 0 rfl rfl rfl) (kA rfl) (by decide) ?_
                          refine pxU rfl (gOffU 0 rfl rfl rfl) (kA rfl) (by decide) ?_
                          refine pxU rfl (gOffU 0 rfl rfl rfl) (kA rfl) (by decide) ?_
                          refine pxU rfl (gOff 1 rfl rfl rfl (by decide)) (kM [false, true, true, true, true, true, true, true, true] rfl rfl) (by decide) ?_
                          refine pxV (v := (.bool true)) (fun _ _ hF => opPickT rfl (hF.ev 0 rfl) rfl) rfl (fun _ _ => rfl) (kM [false, true, true, true, true, true, true, true] rfl rfl) (by decide) ?_
                          refine pxEnd ?_
                          refine qxThen ?_
                          refine cxT 0 rfl rfl ?_
                          refine cxSeq ?_
                          refine cxReg ?_
                          refine pxV (v := (.string (strL ([])))) (fun _ _ hF => opAssign rfl rfl) rfl (fun _ _ => rfl) (kM [false, false, false, false, false, false, false, false] rfl rfl) (by decide) ?_
                          refine pxV (v := (.slice none 0 0)) (fun _ _ hF => opAssign rfl rfl) rfl (fun _ _ => rfl) (kA rfl) (by decide) ?_
                          refine pxV (v := (.int .i64 2)) (fun _ _ hF => opAssign rfl rfl) rfl (fun _ _ => rfl) (kA rfl) (by decide) ?_
                          refine pxEnd ?_
                          refine qxThen ?_
                          refine cxRet ?_
                          refine qxThenR ?_
                          refine qxInR ?_
                          refine qxThenR ?_
                          refine qxThenR ?_
                          refine qxInR ?_
                          refine qxThenR ?_
                          refine qxRet3 2 1 0 rfl rfl rfl rfl ?_
                          have hac := accR_c hg7 hx15 hg17 hg22 hc31
                          rw [lastD_at hx43, if_neg (fun h => h.elim hg40 hc45)] at hac
                          rw [bodyR_go (hdw.symm.trans (dw_stop hx54 hc56)) hc61 hpt] at hac
                          rw [sumR_bad (hlok.symm.trans (lok_bad hx88 hl2 (.inl hg90)))] at hac
                          exact ⟨_, _, rfl, dec_none (hac), hH.out []⟩
                        · refine pxV (v := (.slice (some ⟨b82, off83, none⟩) n2 c2)) (fun _ _ hF => opMove rfl (hF.ev 7 rfl)) rfl (gOn 0 rfl rfl rfl (by decide)) (kA rfl) (by decide) ?_
                          refine pxV (v := (.int .i64 (((i) : Nat) : Int))) (fun _ _ hF => opMove rfl (hF.ev 2 rfl)) rfl (gOn 1 rfl rfl rfl (by decide)) (kA rfl) (by decide) ?_
                          have hi91 : i < n2 := by omega
                          have hj94 : i < M3.length := by first | exact hi91 | (simp only [List.length_drop]; omega) | (simp only [List.length_drop, List.length_take]; omega) | omega
                          refine pxV (v := (.pointer (some ⟨b82, off83 + i * 1, none⟩))) (fun _ _ hF => opIndex (i := i) (e := 9) (sz := 1) rfl (by kernel_rfl) (by kernel_rfl) (hF.ev 1 rfl) (hF.ev 0 rfl) rfl hi91) rfl (gOn 2 rfl rfl rfl (by decide)) (kM [false, false, true, true, true, true, true, true, true, true] rfl rfl) (by decide) ?_
                          refine pxS (v := (.string (strL x87))) (fun w => HoldsL cTx w b82 off83 M3) (hH.holdsL hL84 hb85 hR86) (fun _ _ hF hS => opLoadT (C := cTx) (y := x87) rfl (hF.ev 0 rfl) (by kernel_rfl) (hS i _ hx88) rfl) rfl (gOn 1 rfl rfl rfl (by decide)) (kM [false, true, true, true, true, true, true, true, true] rfl rfl) (by decide) ?_
                          refine pxV (v := (.int .i64 (((x87.length) : Nat) : Int))) (fun _ _ hF => opLenL (l := x87) rfl (by kernel_rfl) (hF.ev 0 rfl)) rfl (gOn 1 rfl rfl rfl (by decide)) (kM [false, true, true, true, true, true, true, true, true] rfl rfl) (by decide) ?_
                          refine pxV (v := (.bool (decide (x87.length > 76)))) (fun _ _ hF => opGtr rfl (hF.ev 0 rfl) rfl (dc (by omega))) rfl (gOn 1 rfl rfl rfl (by decide)) (kM [false, true, true, true, true, true, true, true, true] rfl rfl) (by decide) ?_
                          refine pxV (v := (.bool (decide (x87.length > 76)))) (fun _ _ hF => opPickF rfl (hF.ev 1 rfl) (hF.ev 0 rfl)) rfl (fun _ _ => rfl) (kM [false, false, true, true, true, true, true, true, true] rfl rfl) (by decide) ?_
                          refine pxV (v := (.bool (decide (x87.length > 76)))) (fun _ _ hF => opMove rfl (hF.ev 0 rfl)) rfl (fun _ _ => rfl) (kM [false, true, true, true, true, true, true, true] rfl rfl) (by decide) ?_
                          refine pxSplitP 0 rfl (l1 := [(147, (.bool true)), (9, (.int .i64 (((i) : Nat) : Int))), (131, (.int .i64 (((i) : Nat) : Int))), (130, (.int .i64 (((n2) : Nat) : Int))), (8, (.string (strL al))), (7, (.string (strL sm))), (6, (.string (strL (kR x14)))), (5, (.slice (some ⟨b82, off83, none⟩) n2 c2))]) (l2 := [(147, (.bool false)), (9, (.int .i64 (((i) : Nat) : Int))), (131, (.int .i64 (((i) : Nat) : Int))), (130, (.int .i64 (((n2) : Nat) : Int))), (8, (.string (strL al))), (7, (.string (strL sm))), (6, (.string (strL (kR x14)))), (5, (.slice (some ⟨b82, off83, none⟩) n2 c2))]) rfl rfl (fun hg95 => ?_) (fun hg95 => ?_)
                          · refine pxU rfl (gOff 0 rfl rfl rfl (by decide)) (kA rfl) (by decide) ?_
                            refine pxU rfl (gOff 0 rfl rfl rfl (by decide)) (kA rfl) (by decide) ?_
                            refine pxU rfl (gOff 0 rfl rfl rfl (by decide)) (kA rfl) (by decide) ?_
                            refine pxU rfl (gOff 0 rfl rfl rfl (by decide)) (kA rfl) (by decide) ?_
                            refine pxU rfl (gOff 0 rfl rfl rfl (by decide)) (kA rfl) (by decide) ?_
                            refine pxUK rfl (gOff 0 rfl rfl rfl (by decide)) (kA rfl) (by decide) ?_
                            refine pxU rfl (gOffU 0 rfl rfl rfl) (kA rfl) (by decide) ?_
                            refine pxU rfl (gOffU 0 rfl rfl rfl) (kA rfl) (by decide) ?_
                            refine pxU rfl (gOffU 0 rfl rfl rfl) (kA rfl) (by decide) ?_
                            refine pxU rfl (gOffU 0 rfl rfl rfl) (kA rfl) (by decide) ?_
                            refine pxU rfl (gOffU 0 rfl rfl rfl) (kA rfl) (by decide) ?_
                            refine pxU rfl (gOffU 0 rfl rfl rfl) (kA rfl) (by decide) ?_
                            refine pxU rfl (gOffU 0 rfl rfl rfl) (kA rfl) (by decide) ?_
                            refine pxU rfl (gOff 1 rfl rfl rfl (by decide)) (kM [false, true, true, true, true, true, true, true, true] rfl rfl) (by decide) ?_
                            refine pxV (v := (.bool true)) (fun _ _ hF => opPickT rfl (hF.ev 0 rfl) rfl) rfl (fun _ _ => rfl) (kM [false, true, true, true, true, true, true, true] rfl rfl) (by decide) ?_
                            refine pxEnd ?_
                            refine qxThen ?_
                            refine cxT 0 rfl rfl ?_
                            refine cxSeq ?_
                            refine cxReg ?_
                            refine pxV (v := (.string (strL ([])))) (fun _ _ hF => opAssign rfl rfl) rfl (fun _ _ => rfl) (kM [false, false, false, false, false, false, false, false] rfl rfl) (by decide) ?_
                            refine pxV (v := (.slice none 0 0)) (fun _ _ hF => opAssign rfl rfl) rfl (fun _ _ => rfl) (kA rfl) (by decide) ?_
                            refine pxV (v := (.int .i64 2)) (fun _ _ hF => opAssign rfl rfl) rfl (fun _ _ => rfl) (kA rfl) (by decide) ?_
                            refine pxEnd ?_
                            refine qxThen ?_
                            refine cxRet ?_
                            refine qxThenR ?_
                            refine qxInR ?_
                            refine qxThenR ?_
                            refine qxThenR ?_
                            refine qxInR ?_
                            refine qxThenR ?_
                            refine qxRet3 2 1 0 rfl rfl rfl rfl ?_
                            have hac := accR_c hg7 hx15 hg17 hg22 hc31
                            rw [lastD_at hx43, if_neg (fun h => h.elim hg40 hc45)] at hac
                            rw [bodyR_go (hdw.symm.trans (dw_stop hx54 hc56)) hc61 hpt] at hac
                            rw [sumR_bad (hlok.symm.trans (lok_bad hx88 hl2 (.inr (.inl hg95))))] at hac
                            exact ⟨_, _, rfl, dec_none (hac), hH.out []⟩
                          · refine pxV (v := (.int .i64 (((i) : Nat) : Int))) (fun _ _ hF => opMove rfl (hF.ev 1 rfl)) rfl (gOn 0 rfl rfl rfl (by decide)) (kA rfl) (by decide) ?_
                            refine pxV (v := (.int .i64 (((i + 1) : Nat) : Int))) (fun _ _ hF => opAdd rfl (hF.ev 0 rfl) rfl (wI (by omega) (by omega) (by omega))) rfl (gOn 1 rfl rfl rfl (by decide)) (kM [false, true, true, true, true, true, true, true, true] rfl rfl) (by decide) ?_
                            refine pxV (v := (.slice (some ⟨b82, off83, none⟩) n2 c2)) (fun _ _ hF => opMove rfl (hF.ev 8 rfl)) rfl (gOn 1 rfl rfl rfl (by decide)) (kA rfl) (by decide) ?_
                            refine pxV (v := (.int .i64 (((n2) : Nat) : Int))) (fun _ _ hF => opLen (e := 9) rfl (by kernel_rfl) (hF.ev 0 rfl)) rfl (gOn 2 rfl rfl rfl (by decide)) (kM [false, true, true, true, true, true, true, true, true, true] rfl rfl) (by decide) ?_
                            refine pxV (v := (.bool (decide (i + 1 < n2)))) (fun _ _ hF => opLss rfl (hF.ev 1 rfl) (hF.ev 0 rfl) (dc (by omega))) rfl (gOn 2 rfl rfl rfl (by decide)) (kM [false, false, true, true, true, true, true, true, true, true] rfl rfl) (by decide) ?_
                            refine pxV (v := (.bool (decide (i + 1 < n2)))) (fun _ _ hF => opMove rfl (hF.ev 0 rfl)) rfl (gOn 1 rfl rfl rfl (by decide)) (kM [false, true, true, true, true, true, true, true, true] rfl rfl) (by decide) ?_
                            refine pxSplitP 0 rfl (l1 := [(153, (.bool true)), (147, (.bool false)), (9, (.int .i64 (((i) : Nat) : Int))), (131, (.int .i64 (((i) : Nat) : Int))), (130, (.int .i64 (((n2) : Nat) : Int))), (8, (.string (strL al))), (7, (.string (strL sm))), (6, (.string (strL (kR x14)))), (5, (.slice (some ⟨b82, off83, none⟩) n2 c2))]) (l2 := [(153, (.bool false)), (147, (.bool false)), (9, (.int .i64 (((i) : Nat) : Int))), (131, (.int .i64 (((i) : Nat) : Int))), (130, (.int .i64 (((n2) : Nat) : Int))), (8, (.string (strL al))), (7, (.string (strL sm))), (6, (.string (strL (kR x14)))), (5, (.slice (some ⟨b82, off83, none⟩) n2 c2))]) rfl rfl (fun hg96 => ?_) (fun hg96 => ?_)
                            · refine pxV (v := (.slice (some ⟨b82, off83, none⟩) n2 c2)) (fun _ _ hF => opMove rfl (hF.ev 8 rfl)) rfl (gOn 0 rfl rfl rfl (by decide)) (kA rfl) (by decide) ?_
                              refine pxV (v := (.int .i64 (((i) : Nat) : Int))) (fun _ _ hF => opMove rfl (hF.ev 3 rfl)) rfl (gOn 1 rfl rfl rfl (by decide)) (kA rfl) (by decide) ?_
                              have hi97 : i < n2 := by omega
                              have hj100 : i < M3.length := by first | exact hi97 | (simp only [List.length_drop]; omega) | (simp only [List.length_drop, List.length_take]; omega) | omega
                              refine pxV (v := (.pointer (some ⟨b82, off83 + i * 1, none⟩))) (fun _ _ hF => opIndex (i := i) (e := 9) (sz := 1) rfl (by kernel_rfl) (by kernel_rfl) (hF.ev 1 rfl) (hF.ev 0 rfl) rfl hi97) rfl (gOn 2 rfl rfl rfl (by decide)) (kM [false, false, true, true, true, true, true, true, true, true, true] rfl rfl) (by decide) ?_
                              refine pxS (v := (.string (strL x87))) (fun w => HoldsL cTx w b82 off83 M3) (hH.holdsL hL84 hb85 hR86) (fun _ _ hF hS => opLoadT (C := cTx) (y := x87) rfl (hF.ev 0 rfl) (by kernel_rfl) (hS i _ hx88) rfl) rfl (gOn 1 rfl rfl rfl (by decide)) (kM [false, true, true, true, true, true, true, true, true, true] rfl rfl) (by decide) ?_
                              refine pxV (v := (.int .i64 (((x87.length) : Nat) : Int))) (fun _ _ hF => opLenL (l := x87) rfl (by kernel_rfl) (hF.ev 0 rfl)) rfl (gOn 1 rfl rfl rfl (by decide)) (kM [false, true, true, true, true, true, true, true, true, true] rfl rfl) (by decide) ?_
                              refine pxV (v := (.int .i64 (((x87.length % 4) : Nat) : Int))) (fun _ _ hF => opRem (z := ((x87.length % 4 : Nat) : Int)) rfl (hF.ev 0 rfl) rfl (by omega) remN) rfl (gOn 1 rfl rfl rfl (by decide)) (kM [false, true, true, true, true, true, true, true, true, true] rfl rfl) (by decide) ?_
                              refine pxV (v := (.bool (decide (x87.length % 4 ≠ 0)))) (fun _ _ hF => opNeI rfl (hF.ev 0 rfl) rfl (dc (by omega))) rfl (gOn 1 rfl rfl rfl (by decide)) (kM [false, true, true, true, true, true, true, true, true, true] rfl rfl) (by decide) ?_
                              refine pxV (v := (.bool (decide (x87.length % 4 ≠ 0)))) (fun _ _ hF => opPickT rfl (hF.ev 1 rfl) (hF.ev 0 rfl)) rfl (gOn 2 rfl rfl rfl (by decide)) (kM [false, false, true, true, true, true, true, true, true, true] rfl rfl) (by decide) ?_
                              refine pxV (v := (.bool (decide (x87.length % 4 ≠ 0)))) (fun _ _ hF => opPickF rfl (hF.ev 1 rfl) (hF.ev 0 rfl)) rfl (fun _ _ => rfl) (kM [false, false, true, true, true, true, true, true, true] rfl rfl) (by decide) ?_
                              refine pxEnd ?_
                              refine qxThen ?_
                              refine cxP 0 rfl rfl (fun hc101 => ?_) (fun hc101 => ?_)
                              · refine cxSeq ?_
                                refine cxReg ?_
                                refine pxV (v := (.string (strL ([])))) (fun _ _ hF => opAssign rfl rfl) rfl (fun _ _ => rfl) (kM [false, false, false, false, false, false, false, false] rfl rfl) (by decide) ?_
                                refine pxV (v := (.slice none 0 0)) (fun _ _ hF => opAssign rfl rfl) rfl (fun _ _ => rfl) (kA rfl) (by decide) ?_
                                refine pxV (v := (.int .i64 2)) (fun _ _ hF => opAssign rfl rfl) rfl (fun _ _ => rfl) (kA rfl) (by decide) ?_
                                refine pxEnd ?_
                                refine qxThen ?_
                                refine cxRet ?_
                                refine qxThenR ?_
                                refine qxInR ?_
                                refine qxThenR ?_
                                refine qxThenR ?_
                                refine qxInR ?_
                                refine qxThenR ?_
                                refine qxRet3 2 1 0 rfl rfl rfl rfl ?_
                                have hac := accR_c hg7 hx15 hg17 hg22 hc31
                                rw [lastD_at hx43, if_neg (fun h => h.elim hg40 hc45)] at hac
                                rw [bodyR_go (hdw.symm.trans (dw_stop hx54 hc56)) hc61 hpt] at hac
                                rw [sumR_bad (hlok.symm.trans (lok_bad hx88 hl2 (.inr (.inr ⟨hg96, hc101⟩))))] at hac
                                exact ⟨_, _, rfl, dec_none (hac), hH.out []⟩
                              · refine cxSkip ?_
                                refine qxThen ?_
                                refine cxReg ?_
                                refine pxV (v := (.string (strL al))) (fun _ _ hF => opMove rfl (hF.ev 4 rfl)) rfl (fun _ _ => rfl) (kM [false, true, true, true, false, true, true, true] rfl rfl) (by decide) ?_
                                refine pxV (v := (.slice (some ⟨b82, off83, none⟩) n2 c2)) (fun _ _ hF => opMove rfl (hF.ev 6 rfl)) rfl (fun _ _ => rfl) (kA rfl) (by decide) ?_
                                refine pxV (v := (.int .i64 (((i) : Nat) : Int))) (fun _ _ hF => opMove rfl (hF.ev 2 rfl)) rfl (fun _ _ => rfl) (kM [true, true, false, true, true, true, true, true] rfl rfl) (by decide) ?_
                                have hi102 : i < n2 := by omega
                                have hj105 : i < M3.length := by first | exact hi102 | (simp only [List.length_drop]; omega) | (simp only [List.length_drop, List.length_take]; omega) | omega
                                refine pxV (v := (.pointer (some ⟨b82, off83 + i * 1, none⟩))) (fun _ _ hF => opIndex (i := i) (e := 9) (sz := 1) rfl (by kernel_rfl) (by kernel_rfl) (hF.ev 1 rfl) (hF.ev 0 rfl) rfl hi102) rfl (fun _ _ => rfl) (kM [false, false, true, true, true, true, true, true] rfl rfl) (by decide) ?_
                                refine pxS (v := (.string (strL x87))) (fun w => HoldsL cTx w b82 off83 M3) (hH.holdsL hL84 hb85 hR86) (fun _ _ hF hS => opLoadT (C := cTx) (y := x87) rfl (hF.ev 0 rfl) (by kernel_rfl) (hS i _ hx88) rfl) rfl (fun _ _ => rfl) (kM [false, true, true, true, true, true, true] rfl rfl) (by decide) ?_
                                refine pxV (v := (.string (strL (al ++ x87)))) (fun _ _ hF => opAddL (l := al) (m := x87) (r := (al ++ x87)) rfl (hF.ev 1 rfl) (hF.ev 0 rfl) (by first | omega | (simp only [List.length_append, List.length_cons, List.length_nil]; omega)) (rfl)) rfl (fun _ _ => rfl) (kM [false, false, true, true, true, true, true] rfl rfl) (by decide) ?_
                                refine pxV (v := (.string (strL (al ++ x87)))) (fun _ _ hF => opAssign rfl (hF.ev 0 rfl)) rfl (fun _ _ => rfl) (kM [false, true, true, true, true, true] rfl rfl) (by decide) ?_
                                refine pxEnd ?_
                                refine qxInN ?_
                                refine qxThen ?_
                                refine cxReg ?_
                                refine pxV (v := (.int .i64 (((i + 1) : Nat) : Int))) (fun _ _ hF => opAdd rfl (hF.ev 1 rfl) rfl (wI (by omega) (by omega) (by omega))) rfl (fun _ _ => rfl) (kM [true, false, true, true, true, true] rfl rfl) (by decide) ?_
                                refine pxV (v := (.int .i64 (((i + 1) : Nat) : Int))) (fun _ _ hF => opMove rfl (hF.ev 0 rfl)) rfl (fun _ _ => rfl) (kM [false, true, true, true, true, true] rfl rfl) (by decide) ?_
                                refine pxEnd ?_
                                exact qxRound ((i + 1), (al ++ x87)) ⟨hH, (show (i + 1) ≤ n2 from (by omega)), (by rw [hal]; exact flat_next hx88), ((lok_go hx88 hl2 hg90 hg95 (fun h => hc101)).symm.trans hlok), (show (al ++ x87).length ≤ 76 * (i + 1) from (by rw [List.length_append]; omega))⟩ (by show n2 - (i + 1) < n2 - i; omega) (slots_at [0, 2, 1, 3, 4, 5] rfl)
                            · refine pxU rfl (gOff 0 rfl rfl rfl (by decide)) (kA rfl) (by decide) ?_
                              refine pxU rfl (gOff 0 rfl rfl rfl (by decide)) (kA rfl) (by decide) ?_
                              refine pxU rfl (gOff 0 rfl rfl rfl (by decide)) (kA rfl) (by decide) ?_
                              refine pxU rfl (gOff 0 rfl rfl rfl (by decide)) (kA rfl) (by decide) ?_
                              refine pxU rfl (gOff 0 rfl rfl rfl (by decide)) (kA rfl) (by decide) ?_
                              refine pxU rfl (gOff 0 rfl rfl rfl (by decide)) (kA rfl) (by decide) ?_
                              refine pxU rfl (gOff 0 rfl rfl rfl (by decide)) (kA rfl) (by decide) ?_
                              refine pxV (v := (.bool false)) (fun _ _ hF => opPickF rfl (hF.ev 0 rfl) rfl) rfl (gOn 1 rfl rfl rfl (by decide)) (kM [false, true, true, true, true, true, true, true, true] rfl rfl) (by decide) ?_
                              refine pxV (v := (.bool false)) (fun _ _ hF => opPickF rfl (hF.ev 1 rfl) (hF.ev 0 rfl)) rfl (fun _ _ => rfl) (kM [false, false, true, true, true, true, true, true, true] rfl rfl) (by decide) ?_
                              refine pxEnd ?_
                              refine qxThen ?_
                              refine cxF 0 rfl rfl ?_
                              refine cxSkip ?_
                              refine qxThen ?_
                              refine cxReg ?_
                              refine pxV (v := (.string (strL al))) (fun _ _ hF => opMove rfl (hF.ev 4 rfl)) rfl (fun _ _ => rfl) (kM [false, true, true, true, false, true, true, true] rfl rfl) (by decide) ?_
                              refine pxV (v := (.slice (some ⟨b82, off83, none⟩) n2 c2)) (fun _ _ hF => opMove rfl (hF.ev 6 rfl)) rfl (fun _ _ => rfl) (kA rfl) (by decide) ?_
                              refine pxV (v := (.int .i64 (((i) : Nat) : Int))) (fun _ _ hF => opMove rfl (hF.ev 2 rfl)) rfl (fun _ _ => rfl) (kM [true, true, false, true, true, true, true, true] rfl rfl) (by decide) ?_
                              have hi106 : i < n2 := by omega
                              have hj109 : i < M3.length := by first | exact hi106 | (simp only [List.length_drop]; omega) | (simp only [List.length_drop, List.length_take]; omega) | omega
                              refine pxV (v := (.pointer (some ⟨b82, off83 + i * 1, none⟩))) (fun _ _ hF => opIndex (i := i) (e := 9) (sz := 1) rfl (by kernel_rfl) (by kernel_rfl) (hF.ev 1 rfl) (hF.ev 0 rfl) rfl hi106) rfl (fun _ _ => rfl) (kM [false, false, true, true, true, true, true, true] rfl rfl) (by decide) ?_
                              refine pxS (v := (.string (strL x87))) (fun w => HoldsL cTx w b82 off83 M3) (hH.holdsL hL84 hb85 hR86) (fun _ _ hF hS => opLoadT (C := cTx) (y := x87) rfl (hF.ev 0 rfl) (by kernel_rfl) (hS i _ hx88) rfl) rfl (fun _ _ => rfl) (kM [false, true, true, true, true, true, true] rfl rfl) (by decide) ?_
                              refine pxV (v := (.string (strL (al ++ x87)))) (fun _ _ hF => opAddL (l := al) (m := x87) (r := (al ++ x87)) rfl (hF.ev 1 rfl) (hF.ev 0 rfl) (by first | omega | (simp only [List.length_append, List.length_cons, List.length_nil]; omega)) (rfl)) rfl (fun _ _ => rfl) (kM [false, false, true, true, true, true, true] rfl rfl) (by decide) ?_
                              refine pxV (v := (.string (strL (al ++ x87)))) (fun _ _ hF => opAssign rfl (hF.ev 0 rfl)) rfl (fun _ _ => rfl) (kM [false, true, true, true, true, true] rfl rfl) (by decide) ?_
                              refine pxEnd ?_
                              refine qxInN ?_
                              refine qxThen ?_
                              refine cxReg ?_
                              refine pxV (v := (.int .i64 (((i + 1) : Nat) : Int))) (fun _ _ hF => opAdd rfl (hF.ev 1 rfl) rfl (wI (by omega) (by omega) (by omega))) rfl (fun _ _ => rfl) (kM [true, false, true, true, true, true] rfl rfl) (by decide) ?_
                              refine pxV (v := (.int .i64 (((i + 1) : Nat) : Int))) (fun _ _ hF => opMove rfl (hF.ev 0 rfl)) rfl (fun _ _ => rfl) (kM [false, true, true, true, true, true] rfl rfl) (by decide) ?_
                              refine pxEnd ?_
                              exact qxRound ((i + 1), (al ++ x87)) ⟨hH, (show (i + 1) ≤ n2 from (by omega)), (by rw [hal]; exact flat_next hx88), ((lok_go hx88 hl2 hg90 hg95 (fun h => absurd h hg96)).symm.trans hlok), (show (al ++ x87).length ≤ 76 * (i + 1) from (by rw [List.length_append]; omega))⟩ (by show n2 - (i + 1) < n2 - i; omega) (slots_at [0, 2, 1, 3, 4, 5] rfl)
                      · refine cxExit ?_
                        refine qxThenE ?_
                        refine qxThenE ?_
                        refine qxInE ?_
                        refine qxThen ?_
                        refine cxSeq ?_
                        have ei : i = n2 := by omega
                        have hl0 : lokL M3 = true := by rw [← hlok, List.drop_eq_nil_of_le (by omega)]; rfl
                        have hal2 : al = M3.flatten := by rw [hal, List.take_of_length_le (by omega)]
                        rw [hal2]
                        have hfl : M3.flatten.length ≤ 76 * n2 := by rw [← hal2, ← ei]; exact hall
                        refine cxReg ?_
                        refine pxV (v := (.string (strL M3.flatten))) (fun _ _ hF => opMove rfl (hF.ev 3 rfl)) rfl (fun _ _ => rfl) (kM [false, false, false, false, true, true, false] rfl rfl) (by decide) ?_
                        refine pxM hH (fun _ hF => Does.small (runbase64_c M3.flatten (by omega)) (fun w => opCall rfl Tryd.func33 rfl rfl (Evs.cons (v := (.string (strL M3.flatten))) (hF.ev 0 rfl) Evs.nil) w)) trivial rfl (fun _ _ => rfl) (kM [false, true, true] rfl rfl) (by decide) ?_
                        clear hH
                        rintro v114 E110 w hU111 hH
                        replace hH : HH w0 [] [E110] w := hH
                        obtain ⟨A112, c113, rfl, hO115⟩ := unr_uni' hU111
                        refine pxV (v := (.tuple #[(.slice A112 (((unR M3.flatten).getD []).length) c113), (.int .i64 (((ers (unR M3.flatten)) : Nat) : Int))])) (fun _ _ hF => opMove rfl (hF.ev 0 rfl)) rfl (fun _ _ => rfl) (kM [false, true, true] rfl rfl) (by decide) ?_
                        refine pxV (v := (.slice A112 (((unR M3.flatten).getD []).length) c113)) (fun _ _ hF => opExtract rfl (hF.ev 0 rfl) rfl) rfl (fun _ _ => rfl) (kA rfl) (by decide) ?_
                        refine pxV (v := (.int .i64 (((ers (unR M3.flatten)) : Nat) : Int))) (fun _ _ hF => opExtract rfl (hF.ev 1 rfl) rfl) rfl (fun _ _ => rfl) (kM [true, false, true, true] rfl rfl) (by decide) ?_
                        refine pxV (v := (.slice A112 (((unR M3.flatten).getD []).length) c113)) (fun _ _ hF => opAssign rfl (hF.ev 1 rfl)) rfl (fun _ _ => rfl) (kM [true, false, true, true] rfl rfl) (by decide) ?_
                        refine pxV (v := (.int .i64 (((ers (unR M3.flatten)) : Nat) : Int))) (fun _ _ hF => opAssign rfl (hF.ev 1 rfl)) rfl (fun _ _ => rfl) (kM [true, false, true, true] rfl rfl) (by decide) ?_
                        refine pxEnd ?_
                        refine qxThen ?_
                        refine cxSeq ?_
                        refine cxSeq ?_
                        refine cxReg ?_
                        refine pxV (v := (.int .i64 (((ers (unR M3.flatten)) : Nat) : Int))) (fun _ _ hF => opMove rfl (hF.ev 0 rfl)) rfl (fun _ _ => rfl) (kM [false, true, true, true] rfl rfl) (by decide) ?_
                        refine pxV (v := (.bool ((unR M3.flatten).isNone))) (fun _ _ hF => opNeI rfl (hF.ev 0 rfl) rfl (ers_no _)) rfl (fun _ _ => rfl) (kM [false, true, true, true] rfl rfl) (by decide) ?_
                        refine pxV (v := (.bool ((unR M3.flatten).isNone))) (fun _ _ hF => opMove rfl (hF.ev 0 rfl)) rfl (fun _ _ => rfl) (kM [false, true, true, true] rfl rfl) (by decide) ?_
                        refine pxSplitB 0 rfl (l1 := [(177, (.bool true)), (10, (.slice A112 (((unR M3.flatten).getD []).length) c113)), (7, (.string (strL sm))), (6, (.string (strL (kR x14))))]) (l2 := [(177, (.bool false)), (10, (.slice A112 (((unR M3.flatten).getD []).length) c113)), (7, (.string (strL sm))), (6, (.string (strL (kR x14))))]) rfl rfl (fun hg117 => ?_) (fun hg117 => ?_)
                        · refine pxU rfl (gOff 0 rfl rfl rfl (by decide)) (kA rfl) (by decide) ?_
                          refine pxU rfl (gOff 0 rfl rfl rfl (by decide)) (kA rfl) (by decide) ?_
                          refine pxUK rfl (gOff 0 rfl rfl rfl (by decide)) (kA rfl) (by decide) ?_
                          refine pxU rfl (gOffU 0 rfl rfl rfl) (kM [true, true, true, false, true] rfl rfl) (by decide) ?_
                          refine pxU rfl (gOffU 0 rfl rfl rfl) (kA rfl) (by decide) ?_
                          refine pxU rfl (gOffU 0 rfl rfl rfl) (kA rfl) (by decide) ?_
                          refine pxU rfl (gOffU 0 rfl rfl rfl) (kA rfl) (by decide) ?_
                          refine pxU rfl (gOffU 0 rfl rfl rfl) (kA rfl) (by decide) ?_
                          refine pxU rfl (gOffU 0 rfl rfl rfl) (kA rfl) (by decide) ?_
                          refine pxU rfl (gOff 1 rfl rfl rfl (by decide)) (kM [false, true, true, true] rfl rfl) (by decide) ?_
                          refine pxV (v := (.bool true)) (fun _ _ hF => opPickT rfl (hF.ev 0 rfl) rfl) rfl (fun _ _ => rfl) (kM [false, true, true] rfl rfl) (by decide) ?_
                          refine pxEnd ?_
                          refine qxThen ?_
                          refine cxT 0 rfl rfl ?_
                          refine cxSeq ?_
                          refine cxReg ?_
                          refine pxV (v := (.string (strL ([])))) (fun _ _ hF => opAssign rfl rfl) rfl (fun _ _ => rfl) (kM [false, false, false] rfl rfl) (by decide) ?_
                          refine pxV (v := (.slice none 0 0)) (fun _ _ hF => opAssign rfl rfl) rfl (fun _ _ => rfl) (kA rfl) (by decide) ?_
                          refine pxV (v := (.int .i64 2)) (fun _ _ hF => opAssign rfl rfl) rfl (fun _ _ => rfl) (kA rfl) (by decide) ?_
                          refine pxEnd ?_
                          refine qxThen ?_
                          refine cxRet ?_
                          refine qxThenR ?_
                          refine qxRet3 2 1 0 rfl rfl rfl rfl ?_
                          have hac := accR_c hg7 hx15 hg17 hg22 hc31
                          rw [lastD_at hx43, if_neg (fun h => h.elim hg40 hc45)] at hac
                          rw [bodyR_go (hdw.symm.trans (dw_stop hx54 hc56)) hc61 hpt] at hac
                          rw [sumR_no hg117] at hac
                          exact ⟨_, _, rfl, dec_none (hac), hH.out [false]⟩
                        · refine pxV (v := (.string (strL sm))) (fun _ _ hF => opMove rfl (hF.ev 2 rfl)) rfl (gOn 0 rfl rfl rfl (by decide)) (kA rfl) (by decide) ?_
                          refine pxV (v := (.bool (decide (sm ≠ [])))) (fun _ _ hF => opNeL (l := sm) (m := []) rfl (hF.ev 0 rfl) rfl Iff.rfl) rfl (gOn 1 rfl rfl rfl (by decide)) (kM [false, true, true, true, true] rfl rfl) (by decide) ?_
                          refine pxV (v := (.bool (decide (sm ≠ [])))) (fun _ _ hF => opMove rfl (hF.ev 0 rfl)) rfl (gOn 1 rfl rfl rfl (by decide)) (kM [false, true, true, true, true] rfl rfl) (by decide) ?_
                          refine pxSplitP 0 rfl (l1 := [(180, (.bool true)), (177, (.bool false)), (10, (.slice A112 (((unR M3.flatten).getD []).length) c113)), (7, (.string (strL sm))), (6, (.string (strL (kR x14))))]) (l2 := [(180, (.bool false)), (177, (.bool false)), (10, (.slice A112 (((unR M3.flatten).getD []).length) c113)), (7, (.string (strL sm))), (6, (.string (strL (kR x14))))]) rfl rfl (fun hg118 => ?_) (fun hg118 => ?_)
                          · refine pxV (v := (.string (strL sm))) (fun _ _ hF => opMove rfl (hF.ev 3 rfl)) rfl (gOn 0 rfl rfl rfl (by decide)) (kM [true, true, true, false, true] rfl rfl) (by decide) ?_
                            refine pxV (v := (.slice A112 (((unR M3.flatten).getD []).length) c113)) (fun _ _ hF => opMove rfl (hF.ev 3 rfl)) rfl (gOn 1 rfl rfl rfl (by decide)) (kA rfl) (by decide) ?_
                            refine pxM hH (fun _ hF => Does.small ((rsum_c ((unR M3.flatten).getD []) A112 c113 (by have := unr_len M3.flatten; omega)).does) (fun w => opCall rfl Tryd.func14 rfl rfl (Evs.cons (v := (.slice A112 (((unR M3.flatten).getD []).length) c113)) (hF.ev 0 rfl) Evs.nil) w)) (hO115.vuAt (hH.has 0 rfl)) rfl (gOn 2 rfl rfl rfl (by decide)) (kM [false, true, true, true, true, true] rfl rfl) (by decide) ?_
                            clear hH
                            rintro _ _ w ⟨rfl, rfl⟩ hH
                            replace hH : HH w0 [] [E110] w := hH.unpad
                            refine pxM hH (fun _ hF => Does.small (rthree_c (crc ((unR M3.flatten).getD []))) (fun w => opCall rfl Tryd.func26 rfl rfl (Evs.cons (v := (.int .u32 (((crc ((unR M3.flatten).getD [])) : Nat) : Int))) (hF.ev 0 rfl) Evs.nil) w)) trivial rfl (gOn 2 rfl rfl rfl (by decide)) (kM [false, true, true, true, true, true] rfl rfl) (by decide) ?_
                            clear hH
                            rintro v123 E119 w hO120 hH
                            replace hH : HH w0 [] [E110, E119] w := hH
                            obtain ⟨A121, c122, rfl⟩ := hO120.slice
                            refine pxM hH (fun _ hF => Does.small ((rbase64_c (three (crc ((unR M3.flatten).getD []))) A121 c122 (leb rfl)).does) (fun w => opCall rfl Tryd.func13 rfl rfl (Evs.cons (v := (.slice A121 ((three (crc ((unR M3.flatten).getD []))).length) c122)) (hF.ev 0 rfl) Evs.nil) w)) (hO120.vuAt (hH.has 1 rfl)) rfl (gOn 2 rfl rfl rfl (by decide)) (kM [false, true, true, true, true, true] rfl rfl) (by decide) ?_
                            clear hH
                            rintro _ _ w ⟨rfl, rfl⟩ hH
                            replace hH : HH w0 [] [E110, E119] w := hH.unpad
                            refine pxV (v := (.bool (decide (sm ≠ (b64 (three (crc ((unR M3.flatten).getD [])))))))) (fun _ _ hF => opNeL (l := sm) (m := (b64 (three (crc ((unR M3.flatten).getD []))))) rfl (hF.ev 1 rfl) (hF.ev 0 rfl) Iff.rfl) rfl (gOn 2 rfl rfl rfl (by decide)) (kM [false, false, true, true, true, true] rfl rfl) (by decide) ?_
                            refine pxV (v := (.bool (decide (sm ≠ (b64 (three (crc ((unR M3.flatten).getD [])))))))) (fun _ _ hF => opPickT rfl (hF.ev 1 rfl) (hF.ev 0 rfl)) rfl (gOn 2 rfl rfl rfl (by decide)) (kM [false, false, true, true, true] rfl rfl) (by decide) ?_
                            refine pxV (v := (.bool (decide (sm ≠ (b64 (three (crc ((unR M3.flatten).getD [])))))))) (fun _ _ hF => opPickF rfl (hF.ev 1 rfl) (hF.ev 0 rfl)) rfl (fun _ _ => rfl) (kM [false, false, true, true] rfl rfl) (by decide) ?_
                            refine pxEnd ?_
                            refine qxThen ?_
                            refine cxP 0 rfl rfl (fun hc125 => ?_) (fun hc125 => ?_)
                            · refine cxSeq ?_
                              refine cxReg ?_
                              refine pxV (v := (.string (strL ([])))) (fun _ _ hF => opAssign rfl rfl) rfl (fun _ _ => rfl) (kM [false, false, false] rfl rfl) (by decide) ?_
                              refine pxV (v := (.slice none 0 0)) (fun _ _ hF => opAssign rfl rfl) rfl (fun _ _ => rfl) (kA rfl) (by decide) ?_
                              refine pxV (v := (.int .i64 2)) (fun _ _ hF => opAssign rfl rfl) rfl (fun _ _ => rfl) (kA rfl) (by decide) ?_
                              refine pxEnd ?_
                              refine qxThen ?_
                              refine cxRet ?_
                              refine qxThenR ?_
                              refine qxRet3 2 1 0 rfl rfl rfl rfl ?_
                              have hac := accR_c hg7 hx15 hg17 hg22 hc31
                              rw [lastD_at hx43, if_neg (fun h => h.elim hg40 hc45)] at hac
                              rw [bodyR_go (hdw.symm.trans (dw_stop hx54 hc56)) hc61 hpt] at hac
                              rw [sumR_sum hl0 hg117] at hac
                              rw [if_pos ⟨hg118, hc125⟩] at hac
                              exact ⟨_, _, rfl, dec_none (hac), hH.out [false, false]⟩
                            · refine cxSkip ?_
                              refine qxThen ?_
                              refine cxSeq ?_
                              refine cxSeq ?_
                              refine cxReg ?_
                              refine pxV (v := (.slice A112 (((unR M3.flatten).getD []).length) c113)) (fun _ _ hF => opMove rfl (hF.ev 1 rfl)) rfl (fun _ _ => rfl) (kM [false, true, true] rfl rfl) (by decide) ?_
                              refine pxV (v := (.int .i64 (((((unR M3.flatten).getD []).length) : Nat) : Int))) (fun _ _ hF => opLen (e := 5) rfl (by kernel_rfl) (hF.ev 0 rfl)) rfl (fun _ _ => rfl) (kM [false, true, true] rfl rfl) (by decide) ?_
                              refine pxV (v := (.bool (decide (((unR M3.flatten).getD []).length > 20000)))) (fun _ _ hF => opGtr rfl (hF.ev 0 rfl) rfl (dc (by omega))) rfl (fun _ _ => rfl) (kM [false, true, true] rfl rfl) (by decide) ?_
                              refine pxEnd ?_
                              refine qxThen ?_
                              refine cxP 0 rfl rfl (fun hc126 => ?_) (fun hc126 => ?_)
                              · refine cxSeq ?_
                                refine cxReg ?_
                                refine pxV (v := (.string (strL ([])))) (fun _ _ hF => opAssign rfl rfl) rfl (fun _ _ => rfl) (kM [false, false, false] rfl rfl) (by decide) ?_
                                refine pxV (v := (.slice none 0 0)) (fun _ _ hF => opAssign rfl rfl) rfl (fun _ _ => rfl) (kA rfl) (by decide) ?_
                                refine pxV (v := (.int .i64 6)) (fun _ _ hF => opAssign rfl rfl) rfl (fun _ _ => rfl) (kA rfl) (by decide) ?_
                                refine pxEnd ?_
                                refine qxThen ?_
                                refine cxRet ?_
                                refine qxThenR ?_
                                refine qxRet3 2 1 0 rfl rfl rfl rfl ?_
                                have hac := accR_c hg7 hx15 hg17 hg22 hc31
                                rw [lastD_at hx43, if_neg (fun h => h.elim hg40 hc45)] at hac
                                rw [bodyR_go (hdw.symm.trans (dw_stop hx54 hc56)) hc61 hpt] at hac
                                rw [sumR_sum hl0 hg117] at hac
                                rw [if_neg (fun h => hc125 h.2)] at hac
                                exact ⟨_, _, rfl, dec_long hac hc126, hH.out [false, false]⟩
                              · refine cxSkip ?_
                                refine qxThen ?_
                                refine cxSeq ?_
                                refine cxReg ?_
                                refine pxV (v := (.string (strL (kR x14)))) (fun _ _ hF => opMove rfl (hF.ev 2 rfl)) rfl (fun _ _ => rfl) (kM [false, true, false] rfl rfl) (by decide) ?_
                                refine pxV (v := (.slice A112 (((unR M3.flatten).getD []).length) c113)) (fun _ _ hF => opMove rfl (hF.ev 1 rfl)) rfl (fun _ _ => rfl) (kM [true, false] rfl rfl) (by decide) ?_
                                refine pxV (v := (.string (strL (kR x14)))) (fun _ _ hF => opAssign rfl (hF.ev 1 rfl)) rfl (fun _ _ => rfl) (kM [true, false] rfl rfl) (by decide) ?_
                                refine pxV (v := (.slice A112 (((unR M3.flatten).getD []).length) c113)) (fun _ _ hF => opAssign rfl (hF.ev 1 rfl)) rfl (fun _ _ => rfl) (kM [true, false] rfl rfl) (by decide) ?_
                                refine pxV (v := (.int .i64 0)) (fun _ _ hF => opAssign rfl rfl) rfl (fun _ _ => rfl) (kA rfl) (by decide) ?_
                                refine pxEnd ?_
                                refine qxThen ?_
                                refine cxRet ?_
                                refine qxRet3 2 1 0 rfl rfl rfl rfl ?_
                                have hac := accR_c hg7 hx15 hg17 hg22 hc31
                                rw [lastD_at hx43, if_neg (fun h => h.elim hg40 hc45)] at hac
                                rw [bodyR_go (hdw.symm.trans (dw_stop hx54 hc56)) hc61 hpt] at hac
                                rw [sumR_sum hl0 hg117] at hac
                                rw [if_neg (fun h => hc125 h.2)] at hac
                                exact ⟨_, _, rfl, dec_ok hac hc126 hO115, hH.out1 [true, false] rfl⟩
                          · refine pxU rfl (gOff 0 rfl rfl rfl (by decide)) (kM [true, true, true, false, true] rfl rfl) (by decide) ?_
                            refine pxU rfl (gOff 0 rfl rfl rfl (by decide)) (kA rfl) (by decide) ?_
                            refine pxU rfl (gOff 0 rfl rfl rfl (by decide)) (kA rfl) (by decide) ?_
                            refine pxU rfl (gOff 0 rfl rfl rfl (by decide)) (kA rfl) (by decide) ?_
                            refine pxU rfl (gOff 0 rfl rfl rfl (by decide)) (kA rfl) (by decide) ?_
                            refine pxU rfl (gOff 0 rfl rfl rfl (by decide)) (kA rfl) (by decide) ?_
                            refine pxV (v := (.bool false)) (fun _ _ hF => opPickF rfl (hF.ev 0 rfl) rfl) rfl (gOn 1 rfl rfl rfl (by decide)) (kM [false, true, true, true] rfl rfl) (by decide) ?_
                            refine pxV (v := (.bool false)) (fun _ _ hF => opPickF rfl (hF.ev 1 rfl) (hF.ev 0 rfl)) rfl (fun _ _ => rfl) (kM [false, false, true, true] rfl rfl) (by decide) ?_
                            refine pxEnd ?_
                            refine qxThen ?_
                            refine cxF 0 rfl rfl ?_
                            refine cxSkip ?_
                            refine qxThen ?_
                            refine cxSeq ?_
                            refine cxSeq ?_
                            refine cxReg ?_
                            refine pxV (v := (.slice A112 (((unR M3.flatten).getD []).length) c113)) (fun _ _ hF => opMove rfl (hF.ev 1 rfl)) rfl (fun _ _ => rfl) (kM [false, true, true] rfl rfl) (by decide) ?_
                            refine pxV (v := (.int .i64 (((((unR M3.flatten).getD []).length) : Nat) : Int))) (fun _ _ hF => opLen (e := 5) rfl (by kernel_rfl) (hF.ev 0 rfl)) rfl (fun _ _ => rfl) (kM [false, true, true] rfl rfl) (by decide) ?_
                            refine pxV (v := (.bool (decide (((unR M3.flatten).getD []).length > 20000)))) (fun _ _ hF => opGtr rfl (hF.ev 0 rfl) rfl (dc (by omega))) rfl (fun _ _ => rfl) (kM [false, true, true] rfl rfl) (by decide) ?_
                            refine pxEnd ?_
                            refine qxThen ?_
                            refine cxP 0 rfl rfl (fun hc127 => ?_) (fun hc127 => ?_)
                            · refine cxSeq ?_
                              refine cxReg ?_
                              refine pxV (v := (.string (strL ([])))) (fun _ _ hF => opAssign rfl rfl) rfl (fun _ _ => rfl) (kM [false, false, false] rfl rfl) (by decide) ?_
                              refine pxV (v := (.slice none 0 0)) (fun _ _ hF => opAssign rfl rfl) rfl (fun _ _ => rfl) (kA rfl) (by decide) ?_
                              refine pxV (v := (.int .i64 6)) (fun _ _ hF => opAssign rfl rfl) rfl (fun _ _ => rfl) (kA rfl) (by decide) ?_
                              refine pxEnd ?_
                              refine qxThen ?_
                              refine cxRet ?_
                              refine qxThenR ?_
                              refine qxRet3 2 1 0 rfl rfl rfl rfl ?_
                              have hac := accR_c hg7 hx15 hg17 hg22 hc31
                              rw [lastD_at hx43, if_neg (fun h => h.elim hg40 hc45)] at hac
                              rw [bodyR_go (hdw.symm.trans (dw_stop hx54 hc56)) hc61 hpt] at hac
                              rw [sumR_sum hl0 hg117] at hac
                              rw [if_neg (fun h => hg118 h.1)] at hac
                              exact ⟨_, _, rfl, dec_long hac hc127, hH.out [false]⟩
                            · refine cxSkip ?_
                              refine qxThen ?_
                              refine cxSeq ?_
                              refine cxReg ?_
                              refine pxV (v := (.string (strL (kR x14)))) (fun _ _ hF => opMove rfl (hF.ev 2 rfl)) rfl (fun _ _ => rfl) (kM [false, true, false] rfl rfl) (by decide) ?_
                              refine pxV (v := (.slice A112 (((unR M3.flatten).getD []).length) c113)) (fun _ _ hF => opMove rfl (hF.ev 1 rfl)) rfl (fun _ _ => rfl) (kM [true, false] rfl rfl) (by decide) ?_
                              refine pxV (v := (.string (strL (kR x14)))) (fun _ _ hF => opAssign rfl (hF.ev 1 rfl)) rfl (fun _ _ => rfl) (kM [true, false] rfl rfl) (by decide) ?_
                              refine pxV (v := (.slice A112 (((unR M3.flatten).getD []).length) c113)) (fun _ _ hF => opAssign rfl (hF.ev 1 rfl)) rfl (fun _ _ => rfl) (kM [true, false] rfl rfl) (by decide) ?_
                              refine pxV (v := (.int .i64 0)) (fun _ _ hF => opAssign rfl rfl) rfl (fun _ _ => rfl) (kA rfl) (by decide) ?_
                              refine pxEnd ?_
                              refine qxThen ?_
                              refine cxRet ?_
                              refine qxRet3 2 1 0 rfl rfl rfl rfl ?_
                              have hac := accR_c hg7 hx15 hg17 hg22 hc31
                              rw [lastD_at hx43, if_neg (fun h => h.elim hg40 hc45)] at hac
                              rw [bodyR_go (hdw.symm.trans (dw_stop hx54 hc56)) hc61 hpt] at hac
                              rw [sumR_sum hl0 hg117] at hac
                              rw [if_neg (fun h => hg118 h.1)] at hac
                              exact ⟨_, _, rfl, dec_ok hac hc127 hO115, hH.out1 [true] rfl⟩
              · refine pxU rfl (gOff 0 rfl rfl rfl (by decide)) (kA rfl) (by decide) ?_
                refine pxU rfl (gOff 0 rfl rfl rfl (by decide)) (kA rfl) (by decide) ?_
                refine pxU rfl (gOff 0 rfl rfl rfl (by decide)) (kA rfl) (by decide) ?_
                refine pxU rfl (gOff 0 rfl rfl rfl (by decide)) (kA rfl) (by decide) ?_
                refine pxV (v := (.bool false)) (fun _ _ hF => opPickF rfl (hF.ev 0 rfl) rfl) rfl (fun _ _ => rfl) (kM [false, true, true] rfl rfl) (by decide) ?_
                refine pxEnd ?_
                refine qxThen ?_
                refine cxF 0 rfl rfl ?_
                refine cxExit ?_
                refine qxThenE ?_
                refine qxThenE ?_
                refine qxInE ?_
                refine qxThen ?_
                refine cxSeq ?_
                refine cxSeq ?_
                refine cxReg ?_
                refine pxV (v := (.slice A1 n1 c1)) (fun _ _ hF => opMove rfl (hF.ev 2 rfl)) rfl (fun _ _ => rfl) (kM [false, true, true] rfl rfl) (by decide) ?_
                refine pxV (v := (.int .i64 (((n1) : Nat) : Int))) (fun _ _ hF => opLen (e := 9) rfl (by kernel_rfl) (hF.ev 0 rfl)) rfl (fun _ _ => rfl) (kM [false, true, true] rfl rfl) (by decide) ?_
                refine pxV (v := (.bool true)) (fun _ _ hF => opEqI rfl (hF.ev 0 rfl) rfl (decide_eq_true (by omega))) rfl (fun _ _ => rfl) (kM [false, true, true] rfl rfl) (by decide) ?_
                refine pxV (v := (.bool true)) (fun _ _ hF => opMove rfl (hF.ev 0 rfl)) rfl (fun _ _ => rfl) (kM [false, true, true] rfl rfl) (by decide) ?_
                refine pxU rfl (gOff 0 rfl rfl rfl (by decide)) (kA rfl) (by decide) ?_
                refine pxU rfl (gOff 0 rfl rfl rfl (by decide)) (kA rfl) (by decide) ?_
                refine pxU rfl (gOff 0 rfl rfl rfl (by decide)) (kA rfl) (by decide) ?_
                refine pxU rfl (gOff 0 rfl rfl rfl (by decide)) (kA rfl) (by decide) ?_
                refine pxV (v := (.bool true)) (fun _ _ hF => opPickT rfl (hF.ev 0 rfl) rfl) rfl (fun _ _ => rfl) (kM [false, true, true] rfl rfl) (by decide) ?_
                refine pxEnd ?_
                refine qxThen ?_
                refine cxT 0 rfl rfl ?_
                refine cxSeq ?_
                refine cxReg ?_
                refine pxV (v := (.string (strL ([])))) (fun _ _ hF => opAssign rfl rfl) rfl (fun _ _ => rfl) (kM [false, false, false] rfl rfl) (by decide) ?_
                refine pxV (v := (.slice none 0 0)) (fun _ _ hF => opAssign rfl rfl) rfl (fun _ _ => rfl) (kA rfl) (by decide) ?_
                refine pxV (v := (.int .i64 2)) (fun _ _ hF => opAssign rfl rfl) rfl (fun _ _ => rfl) (kA rfl) (by decide) ?_
                refine pxEnd ?_
                refine qxThen ?_
                refine cxRet ?_
                refine qxThenR ?_
                refine qxRet3 2 1 0 rfl rfl rfl rfl ?_
                have hac := accR_c hg7 hx15 hg17 hg22 hc31
                rw [lastD_at hx43, if_neg (fun h => h.elim hg40 hc45)] at hac
                rw [bodyR_nil (hdw.symm.trans (dw_nil (List.eq_nil_of_length_eq_zero (by omega))))] at hac
                exact ⟨_, _, rfl, dec_none (hac), hH.out []⟩

end Go.Proofs.YtadbpmcmdcnlfaaDoor

namespace Go.Proofs.YtadbpmcmdcnlfaaDoor
open Go Go.RowKit
set_option maxRecDepth 100000

theorem rdecode_p (s : List UInt8) (hs : s.length ≤ 16777216) : Does Tryd.prog 11 #[(.string (strL s))] [] (fun _ => True) (fun v E' => DecPost (accP (lns s)) v E') := by
  rw [acc_same]; exact rdecode_c s hs
theorem armL_len (k : List UInt8) (hk : isK k) (l : List UInt8) (b : Bool) : (encT k l b).length ≤ 66 * (nP l + 4) := by
  have hk16 := isK_len16 hk
  have h1 := linesT_len false (armL k [] (cutM (b64 l) 64 (nP l)) l b) 64 (fun x hx => by
    simp only [armL, List.nil_append, List.mem_cons, List.mem_append, List.not_mem_nil, or_false] at hx
    rcases hx with rfl | rfl | hx | hx | rfl
    · simp only [headK, begL, dasL, List.length_append, List.length_cons, List.length_nil]; omega
    · exact Nat.zero_le _
    · obtain ⟨i, _, rfl⟩ := List.mem_map.1 hx; rw [piece_len]; omega
    · cases b
      · cases hx
      · obtain rfl : x = sumL l := by simpa [soL] using hx
        rw [sumL_len]; decide
    · simp only [footK, endL, dasL, List.length_append, List.length_cons, List.length_nil]; omega)
  have h2 : (armL k [] (cutM (b64 l) 64 (nP l)) l b).length ≤ nP l + 4 := by
    cases b <;> simp [armL, soL, cutM]
  have h3 := Nat.mul_le_mul_left 66 h2
  exact Nat.le_trans h1 h3
theorem encV_len (k l : List UInt8) (b : Bool) : (encV k l b).length ≤ 40000 := by
  unfold encV
  split
  · rename_i h
    have h1 := armL_len k h.1 l b
    have h2 : nP l ≤ 417 := by unfold nP; omega
    omega
  · exact Nat.zero_le _
theorem enc_ok {k l : List UInt8} (h : ¬ encE k l ≠ 0) : isK k ∧ ¬ l.length > 20000 := by
  unfold encE at h
  split at h
  · rename_i hk
    split at h
    · exact absurd (by decide) h
    · rename_i hl; exact ⟨hk, hl⟩
  · exact absurd (by decide) h
theorem enc_back {k l : List UInt8} (b : Bool) (hk : isK k) (hl : ¬ l.length > 20000) : dK (accP (lns (encV k l b))) = k ∧ dB (accP (lns (encV k l b))) = l ∧ dE (accP (lns (encV k l b))) = 0 := by
  rw [(enc_go hk hl b).1, (accP_iff _ _ _).2 (enc_arm hk l b)]
  exact ⟨if_neg hl, if_neg hl, if_neg hl⟩
theorem dec_bad {L : List (List UInt8)} (h : dE (accP L) ≠ 0) : dK (accP L) = [] ∧ dB (accP L) = [] := by
  revert h
  cases accP L with
  | none => intro _; exact ⟨rfl, rfl⟩
  | some x =>
    obtain ⟨k, b⟩ := x
    intro h
    by_cases hb : b.length > 20000
    · exact ⟨if_pos hb, if_pos hb⟩
    · exact absurd (if_neg hb) h
theorem dec_good {L : List (List UInt8)} (h : ¬ dE (accP L) ≠ 0) : isK (dK (accP L)) ∧ ¬ (dB (accP L)).length > 20000 := by
  cases e : accP L with
  | none => rw [e] at h; exact absurd (by decide) h
  | some x =>
    obtain ⟨k, b⟩ := x
    rw [e] at h
    have hA := (accP_iff _ _ _).1 e
    obtain ⟨_, _, _, hk, _⟩ := hA
    by_cases hb : b.length > 20000
    · exact absurd (show dE (some (k, b)) ≠ 0 from by rw [show dE (some (k, b)) = 6 from if_pos hb]; decide) h
    · exact ⟨by rw [show dK (some (k, b)) = k from if_neg hb]; exact hk, by rw [show dB (some (k, b)) = b from if_neg hb]; exact hb⟩

end Go.Proofs.YtadbpmcmdcnlfaaDoor
