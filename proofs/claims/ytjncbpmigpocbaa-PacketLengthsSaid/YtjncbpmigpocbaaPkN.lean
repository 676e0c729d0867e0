/- The laws of layer 11: lengths, parts (mkpn.py writes this text). -/
import Derived.Test.YtjncbpmigpocbaaPkA
namespace Go.Proofs.Ytjncbpmigpocbaa
open Go Go.RowKit
set_option maxRecDepth 100000

theorem form_zero {t n : Nat} (h0 : 0 < t) (ht : t < 16) {B : List UInt8} (hB : B.length = n) (hn : n < 256) : prs [] ([UInt8.ofNat (128 + 4 * t), UInt8.ofNat n] ++ B) = (0, [((t : Int), B)]) := by
  have h := form_old (t := t) (k := 0) (n := n) h0 ht (by decide) hB (by omega) (by exact hn)
  rw [show beL (2 ^ 0) n = [UInt8.ofNat n] from (beL_one n).symm] at h
  exact h

theorem beh_rep {w : World} {t : Int} {A : Option Addr} {m c : Nat} (h : Vu cByte w A m c (List.replicate m 0)) : Beh w [(t, A, m, c)] [(t, List.replicate m 0)] := by
  have e : (List.replicate m (0 : UInt8)).length = m := List.length_replicate
  have := Beh.one (t := t) (A := A) (c := c) (b := List.replicate m 0) (by rw [e]; exact h)
  rw [e] at this
  exact this

set_option maxHeartbeats 8000000 in
theorem lengths_l (n : Int) (tag form : UInt8) : Pure Try.prog 5 #[(.int .i64 (n)), (.int .u8 (((tag.toNat) : Nat) : Int)), (.int .u8 (((form.toNat) : Nat) : Int))] (fun _ => True) (.bool true) := by
  refine pure_of (fn := Try.f5) Try.func5 rfl Try.ntmps5 (Nat.le_of_ble_eq_true rfl) rfl ?_
  intro w0 hH hR
  have htag := UInt8.toNat_lt tag; have hform := UInt8.toNat_lt form
  rcases (show (n < 0 ∨ 20000 < n) ∨ (0 ≤ n ∧ n ≤ 20000) by omega) with hno | hyes
  · refine cxSeq ?_
    refine cxReg ?_
    refine pxV (v := (.bool false)) (fun _ _ hF => opAssign rfl rfl) rfl (fun _ _ => rfl) (kA rfl) (by decide) ?_
    refine pxEnd ?_
    refine qxThen ?_
    refine cxSeq ?_
    refine cxSeq ?_
    refine cxReg ?_
    refine pxM hH (fun _ hF => Does.small ((awake_c ).does) (fun w => opCall rfl Try.func8 rfl rfl Evs.nil w)) trivial rfl (fun _ _ => rfl) (kM [false, true, true, true] rfl rfl) (by decide) ?_
    clear hH
    rintro _ _ w ⟨rfl, rfl⟩ hH
    replace hH : HH w0 [] [] w := hH.unpad
    refine pxV (v := (.bool false)) (fun _ _ hF => opNot rfl (hF.ev 0 rfl) rfl) rfl (fun _ _ => rfl) (kM [false, true, true, true] rfl rfl) (by decide) ?_
    refine pxEnd ?_
    refine qxThen ?_
    refine cxF 0 rfl rfl ?_
    refine cxSkip ?_
    refine qxThen ?_
    refine cxSeq ?_
    refine cxSeq ?_
    refine cxRegX mixedOrders (by kernel_rfl) ?_
    replace hH := hH.drew
    refine rxV 0 rfl (by kernel_rfl) rfl (fun _ _ => rfl) (fun _ _ hF => opMove rfl (hF.ev 1 rfl)) (kM [false, true, true, true] rfl rfl) (by decide) (v := (.int .i64 (n))) ?_
    refine rxV 3 rfl (by kernel_rfl) rfl (fun _ _ => rfl) (fun _ _ hF => opMove rfl (hF.ev 1 rfl)) (kA rfl) (by decide) (v := (.int .i64 (n))) ?_
    refine rx1 1 (by kernel_rfl) ?_
    refine moM rfl hH (fun _ hF => Does.small ((length_n n hno).does) (fun w => opCall rfl Try.func17 rfl rfl (Evs.cons (v := (.int .i64 (n))) (hF.ev 1 rfl) Evs.nil) w)) trivial rfl (fun _ _ => rfl) (kM [true, false, true, true, true] rfl rfl) (by decide) (PendOk.nil _ []) ?_
    clear hH
    rintro _ _ w ⟨rfl, rfl⟩ hH
    replace hH : HH w0 [] [] w := hH.unpad
    refine ⟨(fun _ hs => by cases hs), ?_⟩
    refine rxS (fun w => Vu cByte w none 0 0 ([])) 2 rfl (by kernel_rfl) rfl (fun _ _ => rfl) (Vu.none cByte _) (fun _ _ hF hS => opStr (e := 5) rfl (by kernel_rfl) (by kernel_rfl) (by kernel_rfl) (hF.ev 0 rfl) hS) (kM [false, true, true, true, true] rfl rfl) (by decide) (v := (.string (strL ([])))) ?_
    refine rx1 4 (by kernel_rfl) ?_
    refine moM rfl hH (fun _ hF => Does.small ((length_rn n hno).does) (fun w => opCall rfl Try.func18 rfl rfl (Evs.cons (v := (.int .i64 (n))) (hF.ev 1 rfl) Evs.nil) w)) trivial rfl (fun _ _ => rfl) (kM [true, false, true, true, true] rfl rfl) (by decide) (PendOk.keep (PendOk.nil _ [])) ?_
    clear hH
    rintro _ _ w ⟨rfl, rfl⟩ hH
    replace hH : HH w0 [] [] w := hH.unpad
    refine ⟨(by
      intro s hs
      simp only [List.mem_cons, List.not_mem_nil, or_false] at hs
      rcases hs with rfl
      · exact (Vu.none cByte _)
      ), ?_⟩
    refine rxS (fun w => Vu cByte w none 0 0 ([])) 5 rfl (by kernel_rfl) rfl (fun _ _ => rfl) (Vu.none cByte _) (fun _ _ hF hS => opStr (e := 5) rfl (by kernel_rfl) (by kernel_rfl) (by kernel_rfl) (hF.ev 0 rfl) hS) (kM [false, true, true, true, true] rfl rfl) (by decide) (v := (.string (strL ([])))) ?_
    refine rxV 6 rfl (by kernel_rfl) rfl (fun _ _ => rfl) (fun _ _ hF => opNeS rfl (hF.ev 1 rfl) (hF.ev 0 rfl) (decide_eq_false (fun h => h rfl))) (kM [false, false, true, true, true] rfl rfl) (by decide) (v := (.bool false)) ?_
    refine rxEnd (by kernel_rfl) ?_
    refine qxThen ?_
    refine cxF 0 rfl rfl ?_
    refine cxSkip ?_
    refine qxThen ?_
    refine cxSeq ?_
    refine cxSeq ?_
    refine cxReg ?_
    refine pxV (v := (.int .i64 (n))) (fun _ _ hF => opMove rfl (hF.ev 1 rfl)) rfl (fun _ _ => rfl) (kM [false, true, true, true] rfl rfl) (by decide) ?_
    refine pxV (v := (.bool (decide ((n) < 0)))) (fun _ _ hF => opLss rfl (hF.ev 0 rfl) rfl rfl) rfl (fun _ _ => rfl) (kM [false, true, true, true] rfl rfl) (by decide) ?_
    refine pxV (v := (.bool (decide ((n) < 0)))) (fun _ _ hF => opMove rfl (hF.ev 0 rfl)) rfl (fun _ _ => rfl) (kM [false, true, true, true] rfl rfl) (by decide) ?_
    refine pxSplitP 0 rfl (l1 := [(22, (.bool true)), (0, (.int .i64 (n))), (1, (.int .u8 (((tag.toNat) : Nat) : Int))), (2, (.int .u8 (((form.toNat) : Nat) : Int)))]) (l2 := [(22, (.bool false)), (0, (.int .i64 (n))), (1, (.int .u8 (((tag.toNat) : Nat) : Int))), (2, (.int .u8 (((form.toNat) : Nat) : Int)))]) rfl rfl (fun hg1 => ?_) (fun hg1 => ?_)
    · refine pxU rfl (gOff 0 rfl rfl rfl (by decide)) (kA rfl) (by decide) ?_
      refine pxU rfl (gOff 0 rfl rfl rfl (by decide)) (kA rfl) (by decide) ?_
      refine pxV (v := (.bool true)) (fun _ _ hF => opPickT rfl (hF.ev 0 rfl) rfl) rfl (fun _ _ => rfl) (kM [false, true, true, true] rfl rfl) (by decide) ?_
      refine pxEnd ?_
      refine qxThen ?_
      refine cxT 0 rfl rfl ?_
      refine cxSeq ?_
      refine cxReg ?_
      refine pxV (v := (.int .i64 (n))) (fun _ _ hF => opMove rfl (hF.ev 1 rfl)) rfl (fun _ _ => rfl) (kM [false, false, false, false] rfl rfl) (by decide) ?_
      refine pxM hH (fun _ hF => Does.small ((length_n n hno).does) (fun w => opCall rfl Try.func17 rfl rfl (Evs.cons (v := (.int .i64 (n))) (hF.ev 0 rfl) Evs.nil) w)) trivial rfl (fun _ _ => rfl) (kM [false] rfl rfl) (by decide) ?_
      clear hH
      rintro _ _ w ⟨rfl, rfl⟩ hH
      replace hH : HH w0 [] [] w := hH.unpad
      refine pxV (v := (.int .i64 0)) (fun _ _ hF => opLen (e := 5) rfl (by kernel_rfl) (hF.ev 0 rfl)) rfl (fun _ _ => rfl) (kM [false] rfl rfl) (by decide) ?_
      refine pxV (v := (.bool true)) (fun _ _ hF => opEqI rfl (hF.ev 0 rfl) rfl (by decide)) rfl (fun _ _ => rfl) (kM [false] rfl rfl) (by decide) ?_
      refine pxV (v := (.bool true)) (fun _ _ hF => opAssign rfl (hF.ev 0 rfl)) rfl (fun _ _ => rfl) (kM [false] rfl rfl) (by decide) ?_
      refine pxEnd ?_
      refine qxThen ?_
      refine cxRet ?_
      refine qxThenR ?_
      refine qxRet1 0 rfl rfl ?_
      exact ⟨rfl, HH.toBelow hH⟩
    · refine pxV (v := (.int .i64 (n))) (fun _ _ hF => opMove rfl (hF.ev 1 rfl)) rfl (gOn 0 rfl rfl rfl (by decide)) (kA rfl) (by decide) ?_
      refine pxV (v := (.bool true)) (fun _ _ hF => opGtr rfl (hF.ev 0 rfl) rfl (decide_eq_true (by omega))) rfl (gOn 1 rfl rfl rfl (by decide)) (kM [false, true, true, true, true] rfl rfl) (by decide) ?_
      refine pxV (v := (.bool true)) (fun _ _ hF => opPickF rfl (hF.ev 1 rfl) (hF.ev 0 rfl)) rfl (fun _ _ => rfl) (kM [false, false, true, true, true] rfl rfl) (by decide) ?_
      refine pxEnd ?_
      refine qxThen ?_
      refine cxT 0 rfl rfl ?_
      refine cxSeq ?_
      refine cxReg ?_
      refine pxV (v := (.int .i64 (n))) (fun _ _ hF => opMove rfl (hF.ev 1 rfl)) rfl (fun _ _ => rfl) (kM [false, false, false, false] rfl rfl) (by decide) ?_
      refine pxM hH (fun _ hF => Does.small ((length_n n hno).does) (fun w => opCall rfl Try.func17 rfl rfl (Evs.cons (v := (.int .i64 (n))) (hF.ev 0 rfl) Evs.nil) w)) trivial rfl (fun _ _ => rfl) (kM [false] rfl rfl) (by decide) ?_
      clear hH
      rintro _ _ w ⟨rfl, rfl⟩ hH
      replace hH : HH w0 [] [] w := hH.unpad
      refine pxV (v := (.int .i64 0)) (fun _ _ hF => opLen (e := 5) rfl (by kernel_rfl) (hF.ev 0 rfl)) rfl (fun _ _ => rfl) (kM [false] rfl rfl) (by decide) ?_
      refine pxV (v := (.bool true)) (fun _ _ hF => opEqI rfl (hF.ev 0 rfl) rfl (by decide)) rfl (fun _ _ => rfl) (kM [false] rfl rfl) (by decide) ?_
      refine pxV (v := (.bool true)) (fun _ _ hF => opAssign rfl (hF.ev 0 rfl)) rfl (fun _ _ => rfl) (kM [false] rfl rfl) (by decide) ?_
      refine pxEnd ?_
      refine qxThen ?_
      refine cxRet ?_
      refine qxThenR ?_
      refine qxRet1 0 rfl rfl ?_
      exact ⟨rfl, HH.toBelow hH⟩
  · obtain ⟨m, rfl⟩ : ∃ m : Nat, n = (m : Int) := ⟨n.toNat, by omega⟩
    have hm : m ≤ 20000 := by omega
    clear hyes
    refine cxSeq ?_
    refine cxReg ?_
    refine pxV (v := (.bool false)) (fun _ _ hF => opAssign rfl rfl) rfl (fun _ _ => rfl) (kA rfl) (by decide) ?_
    refine pxEnd ?_
    refine qxThen ?_
    refine cxSeq ?_
    refine cxSeq ?_
    refine cxReg ?_
    refine pxM hH (fun _ hF => Does.small ((awake_c ).does) (fun w => opCall rfl Try.func8 rfl rfl Evs.nil w)) trivial rfl (fun _ _ => rfl) (kM [false, true, true, true] rfl rfl) (by decide) ?_
    clear hH
    rintro _ _ w ⟨rfl, rfl⟩ hH
    replace hH : HH w0 [] [] w := hH.unpad
    refine pxV (v := (.bool false)) (fun _ _ hF => opNot rfl (hF.ev 0 rfl) rfl) rfl (fun _ _ => rfl) (kM [false, true, true, true] rfl rfl) (by decide) ?_
    refine pxEnd ?_
    refine qxThen ?_
    refine cxF 0 rfl rfl ?_
    refine cxSkip ?_
    refine qxThen ?_
    refine cxSeq ?_
    refine cxSeq ?_
    refine cxRegX mixedOrders (by kernel_rfl) ?_
    replace hH := hH.drew
    refine rxV 0 rfl (by kernel_rfl) rfl (fun _ _ => rfl) (fun _ _ hF => opMove rfl (hF.ev 1 rfl)) (kM [false, true, true, true] rfl rfl) (by decide) (v := (.int .i64 (((m) : Nat) : Int))) ?_
    refine rxV 3 rfl (by kernel_rfl) rfl (fun _ _ => rfl) (fun _ _ hF => opMove rfl (hF.ev 1 rfl)) (kA rfl) (by decide) (v := (.int .i64 (((m) : Nat) : Int))) ?_
    refine rx1 1 (by kernel_rfl) ?_
    refine moM rfl hH (fun _ hF => Does.small (length_c m hm) (fun w => opCall rfl Try.func17 rfl rfl (Evs.cons (v := (.int .i64 (((m) : Nat) : Int))) (hF.ev 1 rfl) Evs.nil) w)) trivial rfl (fun _ _ => rfl) (kM [true, false, true, true, true] rfl rfl) (by decide) (PendOk.nil _ []) ?_
    clear hH
    rintro v6 E2 w hO3 hH
    replace hH : HH w0 [] [E2] w := hH
    obtain ⟨A4, c5, rfl⟩ := hO3.slice
    refine ⟨(fun _ hs => by cases hs), ?_⟩
    refine rxS (fun w => Vu cByte w A4 ((lenL m).length) c5 (lenL m)) 2 rfl (by kernel_rfl) rfl (fun _ _ => rfl) (hO3.vuAt (hH.has 0 rfl)) (fun _ _ hF hS => opStr (e := 5) rfl (by kernel_rfl) (by kernel_rfl) (by kernel_rfl) (hF.ev 0 rfl) hS) (kM [false, true, true, true, true] rfl rfl) (by decide) (v := (.string (strL (lenL m)))) ?_
    refine rx1 4 (by kernel_rfl) ?_
    refine moM rfl hH (fun _ hF => Does.small (length_r m hm) (fun w => opCall rfl Try.func18 rfl rfl (Evs.cons (v := (.int .i64 (((m) : Nat) : Int))) (hF.ev 1 rfl) Evs.nil) w)) trivial rfl (fun _ _ => rfl) (kM [true, false, true, true, true] rfl rfl) (by decide) (PendOk.keep (PendOk.nil _ [])) ?_
    clear hH
    rintro v12 E8 w hO9 hH
    replace hH : HH w0 [] [E2, E8] w := hH
    obtain ⟨A10, c11, rfl⟩ := hO9.slice
    refine ⟨(by
      intro s hs
      simp only [List.mem_cons, List.not_mem_nil, or_false] at hs
      rcases hs with rfl
      · exact (hO3.vuAt (hH.has 0 rfl))
      ), ?_⟩
    refine rxS (fun w => Vu cByte w A10 ((lenL m).length) c11 (lenL m)) 5 rfl (by kernel_rfl) rfl (fun _ _ => rfl) (hO9.vuAt (hH.has 1 rfl)) (fun _ _ hF hS => opStr (e := 5) rfl (by kernel_rfl) (by kernel_rfl) (by kernel_rfl) (hF.ev 0 rfl) hS) (kM [false, true, true, true, true] rfl rfl) (by decide) (v := (.string (strL (lenL m)))) ?_
    refine rxV 6 rfl (by kernel_rfl) rfl (fun _ _ => rfl) (fun _ _ hF => opNeS rfl (hF.ev 1 rfl) (hF.ev 0 rfl) (decide_eq_false (fun h => h rfl))) (kM [false, false, true, true, true] rfl rfl) (by decide) (v := (.bool false)) ?_
    refine rxEnd (by kernel_rfl) ?_
    refine qxThen ?_
    refine cxF 0 rfl rfl ?_
    refine cxSkip ?_
    refine qxThen ?_
    refine cxSeq ?_
    refine cxSeq ?_
    refine cxReg ?_
    refine pxV (v := (.int .i64 (((m) : Nat) : Int))) (fun _ _ hF => opMove rfl (hF.ev 1 rfl)) rfl (fun _ _ => rfl) (kM [false, true, true, true] rfl rfl) (by decide) ?_
    refine pxV (v := (.bool false)) (fun _ _ hF => opLss rfl (hF.ev 0 rfl) rfl (decide_eq_false (by omega))) rfl (fun _ _ => rfl) (kM [false, true, true, true] rfl rfl) (by decide) ?_
    refine pxV (v := (.bool false)) (fun _ _ hF => opMove rfl (hF.ev 0 rfl)) rfl (fun _ _ => rfl) (kM [false, true, true, true] rfl rfl) (by decide) ?_
    refine pxV (v := (.int .i64 (((m) : Nat) : Int))) (fun _ _ hF => opMove rfl (hF.ev 1 rfl)) rfl (gOn 0 rfl rfl rfl (by decide)) (kA rfl) (by decide) ?_
    refine pxV (v := (.bool false)) (fun _ _ hF => opGtr rfl (hF.ev 0 rfl) rfl (decide_eq_false (by omega))) rfl (gOn 1 rfl rfl rfl (by decide)) (kM [false, true, true, true, true] rfl rfl) (by decide) ?_
    refine pxV (v := (.bool false)) (fun _ _ hF => opPickF rfl (hF.ev 1 rfl) (hF.ev 0 rfl)) rfl (fun _ _ => rfl) (kM [false, false, true, true, true] rfl rfl) (by decide) ?_
    refine pxEnd ?_
    refine qxThen ?_
    refine cxF 0 rfl rfl ?_
    refine cxSkip ?_
    refine qxThen ?_
    refine cxSeq ?_
    refine cxReg ?_
    refine pxV (v := (.int .u8 (((tag.toNat) : Nat) : Int))) (fun _ _ hF => opMove rfl (hF.ev 2 rfl)) rfl (fun _ _ => rfl) (kM [false, true, false, true] rfl rfl) (by decide) ?_
    refine pxV (v := (.int .u8 (((tag.toNat % 15) : Nat) : Int))) (fun _ _ hF => opRem (z := ((tag.toNat % 15 : Nat) : Int)) rfl (hF.ev 0 rfl) rfl (by omega) remN) rfl (fun _ _ => rfl) (kM [false, true, true] rfl rfl) (by decide) ?_
    refine pxV (v := (.int .i64 (((tag.toNat % 15) : Nat) : Int))) (fun _ _ hF => opConvI (k' := .i64) rfl (by kernel_rfl) (by kernel_rfl) (hF.ev 0 rfl) (wI rfl (by omega) (by omega))) rfl (fun _ _ => rfl) (kM [false, true, true] rfl rfl) (by decide) ?_
    refine pxV (v := (.int .i64 (((1 + tag.toNat % 15) : Nat) : Int))) (fun _ _ hF => opAdd rfl rfl (hF.ev 0 rfl) (wI rfl (by omega) (by omega))) rfl (fun _ _ => rfl) (kM [false, true, true] rfl rfl) (by decide) ?_
    refine pxV (v := (.int .i64 (((m) : Nat) : Int))) (fun _ _ hF => opMove rfl (hF.ev 1 rfl)) rfl (fun _ _ => rfl) (kA rfl) (by decide) ?_
    refine pxM hH (fun _ hF => smMake (e := 5) (n := m) (sz := 1) (by_ := 1) (z := (.int .u8 0)) (cs := madeCells (cByte.enc 0) (m * 1)) rfl (by kernel_rfl) (by kernel_rfl) (hF.ev 0 rfl) (hF.ev 0 rfl) rfl rfl (by omega) (by omega) rfl) trivial rfl (fun _ _ => rfl) (kM [false, true, true, true] rfl rfl) (by decide) ?_
    clear hH
    rintro _ _ w ⟨g14, rfl, rfl⟩ hH
    replace hH : HH w0 [] [E2, E8, [bl g14 5 (madeCells (cByte.enc 0) (m * 1))]] w := hH
    refine pxV (v := (.agg #[(.int .i64 (((1 + tag.toNat % 15) : Nat) : Int)), (.slice (some ⟨g14, 0, none⟩) m m)])) (fun _ _ hF => opBuildP (cells := #[(.int .i64 (((1 + tag.toNat % 15) : Nat) : Int)), (.slice (some ⟨g14, 0, none⟩) m m)]) rfl (EvP.cons (v := (.int .i64 (((1 + tag.toNat % 15) : Nat) : Int))) (hF.ev 1 rfl) (EvP.cons (v := (.slice (some ⟨g14, 0, none⟩) m m)) (hF.ev 0 rfl) EvP.nil)) rfl _) rfl (fun _ _ => rfl) (kM [false, false, true, true] rfl rfl) (by decide) ?_
    refine pxM hH (fun _ hF => smAlloc (z := (.agg #[(.int .i64 0), (.slice none 0 0)])) rfl (by kernel_rfl) rfl) trivial rfl (fun _ _ => rfl) (kA rfl) (by decide) ?_
    clear hH
    rintro _ _ w ⟨g15, rfl, rfl⟩ hH
    replace hH : HH w0 [] [E2, E8, [bl g14 5 (madeCells (cByte.enc 0) (m * 1))], [bl g15 31 #[(.int .i64 0), (.slice none 0 0)]]] w := hH
    refine pxE0 3 hH rfl (fun _ hF => smStoreK (k := 2) rfl (hF.ev 0 rfl) (hF.ev 1 rfl) rfl (by kernel_rfl) (leb rfl) rfl rfl) trivial rfl (fun _ _ => rfl) ?_
    clear hH
    rintro _ _ w rfl hH
    replace hH : HH w0 [] [E2, E8, [bl g14 5 (madeCells (cByte.enc 0) (m * 1))], [bl g15 31 #[(.int .i64 (((1 + tag.toNat % 15) : Nat) : Int)), (.slice (some ⟨g14, 0, none⟩) m m)]]] w := hH
    refine pxEnd ?_
    refine qxThen ?_
    refine cxSeq ?_
    refine cxRegX mixedOrders (by kernel_rfl) ?_
    replace hH := hH.drew
    refine rxV 0 rfl (by kernel_rfl) rfl (fun _ _ => rfl) (fun _ _ hF => opField (off := 0) rfl (hF.ev 0 rfl) (by kernel_rfl)) (kM [true, false, true, true] rfl rfl) (by decide) (v := (.pointer (some ⟨g15, 0, none⟩))) ?_
    refine rxS (fun w => w.heap[g15]? = some (.cells #[(.int .i64 (((1 + tag.toNat % 15) : Nat) : Int)), (.slice (some ⟨g14, 0, none⟩) m m)] 31 (0, 0))) 1 rfl (by kernel_rfl) rfl (fun _ _ => rfl) (hH.blk 3 rfl) (fun _ _ hF hS => opLoadK hS rfl (hF.ev 0 rfl) (by kernel_rfl) rfl) (kM [false, true, true, true] rfl rfl) (by decide) (v := (.int .i64 (((1 + tag.toNat % 15) : Nat) : Int))) ?_
    refine rxV 2 rfl (by kernel_rfl) rfl (fun _ _ => rfl) (fun _ _ hF => opAdd rfl rfl (hF.ev 0 rfl) (wI (by omega) (by omega) (by omega))) (kM [false, true, true, true] rfl rfl) (by decide) (v := (.int .i64 (((192 + (1 + tag.toNat % 15)) : Nat) : Int))) ?_
    refine rxV 3 rfl (by kernel_rfl) rfl (fun _ _ => rfl) (fun _ _ hF => opConvU (k' := .u8) rfl rfl (by kernel_rfl) (by kernel_rfl) (hF.ev 0 rfl) (UInt8.toNat_ofNat' (n := 192 + (1 + tag.toNat % 15))).symm) (kM [false, true, true, true] rfl rfl) (by decide) (v := (.int .u8 ((((UInt8.ofNat (192 + (1 + tag.toNat % 15))).toNat) : Nat) : Int))) ?_
    refine rxV 5 rfl (by kernel_rfl) rfl (fun _ _ => rfl) (fun _ _ hF => opMove rfl (hF.ev 2 rfl)) (kA rfl) (by decide) (v := (.int .i64 (((m) : Nat) : Int))) ?_
    refine rxV 6 rfl (by kernel_rfl) rfl (fun _ _ => rfl) (fun _ _ hF => opConvU (k' := .u64) rfl rfl (by kernel_rfl) (by kernel_rfl) (hF.ev 0 rfl) (Nat.mod_eq_of_lt (by show _ < 18446744073709551616; omega))) (kM [false, true, true, true, true] rfl rfl) (by decide) (v := (.int .u64 (((m) : Nat) : Int))) ?_
    refine rx2 4 7 (by kernel_rfl) ?_ ?_
    · refine moM rfl hH (fun _ hF => smLits (C := cByte) (e := 5) (z := (.int .u8 0)) (by_ := 1) [(UInt8.ofNat (192 + (1 + tag.toNat % 15))), 255] rfl (by kernel_rfl) (by kernel_rfl) (EvP.cons (v := cByte.val (UInt8.ofNat (192 + (1 + tag.toNat % 15)))) (hF.ev 1 rfl) (EvP.cons (v := cByte.val 255) rfl EvP.nil)) rfl (ltb rfl) (leb rfl) rfl) trivial rfl (fun _ _ => rfl) (kM [true, false, true, true, true] rfl rfl) (by decide) (PendOk.go [3, 2] (by kernel_rfl) (PendOk.nil _ [])) ?_
      clear hH
      rintro _ _ w ⟨g16, rfl, rfl⟩ hH
      replace hH : HH w0 [] [E2, E8, [bl g14 5 (madeCells (cByte.enc 0) (m * 1))], [bl g15 31 #[(.int .i64 (((1 + tag.toNat % 15) : Nat) : Int)), (.slice (some ⟨g14, 0, none⟩) m m)]], [bl g16 5 (flat cByte [(UInt8.ofNat (192 + (1 + tag.toNat % 15))), 255]).toArray]] w := hH
      refine ⟨(fun _ hs => by cases hs), ?_⟩
      refine rx1 7 (by kernel_rfl) ?_
      refine moM rfl hH (fun _ hF => Does.small (bytes_r m 4 (leb rfl)) (fun w => opCall rfl Try.func19 rfl rfl (Evs.cons (v := (.int .u64 (((m) : Nat) : Int))) (hF.ev 1 rfl) (Evs.cons (v := (.int .i64 4)) rfl Evs.nil)) w)) trivial rfl (fun _ _ => rfl) (kM [true, false, true, true, true] rfl rfl) (by decide) (PendOk.nil _ []) ?_
      clear hH
      rintro v21 E17 w hO18 hH
      replace hH : HH w0 [] [E2, E8, [bl g14 5 (madeCells (cByte.enc 0) (m * 1))], [bl g15 31 #[(.int .i64 (((1 + tag.toNat % 15) : Nat) : Int)), (.slice (some ⟨g14, 0, none⟩) m m)]], [bl g16 5 (flat cByte [(UInt8.ofNat (192 + (1 + tag.toNat % 15))), 255]).toArray], E17] w := hH
      obtain ⟨A19, c20, rfl⟩ := hO18.slice
      refine ⟨(fun _ hs => by cases hs), ?_⟩
      refine rx1 8 (by kernel_rfl) ?_
      refine moE 4 rfl hH rfl (fun _ hF => smAppT (C := cByte) (l := [(UInt8.ofNat (192 + (1 + tag.toNat % 15))), 255]) (m := (beL 4 m)) (e := 5) (z := (.int .u8 0)) (by_ := 1) rfl (by kernel_rfl) (by kernel_rfl) rfl (ltb rfl) (hF.ev 1 rfl) ((Bk.lits (C := cByte) [(UInt8.ofNat (192 + (1 + tag.toNat % 15))), 255] (by show 2 ≤ _; unfold maxLen; decide)).own 5 g16 rfl) (hF.ev 0 rfl) rfl hO18.nilA (by rw [beL_len]; simp only [List.length_cons, List.length_nil]; unfold maxLen; omega) (by rw [beL_len]; simp only [List.length_cons, List.length_nil]; omega)) (hO18.vuAt (hH.has 5 rfl)) rfl (fun _ _ => rfl) (kM [false, false, true, true, true] rfl rfl) (by decide) (PendOk.nil _ []) ?_
      clear hH
      rintro v25 E26 w ⟨hO27, _⟩ hH
      replace hH : HH w0 [] [E2, E8, [bl g14 5 (madeCells (cByte.enc 0) (m * 1))], [bl g15 31 #[(.int .i64 (((1 + tag.toNat % 15) : Nat) : Int)), (.slice (some ⟨g14, 0, none⟩) m m)]], E26, E17] w := hH
      replace hO27 : OwnT cByte 5 v25 ([(UInt8.ofNat (192 + (1 + tag.toNat % 15))), 255] ++ (beL 4 m)) E26 := hO27
      obtain ⟨A23, c24, rfl⟩ := hO27.slice
      refine ⟨(fun _ hs => by cases hs), ?_⟩
      refine rxV 9 rfl (by kernel_rfl) rfl (fun _ _ => rfl) (fun _ _ hF => opAssign rfl (hF.ev 0 rfl)) (kM [false, true, true, true] rfl rfl) (by decide) (v := (.slice A23 (([(UInt8.ofNat (192 + (1 + tag.toNat % 15))), 255] ++ (beL 4 m)).length) c24)) ?_
      refine rxEnd (by kernel_rfl) ?_
      refine qxThen ?_
      refine cxSeq ?_
      refine cxSeq ?_
      refine cxReg ?_
      refine pxV (v := (.int .u8 (((form.toNat) : Nat) : Int))) (fun _ _ hF => opMove rfl (hF.ev 3 rfl)) rfl (fun _ _ => rfl) (kM [true, true, true, false] rfl rfl) (by decide) ?_
      refine pxV (v := (.int .u8 (((form.toNat % 5) : Nat) : Int))) (fun _ _ hF => opRem (z := ((form.toNat % 5 : Nat) : Int)) rfl (hF.ev 0 rfl) rfl (by omega) remN) rfl (fun _ _ => rfl) (kM [false, true, true, true] rfl rfl) (by decide) ?_
      refine pxEnd ?_
      refine qxThen ?_
      refine cxBlock ?_
      refine cxSeq ?_
      refine cxReg ?_
      refine pxV (v := (.bool (decide (form.toNat % 5 = 1)))) (fun _ _ hF => opEqI rfl (hF.ev 0 rfl) rfl (dc (by omega))) rfl (fun _ _ => rfl) (kA rfl) (by decide) ?_
      refine pxV (v := (.bool (decide (form.toNat % 5 = 1)))) (fun _ _ hF => opAssign rfl (hF.ev 0 rfl)) rfl (fun _ _ => rfl) (kM [false, true, true, true, true] rfl rfl) (by decide) ?_
      refine pxEnd ?_
      refine qxThen ?_
      refine cxP 0 rfl rfl (fun hc28 => ?_) (fun hc28 => ?_)
      · refine cxRegX mixedOrders (by kernel_rfl) ?_
        replace hH := hH.drew
        refine rxV 0 rfl (by kernel_rfl) rfl (fun _ _ => rfl) (fun _ _ hF => opField (off := 0) rfl (hF.ev 3 rfl) (by kernel_rfl)) (kM [false, false, true, true, true] rfl rfl) (by decide) (v := (.pointer (some ⟨g15, 0, none⟩))) ?_
        refine rxS (fun w => w.heap[g15]? = some (.cells #[(.int .i64 (((1 + tag.toNat % 15) : Nat) : Int)), (.slice (some ⟨g14, 0, none⟩) m m)] 31 (0, 0))) 1 rfl (by kernel_rfl) rfl (fun _ _ => rfl) (hH.blk 3 rfl) (fun _ _ hF hS => opLoadK hS rfl (hF.ev 0 rfl) (by kernel_rfl) rfl) (kM [false, true, true, true] rfl rfl) (by decide) (v := (.int .i64 (((1 + tag.toNat % 15) : Nat) : Int))) ?_
        refine rxV 2 rfl (by kernel_rfl) rfl (fun _ _ => rfl) (fun _ _ hF => opMul rfl rfl (hF.ev 0 rfl) (wI rfl (by omega) (by omega))) (kM [false, true, true, true] rfl rfl) (by decide) (v := (.int .i64 (((4 * (1 + tag.toNat % 15)) : Nat) : Int))) ?_
        refine rxV 3 rfl (by kernel_rfl) rfl (fun _ _ => rfl) (fun _ _ hF => opAdd rfl rfl (hF.ev 0 rfl) (wI rfl (by omega) (by omega))) (kM [false, true, true, true] rfl rfl) (by decide) (v := (.int .i64 (((128 + 4 * (1 + tag.toNat % 15)) : Nat) : Int))) ?_
        refine rxV 4 rfl (by kernel_rfl) rfl (fun _ _ => rfl) (fun _ _ hF => opAdd rfl (hF.ev 0 rfl) rfl (wI rfl (by omega) (by omega))) (kM [false, true, true, true] rfl rfl) (by decide) (v := (.int .i64 (((128 + 4 * (1 + tag.toNat % 15) + 2) : Nat) : Int))) ?_
        refine rxV 5 rfl (by kernel_rfl) rfl (fun _ _ => rfl) (fun _ _ hF => opConvU (k' := .u8) rfl rfl (by kernel_rfl) (by kernel_rfl) (hF.ev 0 rfl) (UInt8.toNat_ofNat' (n := 128 + 4 * (1 + tag.toNat % 15) + 2)).symm) (kM [false, true, true, true] rfl rfl) (by decide) (v := (.int .u8 ((((UInt8.ofNat (128 + 4 * (1 + tag.toNat % 15) + 2)).toNat) : Nat) : Int))) ?_
        refine rxV 7 rfl (by kernel_rfl) rfl (fun _ _ => rfl) (fun _ _ hF => opMove rfl (hF.ev 3 rfl)) (kM [true, true, true, false] rfl rfl) (by decide) (v := (.int .i64 (((m) : Nat) : Int))) ?_
        refine rxV 8 rfl (by kernel_rfl) rfl (fun _ _ => rfl) (fun _ _ hF => opConvU (k' := .u64) rfl rfl (by kernel_rfl) (by kernel_rfl) (hF.ev 0 rfl) (Nat.mod_eq_of_lt (by show _ < 18446744073709551616; omega))) (kM [false, true, true, true] rfl rfl) (by decide) (v := (.int .u64 (((m) : Nat) : Int))) ?_
        refine rx2 6 9 (by kernel_rfl) ?_ ?_
        · refine moM rfl hH (fun _ hF => smLit1 (e := 5) (sz := 1) (z := (.int .u8 0)) (by_ := 1) (cs := cByte.enc (UInt8.ofNat (128 + 4 * (1 + tag.toNat % 15) + 2))) rfl (by kernel_rfl) (by kernel_rfl) (hF.ev 1 rfl) (cByte.len (UInt8.ofNat (128 + 4 * (1 + tag.toNat % 15) + 2))) (ltb rfl) (leb rfl) rfl) trivial rfl (fun _ _ => rfl) (kM [true, false, true, true] rfl rfl) (by decide) (PendOk.go [5, 4, 3, 2] (by kernel_rfl) (PendOk.nil _ [])) ?_
          clear hH
          rintro _ _ w ⟨g29, rfl, rfl⟩ hH
          replace hH : HH w0 [] [E2, E8, [bl g14 5 (madeCells (cByte.enc 0) (m * 1))], [bl g15 31 #[(.int .i64 (((1 + tag.toNat % 15) : Nat) : Int)), (.slice (some ⟨g14, 0, none⟩) m m)]], E26, E17, [bl g29 5 (cByte.enc (UInt8.ofNat (128 + 4 * (1 + tag.toNat % 15) + 2)))]] w := hH
          refine ⟨(fun _ hs => by cases hs), ?_⟩
          refine rx1 9 (by kernel_rfl) ?_
          refine moM rfl hH (fun _ hF => Does.small (bytes_r m 4 (leb rfl)) (fun w => opCall rfl Try.func19 rfl rfl (Evs.cons (v := (.int .u64 (((m) : Nat) : Int))) (hF.ev 1 rfl) (Evs.cons (v := (.int .i64 4)) rfl Evs.nil)) w)) trivial rfl (fun _ _ => rfl) (kM [true, false, true, true] rfl rfl) (by decide) (PendOk.nil _ []) ?_
          clear hH
          rintro v34 E30 w hO31 hH
          replace hH : HH w0 [] [E2, E8, [bl g14 5 (madeCells (cByte.enc 0) (m * 1))], [bl g15 31 #[(.int .i64 (((1 + tag.toNat % 15) : Nat) : Int)), (.slice (some ⟨g14, 0, none⟩) m m)]], E26, E17, [bl g29 5 (cByte.enc (UInt8.ofNat (128 + 4 * (1 + tag.toNat % 15) + 2)))], E30] w := hH
          obtain ⟨A32, c33, rfl⟩ := hO31.slice
          refine ⟨(fun _ hs => by cases hs), ?_⟩
          refine rx1 10 (by kernel_rfl) ?_
          refine moE 6 rfl hH rfl (fun _ hF => smAppT (C := cByte) (l := [(UInt8.ofNat (128 + 4 * (1 + tag.toNat % 15) + 2))]) (m := (beL 4 m)) (e := 5) (z := (.int .u8 0)) (by_ := 1) rfl (by kernel_rfl) (by kernel_rfl) rfl (ltb rfl) (hF.ev 1 rfl) ((Bk.lit1 (C := cByte) (UInt8.ofNat (128 + 4 * (1 + tag.toNat % 15) + 2))).own 5 g29 rfl) (hF.ev 0 rfl) rfl hO31.nilA (by rw [beL_len]; simp only [List.length_cons, List.length_nil]; unfold maxLen; omega) (by rw [beL_len]; simp only [List.length_cons, List.length_nil]; omega)) (hO31.vuAt (hH.has 7 rfl)) rfl (fun _ _ => rfl) (kM [false, false, true, true] rfl rfl) (by decide) (PendOk.nil _ []) ?_
          clear hH
          rintro v38 E39 w ⟨hO40, _⟩ hH
          replace hH : HH w0 [] [E2, E8, [bl g14 5 (madeCells (cByte.enc 0) (m * 1))], [bl g15 31 #[(.int .i64 (((1 + tag.toNat % 15) : Nat) : Int)), (.slice (some ⟨g14, 0, none⟩) m m)]], E26, E17, E39, E30] w := hH
          replace hO40 : OwnT cByte 5 v38 ([(UInt8.ofNat (128 + 4 * (1 + tag.toNat % 15) + 2))] ++ (beL 4 m)) E39 := hO40
          obtain ⟨A36, c37, rfl⟩ := hO40.slice
          refine ⟨(fun _ hs => by cases hs), ?_⟩
          refine rxV 11 rfl (by kernel_rfl) rfl (fun _ _ => rfl) (fun _ _ hF => opAssign rfl (hF.ev 0 rfl)) (kM [false, false, true] rfl rfl) (by decide) (v := (.slice A36 (([(UInt8.ofNat (128 + 4 * (1 + tag.toNat % 15) + 2))] ++ (beL 4 m)).length) c37)) ?_
          refine rxEnd (by kernel_rfl) ?_
          refine qxInN ?_
          refine qxThen ?_
          refine cxSeq ?_
          have hp : prs [] (([(UInt8.ofNat (128 + 4 * (1 + tag.toNat % 15) + 2))] ++ (beL 4 m)) ++ (List.replicate m 0)) = (0, [(((1 + tag.toNat % 15 : Nat) : Int), (List.replicate m 0))]) := form_old (k := 2) (by omega) (by omega) (by decide) List.length_replicate hm (Nat.lt_of_le_of_lt hm (by decide))
          have hfl : (([(UInt8.ofNat (128 + 4 * (1 + tag.toNat % 15) + 2))] ++ (beL 4 m))).length ≤ 6 := by simp [beL_len]
          have hrl : (List.replicate m (0 : UInt8)).length = m := List.length_replicate
          refine cxReg ?_
          refine pxV (v := (.slice A36 (([(UInt8.ofNat (128 + 4 * (1 + tag.toNat % 15) + 2))] ++ (beL 4 m)).length) c37)) (fun _ _ hF => opMove rfl (hF.ev 0 rfl)) rfl (fun _ _ => rfl) (kM [false, true] rfl rfl) (by decide) ?_
          refine pxV (v := (.pointer (some ⟨g15, 1, none⟩))) (fun _ _ hF => opField (off := 1) rfl (hF.ev 1 rfl) (by kernel_rfl)) rfl (fun _ _ => rfl) (kA rfl) (by decide) ?_
          refine pxS (v := (.slice (some ⟨g14, 0, none⟩) m m)) (fun w => w.heap[g15]? = some (.cells #[(.int .i64 (((1 + tag.toNat % 15) : Nat) : Int)), (.slice (some ⟨g14, 0, none⟩) m m)] 31 (0, 0))) (hH.blk 3 rfl) (fun _ _ hF hS => opLoadK hS rfl (hF.ev 0 rfl) (by kernel_rfl) rfl) rfl (fun _ _ => rfl) (kM [false, true, true] rfl rfl) (by decide) ?_
          refine pxE 6 hH rfl (fun _ hF => smAppT (C := cByte) (l := ([(UInt8.ofNat (128 + 4 * (1 + tag.toNat % 15) + 2))] ++ (beL 4 m))) (m := (List.replicate m 0)) (e := 5) (z := (.int .u8 0)) (by_ := 1) rfl (by kernel_rfl) (by kernel_rfl) rfl (ltb rfl) (hF.ev 1 rfl) hO40 (hF.ev 0 rfl) List.length_replicate (fun h => by cases h) (by unfold maxLen; omega) (by omega)) ((Bk.make (C := cByte) 0 m (ltb rfl) (by unfold maxLen; omega)).vu (hH.blk 2 rfl) List.length_replicate) rfl (fun _ _ => rfl) (kM [false, false, true] rfl rfl) (by decide) ?_
          clear hH
          rintro v43 E44 w ⟨hO45, _⟩ hH
          replace hH : HH w0 [] [E2, E8, [bl g14 5 (madeCells (cByte.enc 0) (m * 1))], [bl g15 31 #[(.int .i64 (((1 + tag.toNat % 15) : Nat) : Int)), (.slice (some ⟨g14, 0, none⟩) m m)]], E26, E17, E44, E30] w := hH
          replace hO45 : OwnT cByte 5 v43 (([(UInt8.ofNat (128 + 4 * (1 + tag.toNat % 15) + 2))] ++ (beL 4 m)) ++ (List.replicate m 0)) E44 := hO45
          obtain ⟨A41, c42, rfl⟩ := hO45.slice
          refine pxM hH (fun _ hF => Does.small (parse_c c42 A41 (([(UInt8.ofNat (128 + 4 * (1 + tag.toNat % 15) + 2))] ++ (beL 4 m)) ++ (List.replicate m 0)) (by rw [List.length_append]; omega)) (fun w => opCall rfl Try.func14 rfl rfl (Evs.cons (v := (.slice A41 ((([(UInt8.ofNat (128 + 4 * (1 + tag.toNat % 15) + 2))] ++ (beL 4 m)) ++ (List.replicate m 0)).length) c42)) (hF.ev 0 rfl) Evs.nil) w)) (hO45.vuAt (hH.has 6 rfl)) rfl (fun _ _ => rfl) (kM [false, true] rfl rfl) (by decide) ?_
          clear hH
          rintro _ _ w ⟨s46, rfl, L51, E47, E48, rfl, hO49, hB50⟩ hH
          replace hH : HH w0 [] [E2, E8, [bl g14 5 (madeCells (cByte.enc 0) (m * 1))], [bl g15 31 #[(.int .i64 (((1 + tag.toNat % 15) : Nat) : Int)), (.slice (some ⟨g14, 0, none⟩) m m)]], E26, E17, E44, E30, ([E47, E48] : List Hl).flatten] w := hH
          obtain ⟨A52, c53, rfl⟩ := hO49.slice
          replace hH : HH w0 [] [E2, E8, [bl g14 5 (madeCells (cByte.enc 0) (m * 1))], [bl g15 31 #[(.int .i64 (((1 + tag.toNat % 15) : Nat) : Int)), (.slice (some ⟨g14, 0, none⟩) m m)]], E26, E17, E44, E30, E47, E48] w := hH.cast (by simp)
          refine pxV (v := (.tuple #[(.slice A52 L51.length c53), (.int .i64 ((((prs [] (([(UInt8.ofNat (128 + 4 * (1 + tag.toNat % 15) + 2))] ++ (beL 4 m)) ++ (List.replicate m 0))).1) : Nat) : Int))])) (fun _ _ hF => opMove rfl (hF.ev 0 rfl)) rfl (fun _ _ => rfl) (kM [false, true] rfl rfl) (by decide) ?_
          refine pxV (v := (.slice A52 L51.length c53)) (fun _ _ hF => opExtract rfl (hF.ev 0 rfl) rfl) rfl (fun _ _ => rfl) (kA rfl) (by decide) ?_
          refine pxV (v := (.int .i64 ((((prs [] (([(UInt8.ofNat (128 + 4 * (1 + tag.toNat % 15) + 2))] ++ (beL 4 m)) ++ (List.replicate m 0))).1) : Nat) : Int))) (fun _ _ hF => opExtract rfl (hF.ev 1 rfl) rfl) rfl (fun _ _ => rfl) (kM [true, false, true] rfl rfl) (by decide) ?_
          refine pxV (v := (.slice A52 L51.length c53)) (fun _ _ hF => opAssign rfl (hF.ev 1 rfl)) rfl (fun _ _ => rfl) (kM [true, false, true] rfl rfl) (by decide) ?_
          refine pxV (v := (.int .i64 ((((prs [] (([(UInt8.ofNat (128 + 4 * (1 + tag.toNat % 15) + 2))] ++ (beL 4 m)) ++ (List.replicate m 0))).1) : Nat) : Int))) (fun _ _ hF => opAssign rfl (hF.ev 1 rfl)) rfl (fun _ _ => rfl) (kM [true, false, true] rfl rfl) (by decide) ?_
          refine pxEnd ?_
          refine qxThen ?_
          refine cxSeq ?_
          refine cxReg ?_
          refine pxV (v := (.int .i64 ((((prs [] (([(UInt8.ofNat (128 + 4 * (1 + tag.toNat % 15) + 2))] ++ (beL 4 m)) ++ (List.replicate m 0))).1) : Nat) : Int))) (fun _ _ hF => opMove rfl (hF.ev 0 rfl)) rfl (fun _ _ => rfl) (kM [false, true, true] rfl rfl) (by decide) ?_
          refine pxV (v := (.bool true)) (fun _ _ hF => opEqI rfl (hF.ev 0 rfl) rfl (decide_eq_true (by rw [hp]; rfl))) rfl (fun _ _ => rfl) (kM [false, true, true] rfl rfl) (by decide) ?_
          refine pxV (v := (.bool true)) (fun _ _ hF => opMove rfl (hF.ev 0 rfl)) rfl (fun _ _ => rfl) (kM [false, true, true] rfl rfl) (by decide) ?_
          refine pxV (v := (.slice A52 L51.length c53)) (fun _ _ hF => opMove rfl (hF.ev 1 rfl)) rfl (gOn 0 rfl rfl rfl (by decide)) (kM [true, false, true] rfl rfl) (by decide) ?_
          refine pxS (v := (.agg #[(.int .i64 (((1 + tag.toNat % 15) : Nat) : Int)), (.slice (some ⟨g14, 0, none⟩) m m)])) (fun w => w.heap[g15]? = some (.cells #[(.int .i64 (((1 + tag.toNat % 15) : Nat) : Int)), (.slice (some ⟨g14, 0, none⟩) m m)] 31 (0, 0))) (hH.blk 3 rfl) (fun _ _ hF hS => opLoadKR (k := 2) hS rfl (hF.ev 2 rfl) (by kernel_rfl) rfl (by kernel_rfl) rfl) rfl (gOn 1 rfl rfl rfl (by decide)) (kM [true, true, false] rfl rfl) (by decide) ?_
          refine pxM hH (fun _ hF => smLit1 (e := 31) (sz := 2) (z := (cPk.val (0, none, 0, 0))) (by_ := 32) (cs := cPk.enc ((((1 + tag.toNat % 15) : Nat) : Int), (some ⟨g14, 0, none⟩), m, m)) rfl (by kernel_rfl) (by kernel_rfl) ((hF.ev 0 rfl).trans (cPk_val (((1 + tag.toNat % 15) : Nat) : Int) (some ⟨g14, 0, none⟩) m m)) (cPk.len ((((1 + tag.toNat % 15) : Nat) : Int), (some ⟨g14, 0, none⟩), m, m)) (ltb rfl) (leb rfl) rfl) trivial rfl (gOn 2 rfl rfl rfl (by decide)) (kM [false, true, true] rfl rfl) (by decide) ?_
          clear hH
          rintro _ _ w ⟨g56, rfl, rfl⟩ hH
          replace hH : HH w0 [] [E2, E8, [bl g14 5 (madeCells (cByte.enc 0) (m * 1))], [bl g15 31 #[(.int .i64 (((1 + tag.toNat % 15) : Nat) : Int)), (.slice (some ⟨g14, 0, none⟩) m m)]], E26, E17, E44, E30, E47, E48, [bl g56 31 (cPk.enc ((((1 + tag.toNat % 15) : Nat) : Int), (some ⟨g14, 0, none⟩), m, m))]] w := hH
          refine pxM hH (fun _ hF => Does.small ((Pure.as (v := (.bool true)) (same_c L51 ([((((1 + tag.toNat % 15) : Nat) : Int), (some ⟨g14, 0, none⟩), m, m)]) ((prs [] (([(UInt8.ofNat (128 + 4 * (1 + tag.toNat % 15) + 2))] ++ (beL 4 m)) ++ (List.replicate m 0))).2) ([(((1 + tag.toNat % 15 : Nat) : Int), List.replicate m 0)]) A52 (some ⟨g56, 0, none⟩) c53 1 (by rw [hB50.len, hp]; exact (by decide : (1 : Nat) ≤ 140737488355328))) (congrArg Value.bool (decide_eq_true (by rw [hp])))).does) (fun w => opCall rfl Try.func15 rfl rfl (Evs.cons (v := (.slice A52 L51.length c53)) (hF.ev 1 rfl) (Evs.cons (v := (.slice (some ⟨g56, 0, none⟩) 1 1)) (hF.ev 0 rfl) Evs.nil)) w)) ⟨(hO49.vuAt (hH.has 8 rfl)), (hB50.beh (hH.has 9 rfl)), ((Bk.lit1 (C := cPk) ((((1 + tag.toNat % 15) : Nat) : Int), (some ⟨g14, 0, none⟩), m, m)).vu (hH.blk 10 rfl) rfl), (beh_rep ((Bk.make (C := cByte) 0 m (ltb rfl) (by unfold maxLen; omega)).vu (hH.blk 2 rfl) List.length_replicate))⟩ rfl (gOn 2 rfl rfl rfl (by decide)) (kM [false, false, true] rfl rfl) (by decide) ?_
          clear hH
          rintro _ _ w ⟨rfl, rfl⟩ hH
          replace hH : HH w0 [] [E2, E8, [bl g14 5 (madeCells (cByte.enc 0) (m * 1))], [bl g15 31 #[(.int .i64 (((1 + tag.toNat % 15) : Nat) : Int)), (.slice (some ⟨g14, 0, none⟩) m m)]], E26, E17, E44, E30, E47, E48, [bl g56 31 (cPk.enc ((((1 + tag.toNat % 15) : Nat) : Int), (some ⟨g14, 0, none⟩), m, m))]] w := hH.unpad
          refine pxV (v := (.bool true)) (fun _ _ hF => opPickT rfl (hF.ev 1 rfl) (hF.ev 0 rfl)) rfl (fun _ _ => rfl) (kM [false, false] rfl rfl) (by decide) ?_
          refine pxV (v := (.bool true)) (fun _ _ hF => opAssign rfl (hF.ev 0 rfl)) rfl (fun _ _ => rfl) (kM [false] rfl rfl) (by decide) ?_
          refine pxEnd ?_
          refine qxThen ?_
          refine cxRet ?_
          refine qxRet1 0 rfl rfl ?_
          exact ⟨rfl, HH.toBelow hH⟩
        · refine moM rfl hH (fun _ hF => Does.small (bytes_r m 4 (leb rfl)) (fun w => opCall rfl Try.func19 rfl rfl (Evs.cons (v := (.int .u64 (((m) : Nat) : Int))) (hF.ev 0 rfl) (Evs.cons (v := (.int .i64 4)) rfl Evs.nil)) w)) trivial rfl (fun _ _ => rfl) (kM [false, true, true, true] rfl rfl) (by decide) (PendOk.keep (PendOk.nil _ [])) ?_
          clear hH
          rintro v61 E57 w hO58 hH
          replace hH : HH w0 [] [E2, E8, [bl g14 5 (madeCells (cByte.enc 0) (m * 1))], [bl g15 31 #[(.int .i64 (((1 + tag.toNat % 15) : Nat) : Int)), (.slice (some ⟨g14, 0, none⟩) m m)]], E26, E17, E57] w := hH
          obtain ⟨A59, c60, rfl⟩ := hO58.slice
          refine ⟨(by
            intro s hs
            simp only [List.mem_cons, List.not_mem_nil, or_false] at hs
            rcases hs with rfl
            · exact (hH.blk 3 rfl)
            ), ?_⟩
          refine rx1 6 (by kernel_rfl) ?_
          refine moM rfl hH (fun _ hF => smLit1 (e := 5) (sz := 1) (z := (.int .u8 0)) (by_ := 1) (cs := cByte.enc (UInt8.ofNat (128 + 4 * (1 + tag.toNat % 15) + 2))) rfl (by kernel_rfl) (by kernel_rfl) (hF.ev 1 rfl) (cByte.len (UInt8.ofNat (128 + 4 * (1 + tag.toNat % 15) + 2))) (ltb rfl) (leb rfl) rfl) trivial rfl (fun _ _ => rfl) (kM [true, false, true, true] rfl rfl) (by decide) (PendOk.go [5, 4, 3, 2] (by kernel_rfl) (PendOk.nil _ [])) ?_
          clear hH
          rintro _ _ w ⟨g63, rfl, rfl⟩ hH
          replace hH : HH w0 [] [E2, E8, [bl g14 5 (madeCells (cByte.enc 0) (m * 1))], [bl g15 31 #[(.int .i64 (((1 + tag.toNat % 15) : Nat) : Int)), (.slice (some ⟨g14, 0, none⟩) m m)]], E26, E17, E57, [bl g63 5 (cByte.enc (UInt8.ofNat (128 + 4 * (1 + tag.toNat % 15) + 2)))]] w := hH
          refine ⟨(fun _ hs => by cases hs), ?_⟩
          refine rx1 10 (by kernel_rfl) ?_
          refine moE 7 rfl hH rfl (fun _ hF => smAppT (C := cByte) (l := [(UInt8.ofNat (128 + 4 * (1 + tag.toNat % 15) + 2))]) (m := (beL 4 m)) (e := 5) (z := (.int .u8 0)) (by_ := 1) rfl (by kernel_rfl) (by kernel_rfl) rfl (ltb rfl) (hF.ev 0 rfl) ((Bk.lit1 (C := cByte) (UInt8.ofNat (128 + 4 * (1 + tag.toNat % 15) + 2))).own 5 g63 rfl) (hF.ev 1 rfl) rfl hO58.nilA (by rw [beL_len]; simp only [List.length_cons, List.length_nil]; unfold maxLen; omega) (by rw [beL_len]; simp only [List.length_cons, List.length_nil]; omega)) (hO58.vuAt (hH.has 6 rfl)) rfl (fun _ _ => rfl) (kM [false, false, true, true] rfl rfl) (by decide) (PendOk.nil _ []) ?_
          clear hH
          rintro v66 E67 w ⟨hO68, _⟩ hH
          replace hH : HH w0 [] [E2, E8, [bl g14 5 (madeCells (cByte.enc 0) (m * 1))], [bl g15 31 #[(.int .i64 (((1 + tag.toNat % 15) : Nat) : Int)), (.slice (some ⟨g14, 0, none⟩) m m)]], E26, E17, E57, E67] w := hH
          replace hO68 : OwnT cByte 5 v66 ([(UInt8.ofNat (128 + 4 * (1 + tag.toNat % 15) + 2))] ++ (beL 4 m)) E67 := hO68
          obtain ⟨A64, c65, rfl⟩ := hO68.slice
          refine ⟨(fun _ hs => by cases hs), ?_⟩
          refine rxV 11 rfl (by kernel_rfl) rfl (fun _ _ => rfl) (fun _ _ hF => opAssign rfl (hF.ev 0 rfl)) (kM [false, false, true] rfl rfl) (by decide) (v := (.slice A64 (([(UInt8.ofNat (128 + 4 * (1 + tag.toNat % 15) + 2))] ++ (beL 4 m)).length) c65)) ?_
          refine rxEnd (by kernel_rfl) ?_
          refine qxInN ?_
          refine qxThen ?_
          refine cxSeq ?_
          have hp : prs [] (([(UInt8.ofNat (128 + 4 * (1 + tag.toNat % 15) + 2))] ++ (beL 4 m)) ++ (List.replicate m 0)) = (0, [(((1 + tag.toNat % 15 : Nat) : Int), (List.replicate m 0))]) := form_old (k := 2) (by omega) (by omega) (by decide) List.length_replicate hm (Nat.lt_of_le_of_lt hm (by decide))
          have hfl : (([(UInt8.ofNat (128 + 4 * (1 + tag.toNat % 15) + 2))] ++ (beL 4 m))).length ≤ 6 := by simp [beL_len]
          have hrl : (List.replicate m (0 : UInt8)).length = m := List.length_replicate
          refine cxReg ?_
          refine pxV (v := (.slice A64 (([(UInt8.ofNat (128 + 4 * (1 + tag.toNat % 15) + 2))] ++ (beL 4 m)).length) c65)) (fun _ _ hF => opMove rfl (hF.ev 0 rfl)) rfl (fun _ _ => rfl) (kM [false, true] rfl rfl) (by decide) ?_
          refine pxV (v := (.pointer (some ⟨g15, 1, none⟩))) (fun _ _ hF => opField (off := 1) rfl (hF.ev 1 rfl) (by kernel_rfl)) rfl (fun _ _ => rfl) (kA rfl) (by decide) ?_
          refine pxS (v := (.slice (some ⟨g14, 0, none⟩) m m)) (fun w => w.heap[g15]? = some (.cells #[(.int .i64 (((1 + tag.toNat % 15) : Nat) : Int)), (.slice (some ⟨g14, 0, none⟩) m m)] 31 (0, 0))) (hH.blk 3 rfl) (fun _ _ hF hS => opLoadK hS rfl (hF.ev 0 rfl) (by kernel_rfl) rfl) rfl (fun _ _ => rfl) (kM [false, true, true] rfl rfl) (by decide) ?_
          refine pxE 7 hH rfl (fun _ hF => smAppT (C := cByte) (l := ([(UInt8.ofNat (128 + 4 * (1 + tag.toNat % 15) + 2))] ++ (beL 4 m))) (m := (List.replicate m 0)) (e := 5) (z := (.int .u8 0)) (by_ := 1) rfl (by kernel_rfl) (by kernel_rfl) rfl (ltb rfl) (hF.ev 1 rfl) hO68 (hF.ev 0 rfl) List.length_replicate (fun h => by cases h) (by unfold maxLen; omega) (by omega)) ((Bk.make (C := cByte) 0 m (ltb rfl) (by unfold maxLen; omega)).vu (hH.blk 2 rfl) List.length_replicate) rfl (fun _ _ => rfl) (kM [false, false, true] rfl rfl) (by decide) ?_
          clear hH
          rintro v71 E72 w ⟨hO73, _⟩ hH
          replace hH : HH w0 [] [E2, E8, [bl g14 5 (madeCells (cByte.enc 0) (m * 1))], [bl g15 31 #[(.int .i64 (((1 + tag.toNat % 15) : Nat) : Int)), (.slice (some ⟨g14, 0, none⟩) m m)]], E26, E17, E57, E72] w := hH
          replace hO73 : OwnT cByte 5 v71 (([(UInt8.ofNat (128 + 4 * (1 + tag.toNat % 15) + 2))] ++ (beL 4 m)) ++ (List.replicate m 0)) E72 := hO73
          obtain ⟨A69, c70, rfl⟩ := hO73.slice
          refine pxM hH (fun _ hF => Does.small (parse_c c70 A69 (([(UInt8.ofNat (128 + 4 * (1 + tag.toNat % 15) + 2))] ++ (beL 4 m)) ++ (List.replicate m 0)) (by rw [List.length_append]; omega)) (fun w => opCall rfl Try.func14 rfl rfl (Evs.cons (v := (.slice A69 ((([(UInt8.ofNat (128 + 4 * (1 + tag.toNat % 15) + 2))] ++ (beL 4 m)) ++ (List.replicate m 0)).length) c70)) (hF.ev 0 rfl) Evs.nil) w)) (hO73.vuAt (hH.has 7 rfl)) rfl (fun _ _ => rfl) (kM [false, true] rfl rfl) (by decide) ?_
          clear hH
          rintro _ _ w ⟨s74, rfl, L79, E75, E76, rfl, hO77, hB78⟩ hH
          replace hH : HH w0 [] [E2, E8, [bl g14 5 (madeCells (cByte.enc 0) (m * 1))], [bl g15 31 #[(.int .i64 (((1 + tag.toNat % 15) : Nat) : Int)), (.slice (some ⟨g14, 0, none⟩) m m)]], E26, E17, E57, E72, ([E75, E76] : List Hl).flatten] w := hH
          obtain ⟨A80, c81, rfl⟩ := hO77.slice
          replace hH : HH w0 [] [E2, E8, [bl g14 5 (madeCells (cByte.enc 0) (m * 1))], [bl g15 31 #[(.int .i64 (((1 + tag.toNat % 15) : Nat) : Int)), (.slice (some ⟨g14, 0, none⟩) m m)]], E26, E17, E57, E72, E75, E76] w := hH.cast (by simp)
          refine pxV (v := (.tuple #[(.slice A80 L79.length c81), (.int .i64 ((((prs [] (([(UInt8.ofNat (128 + 4 * (1 + tag.toNat % 15) + 2))] ++ (beL 4 m)) ++ (List.replicate m 0))).1) : Nat) : Int))])) (fun _ _ hF => opMove rfl (hF.ev 0 rfl)) rfl (fun _ _ => rfl) (kM [false, true] rfl rfl) (by decide) ?_
          refine pxV (v := (.slice A80 L79.length c81)) (fun _ _ hF => opExtract rfl (hF.ev 0 rfl) rfl) rfl (fun _ _ => rfl) (kA rfl) (by decide) ?_
          refine pxV (v := (.int .i64 ((((prs [] (([(UInt8.ofNat (128 + 4 * (1 + tag.toNat % 15) + 2))] ++ (beL 4 m)) ++ (List.replicate m 0))).1) : Nat) : Int))) (fun _ _ hF => opExtract rfl (hF.ev 1 rfl) rfl) rfl (fun _ _ => rfl) (kM [true, false, true] rfl rfl) (by decide) ?_
          refine pxV (v := (.slice A80 L79.length c81)) (fun _ _ hF => opAssign rfl (hF.ev 1 rfl)) rfl (fun _ _ => rfl) (kM [true, false, true] rfl rfl) (by decide) ?_
          refine pxV (v := (.int .i64 ((((prs [] (([(UInt8.ofNat (128 + 4 * (1 + tag.toNat % 15) + 2))] ++ (beL 4 m)) ++ (List.replicate m 0))).1) : Nat) : Int))) (fun _ _ hF => opAssign rfl (hF.ev 1 rfl)) rfl (fun _ _ => rfl) (kM [true, false, true] rfl rfl) (by decide) ?_
          refine pxEnd ?_
          refine qxThen ?_
          refine cxSeq ?_
          refine cxReg ?_
          refine pxV (v := (.int .i64 ((((prs [] (([(UInt8.ofNat (128 + 4 * (1 + tag.toNat % 15) + 2))] ++ (beL 4 m)) ++ (List.replicate m 0))).1) : Nat) : Int))) (fun _ _ hF => opMove rfl (hF.ev 0 rfl)) rfl (fun _ _ => rfl) (kM [false, true, true] rfl rfl) (by decide) ?_
          refine pxV (v := (.bool true)) (fun _ _ hF => opEqI rfl (hF.ev 0 rfl) rfl (decide_eq_true (by rw [hp]; rfl))) rfl (fun _ _ => rfl) (kM [false, true, true] rfl rfl) (by decide) ?_
          refine pxV (v := (.bool true)) (fun _ _ hF => opMove rfl (hF.ev 0 rfl)) rfl (fun _ _ => rfl) (kM [false, true, true] rfl rfl) (by decide) ?_
          refine pxV (v := (.slice A80 L79.length c81)) (fun _ _ hF => opMove rfl (hF.ev 1 rfl)) rfl (gOn 0 rfl rfl rfl (by decide)) (kM [true, false, true] rfl rfl) (by decide) ?_
          refine pxS (v := (.agg #[(.int .i64 (((1 + tag.toNat % 15) : Nat) : Int)), (.slice (some ⟨g14, 0, none⟩) m m)])) (fun w => w.heap[g15]? = some (.cells #[(.int .i64 (((1 + tag.toNat % 15) : Nat) : Int)), (.slice (some ⟨g14, 0, none⟩) m m)] 31 (0, 0))) (hH.blk 3 rfl) (fun _ _ hF hS => opLoadKR (k := 2) hS rfl (hF.ev 2 rfl) (by kernel_rfl) rfl (by kernel_rfl) rfl) rfl (gOn 1 rfl rfl rfl (by decide)) (kM [true, true, false] rfl rfl) (by decide) ?_
          refine pxM hH (fun _ hF => smLit1 (e := 31) (sz := 2) (z := (cPk.val (0, none, 0, 0))) (by_ := 32) (cs := cPk.enc ((((1 + tag.toNat % 15) : Nat) : Int), (some ⟨g14, 0, none⟩), m, m)) rfl (by kernel_rfl) (by kernel_rfl) ((hF.ev 0 rfl).trans (cPk_val (((1 + tag.toNat % 15) : Nat) : Int) (some ⟨g14, 0, none⟩) m m)) (cPk.len ((((1 + tag.toNat % 15) : Nat) : Int), (some ⟨g14, 0, none⟩), m, m)) (ltb rfl) (leb rfl) rfl) trivial rfl (gOn 2 rfl rfl rfl (by decide)) (kM [false, true, true] rfl rfl) (by decide) ?_
          clear hH
          rintro _ _ w ⟨g84, rfl, rfl⟩ hH
          replace hH : HH w0 [] [E2, E8, [bl g14 5 (madeCells (cByte.enc 0) (m * 1))], [bl g15 31 #[(.int .i64 (((1 + tag.toNat % 15) : Nat) : Int)), (.slice (some ⟨g14, 0, none⟩) m m)]], E26, E17, E57, E72, E75, E76, [bl g84 31 (cPk.enc ((((1 + tag.toNat % 15) : Nat) : Int), (some ⟨g14, 0, none⟩), m, m))]] w := hH
          refine pxM hH (fun _ hF => Does.small ((Pure.as (v := (.bool true)) (same_c L79 ([((((1 + tag.toNat % 15) : Nat) : Int), (some ⟨g14, 0, none⟩), m, m)]) ((prs [] (([(UInt8.ofNat (128 + 4 * (1 + tag.toNat % 15) + 2))] ++ (beL 4 m)) ++ (List.replicate m 0))).2) ([(((1 + tag.toNat % 15 : Nat) : Int), List.replicate m 0)]) A80 (some ⟨g84, 0, none⟩) c81 1 (by rw [hB78.len, hp]; exact (by decide : (1 : Nat) ≤ 140737488355328))) (congrArg Value.bool (decide_eq_true (by rw [hp])))).does) (fun w => opCall rfl Try.func15 rfl rfl (Evs.cons (v := (.slice A80 L79.length c81)) (hF.ev 1 rfl) (Evs.cons (v := (.slice (some ⟨g84, 0, none⟩) 1 1)) (hF.ev 0 rfl) Evs.nil)) w)) ⟨(hO77.vuAt (hH.has 8 rfl)), (hB78.beh (hH.has 9 rfl)), ((Bk.lit1 (C := cPk) ((((1 + tag.toNat % 15) : Nat) : Int), (some ⟨g14, 0, none⟩), m, m)).vu (hH.blk 10 rfl) rfl), (beh_rep ((Bk.make (C := cByte) 0 m (ltb rfl) (by unfold maxLen; omega)).vu (hH.blk 2 rfl) List.length_replicate))⟩ rfl (gOn 2 rfl rfl rfl (by decide)) (kM [false, false, true] rfl rfl) (by decide) ?_
          clear hH
          rintro _ _ w ⟨rfl, rfl⟩ hH
          replace hH : HH w0 [] [E2, E8, [bl g14 5 (madeCells (cByte.enc 0) (m * 1))], [bl g15 31 #[(.int .i64 (((1 + tag.toNat % 15) : Nat) : Int)), (.slice (some ⟨g14, 0, none⟩) m m)]], E26, E17, E57, E72, E75, E76, [bl g84 31 (cPk.enc ((((1 + tag.toNat % 15) : Nat) : Int), (some ⟨g14, 0, none⟩), m, m))]] w := hH.unpad
          refine pxV (v := (.bool true)) (fun _ _ hF => opPickT rfl (hF.ev 1 rfl) (hF.ev 0 rfl)) rfl (fun _ _ => rfl) (kM [false, false] rfl rfl) (by decide) ?_
          refine pxV (v := (.bool true)) (fun _ _ hF => opAssign rfl (hF.ev 0 rfl)) rfl (fun _ _ => rfl) (kM [false] rfl rfl) (by decide) ?_
          refine pxEnd ?_
          refine qxThen ?_
          refine cxRet ?_
          refine qxRet1 0 rfl rfl ?_
          exact ⟨rfl, HH.toBelow hH⟩
      · refine cxSeq ?_
        refine cxReg ?_
        refine pxV (v := (.bool (decide (form.toNat % 5 = 2)))) (fun _ _ hF => opEqI rfl (hF.ev 1 rfl) rfl (dc (by omega))) rfl (fun _ _ => rfl) (kM [false, true, true, true, true] rfl rfl) (by decide) ?_
        refine pxV (v := (.bool (decide (form.toNat % 5 = 2)))) (fun _ _ hF => opAssign rfl (hF.ev 0 rfl)) rfl (fun _ _ => rfl) (kM [false, true, true, true, true] rfl rfl) (by decide) ?_
        refine pxEnd ?_
        refine qxThen ?_
        refine cxP 0 rfl rfl (fun hc85 => ?_) (fun hc85 => ?_)
        · refine cxReg ?_
          refine pxV (v := (.pointer (some ⟨g15, 0, none⟩))) (fun _ _ hF => opField (off := 0) rfl (hF.ev 3 rfl) (by kernel_rfl)) rfl (fun _ _ => rfl) (kM [false, false, false, true, false] rfl rfl) (by decide) ?_
          refine pxS (v := (.int .i64 (((1 + tag.toNat % 15) : Nat) : Int))) (fun w => w.heap[g15]? = some (.cells #[(.int .i64 (((1 + tag.toNat % 15) : Nat) : Int)), (.slice (some ⟨g14, 0, none⟩) m m)] 31 (0, 0))) (hH.blk 3 rfl) (fun _ _ hF hS => opLoadK hS rfl (hF.ev 0 rfl) (by kernel_rfl) rfl) rfl (fun _ _ => rfl) (kM [false, true] rfl rfl) (by decide) ?_
          refine pxV (v := (.int .i64 (((4 * (1 + tag.toNat % 15)) : Nat) : Int))) (fun _ _ hF => opMul rfl rfl (hF.ev 0 rfl) (wI rfl (by omega) (by omega))) rfl (fun _ _ => rfl) (kM [false, true] rfl rfl) (by decide) ?_
          refine pxV (v := (.int .i64 (((128 + 4 * (1 + tag.toNat % 15)) : Nat) : Int))) (fun _ _ hF => opAdd rfl rfl (hF.ev 0 rfl) (wI rfl (by omega) (by omega))) rfl (fun _ _ => rfl) (kM [false, true] rfl rfl) (by decide) ?_
          refine pxV (v := (.int .i64 (((128 + 4 * (1 + tag.toNat % 15) + 3) : Nat) : Int))) (fun _ _ hF => opAdd rfl (hF.ev 0 rfl) rfl (wI rfl (by omega) (by omega))) rfl (fun _ _ => rfl) (kM [false, true] rfl rfl) (by decide) ?_
          refine pxV (v := (.int .u8 ((((UInt8.ofNat (128 + 4 * (1 + tag.toNat % 15) + 3)).toNat) : Nat) : Int))) (fun _ _ hF => opConvU (k' := .u8) rfl rfl (by kernel_rfl) (by kernel_rfl) (hF.ev 0 rfl) (UInt8.toNat_ofNat' (n := 128 + 4 * (1 + tag.toNat % 15) + 3)).symm) rfl (fun _ _ => rfl) (kM [false, true] rfl rfl) (by decide) ?_
          refine pxM hH (fun _ hF => smLit1 (e := 5) (sz := 1) (z := (.int .u8 0)) (by_ := 1) (cs := cByte.enc (UInt8.ofNat (128 + 4 * (1 + tag.toNat % 15) + 3))) rfl (by kernel_rfl) (by kernel_rfl) (hF.ev 0 rfl) (cByte.len (UInt8.ofNat (128 + 4 * (1 + tag.toNat % 15) + 3))) (ltb rfl) (leb rfl) rfl) trivial rfl (fun _ _ => rfl) (kM [false, true] rfl rfl) (by decide) ?_
          clear hH
          rintro _ _ w ⟨g86, rfl, rfl⟩ hH
          replace hH : HH w0 [] [E2, E8, [bl g14 5 (madeCells (cByte.enc 0) (m * 1))], [bl g15 31 #[(.int .i64 (((1 + tag.toNat % 15) : Nat) : Int)), (.slice (some ⟨g14, 0, none⟩) m m)]], E26, E17, [bl g86 5 (cByte.enc (UInt8.ofNat (128 + 4 * (1 + tag.toNat % 15) + 3)))]] w := hH
          refine pxV (v := (.slice (some ⟨g86, 0, none⟩) 1 1)) (fun _ _ hF => opAssign rfl (hF.ev 0 rfl)) rfl (fun _ _ => rfl) (kM [false, true] rfl rfl) (by decide) ?_
          refine pxEnd ?_
          refine qxInN ?_
          refine qxThen ?_
          refine cxSeq ?_
          have hp : prs [] ([(UInt8.ofNat (128 + 4 * (1 + tag.toNat % 15) + 3))] ++ (List.replicate m 0)) = (0, [(((1 + tag.toNat % 15 : Nat) : Int), (List.replicate m 0))]) := form_end (by omega) (by omega) (by rw [List.length_replicate]; exact hm)
          have hfl : ([(UInt8.ofNat (128 + 4 * (1 + tag.toNat % 15) + 3))]).length ≤ 6 := by simp
          have hrl : (List.replicate m (0 : UInt8)).length = m := List.length_replicate
          refine cxReg ?_
          refine pxV (v := (.slice (some ⟨g86, 0, none⟩) 1 1)) (fun _ _ hF => opMove rfl (hF.ev 0 rfl)) rfl (fun _ _ => rfl) (kM [false, true] rfl rfl) (by decide) ?_
          refine pxV (v := (.pointer (some ⟨g15, 1, none⟩))) (fun _ _ hF => opField (off := 1) rfl (hF.ev 1 rfl) (by kernel_rfl)) rfl (fun _ _ => rfl) (kA rfl) (by decide) ?_
          refine pxS (v := (.slice (some ⟨g14, 0, none⟩) m m)) (fun w => w.heap[g15]? = some (.cells #[(.int .i64 (((1 + tag.toNat % 15) : Nat) : Int)), (.slice (some ⟨g14, 0, none⟩) m m)] 31 (0, 0))) (hH.blk 3 rfl) (fun _ _ hF hS => opLoadK hS rfl (hF.ev 0 rfl) (by kernel_rfl) rfl) rfl (fun _ _ => rfl) (kM [false, true, true] rfl rfl) (by decide) ?_
          refine pxE 6 hH rfl (fun _ hF => smAppT (C := cByte) (l := [(UInt8.ofNat (128 + 4 * (1 + tag.toNat % 15) + 3))]) (m := (List.replicate m 0)) (e := 5) (z := (.int .u8 0)) (by_ := 1) rfl (by kernel_rfl) (by kernel_rfl) rfl (ltb rfl) (hF.ev 1 rfl) ((Bk.lit1 (C := cByte) (UInt8.ofNat (128 + 4 * (1 + tag.toNat % 15) + 3))).own 5 g86 rfl) (hF.ev 0 rfl) List.length_replicate (fun h => by cases h) (by unfold maxLen; omega) (by omega)) ((Bk.make (C := cByte) 0 m (ltb rfl) (by unfold maxLen; omega)).vu (hH.blk 2 rfl) List.length_replicate) rfl (fun _ _ => rfl) (kM [false, false, true] rfl rfl) (by decide) ?_
          clear hH
          rintro v89 E90 w ⟨hO91, _⟩ hH
          replace hH : HH w0 [] [E2, E8, [bl g14 5 (madeCells (cByte.enc 0) (m * 1))], [bl g15 31 #[(.int .i64 (((1 + tag.toNat % 15) : Nat) : Int)), (.slice (some ⟨g14, 0, none⟩) m m)]], E26, E17, E90] w := hH
          replace hO91 : OwnT cByte 5 v89 ([(UInt8.ofNat (128 + 4 * (1 + tag.toNat % 15) + 3))] ++ (List.replicate m 0)) E90 := hO91
          obtain ⟨A87, c88, rfl⟩ := hO91.slice
          refine pxM hH (fun _ hF => Does.small (parse_c c88 A87 ([(UInt8.ofNat (128 + 4 * (1 + tag.toNat % 15) + 3))] ++ (List.replicate m 0)) (by rw [List.length_append]; omega)) (fun w => opCall rfl Try.func14 rfl rfl (Evs.cons (v := (.slice A87 (([(UInt8.ofNat (128 + 4 * (1 + tag.toNat % 15) + 3))] ++ (List.replicate m 0)).length) c88)) (hF.ev 0 rfl) Evs.nil) w)) (hO91.vuAt (hH.has 6 rfl)) rfl (fun _ _ => rfl) (kM [false, true] rfl rfl) (by decide) ?_
          clear hH
          rintro _ _ w ⟨s92, rfl, L97, E93, E94, rfl, hO95, hB96⟩ hH
          replace hH : HH w0 [] [E2, E8, [bl g14 5 (madeCells (cByte.enc 0) (m * 1))], [bl g15 31 #[(.int .i64 (((1 + tag.toNat % 15) : Nat) : Int)), (.slice (some ⟨g14, 0, none⟩) m m)]], E26, E17, E90, ([E93, E94] : List Hl).flatten] w := hH
          obtain ⟨A98, c99, rfl⟩ := hO95.slice
          replace hH : HH w0 [] [E2, E8, [bl g14 5 (madeCells (cByte.enc 0) (m * 1))], [bl g15 31 #[(.int .i64 (((1 + tag.toNat % 15) : Nat) : Int)), (.slice (some ⟨g14, 0, none⟩) m m)]], E26, E17, E90, E93, E94] w := hH.cast (by simp)
          refine pxV (v := (.tuple #[(.slice A98 L97.length c99), (.int .i64 ((((prs [] ([(UInt8.ofNat (128 + 4 * (1 + tag.toNat % 15) + 3))] ++ (List.replicate m 0))).1) : Nat) : Int))])) (fun _ _ hF => opMove rfl (hF.ev 0 rfl)) rfl (fun _ _ => rfl) (kM [false, true] rfl rfl) (by decide) ?_
          refine pxV (v := (.slice A98 L97.length c99)) (fun _ _ hF => opExtract rfl (hF.ev 0 rfl) rfl) rfl (fun _ _ => rfl) (kA rfl) (by decide) ?_
          refine pxV (v := (.int .i64 ((((prs [] ([(UInt8.ofNat (128 + 4 * (1 + tag.toNat % 15) + 3))] ++ (List.replicate m 0))).1) : Nat) : Int))) (fun _ _ hF => opExtract rfl (hF.ev 1 rfl) rfl) rfl (fun _ _ => rfl) (kM [true, false, true] rfl rfl) (by decide) ?_
          refine pxV (v := (.slice A98 L97.length c99)) (fun _ _ hF => opAssign rfl (hF.ev 1 rfl)) rfl (fun _ _ => rfl) (kM [true, false, true] rfl rfl) (by decide) ?_
          refine pxV (v := (.int .i64 ((((prs [] ([(UInt8.ofNat (128 + 4 * (1 + tag.toNat % 15) + 3))] ++ (List.replicate m 0))).1) : Nat) : Int))) (fun _ _ hF => opAssign rfl (hF.ev 1 rfl)) rfl (fun _ _ => rfl) (kM [true, false, true] rfl rfl) (by decide) ?_
          refine pxEnd ?_
          refine qxThen ?_
          refine cxSeq ?_
          refine cxReg ?_
          refine pxV (v := (.int .i64 ((((prs [] ([(UInt8.ofNat (128 + 4 * (1 + tag.toNat % 15) + 3))] ++ (List.replicate m 0))).1) : Nat) : Int))) (fun _ _ hF => opMove rfl (hF.ev 0 rfl)) rfl (fun _ _ => rfl) (kM [false, true, true] rfl rfl) (by decide) ?_
          refine pxV (v := (.bool true)) (fun _ _ hF => opEqI rfl (hF.ev 0 rfl) rfl (decide_eq_true (by rw [hp]; rfl))) rfl (fun _ _ => rfl) (kM [false, true, true] rfl rfl) (by decide) ?_
          refine pxV (v := (.bool true)) (fun _ _ hF => opMove rfl (hF.ev 0 rfl)) rfl (fun _ _ => rfl) (kM [false, true, true] rfl rfl) (by decide) ?_
          refine pxV (v := (.slice A98 L97.length c99)) (fun _ _ hF => opMove rfl (hF.ev 1 rfl)) rfl (gOn 0 rfl rfl rfl (by decide)) (kM [true, false, true] rfl rfl) (by decide) ?_
          refine pxS (v := (.agg #[(.int .i64 (((1 + tag.toNat % 15) : Nat) : Int)), (.slice (some ⟨g14, 0, none⟩) m m)])) (fun w => w.heap[g15]? = some (.cells #[(.int .i64 (((1 + tag.toNat % 15) : Nat) : Int)), (.slice (some ⟨g14, 0, none⟩) m m)] 31 (0, 0))) (hH.blk 3 rfl) (fun _ _ hF hS => opLoadKR (k := 2) hS rfl (hF.ev 2 rfl) (by kernel_rfl) rfl (by kernel_rfl) rfl) rfl (gOn 1 rfl rfl rfl (by decide)) (kM [true, true, false] rfl rfl) (by decide) ?_
          refine pxM hH (fun _ hF => smLit1 (e := 31) (sz := 2) (z := (cPk.val (0, none, 0, 0))) (by_ := 32) (cs := cPk.enc ((((1 + tag.toNat % 15) : Nat) : Int), (some ⟨g14, 0, none⟩), m, m)) rfl (by kernel_rfl) (by kernel_rfl) ((hF.ev 0 rfl).trans (cPk_val (((1 + tag.toNat % 15) : Nat) : Int) (some ⟨g14, 0, none⟩) m m)) (cPk.len ((((1 + tag.toNat % 15) : Nat) : Int), (some ⟨g14, 0, none⟩), m, m)) (ltb rfl) (leb rfl) rfl) trivial rfl (gOn 2 rfl rfl rfl (by decide)) (kM [false, true, true] rfl rfl) (by decide) ?_
          clear hH
          rintro _ _ w ⟨g102, rfl, rfl⟩ hH
          replace hH : HH w0 [] [E2, E8, [bl g14 5 (madeCells (cByte.enc 0) (m * 1))], [bl g15 31 #[(.int .i64 (((1 + tag.toNat % 15) : Nat) : Int)), (.slice (some ⟨g14, 0, none⟩) m m)]], E26, E17, E90, E93, E94, [bl g102 31 (cPk.enc ((((1 + tag.toNat % 15) : Nat) : Int), (some ⟨g14, 0, none⟩), m, m))]] w := hH
          refine pxM hH (fun _ hF => Does.small ((Pure.as (v := (.bool true)) (same_c L97 ([((((1 + tag.toNat % 15) : Nat) : Int), (some ⟨g14, 0, none⟩), m, m)]) ((prs [] ([(UInt8.ofNat (128 + 4 * (1 + tag.toNat % 15) + 3))] ++ (List.replicate m 0))).2) ([(((1 + tag.toNat % 15 : Nat) : Int), List.replicate m 0)]) A98 (some ⟨g102, 0, none⟩) c99 1 (by rw [hB96.len, hp]; exact (by decide : (1 : Nat) ≤ 140737488355328))) (congrArg Value.bool (decide_eq_true (by rw [hp])))).does) (fun w => opCall rfl Try.func15 rfl rfl (Evs.cons (v := (.slice A98 L97.length c99)) (hF.ev 1 rfl) (Evs.cons (v := (.slice (some ⟨g102, 0, none⟩) 1 1)) (hF.ev 0 rfl) Evs.nil)) w)) ⟨(hO95.vuAt (hH.has 7 rfl)), (hB96.beh (hH.has 8 rfl)), ((Bk.lit1 (C := cPk) ((((1 + tag.toNat % 15) : Nat) : Int), (some ⟨g14, 0, none⟩), m, m)).vu (hH.blk 9 rfl) rfl), (beh_rep ((Bk.make (C := cByte) 0 m (ltb rfl) (by unfold maxLen; omega)).vu (hH.blk 2 rfl) List.length_replicate))⟩ rfl (gOn 2 rfl rfl rfl (by decide)) (kM [false, false, true] rfl rfl) (by decide) ?_
          clear hH
          rintro _ _ w ⟨rfl, rfl⟩ hH
          replace hH : HH w0 [] [E2, E8, [bl g14 5 (madeCells (cByte.enc 0) (m * 1))], [bl g15 31 #[(.int .i64 (((1 + tag.toNat % 15) : Nat) : Int)), (.slice (some ⟨g14, 0, none⟩) m m)]], E26, E17, E90, E93, E94, [bl g102 31 (cPk.enc ((((1 + tag.toNat % 15) : Nat) : Int), (some ⟨g14, 0, none⟩), m, m))]] w := hH.unpad
          refine pxV (v := (.bool true)) (fun _ _ hF => opPickT rfl (hF.ev 1 rfl) (hF.ev 0 rfl)) rfl (fun _ _ => rfl) (kM [false, false] rfl rfl) (by decide) ?_
          refine pxV (v := (.bool true)) (fun _ _ hF => opAssign rfl (hF.ev 0 rfl)) rfl (fun _ _ => rfl) (kM [false] rfl rfl) (by decide) ?_
          refine pxEnd ?_
          refine qxThen ?_
          refine cxRet ?_
          refine qxRet1 0 rfl rfl ?_
          exact ⟨rfl, HH.toBelow hH⟩
        · refine cxSeq ?_
          refine cxReg ?_
          refine pxV (v := (.bool (decide (form.toNat % 5 = 3)))) (fun _ _ hF => opEqI rfl (hF.ev 1 rfl) rfl (dc (by omega))) rfl (fun _ _ => rfl) (kM [false, true, true, true, true] rfl rfl) (by decide) ?_
          refine pxV (v := (.bool (decide (form.toNat % 5 = 3)))) (fun _ _ hF => opAssign rfl (hF.ev 0 rfl)) rfl (fun _ _ => rfl) (kM [false, true, true, true, true] rfl rfl) (by decide) ?_
          refine pxEnd ?_
          refine qxThen ?_
          refine cxP 0 rfl rfl (fun hc103 => ?_) (fun hc103 => ?_)
          · refine cxSeq ?_
            refine cxReg ?_
            refine pxV (v := (.int .i64 (((m) : Nat) : Int))) (fun _ _ hF => opMove rfl (hF.ev 4 rfl)) rfl (fun _ _ => rfl) (kM [false, false, true, true, true] rfl rfl) (by decide) ?_
            refine pxV (v := (.bool true)) (fun _ _ hF => opLss rfl (hF.ev 0 rfl) rfl (decide_eq_true (by omega))) rfl (fun _ _ => rfl) (kM [false, true, true, true] rfl rfl) (by decide) ?_
            refine pxEnd ?_
            refine qxThen ?_
            refine cxT 0 rfl rfl ?_
            refine cxRegX mixedOrders (by kernel_rfl) ?_
            replace hH := hH.drew
            refine rxV 0 rfl (by kernel_rfl) rfl (fun _ _ => rfl) (fun _ _ hF => opField (off := 0) rfl (hF.ev 2 rfl) (by kernel_rfl)) (kM [false, true, true, true] rfl rfl) (by decide) (v := (.pointer (some ⟨g15, 0, none⟩))) ?_
            refine rxS (fun w => w.heap[g15]? = some (.cells #[(.int .i64 (((1 + tag.toNat % 15) : Nat) : Int)), (.slice (some ⟨g14, 0, none⟩) m m)] 31 (0, 0))) 1 rfl (by kernel_rfl) rfl (fun _ _ => rfl) (hH.blk 3 rfl) (fun _ _ hF hS => opLoadK hS rfl (hF.ev 0 rfl) (by kernel_rfl) rfl) (kM [false, true, true, true] rfl rfl) (by decide) (v := (.int .i64 (((1 + tag.toNat % 15) : Nat) : Int))) ?_
            refine rxV 2 rfl (by kernel_rfl) rfl (fun _ _ => rfl) (fun _ _ hF => opMul rfl rfl (hF.ev 0 rfl) (wI rfl (by omega) (by omega))) (kM [false, true, true, true] rfl rfl) (by decide) (v := (.int .i64 (((4 * (1 + tag.toNat % 15)) : Nat) : Int))) ?_
            refine rxV 3 rfl (by kernel_rfl) rfl (fun _ _ => rfl) (fun _ _ hF => opAdd rfl rfl (hF.ev 0 rfl) (wI rfl (by omega) (by omega))) (kM [false, true, true, true] rfl rfl) (by decide) (v := (.int .i64 (((128 + 4 * (1 + tag.toNat % 15)) : Nat) : Int))) ?_
            refine rxV 4 rfl (by kernel_rfl) rfl (fun _ _ => rfl) (fun _ _ hF => opAdd rfl (hF.ev 0 rfl) rfl (wI rfl (by omega) (by omega))) (kM [false, true, true, true] rfl rfl) (by decide) (v := (.int .i64 (((128 + 4 * (1 + tag.toNat % 15) + 1) : Nat) : Int))) ?_
            refine rxV 5 rfl (by kernel_rfl) rfl (fun _ _ => rfl) (fun _ _ hF => opConvU (k' := .u8) rfl rfl (by kernel_rfl) (by kernel_rfl) (hF.ev 0 rfl) (UInt8.toNat_ofNat' (n := 128 + 4 * (1 + tag.toNat % 15) + 1)).symm) (kM [false, true, true, true] rfl rfl) (by decide) (v := (.int .u8 ((((UInt8.ofNat (128 + 4 * (1 + tag.toNat % 15) + 1)).toNat) : Nat) : Int))) ?_
            refine rxV 7 rfl (by kernel_rfl) rfl (fun _ _ => rfl) (fun _ _ hF => opMove rfl (hF.ev 3 rfl)) (kM [true, true, true, false] rfl rfl) (by decide) (v := (.int .i64 (((m) : Nat) : Int))) ?_
            refine rxV 8 rfl (by kernel_rfl) rfl (fun _ _ => rfl) (fun _ _ hF => opConvU (k' := .u64) rfl rfl (by kernel_rfl) (by kernel_rfl) (hF.ev 0 rfl) (Nat.mod_eq_of_lt (by show _ < 18446744073709551616; omega))) (kM [false, true, true, true] rfl rfl) (by decide) (v := (.int .u64 (((m) : Nat) : Int))) ?_
            refine rx2 6 9 (by kernel_rfl) ?_ ?_
            · refine moM rfl hH (fun _ hF => smLit1 (e := 5) (sz := 1) (z := (.int .u8 0)) (by_ := 1) (cs := cByte.enc (UInt8.ofNat (128 + 4 * (1 + tag.toNat % 15) + 1))) rfl (by kernel_rfl) (by kernel_rfl) (hF.ev 1 rfl) (cByte.len (UInt8.ofNat (128 + 4 * (1 + tag.toNat % 15) + 1))) (ltb rfl) (leb rfl) rfl) trivial rfl (fun _ _ => rfl) (kM [true, false, true, true] rfl rfl) (by decide) (PendOk.go [5, 4, 3, 2] (by kernel_rfl) (PendOk.nil _ [])) ?_
              clear hH
              rintro _ _ w ⟨g104, rfl, rfl⟩ hH
              replace hH : HH w0 [] [E2, E8, [bl g14 5 (madeCells (cByte.enc 0) (m * 1))], [bl g15 31 #[(.int .i64 (((1 + tag.toNat % 15) : Nat) : Int)), (.slice (some ⟨g14, 0, none⟩) m m)]], E26, E17, [bl g104 5 (cByte.enc (UInt8.ofNat (128 + 4 * (1 + tag.toNat % 15) + 1)))]] w := hH
              refine ⟨(fun _ hs => by cases hs), ?_⟩
              refine rx1 9 (by kernel_rfl) ?_
              refine moM rfl hH (fun _ hF => Does.small (bytes_r m 2 (leb rfl)) (fun w => opCall rfl Try.func19 rfl rfl (Evs.cons (v := (.int .u64 (((m) : Nat) : Int))) (hF.ev 1 rfl) (Evs.cons (v := (.int .i64 2)) rfl Evs.nil)) w)) trivial rfl (fun _ _ => rfl) (kM [true, false, true, true] rfl rfl) (by decide) (PendOk.nil _ []) ?_
              clear hH
              rintro v109 E105 w hO106 hH
              replace hH : HH w0 [] [E2, E8, [bl g14 5 (madeCells (cByte.enc 0) (m * 1))], [bl g15 31 #[(.int .i64 (((1 + tag.toNat % 15) : Nat) : Int)), (.slice (some ⟨g14, 0, none⟩) m m)]], E26, E17, [bl g104 5 (cByte.enc (UInt8.ofNat (128 + 4 * (1 + tag.toNat % 15) + 1)))], E105] w := hH
              obtain ⟨A107, c108, rfl⟩ := hO106.slice
              refine ⟨(fun _ hs => by cases hs), ?_⟩
              refine rx1 10 (by kernel_rfl) ?_
              refine moE 6 rfl hH rfl (fun _ hF => smAppT (C := cByte) (l := [(UInt8.ofNat (128 + 4 * (1 + tag.toNat % 15) + 1))]) (m := (beL 2 m)) (e := 5) (z := (.int .u8 0)) (by_ := 1) rfl (by kernel_rfl) (by kernel_rfl) rfl (ltb rfl) (hF.ev 1 rfl) ((Bk.lit1 (C := cByte) (UInt8.ofNat (128 + 4 * (1 + tag.toNat % 15) + 1))).own 5 g104 rfl) (hF.ev 0 rfl) rfl hO106.nilA (by rw [beL_len]; simp only [List.length_cons, List.length_nil]; unfold maxLen; omega) (by rw [beL_len]; simp only [List.length_cons, List.length_nil]; omega)) (hO106.vuAt (hH.has 7 rfl)) rfl (fun _ _ => rfl) (kM [false, false, true, true] rfl rfl) (by decide) (PendOk.nil _ []) ?_
              clear hH
              rintro v113 E114 w ⟨hO115, _⟩ hH
              replace hH : HH w0 [] [E2, E8, [bl g14 5 (madeCells (cByte.enc 0) (m * 1))], [bl g15 31 #[(.int .i64 (((1 + tag.toNat % 15) : Nat) : Int)), (.slice (some ⟨g14, 0, none⟩) m m)]], E26, E17, E114, E105] w := hH
              replace hO115 : OwnT cByte 5 v113 ([(UInt8.ofNat (128 + 4 * (1 + tag.toNat % 15) + 1))] ++ (beL 2 m)) E114 := hO115
              obtain ⟨A111, c112, rfl⟩ := hO115.slice
              refine ⟨(fun _ hs => by cases hs), ?_⟩
              refine rxV 11 rfl (by kernel_rfl) rfl (fun _ _ => rfl) (fun _ _ hF => opAssign rfl (hF.ev 0 rfl)) (kM [false, false, true] rfl rfl) (by decide) (v := (.slice A111 (([(UInt8.ofNat (128 + 4 * (1 + tag.toNat % 15) + 1))] ++ (beL 2 m)).length) c112)) ?_
              refine rxEnd (by kernel_rfl) ?_
              refine qxInN ?_
              refine qxThen ?_
              refine cxSeq ?_
              have hp : prs [] (([(UInt8.ofNat (128 + 4 * (1 + tag.toNat % 15) + 1))] ++ (beL 2 m)) ++ (List.replicate m 0)) = (0, [(((1 + tag.toNat % 15 : Nat) : Int), (List.replicate m 0))]) := form_old (k := 1) (by omega) (by omega) (by decide) List.length_replicate hm (Nat.lt_of_le_of_lt hm (by decide))
              have hfl : (([(UInt8.ofNat (128 + 4 * (1 + tag.toNat % 15) + 1))] ++ (beL 2 m))).length ≤ 6 := by simp [beL_len]
              have hrl : (List.replicate m (0 : UInt8)).length = m := List.length_replicate
              refine cxReg ?_
              refine pxV (v := (.slice A111 (([(UInt8.ofNat (128 + 4 * (1 + tag.toNat % 15) + 1))] ++ (beL 2 m)).length) c112)) (fun _ _ hF => opMove rfl (hF.ev 0 rfl)) rfl (fun _ _ => rfl) (kM [false, true] rfl rfl) (by decide) ?_
              refine pxV (v := (.pointer (some ⟨g15, 1, none⟩))) (fun _ _ hF => opField (off := 1) rfl (hF.ev 1 rfl) (by kernel_rfl)) rfl (fun _ _ => rfl) (kA rfl) (by decide) ?_
              refine pxS (v := (.slice (some ⟨g14, 0, none⟩) m m)) (fun w => w.heap[g15]? = some (.cells #[(.int .i64 (((1 + tag.toNat % 15) : Nat) : Int)), (.slice (some ⟨g14, 0, none⟩) m m)] 31 (0, 0))) (hH.blk 3 rfl) (fun _ _ hF hS => opLoadK hS rfl (hF.ev 0 rfl) (by kernel_rfl) rfl) rfl (fun _ _ => rfl) (kM [false, true, true] rfl rfl) (by decide) ?_
              refine pxE 6 hH rfl (fun _ hF => smAppT (C := cByte) (l := ([(UInt8.ofNat (128 + 4 * (1 + tag.toNat % 15) + 1))] ++ (beL 2 m))) (m := (List.replicate m 0)) (e := 5) (z := (.int .u8 0)) (by_ := 1) rfl (by kernel_rfl) (by kernel_rfl) rfl (ltb rfl) (hF.ev 1 rfl) hO115 (hF.ev 0 rfl) List.length_replicate (fun h => by cases h) (by unfold maxLen; omega) (by omega)) ((Bk.make (C := cByte) 0 m (ltb rfl) (by unfold maxLen; omega)).vu (hH.blk 2 rfl) List.length_replicate) rfl (fun _ _ => rfl) (kM [false, false, true] rfl rfl) (by decide) ?_
              clear hH
              rintro v118 E119 w ⟨hO120, _⟩ hH
              replace hH : HH w0 [] [E2, E8, [bl g14 5 (madeCells (cByte.enc 0) (m * 1))], [bl g15 31 #[(.int .i64 (((1 + tag.toNat % 15) : Nat) : Int)), (.slice (some ⟨g14, 0, none⟩) m m)]], E26, E17, E119, E105] w := hH
              replace hO120 : OwnT cByte 5 v118 (([(UInt8.ofNat (128 + 4 * (1 + tag.toNat % 15) + 1))] ++ (beL 2 m)) ++ (List.replicate m 0)) E119 := hO120
              obtain ⟨A116, c117, rfl⟩ := hO120.slice
              refine pxM hH (fun _ hF => Does.small (parse_c c117 A116 (([(UInt8.ofNat (128 + 4 * (1 + tag.toNat % 15) + 1))] ++ (beL 2 m)) ++ (List.replicate m 0)) (by rw [List.length_append]; omega)) (fun w => opCall rfl Try.func14 rfl rfl (Evs.cons (v := (.slice A116 ((([(UInt8.ofNat (128 + 4 * (1 + tag.toNat % 15) + 1))] ++ (beL 2 m)) ++ (List.replicate m 0)).length) c117)) (hF.ev 0 rfl) Evs.nil) w)) (hO120.vuAt (hH.has 6 rfl)) rfl (fun _ _ => rfl) (kM [false, true] rfl rfl) (by decide) ?_
              clear hH
              rintro _ _ w ⟨s121, rfl, L126, E122, E123, rfl, hO124, hB125⟩ hH
              replace hH : HH w0 [] [E2, E8, [bl g14 5 (madeCells (cByte.enc 0) (m * 1))], [bl g15 31 #[(.int .i64 (((1 + tag.toNat % 15) : Nat) : Int)), (.slice (some ⟨g14, 0, none⟩) m m)]], E26, E17, E119, E105, ([E122, E123] : List Hl).flatten] w := hH
              obtain ⟨A127, c128, rfl⟩ := hO124.slice
              replace hH : HH w0 [] [E2, E8, [bl g14 5 (madeCells (cByte.enc 0) (m * 1))], [bl g15 31 #[(.int .i64 (((1 + tag.toNat % 15) : Nat) : Int)), (.slice (some ⟨g14, 0, none⟩) m m)]], E26, E17, E119, E105, E122, E123] w := hH.cast (by simp)
              refine pxV (v := (.tuple #[(.slice A127 L126.length c128), (.int .i64 ((((prs [] (([(UInt8.ofNat (128 + 4 * (1 + tag.toNat % 15) + 1))] ++ (beL 2 m)) ++ (List.replicate m 0))).1) : Nat) : Int))])) (fun _ _ hF => opMove rfl (hF.ev 0 rfl)) rfl (fun _ _ => rfl) (kM [false, true] rfl rfl) (by decide) ?_
              refine pxV (v := (.slice A127 L126.length c128)) (fun _ _ hF => opExtract rfl (hF.ev 0 rfl) rfl) rfl (fun _ _ => rfl) (kA rfl) (by decide) ?_
              refine pxV (v := (.int .i64 ((((prs [] (([(UInt8.ofNat (128 + 4 * (1 + tag.toNat % 15) + 1))] ++ (beL 2 m)) ++ (List.replicate m 0))).1) : Nat) : Int))) (fun _ _ hF => opExtract rfl (hF.ev 1 rfl) rfl) rfl (fun _ _ => rfl) (kM [true, false, true] rfl rfl) (by decide) ?_
              refine pxV (v := (.slice A127 L126.length c128)) (fun _ _ hF => opAssign rfl (hF.ev 1 rfl)) rfl (fun _ _ => rfl) (kM [true, false, true] rfl rfl) (by decide) ?_
              refine pxV (v := (.int .i64 ((((prs [] (([(UInt8.ofNat (128 + 4 * (1 + tag.toNat % 15) + 1))] ++ (beL 2 m)) ++ (List.replicate m 0))).1) : Nat) : Int))) (fun _ _ hF => opAssign rfl (hF.ev 1 rfl)) rfl (fun _ _ => rfl) (kM [true, false, true] rfl rfl) (by decide) ?_
              refine pxEnd ?_
              refine qxThen ?_
              refine cxSeq ?_
              refine cxReg ?_
              refine pxV (v := (.int .i64 ((((prs [] (([(UInt8.ofNat (128 + 4 * (1 + tag.toNat % 15) + 1))] ++ (beL 2 m)) ++ (List.replicate m 0))).1) : Nat) : Int))) (fun _ _ hF => opMove rfl (hF.ev 0 rfl)) rfl (fun _ _ => rfl) (kM [false, true, true] rfl rfl) (by decide) ?_
              refine pxV (v := (.bool true)) (fun _ _ hF => opEqI rfl (hF.ev 0 rfl) rfl (decide_eq_true (by rw [hp]; rfl))) rfl (fun _ _ => rfl) (kM [false, true, true] rfl rfl) (by decide) ?_
              refine pxV (v := (.bool true)) (fun _ _ hF => opMove rfl (hF.ev 0 rfl)) rfl (fun _ _ => rfl) (kM [false, true, true] rfl rfl) (by decide) ?_
              refine pxV (v := (.slice A127 L126.length c128)) (fun _ _ hF => opMove rfl (hF.ev 1 rfl)) rfl (gOn 0 rfl rfl rfl (by decide)) (kM [true, false, true] rfl rfl) (by decide) ?_
              refine pxS (v := (.agg #[(.int .i64 (((1 + tag.toNat % 15) : Nat) : Int)), (.slice (some ⟨g14, 0, none⟩) m m)])) (fun w => w.heap[g15]? = some (.cells #[(.int .i64 (((1 + tag.toNat % 15) : Nat) : Int)), (.slice (some ⟨g14, 0, none⟩) m m)] 31 (0, 0))) (hH.blk 3 rfl) (fun _ _ hF hS => opLoadKR (k := 2) hS rfl (hF.ev 2 rfl) (by kernel_rfl) rfl (by kernel_rfl) rfl) rfl (gOn 1 rfl rfl rfl (by decide)) (kM [true, true, false] rfl rfl) (by decide) ?_
              refine pxM hH (fun _ hF => smLit1 (e := 31) (sz := 2) (z := (cPk.val (0, none, 0, 0))) (by_ := 32) (cs := cPk.enc ((((1 + tag.toNat % 15) : Nat) : Int), (some ⟨g14, 0, none⟩), m, m)) rfl (by kernel_rfl) (by kernel_rfl) ((hF.ev 0 rfl).trans (cPk_val (((1 + tag.toNat % 15) : Nat) : Int) (some ⟨g14, 0, none⟩) m m)) (cPk.len ((((1 + tag.toNat % 15) : Nat) : Int), (some ⟨g14, 0, none⟩), m, m)) (ltb rfl) (leb rfl) rfl) trivial rfl (gOn 2 rfl rfl rfl (by decide)) (kM [false, true, true] rfl rfl) (by decide) ?_
              clear hH
              rintro _ _ w ⟨g131, rfl, rfl⟩ hH
              replace hH : HH w0 [] [E2, E8, [bl g14 5 (madeCells (cByte.enc 0) (m * 1))], [bl g15 31 #[(.int .i64 (((1 + tag.toNat % 15) : Nat) : Int)), (.slice (some ⟨g14, 0, none⟩) m m)]], E26, E17, E119, E105, E122, E123, [bl g131 31 (cPk.enc ((((1 + tag.toNat % 15) : Nat) : Int), (some ⟨g14, 0, none⟩), m, m))]] w := hH
              refine pxM hH (fun _ hF => Does.small ((Pure.as (v := (.bool true)) (same_c L126 ([((((1 + tag.toNat % 15) : Nat) : Int), (some ⟨g14, 0, none⟩), m, m)]) ((prs [] (([(UInt8.ofNat (128 + 4 * (1 + tag.toNat % 15) + 1))] ++ (beL 2 m)) ++ (List.replicate m 0))).2) ([(((1 + tag.toNat % 15 : Nat) : Int), List.replicate m 0)]) A127 (some ⟨g131, 0, none⟩) c128 1 (by rw [hB125.len, hp]; exact (by decide : (1 : Nat) ≤ 140737488355328))) (congrArg Value.bool (decide_eq_true (by rw [hp])))).does) (fun w => opCall rfl Try.func15 rfl rfl (Evs.cons (v := (.slice A127 L126.length c128)) (hF.ev 1 rfl) (Evs.cons (v := (.slice (some ⟨g131, 0, none⟩) 1 1)) (hF.ev 0 rfl) Evs.nil)) w)) ⟨(hO124.vuAt (hH.has 8 rfl)), (hB125.beh (hH.has 9 rfl)), ((Bk.lit1 (C := cPk) ((((1 + tag.toNat % 15) : Nat) : Int), (some ⟨g14, 0, none⟩), m, m)).vu (hH.blk 10 rfl) rfl), (beh_rep ((Bk.make (C := cByte) 0 m (ltb rfl) (by unfold maxLen; omega)).vu (hH.blk 2 rfl) List.length_replicate))⟩ rfl (gOn 2 rfl rfl rfl (by decide)) (kM [false, false, true] rfl rfl) (by decide) ?_
              clear hH
              rintro _ _ w ⟨rfl, rfl⟩ hH
              replace hH : HH w0 [] [E2, E8, [bl g14 5 (madeCells (cByte.enc 0) (m * 1))], [bl g15 31 #[(.int .i64 (((1 + tag.toNat % 15) : Nat) : Int)), (.slice (some ⟨g14, 0, none⟩) m m)]], E26, E17, E119, E105, E122, E123, [bl g131 31 (cPk.enc ((((1 + tag.toNat % 15) : Nat) : Int), (some ⟨g14, 0, none⟩), m, m))]] w := hH.unpad
              refine pxV (v := (.bool true)) (fun _ _ hF => opPickT rfl (hF.ev 1 rfl) (hF.ev 0 rfl)) rfl (fun _ _ => rfl) (kM [false, false] rfl rfl) (by decide) ?_
              refine pxV (v := (.bool true)) (fun _ _ hF => opAssign rfl (hF.ev 0 rfl)) rfl (fun _ _ => rfl) (kM [false] rfl rfl) (by decide) ?_
              refine pxEnd ?_
              refine qxThen ?_
              refine cxRet ?_
              refine qxRet1 0 rfl rfl ?_
              exact ⟨rfl, HH.toBelow hH⟩
            · refine moM rfl hH (fun _ hF => Does.small (bytes_r m 2 (leb rfl)) (fun w => opCall rfl Try.func19 rfl rfl (Evs.cons (v := (.int .u64 (((m) : Nat) : Int))) (hF.ev 0 rfl) (Evs.cons (v := (.int .i64 2)) rfl Evs.nil)) w)) trivial rfl (fun _ _ => rfl) (kM [false, true, true, true] rfl rfl) (by decide) (PendOk.keep (PendOk.nil _ [])) ?_
              clear hH
              rintro v136 E132 w hO133 hH
              replace hH : HH w0 [] [E2, E8, [bl g14 5 (madeCells (cByte.enc 0) (m * 1))], [bl g15 31 #[(.int .i64 (((1 + tag.toNat % 15) : Nat) : Int)), (.slice (some ⟨g14, 0, none⟩) m m)]], E26, E17, E132] w := hH
              obtain ⟨A134, c135, rfl⟩ := hO133.slice
              refine ⟨(by
                intro s hs
                simp only [List.mem_cons, List.not_mem_nil, or_false] at hs
                rcases hs with rfl
                · exact (hH.blk 3 rfl)
                ), ?_⟩
              refine rx1 6 (by kernel_rfl) ?_
              refine moM rfl hH (fun _ hF => smLit1 (e := 5) (sz := 1) (z := (.int .u8 0)) (by_ := 1) (cs := cByte.enc (UInt8.ofNat (128 + 4 * (1 + tag.toNat % 15) + 1))) rfl (by kernel_rfl) (by kernel_rfl) (hF.ev 1 rfl) (cByte.len (UInt8.ofNat (128 + 4 * (1 + tag.toNat % 15) + 1))) (ltb rfl) (leb rfl) rfl) trivial rfl (fun _ _ => rfl) (kM [true, false, true, true] rfl rfl) (by decide) (PendOk.go [5, 4, 3, 2] (by kernel_rfl) (PendOk.nil _ [])) ?_
              clear hH
              rintro _ _ w ⟨g138, rfl, rfl⟩ hH
              replace hH : HH w0 [] [E2, E8, [bl g14 5 (madeCells (cByte.enc 0) (m * 1))], [bl g15 31 #[(.int .i64 (((1 + tag.toNat % 15) : Nat) : Int)), (.slice (some ⟨g14, 0, none⟩) m m)]], E26, E17, E132, [bl g138 5 (cByte.enc (UInt8.ofNat (128 + 4 * (1 + tag.toNat % 15) + 1)))]] w := hH
              refine ⟨(fun _ hs => by cases hs), ?_⟩
              refine rx1 10 (by kernel_rfl) ?_
              refine moE 7 rfl hH rfl (fun _ hF => smAppT (C := cByte) (l := [(UInt8.ofNat (128 + 4 * (1 + tag.toNat % 15) + 1))]) (m := (beL 2 m)) (e := 5) (z := (.int .u8 0)) (by_ := 1) rfl (by kernel_rfl) (by kernel_rfl) rfl (ltb rfl) (hF.ev 0 rfl) ((Bk.lit1 (C := cByte) (UInt8.ofNat (128 + 4 * (1 + tag.toNat % 15) + 1))).own 5 g138 rfl) (hF.ev 1 rfl) rfl hO133.nilA (by rw [beL_len]; simp only [List.length_cons, List.length_nil]; unfold maxLen; omega) (by rw [beL_len]; simp only [List.length_cons, List.length_nil]; omega)) (hO133.vuAt (hH.has 6 rfl)) rfl (fun _ _ => rfl) (kM [false, false, true, true] rfl rfl) (by decide) (PendOk.nil _ []) ?_
              clear hH
              rintro v141 E142 w ⟨hO143, _⟩ hH
              replace hH : HH w0 [] [E2, E8, [bl g14 5 (madeCells (cByte.enc 0) (m * 1))], [bl g15 31 #[(.int .i64 (((1 + tag.toNat % 15) : Nat) : Int)), (.slice (some ⟨g14, 0, none⟩) m m)]], E26, E17, E132, E142] w := hH
              replace hO143 : OwnT cByte 5 v141 ([(UInt8.ofNat (128 + 4 * (1 + tag.toNat % 15) + 1))] ++ (beL 2 m)) E142 := hO143
              obtain ⟨A139, c140, rfl⟩ := hO143.slice
              refine ⟨(fun _ hs => by cases hs), ?_⟩
              refine rxV 11 rfl (by kernel_rfl) rfl (fun _ _ => rfl) (fun _ _ hF => opAssign rfl (hF.ev 0 rfl)) (kM [false, false, true] rfl rfl) (by decide) (v := (.slice A139 (([(UInt8.ofNat (128 + 4 * (1 + tag.toNat % 15) + 1))] ++ (beL 2 m)).length) c140)) ?_
              refine rxEnd (by kernel_rfl) ?_
              refine qxInN ?_
              refine qxThen ?_
              refine cxSeq ?_
              have hp : prs [] (([(UInt8.ofNat (128 + 4 * (1 + tag.toNat % 15) + 1))] ++ (beL 2 m)) ++ (List.replicate m 0)) = (0, [(((1 + tag.toNat % 15 : Nat) : Int), (List.replicate m 0))]) := form_old (k := 1) (by omega) (by omega) (by decide) List.length_replicate hm (Nat.lt_of_le_of_lt hm (by decide))
              have hfl : (([(UInt8.ofNat (128 + 4 * (1 + tag.toNat % 15) + 1))] ++ (beL 2 m))).length ≤ 6 := by simp [beL_len]
              have hrl : (List.replicate m (0 : UInt8)).length = m := List.length_replicate
              refine cxReg ?_
              refine pxV (v := (.slice A139 (([(UInt8.ofNat (128 + 4 * (1 + tag.toNat % 15) + 1))] ++ (beL 2 m)).length) c140)) (fun _ _ hF => opMove rfl (hF.ev 0 rfl)) rfl (fun _ _ => rfl) (kM [false, true] rfl rfl) (by decide) ?_
              refine pxV (v := (.pointer (some ⟨g15, 1, none⟩))) (fun _ _ hF => opField (off := 1) rfl (hF.ev 1 rfl) (by kernel_rfl)) rfl (fun _ _ => rfl) (kA rfl) (by decide) ?_
              refine pxS (v := (.slice (some ⟨g14, 0, none⟩) m m)) (fun w => w.heap[g15]? = some (.cells #[(.int .i64 (((1 + tag.toNat % 15) : Nat) : Int)), (.slice (some ⟨g14, 0, none⟩) m m)] 31 (0, 0))) (hH.blk 3 rfl) (fun _ _ hF hS => opLoadK hS rfl (hF.ev 0 rfl) (by kernel_rfl) rfl) rfl (fun _ _ => rfl) (kM [false, true, true] rfl rfl) (by decide) ?_
              refine pxE 7 hH rfl (fun _ hF => smAppT (C := cByte) (l := ([(UInt8.ofNat (128 + 4 * (1 + tag.toNat % 15) + 1))] ++ (beL 2 m))) (m := (List.replicate m 0)) (e := 5) (z := (.int .u8 0)) (by_ := 1) rfl (by kernel_rfl) (by kernel_rfl) rfl (ltb rfl) (hF.ev 1 rfl) hO143 (hF.ev 0 rfl) List.length_replicate (fun h => by cases h) (by unfold maxLen; omega) (by omega)) ((Bk.make (C := cByte) 0 m (ltb rfl) (by unfold maxLen; omega)).vu (hH.blk 2 rfl) List.length_replicate) rfl (fun _ _ => rfl) (kM [false, false, true] rfl rfl) (by decide) ?_
              clear hH
              rintro v146 E147 w ⟨hO148, _⟩ hH
              replace hH : HH w0 [] [E2, E8, [bl g14 5 (madeCells (cByte.enc 0) (m * 1))], [bl g15 31 #[(.int .i64 (((1 + tag.toNat % 15) : Nat) : Int)), (.slice (some ⟨g14, 0, none⟩) m m)]], E26, E17, E132, E147] w := hH
              replace hO148 : OwnT cByte 5 v146 (([(UInt8.ofNat (128 + 4 * (1 + tag.toNat % 15) + 1))] ++ (beL 2 m)) ++ (List.replicate m 0)) E147 := hO148
              obtain ⟨A144, c145, rfl⟩ := hO148.slice
              refine pxM hH (fun _ hF => Does.small (parse_c c145 A144 (([(UInt8.ofNat (128 + 4 * (1 + tag.toNat % 15) + 1))] ++ (beL 2 m)) ++ (List.replicate m 0)) (by rw [List.length_append]; omega)) (fun w => opCall rfl Try.func14 rfl rfl (Evs.cons (v := (.slice A144 ((([(UInt8.ofNat (128 + 4 * (1 + tag.toNat % 15) + 1))] ++ (beL 2 m)) ++ (List.replicate m 0)).length) c145)) (hF.ev 0 rfl) Evs.nil) w)) (hO148.vuAt (hH.has 7 rfl)) rfl (fun _ _ => rfl) (kM [false, true] rfl rfl) (by decide) ?_
              clear hH
              rintro _ _ w ⟨s149, rfl, L154, E150, E151, rfl, hO152, hB153⟩ hH
              replace hH : HH w0 [] [E2, E8, [bl g14 5 (madeCells (cByte.enc 0) (m * 1))], [bl g15 31 #[(.int .i64 (((1 + tag.toNat % 15) : Nat) : Int)), (.slice (some ⟨g14, 0, none⟩) m m)]], E26, E17, E132, E147, ([E150, E151] : List Hl).flatten] w := hH
              obtain ⟨A155, c156, rfl⟩ := hO152.slice
              replace hH : HH w0 [] [E2, E8, [bl g14 5 (madeCells (cByte.enc 0) (m * 1))], [bl g15 31 #[(.int .i64 (((1 + tag.toNat % 15) : Nat) : Int)), (.slice (some ⟨g14, 0, none⟩) m m)]], E26, E17, E132, E147, E150, E151] w := hH.cast (by simp)
              refine pxV (v := (.tuple #[(.slice A155 L154.length c156), (.int .i64 ((((prs [] (([(UInt8.ofNat (128 + 4 * (1 + tag.toNat % 15) + 1))] ++ (beL 2 m)) ++ (List.replicate m 0))).1) : Nat) : Int))])) (fun _ _ hF => opMove rfl (hF.ev 0 rfl)) rfl (fun _ _ => rfl) (kM [false, true] rfl rfl) (by decide) ?_
              refine pxV (v := (.slice A155 L154.length c156)) (fun _ _ hF => opExtract rfl (hF.ev 0 rfl) rfl) rfl (fun _ _ => rfl) (kA rfl) (by decide) ?_
              refine pxV (v := (.int .i64 ((((prs [] (([(UInt8.ofNat (128 + 4 * (1 + tag.toNat % 15) + 1))] ++ (beL 2 m)) ++ (List.replicate m 0))).1) : Nat) : Int))) (fun _ _ hF => opExtract rfl (hF.ev 1 rfl) rfl) rfl (fun _ _ => rfl) (kM [true, false, true] rfl rfl) (by decide) ?_
              refine pxV (v := (.slice A155 L154.length c156)) (fun _ _ hF => opAssign rfl (hF.ev 1 rfl)) rfl (fun _ _ => rfl) (kM [true, false, true] rfl rfl) (by decide) ?_
              refine pxV (v := (.int .i64 ((((prs [] (([(UInt8.ofNat (128 + 4 * (1 + tag.toNat % 15) + 1))] ++ (beL 2 m)) ++ (List.replicate m 0))).1) : Nat) : Int))) (fun _ _ hF => opAssign rfl (hF.ev 1 rfl)) rfl (fun _ _ => rfl) (kM [true, false, true] rfl rfl) (by decide) ?_
              refine pxEnd ?_
              refine qxThen ?_
              refine cxSeq ?_
              refine cxReg ?_
              refine pxV (v := (.int .i64 ((((prs [] (([(UInt8.ofNat (128 + 4 * (1 + tag.toNat % 15) + 1))] ++ (beL 2 m)) ++ (List.replicate m 0))).1) : Nat) : Int))) (fun _ _ hF => opMove rfl (hF.ev 0 rfl)) rfl (fun _ _ => rfl) (kM [false, true, true] rfl rfl) (by decide) ?_
              refine pxV (v := (.bool true)) (fun _ _ hF => opEqI rfl (hF.ev 0 rfl) rfl (decide_eq_true (by rw [hp]; rfl))) rfl (fun _ _ => rfl) (kM [false, true, true] rfl rfl) (by decide) ?_
              refine pxV (v := (.bool true)) (fun _ _ hF => opMove rfl (hF.ev 0 rfl)) rfl (fun _ _ => rfl) (kM [false, true, true] rfl rfl) (by decide) ?_
              refine pxV (v := (.slice A155 L154.length c156)) (fun _ _ hF => opMove rfl (hF.ev 1 rfl)) rfl (gOn 0 rfl rfl rfl (by decide)) (kM [true, false, true] rfl rfl) (by decide) ?_
              refine pxS (v := (.agg #[(.int .i64 (((1 + tag.toNat % 15) : Nat) : Int)), (.slice (some ⟨g14, 0, none⟩) m m)])) (fun w => w.heap[g15]? = some (.cells #[(.int .i64 (((1 + tag.toNat % 15) : Nat) : Int)), (.slice (some ⟨g14, 0, none⟩) m m)] 31 (0, 0))) (hH.blk 3 rfl) (fun _ _ hF hS => opLoadKR (k := 2) hS rfl (hF.ev 2 rfl) (by kernel_rfl) rfl (by kernel_rfl) rfl) rfl (gOn 1 rfl rfl rfl (by decide)) (kM [true, true, false] rfl rfl) (by decide) ?_
              refine pxM hH (fun _ hF => smLit1 (e := 31) (sz := 2) (z := (cPk.val (0, none, 0, 0))) (by_ := 32) (cs := cPk.enc ((((1 + tag.toNat % 15) : Nat) : Int), (some ⟨g14, 0, none⟩), m, m)) rfl (by kernel_rfl) (by kernel_rfl) ((hF.ev 0 rfl).trans (cPk_val (((1 + tag.toNat % 15) : Nat) : Int) (some ⟨g14, 0, none⟩) m m)) (cPk.len ((((1 + tag.toNat % 15) : Nat) : Int), (some ⟨g14, 0, none⟩), m, m)) (ltb rfl) (leb rfl) rfl) trivial rfl (gOn 2 rfl rfl rfl (by decide)) (kM [false, true, true] rfl rfl) (by decide) ?_
              clear hH
              rintro _ _ w ⟨g159, rfl, rfl⟩ hH
              replace hH : HH w0 [] [E2, E8, [bl g14 5 (madeCells (cByte.enc 0) (m * 1))], [bl g15 31 #[(.int .i64 (((1 + tag.toNat % 15) : Nat) : Int)), (.slice (some ⟨g14, 0, none⟩) m m)]], E26, E17, E132, E147, E150, E151, [bl g159 31 (cPk.enc ((((1 + tag.toNat % 15) : Nat) : Int), (some ⟨g14, 0, none⟩), m, m))]] w := hH
              refine pxM hH (fun _ hF => Does.small ((Pure.as (v := (.bool true)) (same_c L154 ([((((1 + tag.toNat % 15) : Nat) : Int), (some ⟨g14, 0, none⟩), m, m)]) ((prs [] (([(UInt8.ofNat (128 + 4 * (1 + tag.toNat % 15) + 1))] ++ (beL 2 m)) ++ (List.replicate m 0))).2) ([(((1 + tag.toNat % 15 : Nat) : Int), List.replicate m 0)]) A155 (some ⟨g159, 0, none⟩) c156 1 (by rw [hB153.len, hp]; exact (by decide : (1 : Nat) ≤ 140737488355328))) (congrArg Value.bool (decide_eq_true (by rw [hp])))).does) (fun w => opCall rfl Try.func15 rfl rfl (Evs.cons (v := (.slice A155 L154.length c156)) (hF.ev 1 rfl) (Evs.cons (v := (.slice (some ⟨g159, 0, none⟩) 1 1)) (hF.ev 0 rfl) Evs.nil)) w)) ⟨(hO152.vuAt (hH.has 8 rfl)), (hB153.beh (hH.has 9 rfl)), ((Bk.lit1 (C := cPk) ((((1 + tag.toNat % 15) : Nat) : Int), (some ⟨g14, 0, none⟩), m, m)).vu (hH.blk 10 rfl) rfl), (beh_rep ((Bk.make (C := cByte) 0 m (ltb rfl) (by unfold maxLen; omega)).vu (hH.blk 2 rfl) List.length_replicate))⟩ rfl (gOn 2 rfl rfl rfl (by decide)) (kM [false, false, true] rfl rfl) (by decide) ?_
              clear hH
              rintro _ _ w ⟨rfl, rfl⟩ hH
              replace hH : HH w0 [] [E2, E8, [bl g14 5 (madeCells (cByte.enc 0) (m * 1))], [bl g15 31 #[(.int .i64 (((1 + tag.toNat % 15) : Nat) : Int)), (.slice (some ⟨g14, 0, none⟩) m m)]], E26, E17, E132, E147, E150, E151, [bl g159 31 (cPk.enc ((((1 + tag.toNat % 15) : Nat) : Int), (some ⟨g14, 0, none⟩), m, m))]] w := hH.unpad
              refine pxV (v := (.bool true)) (fun _ _ hF => opPickT rfl (hF.ev 1 rfl) (hF.ev 0 rfl)) rfl (fun _ _ => rfl) (kM [false, false] rfl rfl) (by decide) ?_
              refine pxV (v := (.bool true)) (fun _ _ hF => opAssign rfl (hF.ev 0 rfl)) rfl (fun _ _ => rfl) (kM [false] rfl rfl) (by decide) ?_
              refine pxEnd ?_
              refine qxThen ?_
              refine cxRet ?_
              refine qxRet1 0 rfl rfl ?_
              exact ⟨rfl, HH.toBelow hH⟩
          · refine cxSeq ?_
            refine cxReg ?_
            refine pxV (v := (.bool (decide (form.toNat % 5 = 4)))) (fun _ _ hF => opEqI rfl (hF.ev 1 rfl) rfl (dc (by omega))) rfl (fun _ _ => rfl) (kM [false, false, true, true, true] rfl rfl) (by decide) ?_
            refine pxV (v := (.bool (decide (form.toNat % 5 = 4)))) (fun _ _ hF => opAssign rfl (hF.ev 0 rfl)) rfl (fun _ _ => rfl) (kM [false, true, true, true] rfl rfl) (by decide) ?_
            refine pxEnd ?_
            refine qxThen ?_
            refine cxP 0 rfl rfl (fun hc160 => ?_) (fun hc160 => ?_)
            · refine cxSeq ?_
              refine cxReg ?_
              refine pxV (v := (.int .i64 (((m) : Nat) : Int))) (fun _ _ hF => opMove rfl (hF.ev 3 rfl)) rfl (fun _ _ => rfl) (kM [false, true, true, true] rfl rfl) (by decide) ?_
              refine pxV (v := (.bool (decide (m < 256)))) (fun _ _ hF => opLss rfl (hF.ev 0 rfl) rfl (dc (by omega))) rfl (fun _ _ => rfl) (kM [false, true, true, true] rfl rfl) (by decide) ?_
              refine pxEnd ?_
              refine qxThen ?_
              refine cxP 0 rfl rfl (fun hc161 => ?_) (fun hc161 => ?_)
              · refine cxReg ?_
                refine pxV (v := (.pointer (some ⟨g15, 0, none⟩))) (fun _ _ hF => opField (off := 0) rfl (hF.ev 2 rfl) (by kernel_rfl)) rfl (fun _ _ => rfl) (kM [false, false, true, true] rfl rfl) (by decide) ?_
                refine pxS (v := (.int .i64 (((1 + tag.toNat % 15) : Nat) : Int))) (fun w => w.heap[g15]? = some (.cells #[(.int .i64 (((1 + tag.toNat % 15) : Nat) : Int)), (.slice (some ⟨g14, 0, none⟩) m m)] 31 (0, 0))) (hH.blk 3 rfl) (fun _ _ hF hS => opLoadK hS rfl (hF.ev 0 rfl) (by kernel_rfl) rfl) rfl (fun _ _ => rfl) (kM [false, true, true] rfl rfl) (by decide) ?_
                refine pxV (v := (.int .i64 (((4 * (1 + tag.toNat % 15)) : Nat) : Int))) (fun _ _ hF => opMul rfl rfl (hF.ev 0 rfl) (wI rfl (by omega) (by omega))) rfl (fun _ _ => rfl) (kM [false, true, true] rfl rfl) (by decide) ?_
                refine pxV (v := (.int .i64 (((128 + 4 * (1 + tag.toNat % 15)) : Nat) : Int))) (fun _ _ hF => opAdd rfl rfl (hF.ev 0 rfl) (wI rfl (by omega) (by omega))) rfl (fun _ _ => rfl) (kM [false, true, true] rfl rfl) (by decide) ?_
                refine pxV (v := (.int .u8 ((((UInt8.ofNat (128 + 4 * (1 + tag.toNat % 15))).toNat) : Nat) : Int))) (fun _ _ hF => opConvU (k' := .u8) rfl rfl (by kernel_rfl) (by kernel_rfl) (hF.ev 0 rfl) (UInt8.toNat_ofNat' (n := 128 + 4 * (1 + tag.toNat % 15))).symm) rfl (fun _ _ => rfl) (kM [false, true, true] rfl rfl) (by decide) ?_
                refine pxV (v := (.int .i64 (((m) : Nat) : Int))) (fun _ _ hF => opMove rfl (hF.ev 2 rfl)) rfl (fun _ _ => rfl) (kM [true, true, false] rfl rfl) (by decide) ?_
                refine pxV (v := (.int .u8 ((((UInt8.ofNat m).toNat) : Nat) : Int))) (fun _ _ hF => opConvU (k' := .u8) rfl rfl (by kernel_rfl) (by kernel_rfl) (hF.ev 0 rfl) (UInt8.toNat_ofNat' (n := m)).symm) rfl (fun _ _ => rfl) (kM [false, true, true] rfl rfl) (by decide) ?_
                refine pxM hH (fun _ hF => smLits (C := cByte) (e := 5) (z := (.int .u8 0)) (by_ := 1) [(UInt8.ofNat (128 + 4 * (1 + tag.toNat % 15))), (UInt8.ofNat m)] rfl (by kernel_rfl) (by kernel_rfl) (EvP.cons (v := cByte.val (UInt8.ofNat (128 + 4 * (1 + tag.toNat % 15)))) (hF.ev 1 rfl) (EvP.cons (v := cByte.val (UInt8.ofNat m)) (hF.ev 0 rfl) EvP.nil)) rfl (ltb rfl) (leb rfl) rfl) trivial rfl (fun _ _ => rfl) (kM [false, false, true] rfl rfl) (by decide) ?_
                clear hH
                rintro _ _ w ⟨g162, rfl, rfl⟩ hH
                replace hH : HH w0 [] [E2, E8, [bl g14 5 (madeCells (cByte.enc 0) (m * 1))], [bl g15 31 #[(.int .i64 (((1 + tag.toNat % 15) : Nat) : Int)), (.slice (some ⟨g14, 0, none⟩) m m)]], E26, E17, [bl g162 5 (flat cByte [(UInt8.ofNat (128 + 4 * (1 + tag.toNat % 15))), (UInt8.ofNat m)]).toArray]] w := hH
                refine pxV (v := (.slice (some ⟨g162, 0, none⟩) 2 2)) (fun _ _ hF => opAssign rfl (hF.ev 0 rfl)) rfl (fun _ _ => rfl) (kM [false, true] rfl rfl) (by decide) ?_
                refine pxEnd ?_
                refine qxInN ?_
                refine qxThen ?_
                refine cxSeq ?_
                have hp : prs [] ([(UInt8.ofNat (128 + 4 * (1 + tag.toNat % 15))), (UInt8.ofNat m)] ++ (List.replicate m 0)) = (0, [(((1 + tag.toNat % 15 : Nat) : Int), (List.replicate m 0))]) := form_zero (by omega) (by omega) List.length_replicate (by omega)
                have hfl : ([(UInt8.ofNat (128 + 4 * (1 + tag.toNat % 15))), (UInt8.ofNat m)]).length ≤ 6 := by simp
                have hrl : (List.replicate m (0 : UInt8)).length = m := List.length_replicate
                refine cxReg ?_
                refine pxV (v := (.slice (some ⟨g162, 0, none⟩) 2 2)) (fun _ _ hF => opMove rfl (hF.ev 0 rfl)) rfl (fun _ _ => rfl) (kM [false, true] rfl rfl) (by decide) ?_
                refine pxV (v := (.pointer (some ⟨g15, 1, none⟩))) (fun _ _ hF => opField (off := 1) rfl (hF.ev 1 rfl) (by kernel_rfl)) rfl (fun _ _ => rfl) (kA rfl) (by decide) ?_
                refine pxS (v := (.slice (some ⟨g14, 0, none⟩) m m)) (fun w => w.heap[g15]? = some (.cells #[(.int .i64 (((1 + tag.toNat % 15) : Nat) : Int)), (.slice (some ⟨g14, 0, none⟩) m m)] 31 (0, 0))) (hH.blk 3 rfl) (fun _ _ hF hS => opLoadK hS rfl (hF.ev 0 rfl) (by kernel_rfl) rfl) rfl (fun _ _ => rfl) (kM [false, true, true] rfl rfl) (by decide) ?_
                refine pxE 6 hH rfl (fun _ hF => smAppT (C := cByte) (l := [(UInt8.ofNat (128 + 4 * (1 + tag.toNat % 15))), (UInt8.ofNat m)]) (m := (List.replicate m 0)) (e := 5) (z := (.int .u8 0)) (by_ := 1) rfl (by kernel_rfl) (by kernel_rfl) rfl (ltb rfl) (hF.ev 1 rfl) ((Bk.lits (C := cByte) [(UInt8.ofNat (128 + 4 * (1 + tag.toNat % 15))), (UInt8.ofNat m)] (by show 2 ≤ _; unfold maxLen; decide)).own 5 g162 rfl) (hF.ev 0 rfl) List.length_replicate (fun h => by cases h) (by unfold maxLen; omega) (by omega)) ((Bk.make (C := cByte) 0 m (ltb rfl) (by unfold maxLen; omega)).vu (hH.blk 2 rfl) List.length_replicate) rfl (fun _ _ => rfl) (kM [false, false, true] rfl rfl) (by decide) ?_
                clear hH
                rintro v165 E166 w ⟨hO167, _⟩ hH
                replace hH : HH w0 [] [E2, E8, [bl g14 5 (madeCells (cByte.enc 0) (m * 1))], [bl g15 31 #[(.int .i64 (((1 + tag.toNat % 15) : Nat) : Int)), (.slice (some ⟨g14, 0, none⟩) m m)]], E26, E17, E166] w := hH
                replace hO167 : OwnT cByte 5 v165 ([(UInt8.ofNat (128 + 4 * (1 + tag.toNat % 15))), (UInt8.ofNat m)] ++ (List.replicate m 0)) E166 := hO167
                obtain ⟨A163, c164, rfl⟩ := hO167.slice
                refine pxM hH (fun _ hF => Does.small (parse_c c164 A163 ([(UInt8.ofNat (128 + 4 * (1 + tag.toNat % 15))), (UInt8.ofNat m)] ++ (List.replicate m 0)) (by rw [List.length_append]; omega)) (fun w => opCall rfl Try.func14 rfl rfl (Evs.cons (v := (.slice A163 (([(UInt8.ofNat (128 + 4 * (1 + tag.toNat % 15))), (UInt8.ofNat m)] ++ (List.replicate m 0)).length) c164)) (hF.ev 0 rfl) Evs.nil) w)) (hO167.vuAt (hH.has 6 rfl)) rfl (fun _ _ => rfl) (kM [false, true] rfl rfl) (by decide) ?_
                clear hH
                rintro _ _ w ⟨s168, rfl, L173, E169, E170, rfl, hO171, hB172⟩ hH
                replace hH : HH w0 [] [E2, E8, [bl g14 5 (madeCells (cByte.enc 0) (m * 1))], [bl g15 31 #[(.int .i64 (((1 + tag.toNat % 15) : Nat) : Int)), (.slice (some ⟨g14, 0, none⟩) m m)]], E26, E17, E166, ([E169, E170] : List Hl).flatten] w := hH
                obtain ⟨A174, c175, rfl⟩ := hO171.slice
                replace hH : HH w0 [] [E2, E8, [bl g14 5 (madeCells (cByte.enc 0) (m * 1))], [bl g15 31 #[(.int .i64 (((1 + tag.toNat % 15) : Nat) : Int)), (.slice (some ⟨g14, 0, none⟩) m m)]], E26, E17, E166, E169, E170] w := hH.cast (by simp)
                refine pxV (v := (.tuple #[(.slice A174 L173.length c175), (.int .i64 ((((prs [] ([(UInt8.ofNat (128 + 4 * (1 + tag.toNat % 15))), (UInt8.ofNat m)] ++ (List.replicate m 0))).1) : Nat) : Int))])) (fun _ _ hF => opMove rfl (hF.ev 0 rfl)) rfl (fun _ _ => rfl) (kM [false, true] rfl rfl) (by decide) ?_
                refine pxV (v := (.slice A174 L173.length c175)) (fun _ _ hF => opExtract rfl (hF.ev 0 rfl) rfl) rfl (fun _ _ => rfl) (kA rfl) (by decide) ?_
                refine pxV (v := (.int .i64 ((((prs [] ([(UInt8.ofNat (128 + 4 * (1 + tag.toNat % 15))), (UInt8.ofNat m)] ++ (List.replicate m 0))).1) : Nat) : Int))) (fun _ _ hF => opExtract rfl (hF.ev 1 rfl) rfl) rfl (fun _ _ => rfl) (kM [true, false, true] rfl rfl) (by decide) ?_
                refine pxV (v := (.slice A174 L173.length c175)) (fun _ _ hF => opAssign rfl (hF.ev 1 rfl)) rfl (fun _ _ => rfl) (kM [true, false, true] rfl rfl) (by decide) ?_
                refine pxV (v := (.int .i64 ((((prs [] ([(UInt8.ofNat (128 + 4 * (1 + tag.toNat % 15))), (UInt8.ofNat m)] ++ (List.replicate m 0))).1) : Nat) : Int))) (fun _ _ hF => opAssign rfl (hF.ev 1 rfl)) rfl (fun _ _ => rfl) (kM [true, false, true] rfl rfl) (by decide) ?_
                refine pxEnd ?_
                refine qxThen ?_
                refine cxSeq ?_
                refine cxReg ?_
                refine pxV (v := (.int .i64 ((((prs [] ([(UInt8.ofNat (128 + 4 * (1 + tag.toNat % 15))), (UInt8.ofNat m)] ++ (List.replicate m 0))).1) : Nat) : Int))) (fun _ _ hF => opMove rfl (hF.ev 0 rfl)) rfl (fun _ _ => rfl) (kM [false, true, true] rfl rfl) (by decide) ?_
                refine pxV (v := (.bool true)) (fun _ _ hF => opEqI rfl (hF.ev 0 rfl) rfl (decide_eq_true (by rw [hp]; rfl))) rfl (fun _ _ => rfl) (kM [false, true, true] rfl rfl) (by decide) ?_
                refine pxV (v := (.bool true)) (fun _ _ hF => opMove rfl (hF.ev 0 rfl)) rfl (fun _ _ => rfl) (kM [false, true, true] rfl rfl) (by decide) ?_
                refine pxV (v := (.slice A174 L173.length c175)) (fun _ _ hF => opMove rfl (hF.ev 1 rfl)) rfl (gOn 0 rfl rfl rfl (by decide)) (kM [true, false, true] rfl rfl) (by decide) ?_
                refine pxS (v := (.agg #[(.int .i64 (((1 + tag.toNat % 15) : Nat) : Int)), (.slice (some ⟨g14, 0, none⟩) m m)])) (fun w => w.heap[g15]? = some (.cells #[(.int .i64 (((1 + tag.toNat % 15) : Nat) : Int)), (.slice (some ⟨g14, 0, none⟩) m m)] 31 (0, 0))) (hH.blk 3 rfl) (fun _ _ hF hS => opLoadKR (k := 2) hS rfl (hF.ev 2 rfl) (by kernel_rfl) rfl (by kernel_rfl) rfl) rfl (gOn 1 rfl rfl rfl (by decide)) (kM [true, true, false] rfl rfl) (by decide) ?_
                refine pxM hH (fun _ hF => smLit1 (e := 31) (sz := 2) (z := (cPk.val (0, none, 0, 0))) (by_ := 32) (cs := cPk.enc ((((1 + tag.toNat % 15) : Nat) : Int), (some ⟨g14, 0, none⟩), m, m)) rfl (by kernel_rfl) (by kernel_rfl) ((hF.ev 0 rfl).trans (cPk_val (((1 + tag.toNat % 15) : Nat) : Int) (some ⟨g14, 0, none⟩) m m)) (cPk.len ((((1 + tag.toNat % 15) : Nat) : Int), (some ⟨g14, 0, none⟩), m, m)) (ltb rfl) (leb rfl) rfl) trivial rfl (gOn 2 rfl rfl rfl (by decide)) (kM [false, true, true] rfl rfl) (by decide) ?_
                clear hH
                rintro _ _ w ⟨g178, rfl, rfl⟩ hH
                replace hH : HH w0 [] [E2, E8, [bl g14 5 (madeCells (cByte.enc 0) (m * 1))], [bl g15 31 #[(.int .i64 (((1 + tag.toNat % 15) : Nat) : Int)), (.slice (some ⟨g14, 0, none⟩) m m)]], E26, E17, E166, E169, E170, [bl g178 31 (cPk.enc ((((1 + tag.toNat % 15) : Nat) : Int), (some ⟨g14, 0, none⟩), m, m))]] w := hH
                refine pxM hH (fun _ hF => Does.small ((Pure.as (v := (.bool true)) (same_c L173 ([((((1 + tag.toNat % 15) : Nat) : Int), (some ⟨g14, 0, none⟩), m, m)]) ((prs [] ([(UInt8.ofNat (128 + 4 * (1 + tag.toNat % 15))), (UInt8.ofNat m)] ++ (List.replicate m 0))).2) ([(((1 + tag.toNat % 15 : Nat) : Int), List.replicate m 0)]) A174 (some ⟨g178, 0, none⟩) c175 1 (by rw [hB172.len, hp]; exact (by decide : (1 : Nat) ≤ 140737488355328))) (congrArg Value.bool (decide_eq_true (by rw [hp])))).does) (fun w => opCall rfl Try.func15 rfl rfl (Evs.cons (v := (.slice A174 L173.length c175)) (hF.ev 1 rfl) (Evs.cons (v := (.slice (some ⟨g178, 0, none⟩) 1 1)) (hF.ev 0 rfl) Evs.nil)) w)) ⟨(hO171.vuAt (hH.has 7 rfl)), (hB172.beh (hH.has 8 rfl)), ((Bk.lit1 (C := cPk) ((((1 + tag.toNat % 15) : Nat) : Int), (some ⟨g14, 0, none⟩), m, m)).vu (hH.blk 9 rfl) rfl), (beh_rep ((Bk.make (C := cByte) 0 m (ltb rfl) (by unfold maxLen; omega)).vu (hH.blk 2 rfl) List.length_replicate))⟩ rfl (gOn 2 rfl rfl rfl (by decide)) (kM [false, false, true] rfl rfl) (by decide) ?_
                clear hH
                rintro _ _ w ⟨rfl, rfl⟩ hH
                replace hH : HH w0 [] [E2, E8, [bl g14 5 (madeCells (cByte.enc 0) (m * 1))], [bl g15 31 #[(.int .i64 (((1 + tag.toNat % 15) : Nat) : Int)), (.slice (some ⟨g14, 0, none⟩) m m)]], E26, E17, E166, E169, E170, [bl g178 31 (cPk.enc ((((1 + tag.toNat % 15) : Nat) : Int), (some ⟨g14, 0, none⟩), m, m))]] w := hH.unpad
                refine pxV (v := (.bool true)) (fun _ _ hF => opPickT rfl (hF.ev 1 rfl) (hF.ev 0 rfl)) rfl (fun _ _ => rfl) (kM [false, false] rfl rfl) (by decide) ?_
                refine pxV (v := (.bool true)) (fun _ _ hF => opAssign rfl (hF.ev 0 rfl)) rfl (fun _ _ => rfl) (kM [false] rfl rfl) (by decide) ?_
                refine pxEnd ?_
                refine qxThen ?_
                refine cxRet ?_
                refine qxRet1 0 rfl rfl ?_
                exact ⟨rfl, HH.toBelow hH⟩
              · refine cxSkip ?_
                refine qxInN ?_
                refine qxThen ?_
                refine cxSeq ?_
                have hp : prs [] (([(UInt8.ofNat (192 + (1 + tag.toNat % 15))), 255] ++ (beL 4 m)) ++ (List.replicate m 0)) = (0, [(((1 + tag.toNat % 15 : Nat) : Int), (List.replicate m 0))]) := form_new (by omega) (by omega) List.length_replicate hm
                have hfl : (([(UInt8.ofNat (192 + (1 + tag.toNat % 15))), 255] ++ (beL 4 m))).length ≤ 6 := by simp [beL_len]
                have hrl : (List.replicate m (0 : UInt8)).length = m := List.length_replicate
                refine cxReg ?_
                refine pxV (v := (.slice A23 (([(UInt8.ofNat (192 + (1 + tag.toNat % 15))), 255] ++ (beL 4 m)).length) c24)) (fun _ _ hF => opMove rfl (hF.ev 1 rfl)) rfl (fun _ _ => rfl) (kM [false, false, true, false] rfl rfl) (by decide) ?_
                refine pxV (v := (.pointer (some ⟨g15, 1, none⟩))) (fun _ _ hF => opField (off := 1) rfl (hF.ev 1 rfl) (by kernel_rfl)) rfl (fun _ _ => rfl) (kA rfl) (by decide) ?_
                refine pxS (v := (.slice (some ⟨g14, 0, none⟩) m m)) (fun w => w.heap[g15]? = some (.cells #[(.int .i64 (((1 + tag.toNat % 15) : Nat) : Int)), (.slice (some ⟨g14, 0, none⟩) m m)] 31 (0, 0))) (hH.blk 3 rfl) (fun _ _ hF hS => opLoadK hS rfl (hF.ev 0 rfl) (by kernel_rfl) rfl) rfl (fun _ _ => rfl) (kM [false, true, true] rfl rfl) (by decide) ?_
                refine pxE 4 hH rfl (fun _ hF => smAppT (C := cByte) (l := ([(UInt8.ofNat (192 + (1 + tag.toNat % 15))), 255] ++ (beL 4 m))) (m := (List.replicate m 0)) (e := 5) (z := (.int .u8 0)) (by_ := 1) rfl (by kernel_rfl) (by kernel_rfl) rfl (ltb rfl) (hF.ev 1 rfl) hO27 (hF.ev 0 rfl) List.length_replicate (fun h => by cases h) (by unfold maxLen; omega) (by omega)) ((Bk.make (C := cByte) 0 m (ltb rfl) (by unfold maxLen; omega)).vu (hH.blk 2 rfl) List.length_replicate) rfl (fun _ _ => rfl) (kM [false, false, true] rfl rfl) (by decide) ?_
                clear hH
                rintro v181 E182 w ⟨hO183, _⟩ hH
                replace hH : HH w0 [] [E2, E8, [bl g14 5 (madeCells (cByte.enc 0) (m * 1))], [bl g15 31 #[(.int .i64 (((1 + tag.toNat % 15) : Nat) : Int)), (.slice (some ⟨g14, 0, none⟩) m m)]], E182, E17] w := hH
                replace hO183 : OwnT cByte 5 v181 (([(UInt8.ofNat (192 + (1 + tag.toNat % 15))), 255] ++ (beL 4 m)) ++ (List.replicate m 0)) E182 := hO183
                obtain ⟨A179, c180, rfl⟩ := hO183.slice
                refine pxM hH (fun _ hF => Does.small (parse_c c180 A179 (([(UInt8.ofNat (192 + (1 + tag.toNat % 15))), 255] ++ (beL 4 m)) ++ (List.replicate m 0)) (by rw [List.length_append]; omega)) (fun w => opCall rfl Try.func14 rfl rfl (Evs.cons (v := (.slice A179 ((([(UInt8.ofNat (192 + (1 + tag.toNat % 15))), 255] ++ (beL 4 m)) ++ (List.replicate m 0)).length) c180)) (hF.ev 0 rfl) Evs.nil) w)) (hO183.vuAt (hH.has 4 rfl)) rfl (fun _ _ => rfl) (kM [false, true] rfl rfl) (by decide) ?_
                clear hH
                rintro _ _ w ⟨s184, rfl, L189, E185, E186, rfl, hO187, hB188⟩ hH
                replace hH : HH w0 [] [E2, E8, [bl g14 5 (madeCells (cByte.enc 0) (m * 1))], [bl g15 31 #[(.int .i64 (((1 + tag.toNat % 15) : Nat) : Int)), (.slice (some ⟨g14, 0, none⟩) m m)]], E182, E17, ([E185, E186] : List Hl).flatten] w := hH
                obtain ⟨A190, c191, rfl⟩ := hO187.slice
                replace hH : HH w0 [] [E2, E8, [bl g14 5 (madeCells (cByte.enc 0) (m * 1))], [bl g15 31 #[(.int .i64 (((1 + tag.toNat % 15) : Nat) : Int)), (.slice (some ⟨g14, 0, none⟩) m m)]], E182, E17, E185, E186] w := hH.cast (by simp)
                refine pxV (v := (.tuple #[(.slice A190 L189.length c191), (.int .i64 ((((prs [] (([(UInt8.ofNat (192 + (1 + tag.toNat % 15))), 255] ++ (beL 4 m)) ++ (List.replicate m 0))).1) : Nat) : Int))])) (fun _ _ hF => opMove rfl (hF.ev 0 rfl)) rfl (fun _ _ => rfl) (kM [false, true] rfl rfl) (by decide) ?_
                refine pxV (v := (.slice A190 L189.length c191)) (fun _ _ hF => opExtract rfl (hF.ev 0 rfl) rfl) rfl (fun _ _ => rfl) (kA rfl) (by decide) ?_
                refine pxV (v := (.int .i64 ((((prs [] (([(UInt8.ofNat (192 + (1 + tag.toNat % 15))), 255] ++ (beL 4 m)) ++ (List.replicate m 0))).1) : Nat) : Int))) (fun _ _ hF => opExtract rfl (hF.ev 1 rfl) rfl) rfl (fun _ _ => rfl) (kM [true, false, true] rfl rfl) (by decide) ?_
                refine pxV (v := (.slice A190 L189.length c191)) (fun _ _ hF => opAssign rfl (hF.ev 1 rfl)) rfl (fun _ _ => rfl) (kM [true, false, true] rfl rfl) (by decide) ?_
                refine pxV (v := (.int .i64 ((((prs [] (([(UInt8.ofNat (192 + (1 + tag.toNat % 15))), 255] ++ (beL 4 m)) ++ (List.replicate m 0))).1) : Nat) : Int))) (fun _ _ hF => opAssign rfl (hF.ev 1 rfl)) rfl (fun _ _ => rfl) (kM [true, false, true] rfl rfl) (by decide) ?_
                refine pxEnd ?_
                refine qxThen ?_
                refine cxSeq ?_
                refine cxReg ?_
                refine pxV (v := (.int .i64 ((((prs [] (([(UInt8.ofNat (192 + (1 + tag.toNat % 15))), 255] ++ (beL 4 m)) ++ (List.replicate m 0))).1) : Nat) : Int))) (fun _ _ hF => opMove rfl (hF.ev 0 rfl)) rfl (fun _ _ => rfl) (kM [false, true, true] rfl rfl) (by decide) ?_
                refine pxV (v := (.bool true)) (fun _ _ hF => opEqI rfl (hF.ev 0 rfl) rfl (decide_eq_true (by rw [hp]; rfl))) rfl (fun _ _ => rfl) (kM [false, true, true] rfl rfl) (by decide) ?_
                refine pxV (v := (.bool true)) (fun _ _ hF => opMove rfl (hF.ev 0 rfl)) rfl (fun _ _ => rfl) (kM [false, true, true] rfl rfl) (by decide) ?_
                refine pxV (v := (.slice A190 L189.length c191)) (fun _ _ hF => opMove rfl (hF.ev 1 rfl)) rfl (gOn 0 rfl rfl rfl (by decide)) (kM [true, false, true] rfl rfl) (by decide) ?_
                refine pxS (v := (.agg #[(.int .i64 (((1 + tag.toNat % 15) : Nat) : Int)), (.slice (some ⟨g14, 0, none⟩) m m)])) (fun w => w.heap[g15]? = some (.cells #[(.int .i64 (((1 + tag.toNat % 15) : Nat) : Int)), (.slice (some ⟨g14, 0, none⟩) m m)] 31 (0, 0))) (hH.blk 3 rfl) (fun _ _ hF hS => opLoadKR (k := 2) hS rfl (hF.ev 2 rfl) (by kernel_rfl) rfl (by kernel_rfl) rfl) rfl (gOn 1 rfl rfl rfl (by decide)) (kM [true, true, false] rfl rfl) (by decide) ?_
                refine pxM hH (fun _ hF => smLit1 (e := 31) (sz := 2) (z := (cPk.val (0, none, 0, 0))) (by_ := 32) (cs := cPk.enc ((((1 + tag.toNat % 15) : Nat) : Int), (some ⟨g14, 0, none⟩), m, m)) rfl (by kernel_rfl) (by kernel_rfl) ((hF.ev 0 rfl).trans (cPk_val (((1 + tag.toNat % 15) : Nat) : Int) (some ⟨g14, 0, none⟩) m m)) (cPk.len ((((1 + tag.toNat % 15) : Nat) : Int), (some ⟨g14, 0, none⟩), m, m)) (ltb rfl) (leb rfl) rfl) trivial rfl (gOn 2 rfl rfl rfl (by decide)) (kM [false, true, true] rfl rfl) (by decide) ?_
                clear hH
                rintro _ _ w ⟨g194, rfl, rfl⟩ hH
                replace hH : HH w0 [] [E2, E8, [bl g14 5 (madeCells (cByte.enc 0) (m * 1))], [bl g15 31 #[(.int .i64 (((1 + tag.toNat % 15) : Nat) : Int)), (.slice (some ⟨g14, 0, none⟩) m m)]], E182, E17, E185, E186, [bl g194 31 (cPk.enc ((((1 + tag.toNat % 15) : Nat) : Int), (some ⟨g14, 0, none⟩), m, m))]] w := hH
                refine pxM hH (fun _ hF => Does.small ((Pure.as (v := (.bool true)) (same_c L189 ([((((1 + tag.toNat % 15) : Nat) : Int), (some ⟨g14, 0, none⟩), m, m)]) ((prs [] (([(UInt8.ofNat (192 + (1 + tag.toNat % 15))), 255] ++ (beL 4 m)) ++ (List.replicate m 0))).2) ([(((1 + tag.toNat % 15 : Nat) : Int), List.replicate m 0)]) A190 (some ⟨g194, 0, none⟩) c191 1 (by rw [hB188.len, hp]; exact (by decide : (1 : Nat) ≤ 140737488355328))) (congrArg Value.bool (decide_eq_true (by rw [hp])))).does) (fun w => opCall rfl Try.func15 rfl rfl (Evs.cons (v := (.slice A190 L189.length c191)) (hF.ev 1 rfl) (Evs.cons (v := (.slice (some ⟨g194, 0, none⟩) 1 1)) (hF.ev 0 rfl) Evs.nil)) w)) ⟨(hO187.vuAt (hH.has 6 rfl)), (hB188.beh (hH.has 7 rfl)), ((Bk.lit1 (C := cPk) ((((1 + tag.toNat % 15) : Nat) : Int), (some ⟨g14, 0, none⟩), m, m)).vu (hH.blk 8 rfl) rfl), (beh_rep ((Bk.make (C := cByte) 0 m (ltb rfl) (by unfold maxLen; omega)).vu (hH.blk 2 rfl) List.length_replicate))⟩ rfl (gOn 2 rfl rfl rfl (by decide)) (kM [false, false, true] rfl rfl) (by decide) ?_
                clear hH
                rintro _ _ w ⟨rfl, rfl⟩ hH
                replace hH : HH w0 [] [E2, E8, [bl g14 5 (madeCells (cByte.enc 0) (m * 1))], [bl g15 31 #[(.int .i64 (((1 + tag.toNat % 15) : Nat) : Int)), (.slice (some ⟨g14, 0, none⟩) m m)]], E182, E17, E185, E186, [bl g194 31 (cPk.enc ((((1 + tag.toNat % 15) : Nat) : Int), (some ⟨g14, 0, none⟩), m, m))]] w := hH.unpad
                refine pxV (v := (.bool true)) (fun _ _ hF => opPickT rfl (hF.ev 1 rfl) (hF.ev 0 rfl)) rfl (fun _ _ => rfl) (kM [false, false] rfl rfl) (by decide) ?_
                refine pxV (v := (.bool true)) (fun _ _ hF => opAssign rfl (hF.ev 0 rfl)) rfl (fun _ _ => rfl) (kM [false] rfl rfl) (by decide) ?_
                refine pxEnd ?_
                refine qxThen ?_
                refine cxRet ?_
                refine qxRet1 0 rfl rfl ?_
                exact ⟨rfl, HH.toBelow hH⟩
            · refine cxSkip ?_
              refine qxInN ?_
              refine qxThen ?_
              refine cxSeq ?_
              have hp : prs [] (([(UInt8.ofNat (192 + (1 + tag.toNat % 15))), 255] ++ (beL 4 m)) ++ (List.replicate m 0)) = (0, [(((1 + tag.toNat % 15 : Nat) : Int), (List.replicate m 0))]) := form_new (by omega) (by omega) List.length_replicate hm
              have hfl : (([(UInt8.ofNat (192 + (1 + tag.toNat % 15))), 255] ++ (beL 4 m))).length ≤ 6 := by simp [beL_len]
              have hrl : (List.replicate m (0 : UInt8)).length = m := List.length_replicate
              refine cxReg ?_
              refine pxV (v := (.slice A23 (([(UInt8.ofNat (192 + (1 + tag.toNat % 15))), 255] ++ (beL 4 m)).length) c24)) (fun _ _ hF => opMove rfl (hF.ev 1 rfl)) rfl (fun _ _ => rfl) (kM [false, false, true, false] rfl rfl) (by decide) ?_
              refine pxV (v := (.pointer (some ⟨g15, 1, none⟩))) (fun _ _ hF => opField (off := 1) rfl (hF.ev 1 rfl) (by kernel_rfl)) rfl (fun _ _ => rfl) (kA rfl) (by decide) ?_
              refine pxS (v := (.slice (some ⟨g14, 0, none⟩) m m)) (fun w => w.heap[g15]? = some (.cells #[(.int .i64 (((1 + tag.toNat % 15) : Nat) : Int)), (.slice (some ⟨g14, 0, none⟩) m m)] 31 (0, 0))) (hH.blk 3 rfl) (fun _ _ hF hS => opLoadK hS rfl (hF.ev 0 rfl) (by kernel_rfl) rfl) rfl (fun _ _ => rfl) (kM [false, true, true] rfl rfl) (by decide) ?_
              refine pxE 4 hH rfl (fun _ hF => smAppT (C := cByte) (l := ([(UInt8.ofNat (192 + (1 + tag.toNat % 15))), 255] ++ (beL 4 m))) (m := (List.replicate m 0)) (e := 5) (z := (.int .u8 0)) (by_ := 1) rfl (by kernel_rfl) (by kernel_rfl) rfl (ltb rfl) (hF.ev 1 rfl) hO27 (hF.ev 0 rfl) List.length_replicate (fun h => by cases h) (by unfold maxLen; omega) (by omega)) ((Bk.make (C := cByte) 0 m (ltb rfl) (by unfold maxLen; omega)).vu (hH.blk 2 rfl) List.length_replicate) rfl (fun _ _ => rfl) (kM [false, false, true] rfl rfl) (by decide) ?_
              clear hH
              rintro v197 E198 w ⟨hO199, _⟩ hH
              replace hH : HH w0 [] [E2, E8, [bl g14 5 (madeCells (cByte.enc 0) (m * 1))], [bl g15 31 #[(.int .i64 (((1 + tag.toNat % 15) : Nat) : Int)), (.slice (some ⟨g14, 0, none⟩) m m)]], E198, E17] w := hH
              replace hO199 : OwnT cByte 5 v197 (([(UInt8.ofNat (192 + (1 + tag.toNat % 15))), 255] ++ (beL 4 m)) ++ (List.replicate m 0)) E198 := hO199
              obtain ⟨A195, c196, rfl⟩ := hO199.slice
              refine pxM hH (fun _ hF => Does.small (parse_c c196 A195 (([(UInt8.ofNat (192 + (1 + tag.toNat % 15))), 255] ++ (beL 4 m)) ++ (List.replicate m 0)) (by rw [List.length_append]; omega)) (fun w => opCall rfl Try.func14 rfl rfl (Evs.cons (v := (.slice A195 ((([(UInt8.ofNat (192 + (1 + tag.toNat % 15))), 255] ++ (beL 4 m)) ++ (List.replicate m 0)).length) c196)) (hF.ev 0 rfl) Evs.nil) w)) (hO199.vuAt (hH.has 4 rfl)) rfl (fun _ _ => rfl) (kM [false, true] rfl rfl) (by decide) ?_
              clear hH
              rintro _ _ w ⟨s200, rfl, L205, E201, E202, rfl, hO203, hB204⟩ hH
              replace hH : HH w0 [] [E2, E8, [bl g14 5 (madeCells (cByte.enc 0) (m * 1))], [bl g15 31 #[(.int .i64 (((1 + tag.toNat % 15) : Nat) : Int)), (.slice (some ⟨g14, 0, none⟩) m m)]], E198, E17, ([E201, E202] : List Hl).flatten] w := hH
              obtain ⟨A206, c207, rfl⟩ := hO203.slice
              replace hH : HH w0 [] [E2, E8, [bl g14 5 (madeCells (cByte.enc 0) (m * 1))], [bl g15 31 #[(.int .i64 (((1 + tag.toNat % 15) : Nat) : Int)), (.slice (some ⟨g14, 0, none⟩) m m)]], E198, E17, E201, E202] w := hH.cast (by simp)
              refine pxV (v := (.tuple #[(.slice A206 L205.length c207), (.int .i64 ((((prs [] (([(UInt8.ofNat (192 + (1 + tag.toNat % 15))), 255] ++ (beL 4 m)) ++ (List.replicate m 0))).1) : Nat) : Int))])) (fun _ _ hF => opMove rfl (hF.ev 0 rfl)) rfl (fun _ _ => rfl) (kM [false, true] rfl rfl) (by decide) ?_
              refine pxV (v := (.slice A206 L205.length c207)) (fun _ _ hF => opExtract rfl (hF.ev 0 rfl) rfl) rfl (fun _ _ => rfl) (kA rfl) (by decide) ?_
              refine pxV (v := (.int .i64 ((((prs [] (([(UInt8.ofNat (192 + (1 + tag.toNat % 15))), 255] ++ (beL 4 m)) ++ (List.replicate m 0))).1) : Nat) : Int))) (fun _ _ hF => opExtract rfl (hF.ev 1 rfl) rfl) rfl (fun _ _ => rfl) (kM [true, false, true] rfl rfl) (by decide) ?_
              refine pxV (v := (.slice A206 L205.length c207)) (fun _ _ hF => opAssign rfl (hF.ev 1 rfl)) rfl (fun _ _ => rfl) (kM [true, false, true] rfl rfl) (by decide) ?_
              refine pxV (v := (.int .i64 ((((prs [] (([(UInt8.ofNat (192 + (1 + tag.toNat % 15))), 255] ++ (beL 4 m)) ++ (List.replicate m 0))).1) : Nat) : Int))) (fun _ _ hF => opAssign rfl (hF.ev 1 rfl)) rfl (fun _ _ => rfl) (kM [true, false, true] rfl rfl) (by decide) ?_
              refine pxEnd ?_
              refine qxThen ?_
              refine cxSeq ?_
              refine cxReg ?_
              refine pxV (v := (.int .i64 ((((prs [] (([(UInt8.ofNat (192 + (1 + tag.toNat % 15))), 255] ++ (beL 4 m)) ++ (List.replicate m 0))).1) : Nat) : Int))) (fun _ _ hF => opMove rfl (hF.ev 0 rfl)) rfl (fun _ _ => rfl) (kM [false, true, true] rfl rfl) (by decide) ?_
              refine pxV (v := (.bool true)) (fun _ _ hF => opEqI rfl (hF.ev 0 rfl) rfl (decide_eq_true (by rw [hp]; rfl))) rfl (fun _ _ => rfl) (kM [false, true, true] rfl rfl) (by decide) ?_
              refine pxV (v := (.bool true)) (fun _ _ hF => opMove rfl (hF.ev 0 rfl)) rfl (fun _ _ => rfl) (kM [false, true, true] rfl rfl) (by decide) ?_
              refine pxV (v := (.slice A206 L205.length c207)) (fun _ _ hF => opMove rfl (hF.ev 1 rfl)) rfl (gOn 0 rfl rfl rfl (by decide)) (kM [true, false, true] rfl rfl) (by decide) ?_
              refine pxS (v := (.agg #[(.int .i64 (((1 + tag.toNat % 15) : Nat) : Int)), (.slice (some ⟨g14, 0, none⟩) m m)])) (fun w => w.heap[g15]? = some (.cells #[(.int .i64 (((1 + tag.toNat % 15) : Nat) : Int)), (.slice (some ⟨g14, 0, none⟩) m m)] 31 (0, 0))) (hH.blk 3 rfl) (fun _ _ hF hS => opLoadKR (k := 2) hS rfl (hF.ev 2 rfl) (by kernel_rfl) rfl (by kernel_rfl) rfl) rfl (gOn 1 rfl rfl rfl (by decide)) (kM [true, true, false] rfl rfl) (by decide) ?_
              refine pxM hH (fun _ hF => smLit1 (e := 31) (sz := 2) (z := (cPk.val (0, none, 0, 0))) (by_ := 32) (cs := cPk.enc ((((1 + tag.toNat % 15) : Nat) : Int), (some ⟨g14, 0, none⟩), m, m)) rfl (by kernel_rfl) (by kernel_rfl) ((hF.ev 0 rfl).trans (cPk_val (((1 + tag.toNat % 15) : Nat) : Int) (some ⟨g14, 0, none⟩) m m)) (cPk.len ((((1 + tag.toNat % 15) : Nat) : Int), (some ⟨g14, 0, none⟩), m, m)) (ltb rfl) (leb rfl) rfl) trivial rfl (gOn 2 rfl rfl rfl (by decide)) (kM [false, true, true] rfl rfl) (by decide) ?_
              clear hH
              rintro _ _ w ⟨g210, rfl, rfl⟩ hH
              replace hH : HH w0 [] [E2, E8, [bl g14 5 (madeCells (cByte.enc 0) (m * 1))], [bl g15 31 #[(.int .i64 (((1 + tag.toNat % 15) : Nat) : Int)), (.slice (some ⟨g14, 0, none⟩) m m)]], E198, E17, E201, E202, [bl g210 31 (cPk.enc ((((1 + tag.toNat % 15) : Nat) : Int), (some ⟨g14, 0, none⟩), m, m))]] w := hH
              refine pxM hH (fun _ hF => Does.small ((Pure.as (v := (.bool true)) (same_c L205 ([((((1 + tag.toNat % 15) : Nat) : Int), (some ⟨g14, 0, none⟩), m, m)]) ((prs [] (([(UInt8.ofNat (192 + (1 + tag.toNat % 15))), 255] ++ (beL 4 m)) ++ (List.replicate m 0))).2) ([(((1 + tag.toNat % 15 : Nat) : Int), List.replicate m 0)]) A206 (some ⟨g210, 0, none⟩) c207 1 (by rw [hB204.len, hp]; exact (by decide : (1 : Nat) ≤ 140737488355328))) (congrArg Value.bool (decide_eq_true (by rw [hp])))).does) (fun w => opCall rfl Try.func15 rfl rfl (Evs.cons (v := (.slice A206 L205.length c207)) (hF.ev 1 rfl) (Evs.cons (v := (.slice (some ⟨g210, 0, none⟩) 1 1)) (hF.ev 0 rfl) Evs.nil)) w)) ⟨(hO203.vuAt (hH.has 6 rfl)), (hB204.beh (hH.has 7 rfl)), ((Bk.lit1 (C := cPk) ((((1 + tag.toNat % 15) : Nat) : Int), (some ⟨g14, 0, none⟩), m, m)).vu (hH.blk 8 rfl) rfl), (beh_rep ((Bk.make (C := cByte) 0 m (ltb rfl) (by unfold maxLen; omega)).vu (hH.blk 2 rfl) List.length_replicate))⟩ rfl (gOn 2 rfl rfl rfl (by decide)) (kM [false, false, true] rfl rfl) (by decide) ?_
              clear hH
              rintro _ _ w ⟨rfl, rfl⟩ hH
              replace hH : HH w0 [] [E2, E8, [bl g14 5 (madeCells (cByte.enc 0) (m * 1))], [bl g15 31 #[(.int .i64 (((1 + tag.toNat % 15) : Nat) : Int)), (.slice (some ⟨g14, 0, none⟩) m m)]], E198, E17, E201, E202, [bl g210 31 (cPk.enc ((((1 + tag.toNat % 15) : Nat) : Int), (some ⟨g14, 0, none⟩), m, m))]] w := hH.unpad
              refine pxV (v := (.bool true)) (fun _ _ hF => opPickT rfl (hF.ev 1 rfl) (hF.ev 0 rfl)) rfl (fun _ _ => rfl) (kM [false, false] rfl rfl) (by decide) ?_
              refine pxV (v := (.bool true)) (fun _ _ hF => opAssign rfl (hF.ev 0 rfl)) rfl (fun _ _ => rfl) (kM [false] rfl rfl) (by decide) ?_
              refine pxEnd ?_
              refine qxThen ?_
              refine cxRet ?_
              refine qxRet1 0 rfl rfl ?_
              exact ⟨rfl, HH.toBelow hH⟩
    · refine moM rfl hH (fun _ hF => Does.small (bytes_r m 4 (leb rfl)) (fun w => opCall rfl Try.func19 rfl rfl (Evs.cons (v := (.int .u64 (((m) : Nat) : Int))) (hF.ev 0 rfl) (Evs.cons (v := (.int .i64 4)) rfl Evs.nil)) w)) trivial rfl (fun _ _ => rfl) (kM [false, true, true, true, true] rfl rfl) (by decide) (PendOk.keep (PendOk.nil _ [])) ?_
      clear hH
      rintro v215 E211 w hO212 hH
      replace hH : HH w0 [] [E2, E8, [bl g14 5 (madeCells (cByte.enc 0) (m * 1))], [bl g15 31 #[(.int .i64 (((1 + tag.toNat % 15) : Nat) : Int)), (.slice (some ⟨g14, 0, none⟩) m m)]], E211] w := hH
      obtain ⟨A213, c214, rfl⟩ := hO212.slice
      refine ⟨(by
        intro s hs
        simp only [List.mem_cons, List.not_mem_nil, or_false] at hs
        rcases hs with rfl
        · exact (hH.blk 3 rfl)
        ), ?_⟩
      refine rx1 4 (by kernel_rfl) ?_
      refine moM rfl hH (fun _ hF => smLits (C := cByte) (e := 5) (z := (.int .u8 0)) (by_ := 1) [(UInt8.ofNat (192 + (1 + tag.toNat % 15))), 255] rfl (by kernel_rfl) (by kernel_rfl) (EvP.cons (v := cByte.val (UInt8.ofNat (192 + (1 + tag.toNat % 15)))) (hF.ev 1 rfl) (EvP.cons (v := cByte.val 255) rfl EvP.nil)) rfl (ltb rfl) (leb rfl) rfl) trivial rfl (fun _ _ => rfl) (kM [true, false, true, true, true] rfl rfl) (by decide) (PendOk.go [3, 2] (by kernel_rfl) (PendOk.nil _ [])) ?_
      clear hH
      rintro _ _ w ⟨g217, rfl, rfl⟩ hH
      replace hH : HH w0 [] [E2, E8, [bl g14 5 (madeCells (cByte.enc 0) (m * 1))], [bl g15 31 #[(.int .i64 (((1 + tag.toNat % 15) : Nat) : Int)), (.slice (some ⟨g14, 0, none⟩) m m)]], E211, [bl g217 5 (flat cByte [(UInt8.ofNat (192 + (1 + tag.toNat % 15))), 255]).toArray]] w := hH
      refine ⟨(fun _ hs => by cases hs), ?_⟩
      refine rx1 8 (by kernel_rfl) ?_
      refine moE 5 rfl hH rfl (fun _ hF => smAppT (C := cByte) (l := [(UInt8.ofNat (192 + (1 + tag.toNat % 15))), 255]) (m := (beL 4 m)) (e := 5) (z := (.int .u8 0)) (by_ := 1) rfl (by kernel_rfl) (by kernel_rfl) rfl (ltb rfl) (hF.ev 0 rfl) ((Bk.lits (C := cByte) [(UInt8.ofNat (192 + (1 + tag.toNat % 15))), 255] (by show 2 ≤ _; unfold maxLen; decide)).own 5 g217 rfl) (hF.ev 1 rfl) rfl hO212.nilA (by rw [beL_len]; simp only [List.length_cons, List.length_nil]; unfold maxLen; omega) (by rw [beL_len]; simp only [List.length_cons, List.length_nil]; omega)) (hO212.vuAt (hH.has 4 rfl)) rfl (fun _ _ => rfl) (kM [false, false, true, true, true] rfl rfl) (by decide) (PendOk.nil _ []) ?_
      clear hH
      rintro v220 E221 w ⟨hO222, _⟩ hH
      replace hH : HH w0 [] [E2, E8, [bl g14 5 (madeCells (cByte.enc 0) (m * 1))], [bl g15 31 #[(.int .i64 (((1 + tag.toNat % 15) : Nat) : Int)), (.slice (some ⟨g14, 0, none⟩) m m)]], E211, E221] w := hH
      replace hO222 : OwnT cByte 5 v220 ([(UInt8.ofNat (192 + (1 + tag.toNat % 15))), 255] ++ (beL 4 m)) E221 := hO222
      obtain ⟨A218, c219, rfl⟩ := hO222.slice
      refine ⟨(fun _ hs => by cases hs), ?_⟩
      refine rxV 9 rfl (by kernel_rfl) rfl (fun _ _ => rfl) (fun _ _ hF => opAssign rfl (hF.ev 0 rfl)) (kM [false, true, true, true] rfl rfl) (by decide) (v := (.slice A218 (([(UInt8.ofNat (192 + (1 + tag.toNat % 15))), 255] ++ (beL 4 m)).length) c219)) ?_
      refine rxEnd (by kernel_rfl) ?_
      refine qxThen ?_
      refine cxSeq ?_
      refine cxSeq ?_
      refine cxReg ?_
      refine pxV (v := (.int .u8 (((form.toNat) : Nat) : Int))) (fun _ _ hF => opMove rfl (hF.ev 3 rfl)) rfl (fun _ _ => rfl) (kM [true, true, true, false] rfl rfl) (by decide) ?_
      refine pxV (v := (.int .u8 (((form.toNat % 5) : Nat) : Int))) (fun _ _ hF => opRem (z := ((form.toNat % 5 : Nat) : Int)) rfl (hF.ev 0 rfl) rfl (by omega) remN) rfl (fun _ _ => rfl) (kM [false, true, true, true] rfl rfl) (by decide) ?_
      refine pxEnd ?_
      refine qxThen ?_
      refine cxBlock ?_
      refine cxSeq ?_
      refine cxReg ?_
      refine pxV (v := (.bool (decide (form.toNat % 5 = 1)))) (fun _ _ hF => opEqI rfl (hF.ev 0 rfl) rfl (dc (by omega))) rfl (fun _ _ => rfl) (kA rfl) (by decide) ?_
      refine pxV (v := (.bool (decide (form.toNat % 5 = 1)))) (fun _ _ hF => opAssign rfl (hF.ev 0 rfl)) rfl (fun _ _ => rfl) (kM [false, true, true, true, true] rfl rfl) (by decide) ?_
      refine pxEnd ?_
      refine qxThen ?_
      refine cxP 0 rfl rfl (fun hc223 => ?_) (fun hc223 => ?_)
      · refine cxRegX mixedOrders (by kernel_rfl) ?_
        replace hH := hH.drew
        refine rxV 0 rfl (by kernel_rfl) rfl (fun _ _ => rfl) (fun _ _ hF => opField (off := 0) rfl (hF.ev 3 rfl) (by kernel_rfl)) (kM [false, false, true, true, true] rfl rfl) (by decide) (v := (.pointer (some ⟨g15, 0, none⟩))) ?_
        refine rxS (fun w => w.heap[g15]? = some (.cells #[(.int .i64 (((1 + tag.toNat % 15) : Nat) : Int)), (.slice (some ⟨g14, 0, none⟩) m m)] 31 (0, 0))) 1 rfl (by kernel_rfl) rfl (fun _ _ => rfl) (hH.blk 3 rfl) (fun _ _ hF hS => opLoadK hS rfl (hF.ev 0 rfl) (by kernel_rfl) rfl) (kM [false, true, true, true] rfl rfl) (by decide) (v := (.int .i64 (((1 + tag.toNat % 15) : Nat) : Int))) ?_
        refine rxV 2 rfl (by kernel_rfl) rfl (fun _ _ => rfl) (fun _ _ hF => opMul rfl rfl (hF.ev 0 rfl) (wI rfl (by omega) (by omega))) (kM [false, true, true, true] rfl rfl) (by decide) (v := (.int .i64 (((4 * (1 + tag.toNat % 15)) : Nat) : Int))) ?_
        refine rxV 3 rfl (by kernel_rfl) rfl (fun _ _ => rfl) (fun _ _ hF => opAdd rfl rfl (hF.ev 0 rfl) (wI rfl (by omega) (by omega))) (kM [false, true, true, true] rfl rfl) (by decide) (v := (.int .i64 (((128 + 4 * (1 + tag.toNat % 15)) : Nat) : Int))) ?_
        refine rxV 4 rfl (by kernel_rfl) rfl (fun _ _ => rfl) (fun _ _ hF => opAdd rfl (hF.ev 0 rfl) rfl (wI rfl (by omega) (by omega))) (kM [false, true, true, true] rfl rfl) (by decide) (v := (.int .i64 (((128 + 4 * (1 + tag.toNat % 15) + 2) : Nat) : Int))) ?_
        refine rxV 5 rfl (by kernel_rfl) rfl (fun _ _ => rfl) (fun _ _ hF => opConvU (k' := .u8) rfl rfl (by kernel_rfl) (by kernel_rfl) (hF.ev 0 rfl) (UInt8.toNat_ofNat' (n := 128 + 4 * (1 + tag.toNat % 15) + 2)).symm) (kM [false, true, true, true] rfl rfl) (by decide) (v := (.int .u8 ((((UInt8.ofNat (128 + 4 * (1 + tag.toNat % 15) + 2)).toNat) : Nat) : Int))) ?_
        refine rxV 7 rfl (by kernel_rfl) rfl (fun _ _ => rfl) (fun _ _ hF => opMove rfl (hF.ev 3 rfl)) (kM [true, true, true, false] rfl rfl) (by decide) (v := (.int .i64 (((m) : Nat) : Int))) ?_
        refine rxV 8 rfl (by kernel_rfl) rfl (fun _ _ => rfl) (fun _ _ hF => opConvU (k' := .u64) rfl rfl (by kernel_rfl) (by kernel_rfl) (hF.ev 0 rfl) (Nat.mod_eq_of_lt (by show _ < 18446744073709551616; omega))) (kM [false, true, true, true] rfl rfl) (by decide) (v := (.int .u64 (((m) : Nat) : Int))) ?_
        refine rx2 6 9 (by kernel_rfl) ?_ ?_
        · refine moM rfl hH (fun _ hF => smLit1 (e := 5) (sz := 1) (z := (.int .u8 0)) (by_ := 1) (cs := cByte.enc (UInt8.ofNat (128 + 4 * (1 + tag.toNat % 15) + 2))) rfl (by kernel_rfl) (by kernel_rfl) (hF.ev 1 rfl) (cByte.len (UInt8.ofNat (128 + 4 * (1 + tag.toNat % 15) + 2))) (ltb rfl) (leb rfl) rfl) trivial rfl (fun _ _ => rfl) (kM [true, false, true, true] rfl rfl) (by decide) (PendOk.go [5, 4, 3, 2] (by kernel_rfl) (PendOk.nil _ [])) ?_
          clear hH
          rintro _ _ w ⟨g224, rfl, rfl⟩ hH
          replace hH : HH w0 [] [E2, E8, [bl g14 5 (madeCells (cByte.enc 0) (m * 1))], [bl g15 31 #[(.int .i64 (((1 + tag.toNat % 15) : Nat) : Int)), (.slice (some ⟨g14, 0, none⟩) m m)]], E211, E221, [bl g224 5 (cByte.enc (UInt8.ofNat (128 + 4 * (1 + tag.toNat % 15) + 2)))]] w := hH
          refine ⟨(fun _ hs => by cases hs), ?_⟩
          refine rx1 9 (by kernel_rfl) ?_
          refine moM rfl hH (fun _ hF => Does.small (bytes_r m 4 (leb rfl)) (fun w => opCall rfl Try.func19 rfl rfl (Evs.cons (v := (.int .u64 (((m) : Nat) : Int))) (hF.ev 1 rfl) (Evs.cons (v := (.int .i64 4)) rfl Evs.nil)) w)) trivial rfl (fun _ _ => rfl) (kM [true, false, true, true] rfl rfl) (by decide) (PendOk.nil _ []) ?_
          clear hH
          rintro v229 E225 w hO226 hH
          replace hH : HH w0 [] [E2, E8, [bl g14 5 (madeCells (cByte.enc 0) (m * 1))], [bl g15 31 #[(.int .i64 (((1 + tag.toNat % 15) : Nat) : Int)), (.slice (some ⟨g14, 0, none⟩) m m)]], E211, E221, [bl g224 5 (cByte.enc (UInt8.ofNat (128 + 4 * (1 + tag.toNat % 15) + 2)))], E225] w := hH
          obtain ⟨A227, c228, rfl⟩ := hO226.slice
          refine ⟨(fun _ hs => by cases hs), ?_⟩
          refine rx1 10 (by kernel_rfl) ?_
          refine moE 6 rfl hH rfl (fun _ hF => smAppT (C := cByte) (l := [(UInt8.ofNat (128 + 4 * (1 + tag.toNat % 15) + 2))]) (m := (beL 4 m)) (e := 5) (z := (.int .u8 0)) (by_ := 1) rfl (by kernel_rfl) (by kernel_rfl) rfl (ltb rfl) (hF.ev 1 rfl) ((Bk.lit1 (C := cByte) (UInt8.ofNat (128 + 4 * (1 + tag.toNat % 15) + 2))).own 5 g224 rfl) (hF.ev 0 rfl) rfl hO226.nilA (by rw [beL_len]; simp only [List.length_cons, List.length_nil]; unfold maxLen; omega) (by rw [beL_len]; simp only [List.length_cons, List.length_nil]; omega)) (hO226.vuAt (hH.has 7 rfl)) rfl (fun _ _ => rfl) (kM [false, false, true, true] rfl rfl) (by decide) (PendOk.nil _ []) ?_
          clear hH
          rintro v233 E234 w ⟨hO235, _⟩ hH
          replace hH : HH w0 [] [E2, E8, [bl g14 5 (madeCells (cByte.enc 0) (m * 1))], [bl g15 31 #[(.int .i64 (((1 + tag.toNat % 15) : Nat) : Int)), (.slice (some ⟨g14, 0, none⟩) m m)]], E211, E221, E234, E225] w := hH
          replace hO235 : OwnT cByte 5 v233 ([(UInt8.ofNat (128 + 4 * (1 + tag.toNat % 15) + 2))] ++ (beL 4 m)) E234 := hO235
          obtain ⟨A231, c232, rfl⟩ := hO235.slice
          refine ⟨(fun _ hs => by cases hs), ?_⟩
          refine rxV 11 rfl (by kernel_rfl) rfl (fun _ _ => rfl) (fun _ _ hF => opAssign rfl (hF.ev 0 rfl)) (kM [false, false, true] rfl rfl) (by decide) (v := (.slice A231 (([(UInt8.ofNat (128 + 4 * (1 + tag.toNat % 15) + 2))] ++ (beL 4 m)).length) c232)) ?_
          refine rxEnd (by kernel_rfl) ?_
          refine qxInN ?_
          refine qxThen ?_
          refine cxSeq ?_
          have hp : prs [] (([(UInt8.ofNat (128 + 4 * (1 + tag.toNat % 15) + 2))] ++ (beL 4 m)) ++ (List.replicate m 0)) = (0, [(((1 + tag.toNat % 15 : Nat) : Int), (List.replicate m 0))]) := form_old (k := 2) (by omega) (by omega) (by decide) List.length_replicate hm (Nat.lt_of_le_of_lt hm (by decide))
          have hfl : (([(UInt8.ofNat (128 + 4 * (1 + tag.toNat % 15) + 2))] ++ (beL 4 m))).length ≤ 6 := by simp [beL_len]
          have hrl : (List.replicate m (0 : UInt8)).length = m := List.length_replicate
          refine cxReg ?_
          refine pxV (v := (.slice A231 (([(UInt8.ofNat (128 + 4 * (1 + tag.toNat % 15) + 2))] ++ (beL 4 m)).length) c232)) (fun _ _ hF => opMove rfl (hF.ev 0 rfl)) rfl (fun _ _ => rfl) (kM [false, true] rfl rfl) (by decide) ?_
          refine pxV (v := (.pointer (some ⟨g15, 1, none⟩))) (fun _ _ hF => opField (off := 1) rfl (hF.ev 1 rfl) (by kernel_rfl)) rfl (fun _ _ => rfl) (kA rfl) (by decide) ?_
          refine pxS (v := (.slice (some ⟨g14, 0, none⟩) m m)) (fun w => w.heap[g15]? = some (.cells #[(.int .i64 (((1 + tag.toNat % 15) : Nat) : Int)), (.slice (some ⟨g14, 0, none⟩) m m)] 31 (0, 0))) (hH.blk 3 rfl) (fun _ _ hF hS => opLoadK hS rfl (hF.ev 0 rfl) (by kernel_rfl) rfl) rfl (fun _ _ => rfl) (kM [false, true, true] rfl rfl) (by decide) ?_
          refine pxE 6 hH rfl (fun _ hF => smAppT (C := cByte) (l := ([(UInt8.ofNat (128 + 4 * (1 + tag.toNat % 15) + 2))] ++ (beL 4 m))) (m := (List.replicate m 0)) (e := 5) (z := (.int .u8 0)) (by_ := 1) rfl (by kernel_rfl) (by kernel_rfl) rfl (ltb rfl) (hF.ev 1 rfl) hO235 (hF.ev 0 rfl) List.length_replicate (fun h => by cases h) (by unfold maxLen; omega) (by omega)) ((Bk.make (C := cByte) 0 m (ltb rfl) (by unfold maxLen; omega)).vu (hH.blk 2 rfl) List.length_replicate) rfl (fun _ _ => rfl) (kM [false, false, true] rfl rfl) (by decide) ?_
          clear hH
          rintro v238 E239 w ⟨hO240, _⟩ hH
          replace hH : HH w0 [] [E2, E8, [bl g14 5 (madeCells (cByte.enc 0) (m * 1))], [bl g15 31 #[(.int .i64 (((1 + tag.toNat % 15) : Nat) : Int)), (.slice (some ⟨g14, 0, none⟩) m m)]], E211, E221, E239, E225] w := hH
          replace hO240 : OwnT cByte 5 v238 (([(UInt8.ofNat (128 + 4 * (1 + tag.toNat % 15) + 2))] ++ (beL 4 m)) ++ (List.replicate m 0)) E239 := hO240
          obtain ⟨A236, c237, rfl⟩ := hO240.slice
          refine pxM hH (fun _ hF => Does.small (parse_c c237 A236 (([(UInt8.ofNat (128 + 4 * (1 + tag.toNat % 15) + 2))] ++ (beL 4 m)) ++ (List.replicate m 0)) (by rw [List.length_append]; omega)) (fun w => opCall rfl Try.func14 rfl rfl (Evs.cons (v := (.slice A236 ((([(UInt8.ofNat (128 + 4 * (1 + tag.toNat % 15) + 2))] ++ (beL 4 m)) ++ (List.replicate m 0)).length) c237)) (hF.ev 0 rfl) Evs.nil) w)) (hO240.vuAt (hH.has 6 rfl)) rfl (fun _ _ => rfl) (kM [false, true] rfl rfl) (by decide) ?_
          clear hH
          rintro _ _ w ⟨s241, rfl, L246, E242, E243, rfl, hO244, hB245⟩ hH
          replace hH : HH w0 [] [E2, E8, [bl g14 5 (madeCells (cByte.enc 0) (m * 1))], [bl g15 31 #[(.int .i64 (((1 + tag.toNat % 15) : Nat) : Int)), (.slice (some ⟨g14, 0, none⟩) m m)]], E211, E221, E239, E225, ([E242, E243] : List Hl).flatten] w := hH
          obtain ⟨A247, c248, rfl⟩ := hO244.slice
          replace hH : HH w0 [] [E2, E8, [bl g14 5 (madeCells (cByte.enc 0) (m * 1))], [bl g15 31 #[(.int .i64 (((1 + tag.toNat % 15) : Nat) : Int)), (.slice (some ⟨g14, 0, none⟩) m m)]], E211, E221, E239, E225, E242, E243] w := hH.cast (by simp)
          refine pxV (v := (.tuple #[(.slice A247 L246.length c248), (.int .i64 ((((prs [] (([(UInt8.ofNat (128 + 4 * (1 + tag.toNat % 15) + 2))] ++ (beL 4 m)) ++ (List.replicate m 0))).1) : Nat) : Int))])) (fun _ _ hF => opMove rfl (hF.ev 0 rfl)) rfl (fun _ _ => rfl) (kM [false, true] rfl rfl) (by decide) ?_
          refine pxV (v := (.slice A247 L246.length c248)) (fun _ _ hF => opExtract rfl (hF.ev 0 rfl) rfl) rfl (fun _ _ => rfl) (kA rfl) (by decide) ?_
          refine pxV (v := (.int .i64 ((((prs [] (([(UInt8.ofNat (128 + 4 * (1 + tag.toNat % 15) + 2))] ++ (beL 4 m)) ++ (List.replicate m 0))).1) : Nat) : Int))) (fun _ _ hF => opExtract rfl (hF.ev 1 rfl) rfl) rfl (fun _ _ => rfl) (kM [true, false, true] rfl rfl) (by decide) ?_
          refine pxV (v := (.slice A247 L246.length c248)) (fun _ _ hF => opAssign rfl (hF.ev 1 rfl)) rfl (fun _ _ => rfl) (kM [true, false, true] rfl rfl) (by decide) ?_
          refine pxV (v := (.int .i64 ((((prs [] (([(UInt8.ofNat (128 + 4 * (1 + tag.toNat % 15) + 2))] ++ (beL 4 m)) ++ (List.replicate m 0))).1) : Nat) : Int))) (fun _ _ hF => opAssign rfl (hF.ev 1 rfl)) rfl (fun _ _ => rfl) (kM [true, false, true] rfl rfl) (by decide) ?_
          refine pxEnd ?_
          refine qxThen ?_
          refine cxSeq ?_
          refine cxReg ?_
          refine pxV (v := (.int .i64 ((((prs [] (([(UInt8.ofNat (128 + 4 * (1 + tag.toNat % 15) + 2))] ++ (beL 4 m)) ++ (List.replicate m 0))).1) : Nat) : Int))) (fun _ _ hF => opMove rfl (hF.ev 0 rfl)) rfl (fun _ _ => rfl) (kM [false, true, true] rfl rfl) (by decide) ?_
          refine pxV (v := (.bool true)) (fun _ _ hF => opEqI rfl (hF.ev 0 rfl) rfl (decide_eq_true (by rw [hp]; rfl))) rfl (fun _ _ => rfl) (kM [false, true, true] rfl rfl) (by decide) ?_
          refine pxV (v := (.bool true)) (fun _ _ hF => opMove rfl (hF.ev 0 rfl)) rfl (fun _ _ => rfl) (kM [false, true, true] rfl rfl) (by decide) ?_
          refine pxV (v := (.slice A247 L246.length c248)) (fun _ _ hF => opMove rfl (hF.ev 1 rfl)) rfl (gOn 0 rfl rfl rfl (by decide)) (kM [true, false, true] rfl rfl) (by decide) ?_
          refine pxS (v := (.agg #[(.int .i64 (((1 + tag.toNat % 15) : Nat) : Int)), (.slice (some ⟨g14, 0, none⟩) m m)])) (fun w => w.heap[g15]? = some (.cells #[(.int .i64 (((1 + tag.toNat % 15) : Nat) : Int)), (.slice (some ⟨g14, 0, none⟩) m m)] 31 (0, 0))) (hH.blk 3 rfl) (fun _ _ hF hS => opLoadKR (k := 2) hS rfl (hF.ev 2 rfl) (by kernel_rfl) rfl (by kernel_rfl) rfl) rfl (gOn 1 rfl rfl rfl (by decide)) (kM [true, true, false] rfl rfl) (by decide) ?_
          refine pxM hH (fun _ hF => smLit1 (e := 31) (sz := 2) (z := (cPk.val (0, none, 0, 0))) (by_ := 32) (cs := cPk.enc ((((1 + tag.toNat % 15) : Nat) : Int), (some ⟨g14, 0, none⟩), m, m)) rfl (by kernel_rfl) (by kernel_rfl) ((hF.ev 0 rfl).trans (cPk_val (((1 + tag.toNat % 15) : Nat) : Int) (some ⟨g14, 0, none⟩) m m)) (cPk.len ((((1 + tag.toNat % 15) : Nat) : Int), (some ⟨g14, 0, none⟩), m, m)) (ltb rfl) (leb rfl) rfl) trivial rfl (gOn 2 rfl rfl rfl (by decide)) (kM [false, true, true] rfl rfl) (by decide) ?_
          clear hH
          rintro _ _ w ⟨g251, rfl, rfl⟩ hH
          replace hH : HH w0 [] [E2, E8, [bl g14 5 (madeCells (cByte.enc 0) (m * 1))], [bl g15 31 #[(.int .i64 (((1 + tag.toNat % 15) : Nat) : Int)), (.slice (some ⟨g14, 0, none⟩) m m)]], E211, E221, E239, E225, E242, E243, [bl g251 31 (cPk.enc ((((1 + tag.toNat % 15) : Nat) : Int), (some ⟨g14, 0, none⟩), m, m))]] w := hH
          refine pxM hH (fun _ hF => Does.small ((Pure.as (v := (.bool true)) (same_c L246 ([((((1 + tag.toNat % 15) : Nat) : Int), (some ⟨g14, 0, none⟩), m, m)]) ((prs [] (([(UInt8.ofNat (128 + 4 * (1 + tag.toNat % 15) + 2))] ++ (beL 4 m)) ++ (List.replicate m 0))).2) ([(((1 + tag.toNat % 15 : Nat) : Int), List.replicate m 0)]) A247 (some ⟨g251, 0, none⟩) c248 1 (by rw [hB245.len, hp]; exact (by decide : (1 : Nat) ≤ 140737488355328))) (congrArg Value.bool (decide_eq_true (by rw [hp])))).does) (fun w => opCall rfl Try.func15 rfl rfl (Evs.cons (v := (.slice A247 L246.length c248)) (hF.ev 1 rfl) (Evs.cons (v := (.slice (some ⟨g251, 0, none⟩) 1 1)) (hF.ev 0 rfl) Evs.nil)) w)) ⟨(hO244.vuAt (hH.has 8 rfl)), (hB245.beh (hH.has 9 rfl)), ((Bk.lit1 (C := cPk) ((((1 + tag.toNat % 15) : Nat) : Int), (some ⟨g14, 0, none⟩), m, m)).vu (hH.blk 10 rfl) rfl), (beh_rep ((Bk.make (C := cByte) 0 m (ltb rfl) (by unfold maxLen; omega)).vu (hH.blk 2 rfl) List.length_replicate))⟩ rfl (gOn 2 rfl rfl rfl (by decide)) (kM [false, false, true] rfl rfl) (by decide) ?_
          clear hH
          rintro _ _ w ⟨rfl, rfl⟩ hH
          replace hH : HH w0 [] [E2, E8, [bl g14 5 (madeCells (cByte.enc 0) (m * 1))], [bl g15 31 #[(.int .i64 (((1 + tag.toNat % 15) : Nat) : Int)), (.slice (some ⟨g14, 0, none⟩) m m)]], E211, E221, E239, E225, E242, E243, [bl g251 31 (cPk.enc ((((1 + tag.toNat % 15) : Nat) : Int), (some ⟨g14, 0, none⟩), m, m))]] w := hH.unpad
          refine pxV (v := (.bool true)) (fun _ _ hF => opPickT rfl (hF.ev 1 rfl) (hF.ev 0 rfl)) rfl (fun _ _ => rfl) (kM [false, false] rfl rfl) (by decide) ?_
          refine pxV (v := (.bool true)) (fun _ _ hF => opAssign rfl (hF.ev 0 rfl)) rfl (fun _ _ => rfl) (kM [false] rfl rfl) (by decide) ?_
          refine pxEnd ?_
          refine qxThen ?_
          refine cxRet ?_
          refine qxRet1 0 rfl rfl ?_
          exact ⟨rfl, HH.toBelow hH⟩
        · refine moM rfl hH (fun _ hF => Does.small (bytes_r m 4 (leb rfl)) (fun w => opCall rfl Try.func19 rfl rfl (Evs.cons (v := (.int .u64 (((m) : Nat) : Int))) (hF.ev 0 rfl) (Evs.cons (v := (.int .i64 4)) rfl Evs.nil)) w)) trivial rfl (fun _ _ => rfl) (kM [false, true, true, true] rfl rfl) (by decide) (PendOk.keep (PendOk.nil _ [])) ?_
          clear hH
          rintro v256 E252 w hO253 hH
          replace hH : HH w0 [] [E2, E8, [bl g14 5 (madeCells (cByte.enc 0) (m * 1))], [bl g15 31 #[(.int .i64 (((1 + tag.toNat % 15) : Nat) : Int)), (.slice (some ⟨g14, 0, none⟩) m m)]], E211, E221, E252] w := hH
          obtain ⟨A254, c255, rfl⟩ := hO253.slice
          refine ⟨(by
            intro s hs
            simp only [List.mem_cons, List.not_mem_nil, or_false] at hs
            rcases hs with rfl
            · exact (hH.blk 3 rfl)
            ), ?_⟩
          refine rx1 6 (by kernel_rfl) ?_
          refine moM rfl hH (fun _ hF => smLit1 (e := 5) (sz := 1) (z := (.int .u8 0)) (by_ := 1) (cs := cByte.enc (UInt8.ofNat (128 + 4 * (1 + tag.toNat % 15) + 2))) rfl (by kernel_rfl) (by kernel_rfl) (hF.ev 1 rfl) (cByte.len (UInt8.ofNat (128 + 4 * (1 + tag.toNat % 15) + 2))) (ltb rfl) (leb rfl) rfl) trivial rfl (fun _ _ => rfl) (kM [true, false, true, true] rfl rfl) (by decide) (PendOk.go [5, 4, 3, 2] (by kernel_rfl) (PendOk.nil _ [])) ?_
          clear hH
          rintro _ _ w ⟨g258, rfl, rfl⟩ hH
          replace hH : HH w0 [] [E2, E8, [bl g14 5 (madeCells (cByte.enc 0) (m * 1))], [bl g15 31 #[(.int .i64 (((1 + tag.toNat % 15) : Nat) : Int)), (.slice (some ⟨g14, 0, none⟩) m m)]], E211, E221, E252, [bl g258 5 (cByte.enc (UInt8.ofNat (128 + 4 * (1 + tag.toNat % 15) + 2)))]] w := hH
          refine ⟨(fun _ hs => by cases hs), ?_⟩
          refine rx1 10 (by kernel_rfl) ?_
          refine moE 7 rfl hH rfl (fun _ hF => smAppT (C := cByte) (l := [(UInt8.ofNat (128 + 4 * (1 + tag.toNat % 15) + 2))]) (m := (beL 4 m)) (e := 5) (z := (.int .u8 0)) (by_ := 1) rfl (by kernel_rfl) (by kernel_rfl) rfl (ltb rfl) (hF.ev 0 rfl) ((Bk.lit1 (C := cByte) (UInt8.ofNat (128 + 4 * (1 + tag.toNat % 15) + 2))).own 5 g258 rfl) (hF.ev 1 rfl) rfl hO253.nilA (by rw [beL_len]; simp only [List.length_cons, List.length_nil]; unfold maxLen; omega) (by rw [beL_len]; simp only [List.length_cons, List.length_nil]; omega)) (hO253.vuAt (hH.has 6 rfl)) rfl (fun _ _ => rfl) (kM [false, false, true, true] rfl rfl) (by decide) (PendOk.nil _ []) ?_
          clear hH
          rintro v261 E262 w ⟨hO263, _⟩ hH
          replace hH : HH w0 [] [E2, E8, [bl g14 5 (madeCells (cByte.enc 0) (m * 1))], [bl g15 31 #[(.int .i64 (((1 + tag.toNat % 15) : Nat) : Int)), (.slice (some ⟨g14, 0, none⟩) m m)]], E211, E221, E252, E262] w := hH
          replace hO263 : OwnT cByte 5 v261 ([(UInt8.ofNat (128 + 4 * (1 + tag.toNat % 15) + 2))] ++ (beL 4 m)) E262 := hO263
          obtain ⟨A259, c260, rfl⟩ := hO263.slice
          refine ⟨(fun _ hs => by cases hs), ?_⟩
          refine rxV 11 rfl (by kernel_rfl) rfl (fun _ _ => rfl) (fun _ _ hF => opAssign rfl (hF.ev 0 rfl)) (kM [false, false, true] rfl rfl) (by decide) (v := (.slice A259 (([(UInt8.ofNat (128 + 4 * (1 + tag.toNat % 15) + 2))] ++ (beL 4 m)).length) c260)) ?_
          refine rxEnd (by kernel_rfl) ?_
          refine qxInN ?_
          refine qxThen ?_
          refine cxSeq ?_
          have hp : prs [] (([(UInt8.ofNat (128 + 4 * (1 + tag.toNat % 15) + 2))] ++ (beL 4 m)) ++ (List.replicate m 0)) = (0, [(((1 + tag.toNat % 15 : Nat) : Int), (List.replicate m 0))]) := form_old (k := 2) (by omega) (by omega) (by decide) List.length_replicate hm (Nat.lt_of_le_of_lt hm (by decide))
          have hfl : (([(UInt8.ofNat (128 + 4 * (1 + tag.toNat % 15) + 2))] ++ (beL 4 m))).length ≤ 6 := by simp [beL_len]
          have hrl : (List.replicate m (0 : UInt8)).length = m := List.length_replicate
          refine cxReg ?_
          refine pxV (v := (.slice A259 (([(UInt8.ofNat (128 + 4 * (1 + tag.toNat % 15) + 2))] ++ (beL 4 m)).length) c260)) (fun _ _ hF => opMove rfl (hF.ev 0 rfl)) rfl (fun _ _ => rfl) (kM [false, true] rfl rfl) (by decide) ?_
          refine pxV (v := (.pointer (some ⟨g15, 1, none⟩))) (fun _ _ hF => opField (off := 1) rfl (hF.ev 1 rfl) (by kernel_rfl)) rfl (fun _ _ => rfl) (kA rfl) (by decide) ?_
          refine pxS (v := (.slice (some ⟨g14, 0, none⟩) m m)) (fun w => w.heap[g15]? = some (.cells #[(.int .i64 (((1 + tag.toNat % 15) : Nat) : Int)), (.slice (some ⟨g14, 0, none⟩) m m)] 31 (0, 0))) (hH.blk 3 rfl) (fun _ _ hF hS => opLoadK hS rfl (hF.ev 0 rfl) (by kernel_rfl) rfl) rfl (fun _ _ => rfl) (kM [false, true, true] rfl rfl) (by decide) ?_
          refine pxE 7 hH rfl (fun _ hF => smAppT (C := cByte) (l := ([(UInt8.ofNat (128 + 4 * (1 + tag.toNat % 15) + 2))] ++ (beL 4 m))) (m := (List.replicate m 0)) (e := 5) (z := (.int .u8 0)) (by_ := 1) rfl (by kernel_rfl) (by kernel_rfl) rfl (ltb rfl) (hF.ev 1 rfl) hO263 (hF.ev 0 rfl) List.length_replicate (fun h => by cases h) (by unfold maxLen; omega) (by omega)) ((Bk.make (C := cByte) 0 m (ltb rfl) (by unfold maxLen; omega)).vu (hH.blk 2 rfl) List.length_replicate) rfl (fun _ _ => rfl) (kM [false, false, true] rfl rfl) (by decide) ?_
          clear hH
          rintro v266 E267 w ⟨hO268, _⟩ hH
          replace hH : HH w0 [] [E2, E8, [bl g14 5 (madeCells (cByte.enc 0) (m * 1))], [bl g15 31 #[(.int .i64 (((1 + tag.toNat % 15) : Nat) : Int)), (.slice (some ⟨g14, 0, none⟩) m m)]], E211, E221, E252, E267] w := hH
          replace hO268 : OwnT cByte 5 v266 (([(UInt8.ofNat (128 + 4 * (1 + tag.toNat % 15) + 2))] ++ (beL 4 m)) ++ (List.replicate m 0)) E267 := hO268
          obtain ⟨A264, c265, rfl⟩ := hO268.slice
          refine pxM hH (fun _ hF => Does.small (parse_c c265 A264 (([(UInt8.ofNat (128 + 4 * (1 + tag.toNat % 15) + 2))] ++ (beL 4 m)) ++ (List.replicate m 0)) (by rw [List.length_append]; omega)) (fun w => opCall rfl Try.func14 rfl rfl (Evs.cons (v := (.slice A264 ((([(UInt8.ofNat (128 + 4 * (1 + tag.toNat % 15) + 2))] ++ (beL 4 m)) ++ (List.replicate m 0)).length) c265)) (hF.ev 0 rfl) Evs.nil) w)) (hO268.vuAt (hH.has 7 rfl)) rfl (fun _ _ => rfl) (kM [false, true] rfl rfl) (by decide) ?_
          clear hH
          rintro _ _ w ⟨s269, rfl, L274, E270, E271, rfl, hO272, hB273⟩ hH
          replace hH : HH w0 [] [E2, E8, [bl g14 5 (madeCells (cByte.enc 0) (m * 1))], [bl g15 31 #[(.int .i64 (((1 + tag.toNat % 15) : Nat) : Int)), (.slice (some ⟨g14, 0, none⟩) m m)]], E211, E221, E252, E267, ([E270, E271] : List Hl).flatten] w := hH
          obtain ⟨A275, c276, rfl⟩ := hO272.slice
          replace hH : HH w0 [] [E2, E8, [bl g14 5 (madeCells (cByte.enc 0) (m * 1))], [bl g15 31 #[(.int .i64 (((1 + tag.toNat % 15) : Nat) : Int)), (.slice (some ⟨g14, 0, none⟩) m m)]], E211, E221, E252, E267, E270, E271] w := hH.cast (by simp)
          refine pxV (v := (.tuple #[(.slice A275 L274.length c276), (.int .i64 ((((prs [] (([(UInt8.ofNat (128 + 4 * (1 + tag.toNat % 15) + 2))] ++ (beL 4 m)) ++ (List.replicate m 0))).1) : Nat) : Int))])) (fun _ _ hF => opMove rfl (hF.ev 0 rfl)) rfl (fun _ _ => rfl) (kM [false, true] rfl rfl) (by decide) ?_
          refine pxV (v := (.slice A275 L274.length c276)) (fun _ _ hF => opExtract rfl (hF.ev 0 rfl) rfl) rfl (fun _ _ => rfl) (kA rfl) (by decide) ?_
          refine pxV (v := (.int .i64 ((((prs [] (([(UInt8.ofNat (128 + 4 * (1 + tag.toNat % 15) + 2))] ++ (beL 4 m)) ++ (List.replicate m 0))).1) : Nat) : Int))) (fun _ _ hF => opExtract rfl (hF.ev 1 rfl) rfl) rfl (fun _ _ => rfl) (kM [true, false, true] rfl rfl) (by decide) ?_
          refine pxV (v := (.slice A275 L274.length c276)) (fun _ _ hF => opAssign rfl (hF.ev 1 rfl)) rfl (fun _ _ => rfl) (kM [true, false, true] rfl rfl) (by decide) ?_
          refine pxV (v := (.int .i64 ((((prs [] (([(UInt8.ofNat (128 + 4 * (1 + tag.toNat % 15) + 2))] ++ (beL 4 m)) ++ (List.replicate m 0))).1) : Nat) : Int))) (fun _ _ hF => opAssign rfl (hF.ev 1 rfl)) rfl (fun _ _ => rfl) (kM [true, false, true] rfl rfl) (by decide) ?_
          refine pxEnd ?_
          refine qxThen ?_
          refine cxSeq ?_
          refine cxReg ?_
          refine pxV (v := (.int .i64 ((((prs [] (([(UInt8.ofNat (128 + 4 * (1 + tag.toNat % 15) + 2))] ++ (beL 4 m)) ++ (List.replicate m 0))).1) : Nat) : Int))) (fun _ _ hF => opMove rfl (hF.ev 0 rfl)) rfl (fun _ _ => rfl) (kM [false, true, true] rfl rfl) (by decide) ?_
          refine pxV (v := (.bool true)) (fun _ _ hF => opEqI rfl (hF.ev 0 rfl) rfl (decide_eq_true (by rw [hp]; rfl))) rfl (fun _ _ => rfl) (kM [false, true, true] rfl rfl) (by decide) ?_
          refine pxV (v := (.bool true)) (fun _ _ hF => opMove rfl (hF.ev 0 rfl)) rfl (fun _ _ => rfl) (kM [false, true, true] rfl rfl) (by decide) ?_
          refine pxV (v := (.slice A275 L274.length c276)) (fun _ _ hF => opMove rfl (hF.ev 1 rfl)) rfl (gOn 0 rfl rfl rfl (by decide)) (kM [true, false, true] rfl rfl) (by decide) ?_
          refine pxS (v := (.agg #[(.int .i64 (((1 + tag.toNat % 15) : Nat) : Int)), (.slice (some ⟨g14, 0, none⟩) m m)])) (fun w => w.heap[g15]? = some (.cells #[(.int .i64 (((1 + tag.toNat % 15) : Nat) : Int)), (.slice (some ⟨g14, 0, none⟩) m m)] 31 (0, 0))) (hH.blk 3 rfl) (fun _ _ hF hS => opLoadKR (k := 2) hS rfl (hF.ev 2 rfl) (by kernel_rfl) rfl (by kernel_rfl) rfl) rfl (gOn 1 rfl rfl rfl (by decide)) (kM [true, true, false] rfl rfl) (by decide) ?_
          refine pxM hH (fun _ hF => smLit1 (e := 31) (sz := 2) (z := (cPk.val (0, none, 0, 0))) (by_ := 32) (cs := cPk.enc ((((1 + tag.toNat % 15) : Nat) : Int), (some ⟨g14, 0, none⟩), m, m)) rfl (by kernel_rfl) (by kernel_rfl) ((hF.ev 0 rfl).trans (cPk_val (((1 + tag.toNat % 15) : Nat) : Int) (some ⟨g14, 0, none⟩) m m)) (cPk.len ((((1 + tag.toNat % 15) : Nat) : Int), (some ⟨g14, 0, none⟩), m, m)) (ltb rfl) (leb rfl) rfl) trivial rfl (gOn 2 rfl rfl rfl (by decide)) (kM [false, true, true] rfl rfl) (by decide) ?_
          clear hH
          rintro _ _ w ⟨g279, rfl, rfl⟩ hH
          replace hH : HH w0 [] [E2, E8, [bl g14 5 (madeCells (cByte.enc 0) (m * 1))], [bl g15 31 #[(.int .i64 (((1 + tag.toNat % 15) : Nat) : Int)), (.slice (some ⟨g14, 0, none⟩) m m)]], E211, E221, E252, E267, E270, E271, [bl g279 31 (cPk.enc ((((1 + tag.toNat % 15) : Nat) : Int), (some ⟨g14, 0, none⟩), m, m))]] w := hH
          refine pxM hH (fun _ hF => Does.small ((Pure.as (v := (.bool true)) (same_c L274 ([((((1 + tag.toNat % 15) : Nat) : Int), (some ⟨g14, 0, none⟩), m, m)]) ((prs [] (([(UInt8.ofNat (128 + 4 * (1 + tag.toNat % 15) + 2))] ++ (beL 4 m)) ++ (List.replicate m 0))).2) ([(((1 + tag.toNat % 15 : Nat) : Int), List.replicate m 0)]) A275 (some ⟨g279, 0, none⟩) c276 1 (by rw [hB273.len, hp]; exact (by decide : (1 : Nat) ≤ 140737488355328))) (congrArg Value.bool (decide_eq_true (by rw [hp])))).does) (fun w => opCall rfl Try.func15 rfl rfl (Evs.cons (v := (.slice A275 L274.length c276)) (hF.ev 1 rfl) (Evs.cons (v := (.slice (some ⟨g279, 0, none⟩) 1 1)) (hF.ev 0 rfl) Evs.nil)) w)) ⟨(hO272.vuAt (hH.has 8 rfl)), (hB273.beh (hH.has 9 rfl)), ((Bk.lit1 (C := cPk) ((((1 + tag.toNat % 15) : Nat) : Int), (some ⟨g14, 0, none⟩), m, m)).vu (hH.blk 10 rfl) rfl), (beh_rep ((Bk.make (C := cByte) 0 m (ltb rfl) (by unfold maxLen; omega)).vu (hH.blk 2 rfl) List.length_replicate))⟩ rfl (gOn 2 rfl rfl rfl (by decide)) (kM [false, false, true] rfl rfl) (by decide) ?_
          clear hH
          rintro _ _ w ⟨rfl, rfl⟩ hH
          replace hH : HH w0 [] [E2, E8, [bl g14 5 (madeCells (cByte.enc 0) (m * 1))], [bl g15 31 #[(.int .i64 (((1 + tag.toNat % 15) : Nat) : Int)), (.slice (some ⟨g14, 0, none⟩) m m)]], E211, E221, E252, E267, E270, E271, [bl g279 31 (cPk.enc ((((1 + tag.toNat % 15) : Nat) : Int), (some ⟨g14, 0, none⟩), m, m))]] w := hH.unpad
          refine pxV (v := (.bool true)) (fun _ _ hF => opPickT rfl (hF.ev 1 rfl) (hF.ev 0 rfl)) rfl (fun _ _ => rfl) (kM [false, false] rfl rfl) (by decide) ?_
          refine pxV (v := (.bool true)) (fun _ _ hF => opAssign rfl (hF.ev 0 rfl)) rfl (fun _ _ => rfl) (kM [false] rfl rfl) (by decide) ?_
          refine pxEnd ?_
          refine qxThen ?_
          refine cxRet ?_
          refine qxRet1 0 rfl rfl ?_
          exact ⟨rfl, HH.toBelow hH⟩
      · refine cxSeq ?_
        refine cxReg ?_
        refine pxV (v := (.bool (decide (form.toNat % 5 = 2)))) (fun _ _ hF => opEqI rfl (hF.ev 1 rfl) rfl (dc (by omega))) rfl (fun _ _ => rfl) (kM [false, true, true, true, true] rfl rfl) (by decide) ?_
        refine pxV (v := (.bool (decide (form.toNat % 5 = 2)))) (fun _ _ hF => opAssign rfl (hF.ev 0 rfl)) rfl (fun _ _ => rfl) (kM [false, true, true, true, true] rfl rfl) (by decide) ?_
        refine pxEnd ?_
        refine qxThen ?_
        refine cxP 0 rfl rfl (fun hc280 => ?_) (fun hc280 => ?_)
        · refine cxReg ?_
          refine pxV (v := (.pointer (some ⟨g15, 0, none⟩))) (fun _ _ hF => opField (off := 0) rfl (hF.ev 3 rfl) (by kernel_rfl)) rfl (fun _ _ => rfl) (kM [false, false, false, true, false] rfl rfl) (by decide) ?_
          refine pxS (v := (.int .i64 (((1 + tag.toNat % 15) : Nat) : Int))) (fun w => w.heap[g15]? = some (.cells #[(.int .i64 (((1 + tag.toNat % 15) : Nat) : Int)), (.slice (some ⟨g14, 0, none⟩) m m)] 31 (0, 0))) (hH.blk 3 rfl) (fun _ _ hF hS => opLoadK hS rfl (hF.ev 0 rfl) (by kernel_rfl) rfl) rfl (fun _ _ => rfl) (kM [false, true] rfl rfl) (by decide) ?_
          refine pxV (v := (.int .i64 (((4 * (1 + tag.toNat % 15)) : Nat) : Int))) (fun _ _ hF => opMul rfl rfl (hF.ev 0 rfl) (wI rfl (by omega) (by omega))) rfl (fun _ _ => rfl) (kM [false, true] rfl rfl) (by decide) ?_
          refine pxV (v := (.int .i64 (((128 + 4 * (1 + tag.toNat % 15)) : Nat) : Int))) (fun _ _ hF => opAdd rfl rfl (hF.ev 0 rfl) (wI rfl (by omega) (by omega))) rfl (fun _ _ => rfl) (kM [false, true] rfl rfl) (by decide) ?_
          refine pxV (v := (.int .i64 (((128 + 4 * (1 + tag.toNat % 15) + 3) : Nat) : Int))) (fun _ _ hF => opAdd rfl (hF.ev 0 rfl) rfl (wI rfl (by omega) (by omega))) rfl (fun _ _ => rfl) (kM [false, true] rfl rfl) (by decide) ?_
          refine pxV (v := (.int .u8 ((((UInt8.ofNat (128 + 4 * (1 + tag.toNat % 15) + 3)).toNat) : Nat) : Int))) (fun _ _ hF => opConvU (k' := .u8) rfl rfl (by kernel_rfl) (by kernel_rfl) (hF.ev 0 rfl) (UInt8.toNat_ofNat' (n := 128 + 4 * (1 + tag.toNat % 15) + 3)).symm) rfl (fun _ _ => rfl) (kM [false, true] rfl rfl) (by decide) ?_
          refine pxM hH (fun _ hF => smLit1 (e := 5) (sz := 1) (z := (.int .u8 0)) (by_ := 1) (cs := cByte.enc (UInt8.ofNat (128 + 4 * (1 + tag.toNat % 15) + 3))) rfl (by kernel_rfl) (by kernel_rfl) (hF.ev 0 rfl) (cByte.len (UInt8.ofNat (128 + 4 * (1 + tag.toNat % 15) + 3))) (ltb rfl) (leb rfl) rfl) trivial rfl (fun _ _ => rfl) (kM [false, true] rfl rfl) (by decide) ?_
          clear hH
          rintro _ _ w ⟨g281, rfl, rfl⟩ hH
          replace hH : HH w0 [] [E2, E8, [bl g14 5 (madeCells (cByte.enc 0) (m * 1))], [bl g15 31 #[(.int .i64 (((1 + tag.toNat % 15) : Nat) : Int)), (.slice (some ⟨g14, 0, none⟩) m m)]], E211, E221, [bl g281 5 (cByte.enc (UInt8.ofNat (128 + 4 * (1 + tag.toNat % 15) + 3)))]] w := hH
          refine pxV (v := (.slice (some ⟨g281, 0, none⟩) 1 1)) (fun _ _ hF => opAssign rfl (hF.ev 0 rfl)) rfl (fun _ _ => rfl) (kM [false, true] rfl rfl) (by decide) ?_
          refine pxEnd ?_
          refine qxInN ?_
          refine qxThen ?_
          refine cxSeq ?_
          have hp : prs [] ([(UInt8.ofNat (128 + 4 * (1 + tag.toNat % 15) + 3))] ++ (List.replicate m 0)) = (0, [(((1 + tag.toNat % 15 : Nat) : Int), (List.replicate m 0))]) := form_end (by omega) (by omega) (by rw [List.length_replicate]; exact hm)
          have hfl : ([(UInt8.ofNat (128 + 4 * (1 + tag.toNat % 15) + 3))]).length ≤ 6 := by simp
          have hrl : (List.replicate m (0 : UInt8)).length = m := List.length_replicate
          refine cxReg ?_
          refine pxV (v := (.slice (some ⟨g281, 0, none⟩) 1 1)) (fun _ _ hF => opMove rfl (hF.ev 0 rfl)) rfl (fun _ _ => rfl) (kM [false, true] rfl rfl) (by decide) ?_
          refine pxV (v := (.pointer (some ⟨g15, 1, none⟩))) (fun _ _ hF => opField (off := 1) rfl (hF.ev 1 rfl) (by kernel_rfl)) rfl (fun _ _ => rfl) (kA rfl) (by decide) ?_
          refine pxS (v := (.slice (some ⟨g14, 0, none⟩) m m)) (fun w => w.heap[g15]? = some (.cells #[(.int .i64 (((1 + tag.toNat % 15) : Nat) : Int)), (.slice (some ⟨g14, 0, none⟩) m m)] 31 (0, 0))) (hH.blk 3 rfl) (fun _ _ hF hS => opLoadK hS rfl (hF.ev 0 rfl) (by kernel_rfl) rfl) rfl (fun _ _ => rfl) (kM [false, true, true] rfl rfl) (by decide) ?_
          refine pxE 6 hH rfl (fun _ hF => smAppT (C := cByte) (l := [(UInt8.ofNat (128 + 4 * (1 + tag.toNat % 15) + 3))]) (m := (List.replicate m 0)) (e := 5) (z := (.int .u8 0)) (by_ := 1) rfl (by kernel_rfl) (by kernel_rfl) rfl (ltb rfl) (hF.ev 1 rfl) ((Bk.lit1 (C := cByte) (UInt8.ofNat (128 + 4 * (1 + tag.toNat % 15) + 3))).own 5 g281 rfl) (hF.ev 0 rfl) List.length_replicate (fun h => by cases h) (by unfold maxLen; omega) (by omega)) ((Bk.make (C := cByte) 0 m (ltb rfl) (by unfold maxLen; omega)).vu (hH.blk 2 rfl) List.length_replicate) rfl (fun _ _ => rfl) (kM [false, false, true] rfl rfl) (by decide) ?_
          clear hH
          rintro v284 E285 w ⟨hO286, _⟩ hH
          replace hH : HH w0 [] [E2, E8, [bl g14 5 (madeCells (cByte.enc 0) (m * 1))], [bl g15 31 #[(.int .i64 (((1 + tag.toNat % 15) : Nat) : Int)), (.slice (some ⟨g14, 0, none⟩) m m)]], E211, E221, E285] w := hH
          replace hO286 : OwnT cByte 5 v284 ([(UInt8.ofNat (128 + 4 * (1 + tag.toNat % 15) + 3))] ++ (List.replicate m 0)) E285 := hO286
          obtain ⟨A282, c283, rfl⟩ := hO286.slice
          refine pxM hH (fun _ hF => Does.small (parse_c c283 A282 ([(UInt8.ofNat (128 + 4 * (1 + tag.toNat % 15) + 3))] ++ (List.replicate m 0)) (by rw [List.length_append]; omega)) (fun w => opCall rfl Try.func14 rfl rfl (Evs.cons (v := (.slice A282 (([(UInt8.ofNat (128 + 4 * (1 + tag.toNat % 15) + 3))] ++ (List.replicate m 0)).length) c283)) (hF.ev 0 rfl) Evs.nil) w)) (hO286.vuAt (hH.has 6 rfl)) rfl (fun _ _ => rfl) (kM [false, true] rfl rfl) (by decide) ?_
          clear hH
          rintro _ _ w ⟨s287, rfl, L292, E288, E289, rfl, hO290, hB291⟩ hH
          replace hH : HH w0 [] [E2, E8, [bl g14 5 (madeCells (cByte.enc 0) (m * 1))], [bl g15 31 #[(.int .i64 (((1 + tag.toNat % 15) : Nat) : Int)), (.slice (some ⟨g14, 0, none⟩) m m)]], E211, E221, E285, ([E288, E289] : List Hl).flatten] w := hH
          obtain ⟨A293, c294, rfl⟩ := hO290.slice
          replace hH : HH w0 [] [E2, E8, [bl g14 5 (madeCells (cByte.enc 0) (m * 1))], [bl g15 31 #[(.int .i64 (((1 + tag.toNat % 15) : Nat) : Int)), (.slice (some ⟨g14, 0, none⟩) m m)]], E211, E221, E285, E288, E289] w := hH.cast (by simp)
          refine pxV (v := (.tuple #[(.slice A293 L292.length c294), (.int .i64 ((((prs [] ([(UInt8.ofNat (128 + 4 * (1 + tag.toNat % 15) + 3))] ++ (List.replicate m 0))).1) : Nat) : Int))])) (fun _ _ hF => opMove rfl (hF.ev 0 rfl)) rfl (fun _ _ => rfl) (kM [false, true] rfl rfl) (by decide) ?_
          refine pxV (v := (.slice A293 L292.length c294)) (fun _ _ hF => opExtract rfl (hF.ev 0 rfl) rfl) rfl (fun _ _ => rfl) (kA rfl) (by decide) ?_
          refine pxV (v := (.int .i64 ((((prs [] ([(UInt8.ofNat (128 + 4 * (1 + tag.toNat % 15) + 3))] ++ (List.replicate m 0))).1) : Nat) : Int))) (fun _ _ hF => opExtract rfl (hF.ev 1 rfl) rfl) rfl (fun _ _ => rfl) (kM [true, false, true] rfl rfl) (by decide) ?_
          refine pxV (v := (.slice A293 L292.length c294)) (fun _ _ hF => opAssign rfl (hF.ev 1 rfl)) rfl (fun _ _ => rfl) (kM [true, false, true] rfl rfl) (by decide) ?_
          refine pxV (v := (.int .i64 ((((prs [] ([(UInt8.ofNat (128 + 4 * (1 + tag.toNat % 15) + 3))] ++ (List.replicate m 0))).1) : Nat) : Int))) (fun _ _ hF => opAssign rfl (hF.ev 1 rfl)) rfl (fun _ _ => rfl) (kM [true, false, true] rfl rfl) (by decide) ?_
          refine pxEnd ?_
          refine qxThen ?_
          refine cxSeq ?_
          refine cxReg ?_
          refine pxV (v := (.int .i64 ((((prs [] ([(UInt8.ofNat (128 + 4 * (1 + tag.toNat % 15) + 3))] ++ (List.replicate m 0))).1) : Nat) : Int))) (fun _ _ hF => opMove rfl (hF.ev 0 rfl)) rfl (fun _ _ => rfl) (kM [false, true, true] rfl rfl) (by decide) ?_
          refine pxV (v := (.bool true)) (fun _ _ hF => opEqI rfl (hF.ev 0 rfl) rfl (decide_eq_true (by rw [hp]; rfl))) rfl (fun _ _ => rfl) (kM [false, true, true] rfl rfl) (by decide) ?_
          refine pxV (v := (.bool true)) (fun _ _ hF => opMove rfl (hF.ev 0 rfl)) rfl (fun _ _ => rfl) (kM [false, true, true] rfl rfl) (by decide) ?_
          refine pxV (v := (.slice A293 L292.length c294)) (fun _ _ hF => opMove rfl (hF.ev 1 rfl)) rfl (gOn 0 rfl rfl rfl (by decide)) (kM [true, false, true] rfl rfl) (by decide) ?_
          refine pxS (v := (.agg #[(.int .i64 (((1 + tag.toNat % 15) : Nat) : Int)), (.slice (some ⟨g14, 0, none⟩) m m)])) (fun w => w.heap[g15]? = some (.cells #[(.int .i64 (((1 + tag.toNat % 15) : Nat) : Int)), (.slice (some ⟨g14, 0, none⟩) m m)] 31 (0, 0))) (hH.blk 3 rfl) (fun _ _ hF hS => opLoadKR (k := 2) hS rfl (hF.ev 2 rfl) (by kernel_rfl) rfl (by kernel_rfl) rfl) rfl (gOn 1 rfl rfl rfl (by decide)) (kM [true, true, false] rfl rfl) (by decide) ?_
          refine pxM hH (fun _ hF => smLit1 (e := 31) (sz := 2) (z := (cPk.val (0, none, 0, 0))) (by_ := 32) (cs := cPk.enc ((((1 + tag.toNat % 15) : Nat) : Int), (some ⟨g14, 0, none⟩), m, m)) rfl (by kernel_rfl) (by kernel_rfl) ((hF.ev 0 rfl).trans (cPk_val (((1 + tag.toNat % 15) : Nat) : Int) (some ⟨g14, 0, none⟩) m m)) (cPk.len ((((1 + tag.toNat % 15) : Nat) : Int), (some ⟨g14, 0, none⟩), m, m)) (ltb rfl) (leb rfl) rfl) trivial rfl (gOn 2 rfl rfl rfl (by decide)) (kM [false, true, true] rfl rfl) (by decide) ?_
          clear hH
          rintro _ _ w ⟨g297, rfl, rfl⟩ hH
          replace hH : HH w0 [] [E2, E8, [bl g14 5 (madeCells (cByte.enc 0) (m * 1))], [bl g15 31 #[(.int .i64 (((1 + tag.toNat % 15) : Nat) : Int)), (.slice (some ⟨g14, 0, none⟩) m m)]], E211, E221, E285, E288, E289, [bl g297 31 (cPk.enc ((((1 + tag.toNat % 15) : Nat) : Int), (some ⟨g14, 0, none⟩), m, m))]] w := hH
          refine pxM hH (fun _ hF => Does.small ((Pure.as (v := (.bool true)) (same_c L292 ([((((1 + tag.toNat % 15) : Nat) : Int), (some ⟨g14, 0, none⟩), m, m)]) ((prs [] ([(UInt8.ofNat (128 + 4 * (1 + tag.toNat % 15) + 3))] ++ (List.replicate m 0))).2) ([(((1 + tag.toNat % 15 : Nat) : Int), List.replicate m 0)]) A293 (some ⟨g297, 0, none⟩) c294 1 (by rw [hB291.len, hp]; exact (by decide : (1 : Nat) ≤ 140737488355328))) (congrArg Value.bool (decide_eq_true (by rw [hp])))).does) (fun w => opCall rfl Try.func15 rfl rfl (Evs.cons (v := (.slice A293 L292.length c294)) (hF.ev 1 rfl) (Evs.cons (v := (.slice (some ⟨g297, 0, none⟩) 1 1)) (hF.ev 0 rfl) Evs.nil)) w)) ⟨(hO290.vuAt (hH.has 7 rfl)), (hB291.beh (hH.has 8 rfl)), ((Bk.lit1 (C := cPk) ((((1 + tag.toNat % 15) : Nat) : Int), (some ⟨g14, 0, none⟩), m, m)).vu (hH.blk 9 rfl) rfl), (beh_rep ((Bk.make (C := cByte) 0 m (ltb rfl) (by unfold maxLen; omega)).vu (hH.blk 2 rfl) List.length_replicate))⟩ rfl (gOn 2 rfl rfl rfl (by decide)) (kM [false, false, true] rfl rfl) (by decide) ?_
          clear hH
          rintro _ _ w ⟨rfl, rfl⟩ hH
          replace hH : HH w0 [] [E2, E8, [bl g14 5 (madeCells (cByte.enc 0) (m * 1))], [bl g15 31 #[(.int .i64 (((1 + tag.toNat % 15) : Nat) : Int)), (.slice (some ⟨g14, 0, none⟩) m m)]], E211, E221, E285, E288, E289, [bl g297 31 (cPk.enc ((((1 + tag.toNat % 15) : Nat) : Int), (some ⟨g14, 0, none⟩), m, m))]] w := hH.unpad
          refine pxV (v := (.bool true)) (fun _ _ hF => opPickT rfl (hF.ev 1 rfl) (hF.ev 0 rfl)) rfl (fun _ _ => rfl) (kM [false, false] rfl rfl) (by decide) ?_
          refine pxV (v := (.bool true)) (fun _ _ hF => opAssign rfl (hF.ev 0 rfl)) rfl (fun _ _ => rfl) (kM [false] rfl rfl) (by decide) ?_
          refine pxEnd ?_
          refine qxThen ?_
          refine cxRet ?_
          refine qxRet1 0 rfl rfl ?_
          exact ⟨rfl, HH.toBelow hH⟩
        · refine cxSeq ?_
          refine cxReg ?_
          refine pxV (v := (.bool (decide (form.toNat % 5 = 3)))) (fun _ _ hF => opEqI rfl (hF.ev 1 rfl) rfl (dc (by omega))) rfl (fun _ _ => rfl) (kM [false, true, true, true, true] rfl rfl) (by decide) ?_
          refine pxV (v := (.bool (decide (form.toNat % 5 = 3)))) (fun _ _ hF => opAssign rfl (hF.ev 0 rfl)) rfl (fun _ _ => rfl) (kM [false, true, true, true, true] rfl rfl) (by decide) ?_
          refine pxEnd ?_
          refine qxThen ?_
          refine cxP 0 rfl rfl (fun hc298 => ?_) (fun hc298 => ?_)
          · refine cxSeq ?_
            refine cxReg ?_
            refine pxV (v := (.int .i64 (((m) : Nat) : Int))) (fun _ _ hF => opMove rfl (hF.ev 4 rfl)) rfl (fun _ _ => rfl) (kM [false, false, true, true, true] rfl rfl) (by decide) ?_
            refine pxV (v := (.bool true)) (fun _ _ hF => opLss rfl (hF.ev 0 rfl) rfl (decide_eq_true (by omega))) rfl (fun _ _ => rfl) (kM [false, true, true, true] rfl rfl) (by decide) ?_
            refine pxEnd ?_
            refine qxThen ?_
            refine cxT 0 rfl rfl ?_
            refine cxRegX mixedOrders (by kernel_rfl) ?_
            replace hH := hH.drew
            refine rxV 0 rfl (by kernel_rfl) rfl (fun _ _ => rfl) (fun _ _ hF => opField (off := 0) rfl (hF.ev 2 rfl) (by kernel_rfl)) (kM [false, true, true, true] rfl rfl) (by decide) (v := (.pointer (some ⟨g15, 0, none⟩))) ?_
            refine rxS (fun w => w.heap[g15]? = some (.cells #[(.int .i64 (((1 + tag.toNat % 15) : Nat) : Int)), (.slice (some ⟨g14, 0, none⟩) m m)] 31 (0, 0))) 1 rfl (by kernel_rfl) rfl (fun _ _ => rfl) (hH.blk 3 rfl) (fun _ _ hF hS => opLoadK hS rfl (hF.ev 0 rfl) (by kernel_rfl) rfl) (kM [false, true, true, true] rfl rfl) (by decide) (v := (.int .i64 (((1 + tag.toNat % 15) : Nat) : Int))) ?_
            refine rxV 2 rfl (by kernel_rfl) rfl (fun _ _ => rfl) (fun _ _ hF => opMul rfl rfl (hF.ev 0 rfl) (wI rfl (by omega) (by omega))) (kM [false, true, true, true] rfl rfl) (by decide) (v := (.int .i64 (((4 * (1 + tag.toNat % 15)) : Nat) : Int))) ?_
            refine rxV 3 rfl (by kernel_rfl) rfl (fun _ _ => rfl) (fun _ _ hF => opAdd rfl rfl (hF.ev 0 rfl) (wI rfl (by omega) (by omega))) (kM [false, true, true, true] rfl rfl) (by decide) (v := (.int .i64 (((128 + 4 * (1 + tag.toNat % 15)) : Nat) : Int))) ?_
            refine rxV 4 rfl (by kernel_rfl) rfl (fun _ _ => rfl) (fun _ _ hF => opAdd rfl (hF.ev 0 rfl) rfl (wI rfl (by omega) (by omega))) (kM [false, true, true, true] rfl rfl) (by decide) (v := (.int .i64 (((128 + 4 * (1 + tag.toNat % 15) + 1) : Nat) : Int))) ?_
            refine rxV 5 rfl (by kernel_rfl) rfl (fun _ _ => rfl) (fun _ _ hF => opConvU (k' := .u8) rfl rfl (by kernel_rfl) (by kernel_rfl) (hF.ev 0 rfl) (UInt8.toNat_ofNat' (n := 128 + 4 * (1 + tag.toNat % 15) + 1)).symm) (kM [false, true, true, true] rfl rfl) (by decide) (v := (.int .u8 ((((UInt8.ofNat (128 + 4 * (1 + tag.toNat % 15) + 1)).toNat) : Nat) : Int))) ?_
            refine rxV 7 rfl (by kernel_rfl) rfl (fun _ _ => rfl) (fun _ _ hF => opMove rfl (hF.ev 3 rfl)) (kM [true, true, true, false] rfl rfl) (by decide) (v := (.int .i64 (((m) : Nat) : Int))) ?_
            refine rxV 8 rfl (by kernel_rfl) rfl (fun _ _ => rfl) (fun _ _ hF => opConvU (k' := .u64) rfl rfl (by kernel_rfl) (by kernel_rfl) (hF.ev 0 rfl) (Nat.mod_eq_of_lt (by show _ < 18446744073709551616; omega))) (kM [false, true, true, true] rfl rfl) (by decide) (v := (.int .u64 (((m) : Nat) : Int))) ?_
            refine rx2 6 9 (by kernel_rfl) ?_ ?_
            · refine moM rfl hH (fun _ hF => smLit1 (e := 5) (sz := 1) (z := (.int .u8 0)) (by_ := 1) (cs := cByte.enc (UInt8.ofNat (128 + 4 * (1 + tag.toNat % 15) + 1))) rfl (by kernel_rfl) (by kernel_rfl) (hF.ev 1 rfl) (cByte.len (UInt8.ofNat (128 + 4 * (1 + tag.toNat % 15) + 1))) (ltb rfl) (leb rfl) rfl) trivial rfl (fun _ _ => rfl) (kM [true, false, true, true] rfl rfl) (by decide) (PendOk.go [5, 4, 3, 2] (by kernel_rfl) (PendOk.nil _ [])) ?_
              clear hH
              rintro _ _ w ⟨g299, rfl, rfl⟩ hH
              replace hH : HH w0 [] [E2, E8, [bl g14 5 (madeCells (cByte.enc 0) (m * 1))], [bl g15 31 #[(.int .i64 (((1 + tag.toNat % 15) : Nat) : Int)), (.slice (some ⟨g14, 0, none⟩) m m)]], E211, E221, [bl g299 5 (cByte.enc (UInt8.ofNat (128 + 4 * (1 + tag.toNat % 15) + 1)))]] w := hH
              refine ⟨(fun _ hs => by cases hs), ?_⟩
              refine rx1 9 (by kernel_rfl) ?_
              refine moM rfl hH (fun _ hF => Does.small (bytes_r m 2 (leb rfl)) (fun w => opCall rfl Try.func19 rfl rfl (Evs.cons (v := (.int .u64 (((m) : Nat) : Int))) (hF.ev 1 rfl) (Evs.cons (v := (.int .i64 2)) rfl Evs.nil)) w)) trivial rfl (fun _ _ => rfl) (kM [true, false, true, true] rfl rfl) (by decide) (PendOk.nil _ []) ?_
              clear hH
              rintro v304 E300 w hO301 hH
              replace hH : HH w0 [] [E2, E8, [bl g14 5 (madeCells (cByte.enc 0) (m * 1))], [bl g15 31 #[(.int .i64 (((1 + tag.toNat % 15) : Nat) : Int)), (.slice (some ⟨g14, 0, none⟩) m m)]], E211, E221, [bl g299 5 (cByte.enc (UInt8.ofNat (128 + 4 * (1 + tag.toNat % 15) + 1)))], E300] w := hH
              obtain ⟨A302, c303, rfl⟩ := hO301.slice
              refine ⟨(fun _ hs => by cases hs), ?_⟩
              refine rx1 10 (by kernel_rfl) ?_
              refine moE 6 rfl hH rfl (fun _ hF => smAppT (C := cByte) (l := [(UInt8.ofNat (128 + 4 * (1 + tag.toNat % 15) + 1))]) (m := (beL 2 m)) (e := 5) (z := (.int .u8 0)) (by_ := 1) rfl (by kernel_rfl) (by kernel_rfl) rfl (ltb rfl) (hF.ev 1 rfl) ((Bk.lit1 (C := cByte) (UInt8.ofNat (128 + 4 * (1 + tag.toNat % 15) + 1))).own 5 g299 rfl) (hF.ev 0 rfl) rfl hO301.nilA (by rw [beL_len]; simp only [List.length_cons, List.length_nil]; unfold maxLen; omega) (by rw [beL_len]; simp only [List.length_cons, List.length_nil]; omega)) (hO301.vuAt (hH.has 7 rfl)) rfl (fun _ _ => rfl) (kM [false, false, true, true] rfl rfl) (by decide) (PendOk.nil _ []) ?_
              clear hH
              rintro v308 E309 w ⟨hO310, _⟩ hH
              replace hH : HH w0 [] [E2, E8, [bl g14 5 (madeCells (cByte.enc 0) (m * 1))], [bl g15 31 #[(.int .i64 (((1 + tag.toNat % 15) : Nat) : Int)), (.slice (some ⟨g14, 0, none⟩) m m)]], E211, E221, E309, E300] w := hH
              replace hO310 : OwnT cByte 5 v308 ([(UInt8.ofNat (128 + 4 * (1 + tag.toNat % 15) + 1))] ++ (beL 2 m)) E309 := hO310
              obtain ⟨A306, c307, rfl⟩ := hO310.slice
              refine ⟨(fun _ hs => by cases hs), ?_⟩
              refine rxV 11 rfl (by kernel_rfl) rfl (fun _ _ => rfl) (fun _ _ hF => opAssign rfl (hF.ev 0 rfl)) (kM [false, false, true] rfl rfl) (by decide) (v := (.slice A306 (([(UInt8.ofNat (128 + 4 * (1 + tag.toNat % 15) + 1))] ++ (beL 2 m)).length) c307)) ?_
              refine rxEnd (by kernel_rfl) ?_
              refine qxInN ?_
              refine qxThen ?_
              refine cxSeq ?_
              have hp : prs [] (([(UInt8.ofNat (128 + 4 * (1 + tag.toNat % 15) + 1))] ++ (beL 2 m)) ++ (List.replicate m 0)) = (0, [(((1 + tag.toNat % 15 : Nat) : Int), (List.replicate m 0))]) := form_old (k := 1) (by omega) (by omega) (by decide) List.length_replicate hm (Nat.lt_of_le_of_lt hm (by decide))
              have hfl : (([(UInt8.ofNat (128 + 4 * (1 + tag.toNat % 15) + 1))] ++ (beL 2 m))).length ≤ 6 := by simp [beL_len]
              have hrl : (List.replicate m (0 : UInt8)).length = m := List.length_replicate
              refine cxReg ?_
              refine pxV (v := (.slice A306 (([(UInt8.ofNat (128 + 4 * (1 + tag.toNat % 15) + 1))] ++ (beL 2 m)).length) c307)) (fun _ _ hF => opMove rfl (hF.ev 0 rfl)) rfl (fun _ _ => rfl) (kM [false, true] rfl rfl) (by decide) ?_
              refine pxV (v := (.pointer (some ⟨g15, 1, none⟩))) (fun _ _ hF => opField (off := 1) rfl (hF.ev 1 rfl) (by kernel_rfl)) rfl (fun _ _ => rfl) (kA rfl) (by decide) ?_
              refine pxS (v := (.slice (some ⟨g14, 0, none⟩) m m)) (fun w => w.heap[g15]? = some (.cells #[(.int .i64 (((1 + tag.toNat % 15) : Nat) : Int)), (.slice (some ⟨g14, 0, none⟩) m m)] 31 (0, 0))) (hH.blk 3 rfl) (fun _ _ hF hS => opLoadK hS rfl (hF.ev 0 rfl) (by kernel_rfl) rfl) rfl (fun _ _ => rfl) (kM [false, true, true] rfl rfl) (by decide) ?_
              refine pxE 6 hH rfl (fun _ hF => smAppT (C := cByte) (l := ([(UInt8.ofNat (128 + 4 * (1 + tag.toNat % 15) + 1))] ++ (beL 2 m))) (m := (List.replicate m 0)) (e := 5) (z := (.int .u8 0)) (by_ := 1) rfl (by kernel_rfl) (by kernel_rfl) rfl (ltb rfl) (hF.ev 1 rfl) hO310 (hF.ev 0 rfl) List.length_replicate (fun h => by cases h) (by unfold maxLen; omega) (by omega)) ((Bk.make (C := cByte) 0 m (ltb rfl) (by unfold maxLen; omega)).vu (hH.blk 2 rfl) List.length_replicate) rfl (fun _ _ => rfl) (kM [false, false, true] rfl rfl) (by decide) ?_
              clear hH
              rintro v313 E314 w ⟨hO315, _⟩ hH
              replace hH : HH w0 [] [E2, E8, [bl g14 5 (madeCells (cByte.enc 0) (m * 1))], [bl g15 31 #[(.int .i64 (((1 + tag.toNat % 15) : Nat) : Int)), (.slice (some ⟨g14, 0, none⟩) m m)]], E211, E221, E314, E300] w := hH
              replace hO315 : OwnT cByte 5 v313 (([(UInt8.ofNat (128 + 4 * (1 + tag.toNat % 15) + 1))] ++ (beL 2 m)) ++ (List.replicate m 0)) E314 := hO315
              obtain ⟨A311, c312, rfl⟩ := hO315.slice
              refine pxM hH (fun _ hF => Does.small (parse_c c312 A311 (([(UInt8.ofNat (128 + 4 * (1 + tag.toNat % 15) + 1))] ++ (beL 2 m)) ++ (List.replicate m 0)) (by rw [List.length_append]; omega)) (fun w => opCall rfl Try.func14 rfl rfl (Evs.cons (v := (.slice A311 ((([(UInt8.ofNat (128 + 4 * (1 + tag.toNat % 15) + 1))] ++ (beL 2 m)) ++ (List.replicate m 0)).length) c312)) (hF.ev 0 rfl) Evs.nil) w)) (hO315.vuAt (hH.has 6 rfl)) rfl (fun _ _ => rfl) (kM [false, true] rfl rfl) (by decide) ?_
              clear hH
              rintro _ _ w ⟨s316, rfl, L321, E317, E318, rfl, hO319, hB320⟩ hH
              replace hH : HH w0 [] [E2, E8, [bl g14 5 (madeCells (cByte.enc 0) (m * 1))], [bl g15 31 #[(.int .i64 (((1 + tag.toNat % 15) : Nat) : Int)), (.slice (some ⟨g14, 0, none⟩) m m)]], E211, E221, E314, E300, ([E317, E318] : List Hl).flatten] w := hH
              obtain ⟨A322, c323, rfl⟩ := hO319.slice
              replace hH : HH w0 [] [E2, E8, [bl g14 5 (madeCells (cByte.enc 0) (m * 1))], [bl g15 31 #[(.int .i64 (((1 + tag.toNat % 15) : Nat) : Int)), (.slice (some ⟨g14, 0, none⟩) m m)]], E211, E221, E314, E300, E317, E318] w := hH.cast (by simp)
              refine pxV (v := (.tuple #[(.slice A322 L321.length c323), (.int .i64 ((((prs [] (([(UInt8.ofNat (128 + 4 * (1 + tag.toNat % 15) + 1))] ++ (beL 2 m)) ++ (List.replicate m 0))).1) : Nat) : Int))])) (fun _ _ hF => opMove rfl (hF.ev 0 rfl)) rfl (fun _ _ => rfl) (kM [false, true] rfl rfl) (by decide) ?_
              refine pxV (v := (.slice A322 L321.length c323)) (fun _ _ hF => opExtract rfl (hF.ev 0 rfl) rfl) rfl (fun _ _ => rfl) (kA rfl) (by decide) ?_
              refine pxV (v := (.int .i64 ((((prs [] (([(UInt8.ofNat (128 + 4 * (1 + tag.toNat % 15) + 1))] ++ (beL 2 m)) ++ (List.replicate m 0))).1) : Nat) : Int))) (fun _ _ hF => opExtract rfl (hF.ev 1 rfl) rfl) rfl (fun _ _ => rfl) (kM [true, false, true] rfl rfl) (by decide) ?_
              refine pxV (v := (.slice A322 L321.length c323)) (fun _ _ hF => opAssign rfl (hF.ev 1 rfl)) rfl (fun _ _ => rfl) (kM [true, false, true] rfl rfl) (by decide) ?_
              refine pxV (v := (.int .i64 ((((prs [] (([(UInt8.ofNat (128 + 4 * (1 + tag.toNat % 15) + 1))] ++ (beL 2 m)) ++ (List.replicate m 0))).1) : Nat) : Int))) (fun _ _ hF => opAssign rfl (hF.ev 1 rfl)) rfl (fun _ _ => rfl) (kM [true, false, true] rfl rfl) (by decide) ?_
              refine pxEnd ?_
              refine qxThen ?_
              refine cxSeq ?_
              refine cxReg ?_
              refine pxV (v := (.int .i64 ((((prs [] (([(UInt8.ofNat (128 + 4 * (1 + tag.toNat % 15) + 1))] ++ (beL 2 m)) ++ (List.replicate m 0))).1) : Nat) : Int))) (fun _ _ hF => opMove rfl (hF.ev 0 rfl)) rfl (fun _ _ => rfl) (kM [false, true, true] rfl rfl) (by decide) ?_
              refine pxV (v := (.bool true)) (fun _ _ hF => opEqI rfl (hF.ev 0 rfl) rfl (decide_eq_true (by rw [hp]; rfl))) rfl (fun _ _ => rfl) (kM [false, true, true] rfl rfl) (by decide) ?_
              refine pxV (v := (.bool true)) (fun _ _ hF => opMove rfl (hF.ev 0 rfl)) rfl (fun _ _ => rfl) (kM [false, true, true] rfl rfl) (by decide) ?_
              refine pxV (v := (.slice A322 L321.length c323)) (fun _ _ hF => opMove rfl (hF.ev 1 rfl)) rfl (gOn 0 rfl rfl rfl (by decide)) (kM [true, false, true] rfl rfl) (by decide) ?_
              refine pxS (v := (.agg #[(.int .i64 (((1 + tag.toNat % 15) : Nat) : Int)), (.slice (some ⟨g14, 0, none⟩) m m)])) (fun w => w.heap[g15]? = some (.cells #[(.int .i64 (((1 + tag.toNat % 15) : Nat) : Int)), (.slice (some ⟨g14, 0, none⟩) m m)] 31 (0, 0))) (hH.blk 3 rfl) (fun _ _ hF hS => opLoadKR (k := 2) hS rfl (hF.ev 2 rfl) (by kernel_rfl) rfl (by kernel_rfl) rfl) rfl (gOn 1 rfl rfl rfl (by decide)) (kM [true, true, false] rfl rfl) (by decide) ?_
              refine pxM hH (fun _ hF => smLit1 (e := 31) (sz := 2) (z := (cPk.val (0, none, 0, 0))) (by_ := 32) (cs := cPk.enc ((((1 + tag.toNat % 15) : Nat) : Int), (some ⟨g14, 0, none⟩), m, m)) rfl (by kernel_rfl) (by kernel_rfl) ((hF.ev 0 rfl).trans (cPk_val (((1 + tag.toNat % 15) : Nat) : Int) (some ⟨g14, 0, none⟩) m m)) (cPk.len ((((1 + tag.toNat % 15) : Nat) : Int), (some ⟨g14, 0, none⟩), m, m)) (ltb rfl) (leb rfl) rfl) trivial rfl (gOn 2 rfl rfl rfl (by decide)) (kM [false, true, true] rfl rfl) (by decide) ?_
              clear hH
              rintro _ _ w ⟨g326, rfl, rfl⟩ hH
              replace hH : HH w0 [] [E2, E8, [bl g14 5 (madeCells (cByte.enc 0) (m * 1))], [bl g15 31 #[(.int .i64 (((1 + tag.toNat % 15) : Nat) : Int)), (.slice (some ⟨g14, 0, none⟩) m m)]], E211, E221, E314, E300, E317, E318, [bl g326 31 (cPk.enc ((((1 + tag.toNat % 15) : Nat) : Int), (some ⟨g14, 0, none⟩), m, m))]] w := hH
              refine pxM hH (fun _ hF => Does.small ((Pure.as (v := (.bool true)) (same_c L321 ([((((1 + tag.toNat % 15) : Nat) : Int), (some ⟨g14, 0, none⟩), m, m)]) ((prs [] (([(UInt8.ofNat (128 + 4 * (1 + tag.toNat % 15) + 1))] ++ (beL 2 m)) ++ (List.replicate m 0))).2) ([(((1 + tag.toNat % 15 : Nat) : Int), List.replicate m 0)]) A322 (some ⟨g326, 0, none⟩) c323 1 (by rw [hB320.len, hp]; exact (by decide : (1 : Nat) ≤ 140737488355328))) (congrArg Value.bool (decide_eq_true (by rw [hp])))).does) (fun w => opCall rfl Try.func15 rfl rfl (Evs.cons (v := (.slice A322 L321.length c323)) (hF.ev 1 rfl) (Evs.cons (v := (.slice (some ⟨g326, 0, none⟩) 1 1)) (hF.ev 0 rfl) Evs.nil)) w)) ⟨(hO319.vuAt (hH.has 8 rfl)), (hB320.beh (hH.has 9 rfl)), ((Bk.lit1 (C := cPk) ((((1 + tag.toNat % 15) : Nat) : Int), (some ⟨g14, 0, none⟩), m, m)).vu (hH.blk 10 rfl) rfl), (beh_rep ((Bk.make (C := cByte) 0 m (ltb rfl) (by unfold maxLen; omega)).vu (hH.blk 2 rfl) List.length_replicate))⟩ rfl (gOn 2 rfl rfl rfl (by decide)) (kM [false, false, true] rfl rfl) (by decide) ?_
              clear hH
              rintro _ _ w ⟨rfl, rfl⟩ hH
              replace hH : HH w0 [] [E2, E8, [bl g14 5 (madeCells (cByte.enc 0) (m * 1))], [bl g15 31 #[(.int .i64 (((1 + tag.toNat % 15) : Nat) : Int)), (.slice (some ⟨g14, 0, none⟩) m m)]], E211, E221, E314, E300, E317, E318, [bl g326 31 (cPk.enc ((((1 + tag.toNat % 15) : Nat) : Int), (some ⟨g14, 0, none⟩), m, m))]] w := hH.unpad
              refine pxV (v := (.bool true)) (fun _ _ hF => opPickT rfl (hF.ev 1 rfl) (hF.ev 0 rfl)) rfl (fun _ _ => rfl) (kM [false, false] rfl rfl) (by decide) ?_
              refine pxV (v := (.bool true)) (fun _ _ hF => opAssign rfl (hF.ev 0 rfl)) rfl (fun _ _ => rfl) (kM [false] rfl rfl) (by decide) ?_
              refine pxEnd ?_
              refine qxThen ?_
              refine cxRet ?_
              refine qxRet1 0 rfl rfl ?_
              exact ⟨rfl, HH.toBelow hH⟩
            · refine moM rfl hH (fun _ hF => Does.small (bytes_r m 2 (leb rfl)) (fun w => opCall rfl Try.func19 rfl rfl (Evs.cons (v := (.int .u64 (((m) : Nat) : Int))) (hF.ev 0 rfl) (Evs.cons (v := (.int .i64 2)) rfl Evs.nil)) w)) trivial rfl (fun _ _ => rfl) (kM [false, true, true, true] rfl rfl) (by decide) (PendOk.keep (PendOk.nil _ [])) ?_
              clear hH
              rintro v331 E327 w hO328 hH
              replace hH : HH w0 [] [E2, E8, [bl g14 5 (madeCells (cByte.enc 0) (m * 1))], [bl g15 31 #[(.int .i64 (((1 + tag.toNat % 15) : Nat) : Int)), (.slice (some ⟨g14, 0, none⟩) m m)]], E211, E221, E327] w := hH
              obtain ⟨A329, c330, rfl⟩ := hO328.slice
              refine ⟨(by
                intro s hs
                simp only [List.mem_cons, List.not_mem_nil, or_false] at hs
                rcases hs with rfl
                · exact (hH.blk 3 rfl)
                ), ?_⟩
              refine rx1 6 (by kernel_rfl) ?_
              refine moM rfl hH (fun _ hF => smLit1 (e := 5) (sz := 1) (z := (.int .u8 0)) (by_ := 1) (cs := cByte.enc (UInt8.ofNat (128 + 4 * (1 + tag.toNat % 15) + 1))) rfl (by kernel_rfl) (by kernel_rfl) (hF.ev 1 rfl) (cByte.len (UInt8.ofNat (128 + 4 * (1 + tag.toNat % 15) + 1))) (ltb rfl) (leb rfl) rfl) trivial rfl (fun _ _ => rfl) (kM [true, false, true, true] rfl rfl) (by decide) (PendOk.go [5, 4, 3, 2] (by kernel_rfl) (PendOk.nil _ [])) ?_
              clear hH
              rintro _ _ w ⟨g333, rfl, rfl⟩ hH
              replace hH : HH w0 [] [E2, E8, [bl g14 5 (madeCells (cByte.enc 0) (m * 1))], [bl g15 31 #[(.int .i64 (((1 + tag.toNat % 15) : Nat) : Int)), (.slice (some ⟨g14, 0, none⟩) m m)]], E211, E221, E327, [bl g333 5 (cByte.enc (UInt8.ofNat (128 + 4 * (1 + tag.toNat % 15) + 1)))]] w := hH
              refine ⟨(fun _ hs => by cases hs), ?_⟩
              refine rx1 10 (by kernel_rfl) ?_
              refine moE 7 rfl hH rfl (fun _ hF => smAppT (C := cByte) (l := [(UInt8.ofNat (128 + 4 * (1 + tag.toNat % 15) + 1))]) (m := (beL 2 m)) (e := 5) (z := (.int .u8 0)) (by_ := 1) rfl (by kernel_rfl) (by kernel_rfl) rfl (ltb rfl) (hF.ev 0 rfl) ((Bk.lit1 (C := cByte) (UInt8.ofNat (128 + 4 * (1 + tag.toNat % 15) + 1))).own 5 g333 rfl) (hF.ev 1 rfl) rfl hO328.nilA (by rw [beL_len]; simp only [List.length_cons, List.length_nil]; unfold maxLen; omega) (by rw [beL_len]; simp only [List.length_cons, List.length_nil]; omega)) (hO328.vuAt (hH.has 6 rfl)) rfl (fun _ _ => rfl) (kM [false, false, true, true] rfl rfl) (by decide) (PendOk.nil _ []) ?_
              clear hH
              rintro v336 E337 w ⟨hO338, _⟩ hH
              replace hH : HH w0 [] [E2, E8, [bl g14 5 (madeCells (cByte.enc 0) (m * 1))], [bl g15 31 #[(.int .i64 (((1 + tag.toNat % 15) : Nat) : Int)), (.slice (some ⟨g14, 0, none⟩) m m)]], E211, E221, E327, E337] w := hH
              replace hO338 : OwnT cByte 5 v336 ([(UInt8.ofNat (128 + 4 * (1 + tag.toNat % 15) + 1))] ++ (beL 2 m)) E337 := hO338
              obtain ⟨A334, c335, rfl⟩ := hO338.slice
              refine ⟨(fun _ hs => by cases hs), ?_⟩
              refine rxV 11 rfl (by kernel_rfl) rfl (fun _ _ => rfl) (fun _ _ hF => opAssign rfl (hF.ev 0 rfl)) (kM [false, false, true] rfl rfl) (by decide) (v := (.slice A334 (([(UInt8.ofNat (128 + 4 * (1 + tag.toNat % 15) + 1))] ++ (beL 2 m)).length) c335)) ?_
              refine rxEnd (by kernel_rfl) ?_
              refine qxInN ?_
              refine qxThen ?_
              refine cxSeq ?_
              have hp : prs [] (([(UInt8.ofNat (128 + 4 * (1 + tag.toNat % 15) + 1))] ++ (beL 2 m)) ++ (List.replicate m 0)) = (0, [(((1 + tag.toNat % 15 : Nat) : Int), (List.replicate m 0))]) := form_old (k := 1) (by omega) (by omega) (by decide) List.length_replicate hm (Nat.lt_of_le_of_lt hm (by decide))
              have hfl : (([(UInt8.ofNat (128 + 4 * (1 + tag.toNat % 15) + 1))] ++ (beL 2 m))).length ≤ 6 := by simp [beL_len]
              have hrl : (List.replicate m (0 : UInt8)).length = m := List.length_replicate
              refine cxReg ?_
              refine pxV (v := (.slice A334 (([(UInt8.ofNat (128 + 4 * (1 + tag.toNat % 15) + 1))] ++ (beL 2 m)).length) c335)) (fun _ _ hF => opMove rfl (hF.ev 0 rfl)) rfl (fun _ _ => rfl) (kM [false, true] rfl rfl) (by decide) ?_
              refine pxV (v := (.pointer (some ⟨g15, 1, none⟩))) (fun _ _ hF => opField (off := 1) rfl (hF.ev 1 rfl) (by kernel_rfl)) rfl (fun _ _ => rfl) (kA rfl) (by decide) ?_
              refine pxS (v := (.slice (some ⟨g14, 0, none⟩) m m)) (fun w => w.heap[g15]? = some (.cells #[(.int .i64 (((1 + tag.toNat % 15) : Nat) : Int)), (.slice (some ⟨g14, 0, none⟩) m m)] 31 (0, 0))) (hH.blk 3 rfl) (fun _ _ hF hS => opLoadK hS rfl (hF.ev 0 rfl) (by kernel_rfl) rfl) rfl (fun _ _ => rfl) (kM [false, true, true] rfl rfl) (by decide) ?_
              refine pxE 7 hH rfl (fun _ hF => smAppT (C := cByte) (l := ([(UInt8.ofNat (128 + 4 * (1 + tag.toNat % 15) + 1))] ++ (beL 2 m))) (m := (List.replicate m 0)) (e := 5) (z := (.int .u8 0)) (by_ := 1) rfl (by kernel_rfl) (by kernel_rfl) rfl (ltb rfl) (hF.ev 1 rfl) hO338 (hF.ev 0 rfl) List.length_replicate (fun h => by cases h) (by unfold maxLen; omega) (by omega)) ((Bk.make (C := cByte) 0 m (ltb rfl) (by unfold maxLen; omega)).vu (hH.blk 2 rfl) List.length_replicate) rfl (fun _ _ => rfl) (kM [false, false, true] rfl rfl) (by decide) ?_
              clear hH
              rintro v341 E342 w ⟨hO343, _⟩ hH
              replace hH : HH w0 [] [E2, E8, [bl g14 5 (madeCells (cByte.enc 0) (m * 1))], [bl g15 31 #[(.int .i64 (((1 + tag.toNat % 15) : Nat) : Int)), (.slice (some ⟨g14, 0, none⟩) m m)]], E211, E221, E327, E342] w := hH
              replace hO343 : OwnT cByte 5 v341 (([(UInt8.ofNat (128 + 4 * (1 + tag.toNat % 15) + 1))] ++ (beL 2 m)) ++ (List.replicate m 0)) E342 := hO343
              obtain ⟨A339, c340, rfl⟩ := hO343.slice
              refine pxM hH (fun _ hF => Does.small (parse_c c340 A339 (([(UInt8.ofNat (128 + 4 * (1 + tag.toNat % 15) + 1))] ++ (beL 2 m)) ++ (List.replicate m 0)) (by rw [List.length_append]; omega)) (fun w => opCall rfl Try.func14 rfl rfl (Evs.cons (v := (.slice A339 ((([(UInt8.ofNat (128 + 4 * (1 + tag.toNat % 15) + 1))] ++ (beL 2 m)) ++ (List.replicate m 0)).length) c340)) (hF.ev 0 rfl) Evs.nil) w)) (hO343.vuAt (hH.has 7 rfl)) rfl (fun _ _ => rfl) (kM [false, true] rfl rfl) (by decide) ?_
              clear hH
              rintro _ _ w ⟨s344, rfl, L349, E345, E346, rfl, hO347, hB348⟩ hH
              replace hH : HH w0 [] [E2, E8, [bl g14 5 (madeCells (cByte.enc 0) (m * 1))], [bl g15 31 #[(.int .i64 (((1 + tag.toNat % 15) : Nat) : Int)), (.slice (some ⟨g14, 0, none⟩) m m)]], E211, E221, E327, E342, ([E345, E346] : List Hl).flatten] w := hH
              obtain ⟨A350, c351, rfl⟩ := hO347.slice
              replace hH : HH w0 [] [E2, E8, [bl g14 5 (madeCells (cByte.enc 0) (m * 1))], [bl g15 31 #[(.int .i64 (((1 + tag.toNat % 15) : Nat) : Int)), (.slice (some ⟨g14, 0, none⟩) m m)]], E211, E221, E327, E342, E345, E346] w := hH.cast (by simp)
              refine pxV (v := (.tuple #[(.slice A350 L349.length c351), (.int .i64 ((((prs [] (([(UInt8.ofNat (128 + 4 * (1 + tag.toNat % 15) + 1))] ++ (beL 2 m)) ++ (List.replicate m 0))).1) : Nat) : Int))])) (fun _ _ hF => opMove rfl (hF.ev 0 rfl)) rfl (fun _ _ => rfl) (kM [false, true] rfl rfl) (by decide) ?_
              refine pxV (v := (.slice A350 L349.length c351)) (fun _ _ hF => opExtract rfl (hF.ev 0 rfl) rfl) rfl (fun _ _ => rfl) (kA rfl) (by decide) ?_
              refine pxV (v := (.int .i64 ((((prs [] (([(UInt8.ofNat (128 + 4 * (1 + tag.toNat % 15) + 1))] ++ (beL 2 m)) ++ (List.replicate m 0))).1) : Nat) : Int))) (fun _ _ hF => opExtract rfl (hF.ev 1 rfl) rfl) rfl (fun _ _ => rfl) (kM [true, false, true] rfl rfl) (by decide) ?_
              refine pxV (v := (.slice A350 L349.length c351)) (fun _ _ hF => opAssign rfl (hF.ev 1 rfl)) rfl (fun _ _ => rfl) (kM [true, false, true] rfl rfl) (by decide) ?_
              refine pxV (v := (.int .i64 ((((prs [] (([(UInt8.ofNat (128 + 4 * (1 + tag.toNat % 15) + 1))] ++ (beL 2 m)) ++ (List.replicate m 0))).1) : Nat) : Int))) (fun _ _ hF => opAssign rfl (hF.ev 1 rfl)) rfl (fun _ _ => rfl) (kM [true, false, true] rfl rfl) (by decide) ?_
              refine pxEnd ?_
              refine qxThen ?_
              refine cxSeq ?_
              refine cxReg ?_
              refine pxV (v := (.int .i64 ((((prs [] (([(UInt8.ofNat (128 + 4 * (1 + tag.toNat % 15) + 1))] ++ (beL 2 m)) ++ (List.replicate m 0))).1) : Nat) : Int))) (fun _ _ hF => opMove rfl (hF.ev 0 rfl)) rfl (fun _ _ => rfl) (kM [false, true, true] rfl rfl) (by decide) ?_
              refine pxV (v := (.bool true)) (fun _ _ hF => opEqI rfl (hF.ev 0 rfl) rfl (decide_eq_true (by rw [hp]; rfl))) rfl (fun _ _ => rfl) (kM [false, true, true] rfl rfl) (by decide) ?_
              refine pxV (v := (.bool true)) (fun _ _ hF => opMove rfl (hF.ev 0 rfl)) rfl (fun _ _ => rfl) (kM [false, true, true] rfl rfl) (by decide) ?_
              refine pxV (v := (.slice A350 L349.length c351)) (fun _ _ hF => opMove rfl (hF.ev 1 rfl)) rfl (gOn 0 rfl rfl rfl (by decide)) (kM [true, false, true] rfl rfl) (by decide) ?_
              refine pxS (v := (.agg #[(.int .i64 (((1 + tag.toNat % 15) : Nat) : Int)), (.slice (some ⟨g14, 0, none⟩) m m)])) (fun w => w.heap[g15]? = some (.cells #[(.int .i64 (((1 + tag.toNat % 15) : Nat) : Int)), (.slice (some ⟨g14, 0, none⟩) m m)] 31 (0, 0))) (hH.blk 3 rfl) (fun _ _ hF hS => opLoadKR (k := 2) hS rfl (hF.ev 2 rfl) (by kernel_rfl) rfl (by kernel_rfl) rfl) rfl (gOn 1 rfl rfl rfl (by decide)) (kM [true, true, false] rfl rfl) (by decide) ?_
              refine pxM hH (fun _ hF => smLit1 (e := 31) (sz := 2) (z := (cPk.val (0, none, 0, 0))) (by_ := 32) (cs := cPk.enc ((((1 + tag.toNat % 15) : Nat) : Int), (some ⟨g14, 0, none⟩), m, m)) rfl (by kernel_rfl) (by kernel_rfl) ((hF.ev 0 rfl).trans (cPk_val (((1 + tag.toNat % 15) : Nat) : Int) (some ⟨g14, 0, none⟩) m m)) (cPk.len ((((1 + tag.toNat % 15) : Nat) : Int), (some ⟨g14, 0, none⟩), m, m)) (ltb rfl) (leb rfl) rfl) trivial rfl (gOn 2 rfl rfl rfl (by decide)) (kM [false, true, true] rfl rfl) (by decide) ?_
              clear hH
              rintro _ _ w ⟨g354, rfl, rfl⟩ hH
              replace hH : HH w0 [] [E2, E8, [bl g14 5 (madeCells (cByte.enc 0) (m * 1))], [bl g15 31 #[(.int .i64 (((1 + tag.toNat % 15) : Nat) : Int)), (.slice (some ⟨g14, 0, none⟩) m m)]], E211, E221, E327, E342, E345, E346, [bl g354 31 (cPk.enc ((((1 + tag.toNat % 15) : Nat) : Int), (some ⟨g14, 0, none⟩), m, m))]] w := hH
              refine pxM hH (fun _ hF => Does.small ((Pure.as (v := (.bool true)) (same_c L349 ([((((1 + tag.toNat % 15) : Nat) : Int), (some ⟨g14, 0, none⟩), m, m)]) ((prs [] (([(UInt8.ofNat (128 + 4 * (1 + tag.toNat % 15) + 1))] ++ (beL 2 m)) ++ (List.replicate m 0))).2) ([(((1 + tag.toNat % 15 : Nat) : Int), List.replicate m 0)]) A350 (some ⟨g354, 0, none⟩) c351 1 (by rw [hB348.len, hp]; exact (by decide : (1 : Nat) ≤ 140737488355328))) (congrArg Value.bool (decide_eq_true (by rw [hp])))).does) (fun w => opCall rfl Try.func15 rfl rfl (Evs.cons (v := (.slice A350 L349.length c351)) (hF.ev 1 rfl) (Evs.cons (v := (.slice (some ⟨g354, 0, none⟩) 1 1)) (hF.ev 0 rfl) Evs.nil)) w)) ⟨(hO347.vuAt (hH.has 8 rfl)), (hB348.beh (hH.has 9 rfl)), ((Bk.lit1 (C := cPk) ((((1 + tag.toNat % 15) : Nat) : Int), (some ⟨g14, 0, none⟩), m, m)).vu (hH.blk 10 rfl) rfl), (beh_rep ((Bk.make (C := cByte) 0 m (ltb rfl) (by unfold maxLen; omega)).vu (hH.blk 2 rfl) List.length_replicate))⟩ rfl (gOn 2 rfl rfl rfl (by decide)) (kM [false, false, true] rfl rfl) (by decide) ?_
              clear hH
              rintro _ _ w ⟨rfl, rfl⟩ hH
              replace hH : HH w0 [] [E2, E8, [bl g14 5 (madeCells (cByte.enc 0) (m * 1))], [bl g15 31 #[(.int .i64 (((1 + tag.toNat % 15) : Nat) : Int)), (.slice (some ⟨g14, 0, none⟩) m m)]], E211, E221, E327, E342, E345, E346, [bl g354 31 (cPk.enc ((((1 + tag.toNat % 15) : Nat) : Int), (some ⟨g14, 0, none⟩), m, m))]] w := hH.unpad
              refine pxV (v := (.bool true)) (fun _ _ hF => opPickT rfl (hF.ev 1 rfl) (hF.ev 0 rfl)) rfl (fun _ _ => rfl) (kM [false, false] rfl rfl) (by decide) ?_
              refine pxV (v := (.bool true)) (fun _ _ hF => opAssign rfl (hF.ev 0 rfl)) rfl (fun _ _ => rfl) (kM [false] rfl rfl) (by decide) ?_
              refine pxEnd ?_
              refine qxThen ?_
              refine cxRet ?_
              refine qxRet1 0 rfl rfl ?_
              exact ⟨rfl, HH.toBelow hH⟩
          · refine cxSeq ?_
            refine cxReg ?_
            refine pxV (v := (.bool (decide (form.toNat % 5 = 4)))) (fun _ _ hF => opEqI rfl (hF.ev 1 rfl) rfl (dc (by omega))) rfl (fun _ _ => rfl) (kM [false, false, true, true, true] rfl rfl) (by decide) ?_
            refine pxV (v := (.bool (decide (form.toNat % 5 = 4)))) (fun _ _ hF => opAssign rfl (hF.ev 0 rfl)) rfl (fun _ _ => rfl) (kM [false, true, true, true] rfl rfl) (by decide) ?_
            refine pxEnd ?_
            refine qxThen ?_
            refine cxP 0 rfl rfl (fun hc355 => ?_) (fun hc355 => ?_)
            · refine cxSeq ?_
              refine cxReg ?_
              refine pxV (v := (.int .i64 (((m) : Nat) : Int))) (fun _ _ hF => opMove rfl (hF.ev 3 rfl)) rfl (fun _ _ => rfl) (kM [false, true, true, true] rfl rfl) (by decide) ?_
              refine pxV (v := (.bool (decide (m < 256)))) (fun _ _ hF => opLss rfl (hF.ev 0 rfl) rfl (dc (by omega))) rfl (fun _ _ => rfl) (kM [false, true, true, true] rfl rfl) (by decide) ?_
              refine pxEnd ?_
              refine qxThen ?_
              refine cxP 0 rfl rfl (fun hc356 => ?_) (fun hc356 => ?_)
              · refine cxReg ?_
                refine pxV (v := (.pointer (some ⟨g15, 0, none⟩))) (fun _ _ hF => opField (off := 0) rfl (hF.ev 2 rfl) (by kernel_rfl)) rfl (fun _ _ => rfl) (kM [false, false, true, true] rfl rfl) (by decide) ?_
                refine pxS (v := (.int .i64 (((1 + tag.toNat % 15) : Nat) : Int))) (fun w => w.heap[g15]? = some (.cells #[(.int .i64 (((1 + tag.toNat % 15) : Nat) : Int)), (.slice (some ⟨g14, 0, none⟩) m m)] 31 (0, 0))) (hH.blk 3 rfl) (fun _ _ hF hS => opLoadK hS rfl (hF.ev 0 rfl) (by kernel_rfl) rfl) rfl (fun _ _ => rfl) (kM [false, true, true] rfl rfl) (by decide) ?_
                refine pxV (v := (.int .i64 (((4 * (1 + tag.toNat % 15)) : Nat) : Int))) (fun _ _ hF => opMul rfl rfl (hF.ev 0 rfl) (wI rfl (by omega) (by omega))) rfl (fun _ _ => rfl) (kM [false, true, true] rfl rfl) (by decide) ?_
                refine pxV (v := (.int .i64 (((128 + 4 * (1 + tag.toNat % 15)) : Nat) : Int))) (fun _ _ hF => opAdd rfl rfl (hF.ev 0 rfl) (wI rfl (by omega) (by omega))) rfl (fun _ _ => rfl) (kM [false, true, true] rfl rfl) (by decide) ?_
                refine pxV (v := (.int .u8 ((((UInt8.ofNat (128 + 4 * (1 + tag.toNat % 15))).toNat) : Nat) : Int))) (fun _ _ hF => opConvU (k' := .u8) rfl rfl (by kernel_rfl) (by kernel_rfl) (hF.ev 0 rfl) (UInt8.toNat_ofNat' (n := 128 + 4 * (1 + tag.toNat % 15))).symm) rfl (fun _ _ => rfl) (kM [false, true, true] rfl rfl) (by decide) ?_
                refine pxV (v := (.int .i64 (((m) : Nat) : Int))) (fun _ _ hF => opMove rfl (hF.ev 2 rfl)) rfl (fun _ _ => rfl) (kM [true, true, false] rfl rfl) (by decide) ?_
                refine pxV (v := (.int .u8 ((((UInt8.ofNat m).toNat) : Nat) : Int))) (fun _ _ hF => opConvU (k' := .u8) rfl rfl (by kernel_rfl) (by kernel_rfl) (hF.ev 0 rfl) (UInt8.toNat_ofNat' (n := m)).symm) rfl (fun _ _ => rfl) (kM [false, true, true] rfl rfl) (by decide) ?_
                refine pxM hH (fun _ hF => smLits (C := cByte) (e := 5) (z := (.int .u8 0)) (by_ := 1) [(UInt8.ofNat (128 + 4 * (1 + tag.toNat % 15))), (UInt8.ofNat m)] rfl (by kernel_rfl) (by kernel_rfl) (EvP.cons (v := cByte.val (UInt8.ofNat (128 + 4 * (1 + tag.toNat % 15)))) (hF.ev 1 rfl) (EvP.cons (v := cByte.val (UInt8.ofNat m)) (hF.ev 0 rfl) EvP.nil)) rfl (ltb rfl) (leb rfl) rfl) trivial rfl (fun _ _ => rfl) (kM [false, false, true] rfl rfl) (by decide) ?_
                clear hH
                rintro _ _ w ⟨g357, rfl, rfl⟩ hH
                replace hH : HH w0 [] [E2, E8, [bl g14 5 (madeCells (cByte.enc 0) (m * 1))], [bl g15 31 #[(.int .i64 (((1 + tag.toNat % 15) : Nat) : Int)), (.slice (some ⟨g14, 0, none⟩) m m)]], E211, E221, [bl g357 5 (flat cByte [(UInt8.ofNat (128 + 4 * (1 + tag.toNat % 15))), (UInt8.ofNat m)]).toArray]] w := hH
                refine pxV (v := (.slice (some ⟨g357, 0, none⟩) 2 2)) (fun _ _ hF => opAssign rfl (hF.ev 0 rfl)) rfl (fun _ _ => rfl) (kM [false, true] rfl rfl) (by decide) ?_
                refine pxEnd ?_
                refine qxInN ?_
                refine qxThen ?_
                refine cxSeq ?_
                have hp : prs [] ([(UInt8.ofNat (128 + 4 * (1 + tag.toNat % 15))), (UInt8.ofNat m)] ++ (List.replicate m 0)) = (0, [(((1 + tag.toNat % 15 : Nat) : Int), (List.replicate m 0))]) := form_zero (by omega) (by omega) List.length_replicate (by omega)
                have hfl : ([(UInt8.ofNat (128 + 4 * (1 + tag.toNat % 15))), (UInt8.ofNat m)]).length ≤ 6 := by simp
                have hrl : (List.replicate m (0 : UInt8)).length = m := List.length_replicate
                refine cxReg ?_
                refine pxV (v := (.slice (some ⟨g357, 0, none⟩) 2 2)) (fun _ _ hF => opMove rfl (hF.ev 0 rfl)) rfl (fun _ _ => rfl) (kM [false, true] rfl rfl) (by decide) ?_
                refine pxV (v := (.pointer (some ⟨g15, 1, none⟩))) (fun _ _ hF => opField (off := 1) rfl (hF.ev 1 rfl) (by kernel_rfl)) rfl (fun _ _ => rfl) (kA rfl) (by decide) ?_
                refine pxS (v := (.slice (some ⟨g14, 0, none⟩) m m)) (fun w => w.heap[g15]? = some (.cells #[(.int .i64 (((1 + tag.toNat % 15) : Nat) : Int)), (.slice (some ⟨g14, 0, none⟩) m m)] 31 (0, 0))) (hH.blk 3 rfl) (fun _ _ hF hS => opLoadK hS rfl (hF.ev 0 rfl) (by kernel_rfl) rfl) rfl (fun _ _ => rfl) (kM [false, true, true] rfl rfl) (by decide) ?_
                refine pxE 6 hH rfl (fun _ hF => smAppT (C := cByte) (l := [(UInt8.ofNat (128 + 4 * (1 + tag.toNat % 15))), (UInt8.ofNat m)]) (m := (List.replicate m 0)) (e := 5) (z := (.int .u8 0)) (by_ := 1) rfl (by kernel_rfl) (by kernel_rfl) rfl (ltb rfl) (hF.ev 1 rfl) ((Bk.lits (C := cByte) [(UInt8.ofNat (128 + 4 * (1 + tag.toNat % 15))), (UInt8.ofNat m)] (by show 2 ≤ _; unfold maxLen; decide)).own 5 g357 rfl) (hF.ev 0 rfl) List.length_replicate (fun h => by cases h) (by unfold maxLen; omega) (by omega)) ((Bk.make (C := cByte) 0 m (ltb rfl) (by unfold maxLen; omega)).vu (hH.blk 2 rfl) List.length_replicate) rfl (fun _ _ => rfl) (kM [false, false, true] rfl rfl) (by decide) ?_
                clear hH
                rintro v360 E361 w ⟨hO362, _⟩ hH
                replace hH : HH w0 [] [E2, E8, [bl g14 5 (madeCells (cByte.enc 0) (m * 1))], [bl g15 31 #[(.int .i64 (((1 + tag.toNat % 15) : Nat) : Int)), (.slice (some ⟨g14, 0, none⟩) m m)]], E211, E221, E361] w := hH
                replace hO362 : OwnT cByte 5 v360 ([(UInt8.ofNat (128 + 4 * (1 + tag.toNat % 15))), (UInt8.ofNat m)] ++ (List.replicate m 0)) E361 := hO362
                obtain ⟨A358, c359, rfl⟩ := hO362.slice
                refine pxM hH (fun _ hF => Does.small (parse_c c359 A358 ([(UInt8.ofNat (128 + 4 * (1 + tag.toNat % 15))), (UInt8.ofNat m)] ++ (List.replicate m 0)) (by rw [List.length_append]; omega)) (fun w => opCall rfl Try.func14 rfl rfl (Evs.cons (v := (.slice A358 (([(UInt8.ofNat (128 + 4 * (1 + tag.toNat % 15))), (UInt8.ofNat m)] ++ (List.replicate m 0)).length) c359)) (hF.ev 0 rfl) Evs.nil) w)) (hO362.vuAt (hH.has 6 rfl)) rfl (fun _ _ => rfl) (kM [false, true] rfl rfl) (by decide) ?_
                clear hH
                rintro _ _ w ⟨s363, rfl, L368, E364, E365, rfl, hO366, hB367⟩ hH
                replace hH : HH w0 [] [E2, E8, [bl g14 5 (madeCells (cByte.enc 0) (m * 1))], [bl g15 31 #[(.int .i64 (((1 + tag.toNat % 15) : Nat) : Int)), (.slice (some ⟨g14, 0, none⟩) m m)]], E211, E221, E361, ([E364, E365] : List Hl).flatten] w := hH
                obtain ⟨A369, c370, rfl⟩ := hO366.slice
                replace hH : HH w0 [] [E2, E8, [bl g14 5 (madeCells (cByte.enc 0) (m * 1))], [bl g15 31 #[(.int .i64 (((1 + tag.toNat % 15) : Nat) : Int)), (.slice (some ⟨g14, 0, none⟩) m m)]], E211, E221, E361, E364, E365] w := hH.cast (by simp)
                refine pxV (v := (.tuple #[(.slice A369 L368.length c370), (.int .i64 ((((prs [] ([(UInt8.ofNat (128 + 4 * (1 + tag.toNat % 15))), (UInt8.ofNat m)] ++ (List.replicate m 0))).1) : Nat) : Int))])) (fun _ _ hF => opMove rfl (hF.ev 0 rfl)) rfl (fun _ _ => rfl) (kM [false, true] rfl rfl) (by decide) ?_
                refine pxV (v := (.slice A369 L368.length c370)) (fun _ _ hF => opExtract rfl (hF.ev 0 rfl) rfl) rfl (fun _ _ => rfl) (kA rfl) (by decide) ?_
                refine pxV (v := (.int .i64 ((((prs [] ([(UInt8.ofNat (128 + 4 * (1 + tag.toNat % 15))), (UInt8.ofNat m)] ++ (List.replicate m 0))).1) : Nat) : Int))) (fun _ _ hF => opExtract rfl (hF.ev 1 rfl) rfl) rfl (fun _ _ => rfl) (kM [true, false, true] rfl rfl) (by decide) ?_
                refine pxV (v := (.slice A369 L368.length c370)) (fun _ _ hF => opAssign rfl (hF.ev 1 rfl)) rfl (fun _ _ => rfl) (kM [true, false, true] rfl rfl) (by decide) ?_
                refine pxV (v := (.int .i64 ((((prs [] ([(UInt8.ofNat (128 + 4 * (1 + tag.toNat % 15))), (UInt8.ofNat m)] ++ (List.replicate m 0))).1) : Nat) : Int))) (fun _ _ hF => opAssign rfl (hF.ev 1 rfl)) rfl (fun _ _ => rfl) (kM [true, false, true] rfl rfl) (by decide) ?_
                refine pxEnd ?_
                refine qxThen ?_
                refine cxSeq ?_
                refine cxReg ?_
                refine pxV (v := (.int .i64 ((((prs [] ([(UInt8.ofNat (128 + 4 * (1 + tag.toNat % 15))), (UInt8.ofNat m)] ++ (List.replicate m 0))).1) : Nat) : Int))) (fun _ _ hF => opMove rfl (hF.ev 0 rfl)) rfl (fun _ _ => rfl) (kM [false, true, true] rfl rfl) (by decide) ?_
                refine pxV (v := (.bool true)) (fun _ _ hF => opEqI rfl (hF.ev 0 rfl) rfl (decide_eq_true (by rw [hp]; rfl))) rfl (fun _ _ => rfl) (kM [false, true, true] rfl rfl) (by decide) ?_
                refine pxV (v := (.bool true)) (fun _ _ hF => opMove rfl (hF.ev 0 rfl)) rfl (fun _ _ => rfl) (kM [false, true, true] rfl rfl) (by decide) ?_
                refine pxV (v := (.slice A369 L368.length c370)) (fun _ _ hF => opMove rfl (hF.ev 1 rfl)) rfl (gOn 0 rfl rfl rfl (by decide)) (kM [true, false, true] rfl rfl) (by decide) ?_
                refine pxS (v := (.agg #[(.int .i64 (((1 + tag.toNat % 15) : Nat) : Int)), (.slice (some ⟨g14, 0, none⟩) m m)])) (fun w => w.heap[g15]? = some (.cells #[(.int .i64 (((1 + tag.toNat % 15) : Nat) : Int)), (.slice (some ⟨g14, 0, none⟩) m m)] 31 (0, 0))) (hH.blk 3 rfl) (fun _ _ hF hS => opLoadKR (k := 2) hS rfl (hF.ev 2 rfl) (by kernel_rfl) rfl (by kernel_rfl) rfl) rfl (gOn 1 rfl rfl rfl (by decide)) (kM [true, true, false] rfl rfl) (by decide) ?_
                refine pxM hH (fun _ hF => smLit1 (e := 31) (sz := 2) (z := (cPk.val (0, none, 0, 0))) (by_ := 32) (cs := cPk.enc ((((1 + tag.toNat % 15) : Nat) : Int), (some ⟨g14, 0, none⟩), m, m)) rfl (by kernel_rfl) (by kernel_rfl) ((hF.ev 0 rfl).trans (cPk_val (((1 + tag.toNat % 15) : Nat) : Int) (some ⟨g14, 0, none⟩) m m)) (cPk.len ((((1 + tag.toNat % 15) : Nat) : Int), (some ⟨g14, 0, none⟩), m, m)) (ltb rfl) (leb rfl) rfl) trivial rfl (gOn 2 rfl rfl rfl (by decide)) (kM [false, true, true] rfl rfl) (by decide) ?_
                clear hH
                rintro _ _ w ⟨g373, rfl, rfl⟩ hH
                replace hH : HH w0 [] [E2, E8, [bl g14 5 (madeCells (cByte.enc 0) (m * 1))], [bl g15 31 #[(.int .i64 (((1 + tag.toNat % 15) : Nat) : Int)), (.slice (some ⟨g14, 0, none⟩) m m)]], E211, E221, E361, E364, E365, [bl g373 31 (cPk.enc ((((1 + tag.toNat % 15) : Nat) : Int), (some ⟨g14, 0, none⟩), m, m))]] w := hH
                refine pxM hH (fun _ hF => Does.small ((Pure.as (v := (.bool true)) (same_c L368 ([((((1 + tag.toNat % 15) : Nat) : Int), (some ⟨g14, 0, none⟩), m, m)]) ((prs [] ([(UInt8.ofNat (128 + 4 * (1 + tag.toNat % 15))), (UInt8.ofNat m)] ++ (List.replicate m 0))).2) ([(((1 + tag.toNat % 15 : Nat) : Int), List.replicate m 0)]) A369 (some ⟨g373, 0, none⟩) c370 1 (by rw [hB367.len, hp]; exact (by decide : (1 : Nat) ≤ 140737488355328))) (congrArg Value.bool (decide_eq_true (by rw [hp])))).does) (fun w => opCall rfl Try.func15 rfl rfl (Evs.cons (v := (.slice A369 L368.length c370)) (hF.ev 1 rfl) (Evs.cons (v := (.slice (some ⟨g373, 0, none⟩) 1 1)) (hF.ev 0 rfl) Evs.nil)) w)) ⟨(hO366.vuAt (hH.has 7 rfl)), (hB367.beh (hH.has 8 rfl)), ((Bk.lit1 (C := cPk) ((((1 + tag.toNat % 15) : Nat) : Int), (some ⟨g14, 0, none⟩), m, m)).vu (hH.blk 9 rfl) rfl), (beh_rep ((Bk.make (C := cByte) 0 m (ltb rfl) (by unfold maxLen; omega)).vu (hH.blk 2 rfl) List.length_replicate))⟩ rfl (gOn 2 rfl rfl rfl (by decide)) (kM [false, false, true] rfl rfl) (by decide) ?_
                clear hH
                rintro _ _ w ⟨rfl, rfl⟩ hH
                replace hH : HH w0 [] [E2, E8, [bl g14 5 (madeCells (cByte.enc 0) (m * 1))], [bl g15 31 #[(.int .i64 (((1 + tag.toNat % 15) : Nat) : Int)), (.slice (some ⟨g14, 0, none⟩) m m)]], E211, E221, E361, E364, E365, [bl g373 31 (cPk.enc ((((1 + tag.toNat % 15) : Nat) : Int), (some ⟨g14, 0, none⟩), m, m))]] w := hH.unpad
                refine pxV (v := (.bool true)) (fun _ _ hF => opPickT rfl (hF.ev 1 rfl) (hF.ev 0 rfl)) rfl (fun _ _ => rfl) (kM [false, false] rfl rfl) (by decide) ?_
                refine pxV (v := (.bool true)) (fun _ _ hF => opAssign rfl (hF.ev 0 rfl)) rfl (fun _ _ => rfl) (kM [false] rfl rfl) (by decide) ?_
                refine pxEnd ?_
                refine qxThen ?_
                refine cxRet ?_
                refine qxRet1 0 rfl rfl ?_
                exact ⟨rfl, HH.toBelow hH⟩
              · refine cxSkip ?_
                refine qxInN ?_
                refine qxThen ?_
                refine cxSeq ?_
                have hp : prs [] (([(UInt8.ofNat (192 + (1 + tag.toNat % 15))), 255] ++ (beL 4 m)) ++ (List.replicate m 0)) = (0, [(((1 + tag.toNat % 15 : Nat) : Int), (List.replicate m 0))]) := form_new (by omega) (by omega) List.length_replicate hm
                have hfl : (([(UInt8.ofNat (192 + (1 + tag.toNat % 15))), 255] ++ (beL 4 m))).length ≤ 6 := by simp [beL_len]
                have hrl : (List.replicate m (0 : UInt8)).length = m := List.length_replicate
                refine cxReg ?_
                refine pxV (v := (.slice A218 (([(UInt8.ofNat (192 + (1 + tag.toNat % 15))), 255] ++ (beL 4 m)).length) c219)) (fun _ _ hF => opMove rfl (hF.ev 1 rfl)) rfl (fun _ _ => rfl) (kM [false, false, true, false] rfl rfl) (by decide) ?_
                refine pxV (v := (.pointer (some ⟨g15, 1, none⟩))) (fun _ _ hF => opField (off := 1) rfl (hF.ev 1 rfl) (by kernel_rfl)) rfl (fun _ _ => rfl) (kA rfl) (by decide) ?_
                refine pxS (v := (.slice (some ⟨g14, 0, none⟩) m m)) (fun w => w.heap[g15]? = some (.cells #[(.int .i64 (((1 + tag.toNat % 15) : Nat) : Int)), (.slice (some ⟨g14, 0, none⟩) m m)] 31 (0, 0))) (hH.blk 3 rfl) (fun _ _ hF hS => opLoadK hS rfl (hF.ev 0 rfl) (by kernel_rfl) rfl) rfl (fun _ _ => rfl) (kM [false, true, true] rfl rfl) (by decide) ?_
                refine pxE 5 hH rfl (fun _ hF => smAppT (C := cByte) (l := ([(UInt8.ofNat (192 + (1 + tag.toNat % 15))), 255] ++ (beL 4 m))) (m := (List.replicate m 0)) (e := 5) (z := (.int .u8 0)) (by_ := 1) rfl (by kernel_rfl) (by kernel_rfl) rfl (ltb rfl) (hF.ev 1 rfl) hO222 (hF.ev 0 rfl) List.length_replicate (fun h => by cases h) (by unfold maxLen; omega) (by omega)) ((Bk.make (C := cByte) 0 m (ltb rfl) (by unfold maxLen; omega)).vu (hH.blk 2 rfl) List.length_replicate) rfl (fun _ _ => rfl) (kM [false, false, true] rfl rfl) (by decide) ?_
                clear hH
                rintro v376 E377 w ⟨hO378, _⟩ hH
                replace hH : HH w0 [] [E2, E8, [bl g14 5 (madeCells (cByte.enc 0) (m * 1))], [bl g15 31 #[(.int .i64 (((1 + tag.toNat % 15) : Nat) : Int)), (.slice (some ⟨g14, 0, none⟩) m m)]], E211, E377] w := hH
                replace hO378 : OwnT cByte 5 v376 (([(UInt8.ofNat (192 + (1 + tag.toNat % 15))), 255] ++ (beL 4 m)) ++ (List.replicate m 0)) E377 := hO378
                obtain ⟨A374, c375, rfl⟩ := hO378.slice
                refine pxM hH (fun _ hF => Does.small (parse_c c375 A374 (([(UInt8.ofNat (192 + (1 + tag.toNat % 15))), 255] ++ (beL 4 m)) ++ (List.replicate m 0)) (by rw [List.length_append]; omega)) (fun w => opCall rfl Try.func14 rfl rfl (Evs.cons (v := (.slice A374 ((([(UInt8.ofNat (192 + (1 + tag.toNat % 15))), 255] ++ (beL 4 m)) ++ (List.replicate m 0)).length) c375)) (hF.ev 0 rfl) Evs.nil) w)) (hO378.vuAt (hH.has 5 rfl)) rfl (fun _ _ => rfl) (kM [false, true] rfl rfl) (by decide) ?_
                clear hH
                rintro _ _ w ⟨s379, rfl, L384, E380, E381, rfl, hO382, hB383⟩ hH
                replace hH : HH w0 [] [E2, E8, [bl g14 5 (madeCells (cByte.enc 0) (m * 1))], [bl g15 31 #[(.int .i64 (((1 + tag.toNat % 15) : Nat) : Int)), (.slice (some ⟨g14, 0, none⟩) m m)]], E211, E377, ([E380, E381] : List Hl).flatten] w := hH
                obtain ⟨A385, c386, rfl⟩ := hO382.slice
                replace hH : HH w0 [] [E2, E8, [bl g14 5 (madeCells (cByte.enc 0) (m * 1))], [bl g15 31 #[(.int .i64 (((1 + tag.toNat % 15) : Nat) : Int)), (.slice (some ⟨g14, 0, none⟩) m m)]], E211, E377, E380, E381] w := hH.cast (by simp)
                refine pxV (v := (.tuple #[(.slice A385 L384.length c386), (.int .i64 ((((prs [] (([(UInt8.ofNat (192 + (1 + tag.toNat % 15))), 255] ++ (beL 4 m)) ++ (List.replicate m 0))).1) : Nat) : Int))])) (fun _ _ hF => opMove rfl (hF.ev 0 rfl)) rfl (fun _ _ => rfl) (kM [false, true] rfl rfl) (by decide) ?_
                refine pxV (v := (.slice A385 L384.length c386)) (fun _ _ hF => opExtract rfl (hF.ev 0 rfl) rfl) rfl (fun _ _ => rfl) (kA rfl) (by decide) ?_
                refine pxV (v := (.int .i64 ((((prs [] (([(UInt8.ofNat (192 + (1 + tag.toNat % 15))), 255] ++ (beL 4 m)) ++ (List.replicate m 0))).1) : Nat) : Int))) (fun _ _ hF => opExtract rfl (hF.ev 1 rfl) rfl) rfl (fun _ _ => rfl) (kM [true, false, true] rfl rfl) (by decide) ?_
                refine pxV (v := (.slice A385 L384.length c386)) (fun _ _ hF => opAssign rfl (hF.ev 1 rfl)) rfl (fun _ _ => rfl) (kM [true, false, true] rfl rfl) (by decide) ?_
                refine pxV (v := (.int .i64 ((((prs [] (([(UInt8.ofNat (192 + (1 + tag.toNat % 15))), 255] ++ (beL 4 m)) ++ (List.replicate m 0))).1) : Nat) : Int))) (fun _ _ hF => opAssign rfl (hF.ev 1 rfl)) rfl (fun _ _ => rfl) (kM [true, false, true] rfl rfl) (by decide) ?_
                refine pxEnd ?_
                refine qxThen ?_
                refine cxSeq ?_
                refine cxReg ?_
                refine pxV (v := (.int .i64 ((((prs [] (([(UInt8.ofNat (192 + (1 + tag.toNat % 15))), 255] ++ (beL 4 m)) ++ (List.replicate m 0))).1) : Nat) : Int))) (fun _ _ hF => opMove rfl (hF.ev 0 rfl)) rfl (fun _ _ => rfl) (kM [false, true, true] rfl rfl) (by decide) ?_
                refine pxV (v := (.bool true)) (fun _ _ hF => opEqI rfl (hF.ev 0 rfl) rfl (decide_eq_true (by rw [hp]; rfl))) rfl (fun _ _ => rfl) (kM [false, true, true] rfl rfl) (by decide) ?_
                refine pxV (v := (.bool true)) (fun _ _ hF => opMove rfl (hF.ev 0 rfl)) rfl (fun _ _ => rfl) (kM [false, true, true] rfl rfl) (by decide) ?_
                refine pxV (v := (.slice A385 L384.length c386)) (fun _ _ hF => opMove rfl (hF.ev 1 rfl)) rfl (gOn 0 rfl rfl rfl (by decide)) (kM [true, false, true] rfl rfl) (by decide) ?_
                refine pxS (v := (.agg #[(.int .i64 (((1 + tag.toNat % 15) : Nat) : Int)), (.slice (some ⟨g14, 0, none⟩) m m)])) (fun w => w.heap[g15]? = some (.cells #[(.int .i64 (((1 + tag.toNat % 15) : Nat) : Int)), (.slice (some ⟨g14, 0, none⟩) m m)] 31 (0, 0))) (hH.blk 3 rfl) (fun _ _ hF hS => opLoadKR (k := 2) hS rfl (hF.ev 2 rfl) (by kernel_rfl) rfl (by kernel_rfl) rfl) rfl (gOn 1 rfl rfl rfl (by decide)) (kM [true, true, false] rfl rfl) (by decide) ?_
                refine pxM hH (fun _ hF => smLit1 (e := 31) (sz := 2) (z := (cPk.val (0, none, 0, 0))) (by_ := 32) (cs := cPk.enc ((((1 + tag.toNat % 15) : Nat) : Int), (some ⟨g14, 0, none⟩), m, m)) rfl (by kernel_rfl) (by kernel_rfl) ((hF.ev 0 rfl).trans (cPk_val (((1 + tag.toNat % 15) : Nat) : Int) (some ⟨g14, 0, none⟩) m m)) (cPk.len ((((1 + tag.toNat % 15) : Nat) : Int), (some ⟨g14, 0, none⟩), m, m)) (ltb rfl) (leb rfl) rfl) trivial rfl (gOn 2 rfl rfl rfl (by decide)) (kM [false, true, true] rfl rfl) (by decide) ?_
                clear hH
                rintro _ _ w ⟨g389, rfl, rfl⟩ hH
                replace hH : HH w0 [] [E2, E8, [bl g14 5 (madeCells (cByte.enc 0) (m * 1))], [bl g15 31 #[(.int .i64 (((1 + tag.toNat % 15) : Nat) : Int)), (.slice (some ⟨g14, 0, none⟩) m m)]], E211, E377, E380, E381, [bl g389 31 (cPk.enc ((((1 + tag.toNat % 15) : Nat) : Int), (some ⟨g14, 0, none⟩), m, m))]] w := hH
                refine pxM hH (fun _ hF => Does.small ((Pure.as (v := (.bool true)) (same_c L384 ([((((1 + tag.toNat % 15) : Nat) : Int), (some ⟨g14, 0, none⟩), m, m)]) ((prs [] (([(UInt8.ofNat (192 + (1 + tag.toNat % 15))), 255] ++ (beL 4 m)) ++ (List.replicate m 0))).2) ([(((1 + tag.toNat % 15 : Nat) : Int), List.replicate m 0)]) A385 (some ⟨g389, 0, none⟩) c386 1 (by rw [hB383.len, hp]; exact (by decide : (1 : Nat) ≤ 140737488355328))) (congrArg Value.bool (decide_eq_true (by rw [hp])))).does) (fun w => opCall rfl Try.func15 rfl rfl (Evs.cons (v := (.slice A385 L384.length c386)) (hF.ev 1 rfl) (Evs.cons (v := (.slice (some ⟨g389, 0, none⟩) 1 1)) (hF.ev 0 rfl) Evs.nil)) w)) ⟨(hO382.vuAt (hH.has 6 rfl)), (hB383.beh (hH.has 7 rfl)), ((Bk.lit1 (C := cPk) ((((1 + tag.toNat % 15) : Nat) : Int), (some ⟨g14, 0, none⟩), m, m)).vu (hH.blk 8 rfl) rfl), (beh_rep ((Bk.make (C := cByte) 0 m (ltb rfl) (by unfold maxLen; omega)).vu (hH.blk 2 rfl) List.length_replicate))⟩ rfl (gOn 2 rfl rfl rfl (by decide)) (kM [false, false, true] rfl rfl) (by decide) ?_
                clear hH
                rintro _ _ w ⟨rfl, rfl⟩ hH
                replace hH : HH w0 [] [E2, E8, [bl g14 5 (madeCells (cByte.enc 0) (m * 1))], [bl g15 31 #[(.int .i64 (((1 + tag.toNat % 15) : Nat) : Int)), (.slice (some ⟨g14, 0, none⟩) m m)]], E211, E377, E380, E381, [bl g389 31 (cPk.enc ((((1 + tag.toNat % 15) : Nat) : Int), (some ⟨g14, 0, none⟩), m, m))]] w := hH.unpad
                refine pxV (v := (.bool true)) (fun _ _ hF => opPickT rfl (hF.ev 1 rfl) (hF.ev 0 rfl)) rfl (fun _ _ => rfl) (kM [false, false] rfl rfl) (by decide) ?_
                refine pxV (v := (.bool true)) (fun _ _ hF => opAssign rfl (hF.ev 0 rfl)) rfl (fun _ _ => rfl) (kM [false] rfl rfl) (by decide) ?_
                refine pxEnd ?_
                refine qxThen ?_
                refine cxRet ?_
                refine qxRet1 0 rfl rfl ?_
                exact ⟨rfl, HH.toBelow hH⟩
            · refine cxSkip ?_
              refine qxInN ?_
              refine qxThen ?_
              refine cxSeq ?_
              have hp : prs [] (([(UInt8.ofNat (192 + (1 + tag.toNat % 15))), 255] ++ (beL 4 m)) ++ (List.replicate m 0)) = (0, [(((1 + tag.toNat % 15 : Nat) : Int), (List.replicate m 0))]) := form_new (by omega) (by omega) List.length_replicate hm
              have hfl : (([(UInt8.ofNat (192 + (1 + tag.toNat % 15))), 255] ++ (beL 4 m))).length ≤ 6 := by simp [beL_len]
              have hrl : (List.replicate m (0 : UInt8)).length = m := List.length_replicate
              refine cxReg ?_
              refine pxV (v := (.slice A218 (([(UInt8.ofNat (192 + (1 + tag.toNat % 15))), 255] ++ (beL 4 m)).length) c219)) (fun _ _ hF => opMove rfl (hF.ev 1 rfl)) rfl (fun _ _ => rfl) (kM [false, false, true, false] rfl rfl) (by decide) ?_
              refine pxV (v := (.pointer (some ⟨g15, 1, none⟩))) (fun _ _ hF => opField (off := 1) rfl (hF.ev 1 rfl) (by kernel_rfl)) rfl (fun _ _ => rfl) (kA rfl) (by decide) ?_
              refine pxS (v := (.slice (some ⟨g14, 0, none⟩) m m)) (fun w => w.heap[g15]? = some (.cells #[(.int .i64 (((1 + tag.toNat % 15) : Nat) : Int)), (.slice (some ⟨g14, 0, none⟩) m m)] 31 (0, 0))) (hH.blk 3 rfl) (fun _ _ hF hS => opLoadK hS rfl (hF.ev 0 rfl) (by kernel_rfl) rfl) rfl (fun _ _ => rfl) (kM [false, true, true] rfl rfl) (by decide) ?_
              refine pxE 5 hH rfl (fun _ hF => smAppT (C := cByte) (l := ([(UInt8.ofNat (192 + (1 + tag.toNat % 15))), 255] ++ (beL 4 m))) (m := (List.replicate m 0)) (e := 5) (z := (.int .u8 0)) (by_ := 1) rfl (by kernel_rfl) (by kernel_rfl) rfl (ltb rfl) (hF.ev 1 rfl) hO222 (hF.ev 0 rfl) List.length_replicate (fun h => by cases h) (by unfold maxLen; omega) (by omega)) ((Bk.make (C := cByte) 0 m (ltb rfl) (by unfold maxLen; omega)).vu (hH.blk 2 rfl) List.length_replicate) rfl (fun _ _ => rfl) (kM [false, false, true] rfl rfl) (by decide) ?_
              clear hH
              rintro v392 E393 w ⟨hO394, _⟩ hH
              replace hH : HH w0 [] [E2, E8, [bl g14 5 (madeCells (cByte.enc 0) (m * 1))], [bl g15 31 #[(.int .i64 (((1 + tag.toNat % 15) : Nat) : Int)), (.slice (some ⟨g14, 0, none⟩) m m)]], E211, E393] w := hH
              replace hO394 : OwnT cByte 5 v392 (([(UInt8.ofNat (192 + (1 + tag.toNat % 15))), 255] ++ (beL 4 m)) ++ (List.replicate m 0)) E393 := hO394
              obtain ⟨A390, c391, rfl⟩ := hO394.slice
              refine pxM hH (fun _ hF => Does.small (parse_c c391 A390 (([(UInt8.ofNat (192 + (1 + tag.toNat % 15))), 255] ++ (beL 4 m)) ++ (List.replicate m 0)) (by rw [List.length_append]; omega)) (fun w => opCall rfl Try.func14 rfl rfl (Evs.cons (v := (.slice A390 ((([(UInt8.ofNat (192 + (1 + tag.toNat % 15))), 255] ++ (beL 4 m)) ++ (List.replicate m 0)).length) c391)) (hF.ev 0 rfl) Evs.nil) w)) (hO394.vuAt (hH.has 5 rfl)) rfl (fun _ _ => rfl) (kM [false, true] rfl rfl) (by decide) ?_
              clear hH
              rintro _ _ w ⟨s395, rfl, L400, E396, E397, rfl, hO398, hB399⟩ hH
              replace hH : HH w0 [] [E2, E8, [bl g14 5 (madeCells (cByte.enc 0) (m * 1))], [bl g15 31 #[(.int .i64 (((1 + tag.toNat % 15) : Nat) : Int)), (.slice (some ⟨g14, 0, none⟩) m m)]], E211, E393, ([E396, E397] : List Hl).flatten] w := hH
              obtain ⟨A401, c402, rfl⟩ := hO398.slice
              replace hH : HH w0 [] [E2, E8, [bl g14 5 (madeCells (cByte.enc 0) (m * 1))], [bl g15 31 #[(.int .i64 (((1 + tag.toNat % 15) : Nat) : Int)), (.slice (some ⟨g14, 0, none⟩) m m)]], E211, E393, E396, E397] w := hH.cast (by simp)
              refine pxV (v := (.tuple #[(.slice A401 L400.length c402), (.int .i64 ((((prs [] (([(UInt8.ofNat (192 + (1 + tag.toNat % 15))), 255] ++ (beL 4 m)) ++ (List.replicate m 0))).1) : Nat) : Int))])) (fun _ _ hF => opMove rfl (hF.ev 0 rfl)) rfl (fun _ _ => rfl) (kM [false, true] rfl rfl) (by decide) ?_
              refine pxV (v := (.slice A401 L400.length c402)) (fun _ _ hF => opExtract rfl (hF.ev 0 rfl) rfl) rfl (fun _ _ => rfl) (kA rfl) (by decide) ?_
              refine pxV (v := (.int .i64 ((((prs [] (([(UInt8.ofNat (192 + (1 + tag.toNat % 15))), 255] ++ (beL 4 m)) ++ (List.replicate m 0))).1) : Nat) : Int))) (fun _ _ hF => opExtract rfl (hF.ev 1 rfl) rfl) rfl (fun _ _ => rfl) (kM [true, false, true] rfl rfl) (by decide) ?_
              refine pxV (v := (.slice A401 L400.length c402)) (fun _ _ hF => opAssign rfl (hF.ev 1 rfl)) rfl (fun _ _ => rfl) (kM [true, false, true] rfl rfl) (by decide) ?_
              refine pxV (v := (.int .i64 ((((prs [] (([(UInt8.ofNat (192 + (1 + tag.toNat % 15))), 255] ++ (beL 4 m)) ++ (List.replicate m 0))).1) : Nat) : Int))) (fun _ _ hF => opAssign rfl (hF.ev 1 rfl)) rfl (fun _ _ => rfl) (kM [true, false, true] rfl rfl) (by decide) ?_
              refine pxEnd ?_
              refine qxThen ?_
              refine cxSeq ?_
              refine cxReg ?_
              refine pxV (v := (.int .i64 ((((prs [] (([(UInt8.ofNat (192 + (1 + tag.toNat % 15))), 255] ++ (beL 4 m)) ++ (List.replicate m 0))).1) : Nat) : Int))) (fun _ _ hF => opMove rfl (hF.ev 0 rfl)) rfl (fun _ _ => rfl) (kM [false, true, true] rfl rfl) (by decide) ?_
              refine pxV (v := (.bool true)) (fun _ _ hF => opEqI rfl (hF.ev 0 rfl) rfl (decide_eq_true (by rw [hp]; rfl))) rfl (fun _ _ => rfl) (kM [false, true, true] rfl rfl) (by decide) ?_
              refine pxV (v := (.bool true)) (fun _ _ hF => opMove rfl (hF.ev 0 rfl)) rfl (fun _ _ => rfl) (kM [false, true, true] rfl rfl) (by decide) ?_
              refine pxV (v := (.slice A401 L400.length c402)) (fun _ _ hF => opMove rfl (hF.ev 1 rfl)) rfl (gOn 0 rfl rfl rfl (by decide)) (kM [true, false, true] rfl rfl) (by decide) ?_
              refine pxS (v := (.agg #[(.int .i64 (((1 + tag.toNat % 15) : Nat) : Int)), (.slice (some ⟨g14, 0, none⟩) m m)])) (fun w => w.heap[g15]? = some (.cells #[(.int .i64 (((1 + tag.toNat % 15) : Nat) : Int)), (.slice (some ⟨g14, 0, none⟩) m m)] 31 (0, 0))) (hH.blk 3 rfl) (fun _ _ hF hS => opLoadKR (k := 2) hS rfl (hF.ev 2 rfl) (by kernel_rfl) rfl (by kernel_rfl) rfl) rfl (gOn 1 rfl rfl rfl (by decide)) (kM [true, true, false] rfl rfl) (by decide) ?_
              refine pxM hH (fun _ hF => smLit1 (e := 31) (sz := 2) (z := (cPk.val (0, none, 0, 0))) (by_ := 32) (cs := cPk.enc ((((1 + tag.toNat % 15) : Nat) : Int), (some ⟨g14, 0, none⟩), m, m)) rfl (by kernel_rfl) (by kernel_rfl) ((hF.ev 0 rfl).trans (cPk_val (((1 + tag.toNat % 15) : Nat) : Int) (some ⟨g14, 0, none⟩) m m)) (cPk.len ((((1 + tag.toNat % 15) : Nat) : Int), (some ⟨g14, 0, none⟩), m, m)) (ltb rfl) (leb rfl) rfl) trivial rfl (gOn 2 rfl rfl rfl (by decide)) (kM [false, true, true] rfl rfl) (by decide) ?_
              clear hH
              rintro _ _ w ⟨g405, rfl, rfl⟩ hH
              replace hH : HH w0 [] [E2, E8, [bl g14 5 (madeCells (cByte.enc 0) (m * 1))], [bl g15 31 #[(.int .i64 (((1 + tag.toNat % 15) : Nat) : Int)), (.slice (some ⟨g14, 0, none⟩) m m)]], E211, E393, E396, E397, [bl g405 31 (cPk.enc ((((1 + tag.toNat % 15) : Nat) : Int), (some ⟨g14, 0, none⟩), m, m))]] w := hH
              refine pxM hH (fun _ hF => Does.small ((Pure.as (v := (.bool true)) (same_c L400 ([((((1 + tag.toNat % 15) : Nat) : Int), (some ⟨g14, 0, none⟩), m, m)]) ((prs [] (([(UInt8.ofNat (192 + (1 + tag.toNat % 15))), 255] ++ (beL 4 m)) ++ (List.replicate m 0))).2) ([(((1 + tag.toNat % 15 : Nat) : Int), List.replicate m 0)]) A401 (some ⟨g405, 0, none⟩) c402 1 (by rw [hB399.len, hp]; exact (by decide : (1 : Nat) ≤ 140737488355328))) (congrArg Value.bool (decide_eq_true (by rw [hp])))).does) (fun w => opCall rfl Try.func15 rfl rfl (Evs.cons (v := (.slice A401 L400.length c402)) (hF.ev 1 rfl) (Evs.cons (v := (.slice (some ⟨g405, 0, none⟩) 1 1)) (hF.ev 0 rfl) Evs.nil)) w)) ⟨(hO398.vuAt (hH.has 6 rfl)), (hB399.beh (hH.has 7 rfl)), ((Bk.lit1 (C := cPk) ((((1 + tag.toNat % 15) : Nat) : Int), (some ⟨g14, 0, none⟩), m, m)).vu (hH.blk 8 rfl) rfl), (beh_rep ((Bk.make (C := cByte) 0 m (ltb rfl) (by unfold maxLen; omega)).vu (hH.blk 2 rfl) List.length_replicate))⟩ rfl (gOn 2 rfl rfl rfl (by decide)) (kM [false, false, true] rfl rfl) (by decide) ?_
              clear hH
              rintro _ _ w ⟨rfl, rfl⟩ hH
              replace hH : HH w0 [] [E2, E8, [bl g14 5 (madeCells (cByte.enc 0) (m * 1))], [bl g15 31 #[(.int .i64 (((1 + tag.toNat % 15) : Nat) : Int)), (.slice (some ⟨g14, 0, none⟩) m m)]], E211, E393, E396, E397, [bl g405 31 (cPk.enc ((((1 + tag.toNat % 15) : Nat) : Int), (some ⟨g14, 0, none⟩), m, m))]] w := hH.unpad
              refine pxV (v := (.bool true)) (fun _ _ hF => opPickT rfl (hF.ev 1 rfl) (hF.ev 0 rfl)) rfl (fun _ _ => rfl) (kM [false, false] rfl rfl) (by decide) ?_
              refine pxV (v := (.bool true)) (fun _ _ hF => opAssign rfl (hF.ev 0 rfl)) rfl (fun _ _ => rfl) (kM [false] rfl rfl) (by decide) ?_
              refine pxEnd ?_
              refine qxThen ?_
              refine cxRet ?_
              refine qxRet1 0 rfl rfl ?_
              exact ⟨rfl, HH.toBelow hH⟩
end Go.Proofs.Ytjncbpmigpocbaa
