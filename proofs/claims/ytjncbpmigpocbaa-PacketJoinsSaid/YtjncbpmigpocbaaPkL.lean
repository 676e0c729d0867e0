/- The laws of layer 11 (mkpl.py writes this text). -/
import Derived.Test.YtjncbpmigpocbaaPkG
import Derived.Test.YtjncbpmigpocbaaPkA
namespace Go.Proofs.Ytjncbpmigpocbaa
open Go Go.RowKit
set_option maxRecDepth 100000

theorem wrt_cases (D : List Pd) : (wrt D = (0, wrL D) ∧ ∀ p ∈ D, frmP p) ∨ wrt D = (1, []) := by
  unfold wrt
  by_cases h : ∀ p ∈ D, frmP p
  · rw [if_pos h]; exact .inl ⟨rfl, h⟩
  · rw [if_neg h]; exact .inr rfl
theorem wrt_len {D : List Pd} {n : Nat} (h : D.length ≤ n) (hn : n ≤ 200000) : (wrt D).2.length ≤ 4294967296 := by
  rcases wrt_cases D with ⟨h1, h2⟩ | h1
  · rw [h1]
    have h3 := wrL_le D h2
    have h4 := Nat.mul_le_mul_right 20006 h
    show (wrL D).length ≤ _
    omega
  · rw [h1]; exact Nat.zero_le _

set_option maxHeartbeats 8000000 in
theorem few_c (L : List PkH) (A : Option Addr) (c : Nat) (hbig : ∀ x ∈ L, x.2.2.1 ≤ 140737488355328) (hlen : L.length ≤ 140737488355328) : Does Try.prog 9 #[(.slice A L.length c)] [] (fun w => Vu cPk w A L.length c L) (fun v E' => E' = [] ∧ ∃ b, v = .bool b ∧ (b = true → L.length ≤ 60)) := by
  refine does_of (fn := Try.f9) Try.func9 rfl Try.ntmps9 (Nat.le_of_ble_eq_true rfl) rfl ?_
  intro w0 hH hR
  replace hH : HH w0 [] [] w0 := hH.only [false]
  refine cxSeq ?_
  refine cxReg ?_
  refine pxV (v := (.bool false)) (fun _ _ hF => opAssign rfl rfl) rfl (fun _ _ => rfl) (kA rfl) (by decide) ?_
  refine pxEnd ?_
  refine qxThen ?_
  refine cxSeq ?_
  refine cxReg ?_
  refine pxV (v := (.int .i64 0)) (fun _ _ hF => opAssign rfl rfl) rfl (fun _ _ => rfl) (kM [false, true] rfl rfl) (by decide) ?_
  refine pxEnd ?_
  refine qxThen ?_
  refine cxSeq ?_
  refine cxSeq ?_
  refine cxReg ?_
  refine pxV (v := (.slice A L.length c)) (fun _ _ hF => opMove rfl (hF.ev 1 rfl)) rfl (fun _ _ => rfl) (kA rfl) (by decide) ?_
  refine pxV (v := (.int .i64 (((L.length) : Nat) : Int))) (fun _ _ hF => opLen (e := 31) rfl (by kernel_rfl) (hF.ev 0 rfl)) rfl (fun _ _ => rfl) (kM [false, true, true] rfl rfl) (by decide) ?_
  refine pxV (v := (.int .i64 0)) (fun _ _ hF => opMove rfl rfl) rfl (fun _ _ => rfl) (kA rfl) (by decide) ?_
  refine pxEnd ?_
  refine qxThen ?_
  refine cxBlock ?_
  refine cxLoop (σ := Nat × Nat) (fun x => [(7, (.int .i64 (((x.1) : Nat) : Int))), (6, (.int .i64 (((L.length) : Nat) : Int))), (3, (.int .i64 (((x.2) : Nat) : Int))), (0, (.slice A L.length c))]) (fun x w => HH w0 [] [] w ∧ (x.1 ≤ L.length) ∧ (x.1 ≤ 60) ∧ (x.2 ≤ 90000)) (fun x => L.length - x.1) (0, 0) ⟨hH, (Nat.zero_le _), (Nat.zero_le _), (Nat.zero_le _)⟩ (slots_at [0, 1, 2, 3] rfl) ?_
  clear hH
  rintro ⟨i, s⟩ w ⟨hH, hi, h60, hs⟩
  change CX _ _ _ _ [(7, (.int .i64 (((i) : Nat) : Int))), (6, (.int .i64 (((L.length) : Nat) : Int))), (3, (.int .i64 (((s) : Nat) : Int))), (0, (.slice A L.length c))] _
  replace hH : HH w0 [] [] w := hH
  replace hi : i ≤ L.length := hi
  replace h60 : i ≤ 60 := h60
  replace hs : s ≤ 90000 := hs
  refine cxSeq ?_
  refine cxReg ?_
  refine pxV (v := (.bool (decide (i < L.length)))) (fun _ _ hF => opLss rfl (hF.ev 0 rfl) (hF.ev 1 rfl) (dc (by omega))) rfl (fun _ _ => rfl) (kA rfl) (by decide) ?_
  refine pxEnd ?_
  refine qxThen ?_
  refine cxSeq ?_
  refine cxP 0 rfl rfl (fun hc1 => ?_) (fun hc1 => ?_)
  · refine cxSkip ?_
    refine qxThen ?_
    refine cxSeq ?_
    refine cxBlock ?_
    refine cxSeq ?_
    refine cxReg ?_
    refine pxV (v := (.int .i64 (((i) : Nat) : Int))) (fun _ _ hF => opMove rfl (hF.ev 1 rfl)) rfl (fun _ _ => rfl) (kM [false, true, true, true, true] rfl rfl) (by decide) ?_
    refine pxV (v := (.int .i64 (((i) : Nat) : Int))) (fun _ _ hF => opAssign rfl (hF.ev 0 rfl)) rfl (fun _ _ => rfl) (kM [false, true, true, true, true] rfl rfl) (by decide) ?_
    refine pxEnd ?_
    refine qxThen ?_
    refine cxSeq ?_
    obtain ⟨x0, hx0⟩ := get_at L i (by omega)
    have hb0 := hbig _ (List.mem_of_getElem? hx0)
    refine cxReg ?_
    refine pxV (v := (.int .i64 (((s) : Nat) : Int))) (fun _ _ hF => opMove rfl (hF.ev 3 rfl)) rfl (fun _ _ => rfl) (kM [true, true, true, false, true] rfl rfl) (by decide) ?_
    refine pxV (v := (.slice A L.length c)) (fun _ _ hF => opMove rfl (hF.ev 4 rfl)) rfl (fun _ _ => rfl) (kA rfl) (by decide) ?_
    refine pxV (v := (.int .i64 (((i) : Nat) : Int))) (fun _ _ hF => opMove rfl (hF.ev 2 rfl)) rfl (fun _ _ => rfl) (kA rfl) (by decide) ?_
    have hi2 : i < L.length := by omega
    obtain ⟨b3, off4, rfl, hL5, hb6, hR7⟩ := hR.blk (by decide) (Off.nil _ _) (by omega)
    have := hR.cap
    have hj10 : i < L.length := by first | exact hi2 | (simp only [List.length_drop, List.length_take]; omega) | omega
    refine pxV (v := (.pointer (some ⟨b3, off4 + i * 2, none⟩))) (fun _ _ hF => opIndex (i := i) (e := 31) (sz := 2) rfl (by kernel_rfl) (by kernel_rfl) (hF.ev 1 rfl) (hF.ev 0 rfl) rfl hi2) rfl (fun _ _ => rfl) (kM [false, false, true, true, true, true, true] rfl rfl) (by decide) ?_
    refine pxV (v := (.pointer (some ⟨b3, off4 + i * 2 + 1, none⟩))) (fun _ _ hF => opField (off := 1) rfl (hF.ev 0 rfl) (by kernel_rfl)) rfl (fun _ _ => rfl) (kM [false, true, true, true, true, true] rfl rfl) (by decide) ?_
    refine pxS (v := (.slice x0.2.1 x0.2.2.1 x0.2.2.2)) (fun w => HoldsL cPk w b3 off4 L) (hH.holdsL hL5 hb6 hR7) (fun _ _ hF hS => opLoadT (C := cSl) (y := x0.2) rfl (hF.ev 0 rfl) (by kernel_rfl) (hS i _ hx0).snd rfl) rfl (fun _ _ => rfl) (kM [false, true, true, true, true, true] rfl rfl) (by decide) ?_
    refine pxV (v := (.int .i64 (((x0.2.2.1) : Nat) : Int))) (fun _ _ hF => opLen (e := 5) rfl (by kernel_rfl) (hF.ev 0 rfl)) rfl (fun _ _ => rfl) (kM [false, true, true, true, true, true] rfl rfl) (by decide) ?_
    refine pxV (v := (.int .i64 (((s + x0.2.2.1) : Nat) : Int))) (fun _ _ hF => opAdd rfl (hF.ev 1 rfl) (hF.ev 0 rfl) (wI rfl (by omega) (by omega))) rfl (fun _ _ => rfl) (kM [false, false, true, true, true, true] rfl rfl) (by decide) ?_
    refine pxV (v := (.int .i64 (((s + x0.2.2.1) : Nat) : Int))) (fun _ _ hF => opAssign rfl (hF.ev 0 rfl)) rfl (fun _ _ => rfl) (kM [false, true, true, true, true] rfl rfl) (by decide) ?_
    refine pxEnd ?_
    refine qxThen ?_
    refine cxSeq ?_
    refine cxReg ?_
    refine pxV (v := (.int .i64 (((i) : Nat) : Int))) (fun _ _ hF => opMove rfl (hF.ev 1 rfl)) rfl (fun _ _ => rfl) (kM [true, false, true, true, true] rfl rfl) (by decide) ?_
    refine pxV (v := (.bool (decide (i ≥ 60)))) (fun _ _ hF => opGeq rfl (hF.ev 0 rfl) rfl (dc (by omega))) rfl (fun _ _ => rfl) (kM [false, true, true, true, true] rfl rfl) (by decide) ?_
    refine pxV (v := (.bool (decide (i ≥ 60)))) (fun _ _ hF => opMove rfl (hF.ev 0 rfl)) rfl (fun _ _ => rfl) (kM [false, true, true, true, true] rfl rfl) (by decide) ?_
    refine pxSplitP 0 rfl (l1 := [(20, (.bool true)), (3, (.int .i64 (((s + x0.2.2.1) : Nat) : Int))), (7, (.int .i64 (((i) : Nat) : Int))), (6, (.int .i64 (((L.length) : Nat) : Int))), (0, (.slice (some ⟨b3, off4, none⟩) L.length c))]) (l2 := [(20, (.bool false)), (3, (.int .i64 (((s + x0.2.2.1) : Nat) : Int))), (7, (.int .i64 (((i) : Nat) : Int))), (6, (.int .i64 (((L.length) : Nat) : Int))), (0, (.slice (some ⟨b3, off4, none⟩) L.length c))]) rfl rfl (fun hg11 => ?_) (fun hg11 => ?_)
    · refine pxU rfl (gOff 0 rfl rfl rfl (by decide)) (kA rfl) (by decide) ?_
      refine pxU rfl (gOff 0 rfl rfl rfl (by decide)) (kA rfl) (by decide) ?_
      refine pxV (v := (.bool true)) (fun _ _ hF => opPickT rfl (hF.ev 0 rfl) rfl) rfl (fun _ _ => rfl) (kM [false, true, true, true, true] rfl rfl) (by decide) ?_
      refine pxEnd ?_
      refine qxThen ?_
      refine cxT 0 rfl rfl ?_
      refine cxSeq ?_
      refine cxReg ?_
      refine pxV (v := (.bool false)) (fun _ _ hF => opAssign rfl rfl) rfl (fun _ _ => rfl) (kM [false, false, false, false, false] rfl rfl) (by decide) ?_
      refine pxEnd ?_
      refine qxThen ?_
      refine cxRet ?_
      refine qxInR ?_
      refine qxThenR ?_
      refine qxThenR ?_
      refine qxInR ?_
      refine qxThenR ?_
      refine qxRet1 0 rfl rfl ?_
      exact ⟨_, _, rfl, ⟨rfl, false, rfl, fun h => by cases h⟩, hH⟩
    · refine pxV (v := (.int .i64 (((s + x0.2.2.1) : Nat) : Int))) (fun _ _ hF => opMove rfl (hF.ev 1 rfl)) rfl (gOn 0 rfl rfl rfl (by decide)) (kA rfl) (by decide) ?_
      refine pxV (v := (.bool (decide (s + x0.2.2.1 > 90000)))) (fun _ _ hF => opGtr rfl (hF.ev 0 rfl) rfl (dc (by omega))) rfl (gOn 1 rfl rfl rfl (by decide)) (kM [false, true, true, true, true, true] rfl rfl) (by decide) ?_
      refine pxV (v := (.bool (decide (s + x0.2.2.1 > 90000)))) (fun _ _ hF => opPickF rfl (hF.ev 1 rfl) (hF.ev 0 rfl)) rfl (fun _ _ => rfl) (kM [false, false, true, true, true, true] rfl rfl) (by decide) ?_
      refine pxEnd ?_
      refine qxThen ?_
      refine cxP 0 rfl rfl (fun hc12 => ?_) (fun hc12 => ?_)
      · refine cxSeq ?_
        refine cxReg ?_
        refine pxV (v := (.bool false)) (fun _ _ hF => opAssign rfl rfl) rfl (fun _ _ => rfl) (kM [false, false, false, false, false] rfl rfl) (by decide) ?_
        refine pxEnd ?_
        refine qxThen ?_
        refine cxRet ?_
        refine qxInR ?_
        refine qxThenR ?_
        refine qxThenR ?_
        refine qxInR ?_
        refine qxThenR ?_
        refine qxRet1 0 rfl rfl ?_
        exact ⟨_, _, rfl, ⟨rfl, false, rfl, fun h => by cases h⟩, hH⟩
      · refine cxSkip ?_
        refine qxInN ?_
        refine qxThen ?_
        refine cxReg ?_
        refine pxV (v := (.int .i64 (((i + 1) : Nat) : Int))) (fun _ _ hF => opAdd rfl (hF.ev 2 rfl) rfl (wI (by omega) (by omega) (by omega))) rfl (fun _ _ => rfl) (kM [false, true, false, true, true] rfl rfl) (by decide) ?_
        refine pxV (v := (.int .i64 (((i + 1) : Nat) : Int))) (fun _ _ hF => opMove rfl (hF.ev 0 rfl)) rfl (fun _ _ => rfl) (kM [false, true, true, true] rfl rfl) (by decide) ?_
        refine pxEnd ?_
        exact qxRound (i + 1, s + x0.2.2.1) ⟨hH, (show (i + 1) ≤ L.length from (by omega)), (show (i + 1) ≤ 60 from (by omega)), (show (s + x0.2.2.1) ≤ 90000 from (by omega))⟩ (by omega) (slots_at [0, 2, 1, 3] rfl)
  · refine cxExit ?_
    refine qxThenE ?_
    refine qxThenE ?_
    refine qxInE ?_
    refine qxThen ?_
    refine cxSeq ?_
    refine cxReg ?_
    refine pxV (v := (.bool true)) (fun _ _ hF => opAssign rfl rfl) rfl (fun _ _ => rfl) (kM [false, false, false, false, false] rfl rfl) (by decide) ?_
    refine pxEnd ?_
    refine qxThen ?_
    refine cxRet ?_
    refine qxRet1 0 rfl rfl ?_
    exact ⟨_, _, rfl, ⟨rfl, true, rfl, fun _ => by omega⟩, hH⟩

set_option maxHeartbeats 8000000 in
theorem writes_l (L : List PkH) (D : List Pd) (A : Option Addr) (c : Nat) (hbig : ∀ x ∈ L, x.2.2.1 ≤ 140737488355328) (hlen : L.length ≤ 140737488355328) : Pure Try.prog 3 #[(.slice A L.length c)] (fun w => Vu cPk w A L.length c L ∧ Beh w L D) (.bool true) := by
  refine pure_of (fn := Try.f3) Try.func3 rfl Try.ntmps3 (Nat.le_of_ble_eq_true rfl) rfl ?_
  intro w0 hH hR
  refine cxSeq ?_
  refine cxReg ?_
  refine pxV (v := (.bool false)) (fun _ _ hF => opAssign rfl rfl) rfl (fun _ _ => rfl) (kA rfl) (by decide) ?_
  refine pxEnd ?_
  refine qxThen ?_
  refine cxSeq ?_
  refine cxSeq ?_
  refine cxReg ?_
  refine pxM hH (fun _ hF => Does.small ((awake_c ).does) (fun w => opCall rfl Try.func8 rfl rfl Evs.nil w)) trivial rfl (fun _ _ => rfl) (kM [false, true] rfl rfl) (by decide) ?_
  clear hH
  rintro _ _ w ⟨rfl, rfl⟩ hH
  replace hH : HH w0 [] [] w := hH.unpad
  refine pxV (v := (.bool false)) (fun _ _ hF => opNot rfl (hF.ev 0 rfl) rfl) rfl (fun _ _ => rfl) (kM [false, true] rfl rfl) (by decide) ?_
  refine pxV (v := (.bool false)) (fun _ _ hF => opMove rfl (hF.ev 0 rfl)) rfl (fun _ _ => rfl) (kM [false, true] rfl rfl) (by decide) ?_
  refine pxV (v := (.slice A L.length c)) (fun _ _ hF => opMove rfl (hF.ev 1 rfl)) rfl (gOn 0 rfl rfl rfl (by decide)) (kA rfl) (by decide) ?_
  refine pxM hH (fun _ hF => Does.small (few_c L A c hbig hlen) (fun w => opCall rfl Try.func9 rfl rfl (Evs.cons (v := (.slice A L.length c)) (hF.ev 0 rfl) Evs.nil) w)) (hH.vu hR.1 (by decide) (Off.nil _ _)) rfl (gOn 1 rfl rfl rfl (by decide)) (kM [false, true, true] rfl rfl) (by decide) ?_
  clear hH
  rintro _ _ w ⟨rfl, b1, rfl, hfew⟩ hH
  replace hH : HH w0 [] [] w := hH.unpad
  refine pxV (v := (.bool (!(b1)))) (fun _ _ hF => opNot rfl (hF.ev 0 rfl) rfl) rfl (gOn 1 rfl rfl rfl (by decide)) (kM [false, true, true] rfl rfl) (by decide) ?_
  refine pxV (v := (.bool (!(b1)))) (fun _ _ hF => opPickF rfl (hF.ev 1 rfl) (hF.ev 0 rfl)) rfl (fun _ _ => rfl) (kM [false, false, true] rfl rfl) (by decide) ?_
  refine pxEnd ?_
  refine qxThen ?_
  refine cxB 0 rfl rfl (fun hc1 => ?_) (fun hc1 => ?_)
  · replace hc1 : b1 = false := by simpa using hc1
    refine cxSeq ?_
    refine cxReg ?_
    refine pxM hH (fun _ hF => Does.small ((awake_c ).does) (fun w => opCall rfl Try.func8 rfl rfl Evs.nil w)) trivial rfl (fun _ _ => rfl) (kM [false, false] rfl rfl) (by decide) ?_
    clear hH
    rintro _ _ w ⟨rfl, rfl⟩ hH
    replace hH : HH w0 [] [] w := hH.unpad
    refine pxV (v := (.bool true)) (fun _ _ hF => opAssign rfl (hF.ev 0 rfl)) rfl (fun _ _ => rfl) (kM [false] rfl rfl) (by decide) ?_
    refine pxEnd ?_
    refine qxThen ?_
    refine cxRet ?_
    refine qxThenR ?_
    refine qxRet1 0 rfl rfl ?_
    exact ⟨rfl, HH.toBelow hH⟩
  · replace hc1 : b1 = true := by simpa using hc1
    have h60 := hfew (by simpa using hc1)
    have hDl : D.length ≤ 60 := by rw [← hR.2.len]; exact h60
    refine cxSkip ?_
    refine qxThen ?_
    refine cxSeq ?_
    refine cxReg ?_
    refine pxV (v := (.slice A L.length c)) (fun _ _ hF => opMove rfl (hF.ev 1 rfl)) rfl (fun _ _ => rfl) (kM [false, true] rfl rfl) (by decide) ?_
    refine pxM hH (fun _ hF => Does.small (write_c L D A c (by omega)) (fun w => opCall rfl Try.func10 rfl rfl (Evs.cons (v := (.slice A L.length c)) (hF.ev 0 rfl) Evs.nil) w)) ⟨(hH.vu hR.1 (by decide) (Off.nil _ _)), (hH.beh hR.2)⟩ rfl (fun _ _ => rfl) (kM [false, true] rfl rfl) (by decide) ?_
    clear hH
    rintro _ E3 w ⟨s2, rfl, hO4⟩ hH
    replace hH : HH w0 [] [E3] w := hH
    obtain ⟨A5, c6, rfl⟩ := hO4.slice
    refine pxV (v := (.tuple #[(.slice A5 ((wrt D).2.length) c6), (.int .i64 ((((wrt D).1) : Nat) : Int))])) (fun _ _ hF => opMove rfl (hF.ev 0 rfl)) rfl (fun _ _ => rfl) (kM [false, true] rfl rfl) (by decide) ?_
    refine pxV (v := (.slice A5 ((wrt D).2.length) c6)) (fun _ _ hF => opExtract rfl (hF.ev 0 rfl) rfl) rfl (fun _ _ => rfl) (kA rfl) (by decide) ?_
    refine pxV (v := (.int .i64 ((((wrt D).1) : Nat) : Int))) (fun _ _ hF => opExtract rfl (hF.ev 1 rfl) rfl) rfl (fun _ _ => rfl) (kM [true, false, true] rfl rfl) (by decide) ?_
    refine pxV (v := (.slice A5 ((wrt D).2.length) c6)) (fun _ _ hF => opAssign rfl (hF.ev 1 rfl)) rfl (fun _ _ => rfl) (kM [true, false, true] rfl rfl) (by decide) ?_
    refine pxV (v := (.int .i64 ((((wrt D).1) : Nat) : Int))) (fun _ _ hF => opAssign rfl (hF.ev 1 rfl)) rfl (fun _ _ => rfl) (kM [true, false, true] rfl rfl) (by decide) ?_
    refine pxEnd ?_
    refine qxThen ?_
    refine cxSeq ?_
    refine cxReg ?_
    refine pxV (v := (.slice A L.length c)) (fun _ _ hF => opMove rfl (hF.ev 2 rfl)) rfl (fun _ _ => rfl) (kA rfl) (by decide) ?_
    refine pxM hH (fun _ hF => Does.small (write_r L D A c (by omega)) (fun w => opCall rfl Try.func11 rfl rfl (Evs.cons (v := (.slice A L.length c)) (hF.ev 0 rfl) Evs.nil) w)) ⟨(hH.vu hR.1 (by decide) (Off.nil _ _)), (hH.beh hR.2)⟩ rfl (fun _ _ => rfl) (kM [false, true, true, true] rfl rfl) (by decide) ?_
    clear hH
    rintro _ E9 w ⟨s8, rfl, hO10⟩ hH
    replace hH : HH w0 [] [E3, E9] w := hH
    obtain ⟨A11, c12, rfl⟩ := hO10.slice
    refine pxV (v := (.tuple #[(.slice A11 ((wrt D).2.length) c12), (.int .i64 ((((wrt D).1) : Nat) : Int))])) (fun _ _ hF => opMove rfl (hF.ev 0 rfl)) rfl (fun _ _ => rfl) (kM [false, true, true, true] rfl rfl) (by decide) ?_
    refine pxV (v := (.slice A11 ((wrt D).2.length) c12)) (fun _ _ hF => opExtract rfl (hF.ev 0 rfl) rfl) rfl (fun _ _ => rfl) (kA rfl) (by decide) ?_
    refine pxV (v := (.int .i64 ((((wrt D).1) : Nat) : Int))) (fun _ _ hF => opExtract rfl (hF.ev 1 rfl) rfl) rfl (fun _ _ => rfl) (kM [true, false, true, true, true] rfl rfl) (by decide) ?_
    refine pxV (v := (.slice A11 ((wrt D).2.length) c12)) (fun _ _ hF => opAssign rfl (hF.ev 1 rfl)) rfl (fun _ _ => rfl) (kM [true, false, true, true, true] rfl rfl) (by decide) ?_
    refine pxV (v := (.int .i64 ((((wrt D).1) : Nat) : Int))) (fun _ _ hF => opAssign rfl (hF.ev 1 rfl)) rfl (fun _ _ => rfl) (kM [true, false, true, true, true] rfl rfl) (by decide) ?_
    refine pxEnd ?_
    refine qxThen ?_
    refine cxSeq ?_
    refine cxSeq ?_
    refine cxReg ?_
    refine pxV (v := (.slice A5 ((wrt D).2.length) c6)) (fun _ _ hF => opMove rfl (hF.ev 3 rfl)) rfl (fun _ _ => rfl) (kA rfl) (by decide) ?_
    refine pxS (v := (.string (strL ((wrt D).2)))) (fun w => Vu cByte w A5 ((wrt D).2.length) c6 ((wrt D).2)) (hO4.vuAt (hH.has 0 rfl)) (fun _ _ hF hS => opStr (e := 5) rfl (by kernel_rfl) (by kernel_rfl) (by kernel_rfl) (hF.ev 0 rfl) hS) rfl (fun _ _ => rfl) (kM [false, true, true, true, true, true] rfl rfl) (by decide) ?_
    refine pxV (v := (.slice A11 ((wrt D).2.length) c12)) (fun _ _ hF => opMove rfl (hF.ev 2 rfl)) rfl (fun _ _ => rfl) (kM [true, true, false, true, true, true] rfl rfl) (by decide) ?_
    refine pxS (v := (.string (strL ((wrt D).2)))) (fun w => Vu cByte w A11 ((wrt D).2.length) c12 ((wrt D).2)) (hO10.vuAt (hH.has 1 rfl)) (fun _ _ hF hS => opStr (e := 5) rfl (by kernel_rfl) (by kernel_rfl) (by kernel_rfl) (hF.ev 0 rfl) hS) rfl (fun _ _ => rfl) (kM [false, true, true, true, true, true] rfl rfl) (by decide) ?_
    refine pxV (v := (.bool false)) (fun _ _ hF => opNeS rfl (hF.ev 1 rfl) (hF.ev 0 rfl) (decide_eq_false (fun h => h rfl))) rfl (fun _ _ => rfl) (kM [false, false, true, true, true, true] rfl rfl) (by decide) ?_
    refine pxV (v := (.bool false)) (fun _ _ hF => opMove rfl (hF.ev 0 rfl)) rfl (fun _ _ => rfl) (kM [false, true, true, true, true] rfl rfl) (by decide) ?_
    refine pxV (v := (.int .i64 ((((wrt D).1) : Nat) : Int))) (fun _ _ hF => opMove rfl (hF.ev 2 rfl)) rfl (gOn 0 rfl rfl rfl (by decide)) (kA rfl) (by decide) ?_
    refine pxV (v := (.int .i64 ((((wrt D).1) : Nat) : Int))) (fun _ _ hF => opMove rfl (hF.ev 2 rfl)) rfl (gOn 1 rfl rfl rfl (by decide)) (kM [true, true, false, true, true, true] rfl rfl) (by decide) ?_
    refine pxV (v := (.bool false)) (fun _ _ hF => opNeI rfl (hF.ev 1 rfl) (hF.ev 0 rfl) (decide_eq_false (fun h => h rfl))) rfl (gOn 2 rfl rfl rfl (by decide)) (kM [false, false, true, true, true, true] rfl rfl) (by decide) ?_
    refine pxV (v := (.bool false)) (fun _ _ hF => opPickF rfl (hF.ev 1 rfl) (hF.ev 0 rfl)) rfl (fun _ _ => rfl) (kM [false, false, true, true, true] rfl rfl) (by decide) ?_
    refine pxEnd ?_
    refine qxThen ?_
    refine cxF 0 rfl rfl ?_
    refine cxSkip ?_
    refine qxThen ?_
    refine cxSeq ?_
    refine cxSeq ?_
    refine cxReg ?_
    refine pxV (v := (.slice A L.length c)) (fun _ _ hF => opMove rfl (hF.ev 3 rfl)) rfl (fun _ _ => rfl) (kM [false, true, true, true] rfl rfl) (by decide) ?_
    refine pxV (v := (.int .i64 (((L.length) : Nat) : Int))) (fun _ _ hF => opLen (e := 31) rfl (by kernel_rfl) (hF.ev 0 rfl)) rfl (fun _ _ => rfl) (kM [false, true, true, true] rfl rfl) (by decide) ?_
    refine pxV (v := (.int .i64 0)) (fun _ _ hF => opMove rfl rfl) rfl (fun _ _ => rfl) (kA rfl) (by decide) ?_
    refine pxEnd ?_
    refine qxThen ?_
    refine cxBlock ?_
    refine cxLoop (σ := Nat) (fun x => [(40, (.int .i64 (((x) : Nat) : Int))), (39, (.int .i64 (((L.length) : Nat) : Int))), (4, (.int .i64 ((((wrt D).1) : Nat) : Int))), (3, (.slice A5 ((wrt D).2.length) c6)), (0, (.slice A L.length c))]) (fun x w => HH w0 [] [E3, E9] w ∧ (x ≤ L.length)) (fun x => L.length - x) 0 ⟨hH, (Nat.zero_le _)⟩ (slots_at [0, 1, 2, 3, 4] rfl) ?_
    clear hH
    rintro i w ⟨hH, hi⟩
    change CX _ _ _ _ [(40, (.int .i64 (((i) : Nat) : Int))), (39, (.int .i64 (((L.length) : Nat) : Int))), (4, (.int .i64 ((((wrt D).1) : Nat) : Int))), (3, (.slice A5 ((wrt D).2.length) c6)), (0, (.slice A L.length c))] _
    replace hH : HH w0 [] [E3, E9] w := hH
    replace hi : i ≤ L.length := hi
    refine cxSeq ?_
    refine cxReg ?_
    refine pxV (v := (.bool (decide (i < L.length)))) (fun _ _ hF => opLss rfl (hF.ev 0 rfl) (hF.ev 1 rfl) (dc (by omega))) rfl (fun _ _ => rfl) (kA rfl) (by decide) ?_
    refine pxEnd ?_
    refine qxThen ?_
    refine cxSeq ?_
    refine cxP 0 rfl rfl (fun hc14 => ?_) (fun hc14 => ?_)
    · refine cxSkip ?_
      refine qxThen ?_
      refine cxSeq ?_
      refine cxBlock ?_
      refine cxSeq ?_
      obtain ⟨⟨t0, A0, n0, c0⟩, hx0⟩ := get_at L i (by omega)
      obtain ⟨b0, hd0, hn0, hb0⟩ := hR.2.at' _ _ hx0
      replace hd0 : D[i]? = some (t0, b0) := hd0
      obtain rfl : n0 = b0.length := hn0
      replace hb0 : Vu cByte w0 A0 b0.length c0 b0 := hb0
      have := hb0.cap
      refine cxReg ?_
      refine pxV (v := (.int .i64 (((i) : Nat) : Int))) (fun _ _ hF => opMove rfl (hF.ev 1 rfl)) rfl (fun _ _ => rfl) (kM [false, true, true, true, true, true] rfl rfl) (by decide) ?_
      refine pxV (v := (.int .i64 (((i) : Nat) : Int))) (fun _ _ hF => opAssign rfl (hF.ev 0 rfl)) rfl (fun _ _ => rfl) (kM [false, true, true, true, true, true] rfl rfl) (by decide) ?_
      refine pxEnd ?_
      refine qxThen ?_
      refine cxSeq ?_
      refine cxRegX mixedOrders (by kernel_rfl) ?_
      replace hH := hH.drew
      refine rxV 0 rfl (by kernel_rfl) rfl (fun _ _ => rfl) (fun _ _ hF => opMove rfl (hF.ev 5 rfl)) (kA rfl) (by decide) (v := (.slice A L.length c)) ?_
      refine rxV 1 rfl (by kernel_rfl) rfl (fun _ _ => rfl) (fun _ _ hF => opMove rfl (hF.ev 1 rfl)) (kA rfl) (by decide) (v := (.int .i64 (((i) : Nat) : Int))) ?_
      have hi15 : i < L.length := by omega
      obtain ⟨b16, off17, rfl, hL18, hb19, hR20⟩ := hR.1.blk (by decide) (Off.nil _ _) (by omega)
      have := hR.1.cap
      have hj23 : i < L.length := by first | exact hi15 | (simp only [List.length_drop, List.length_take]; omega) | omega
      refine rxV 2 rfl (by kernel_rfl) rfl (fun _ _ => rfl) (fun _ _ hF => opIndex (i := i) (e := 31) (sz := 2) rfl (by kernel_rfl) (by kernel_rfl) (hF.ev 1 rfl) (hF.ev 0 rfl) rfl hi15) (kM [false, false, true, true, true, true, true, true] rfl rfl) (by decide) (v := (.pointer (some ⟨b16, off17 + i * 2, none⟩))) ?_
      refine rxS (fun w => HoldsL cPk w b16 off17 L) 3 rfl (by kernel_rfl) rfl (fun _ _ => rfl) (hH.holdsL hL18 hb19 hR20) (fun _ _ hF hS => opLoadT (C := cPk) (y := (t0, A0, b0.length, c0)) rfl (hF.ev 0 rfl) (by kernel_rfl) (hS i _ hx0) rfl) (kM [false, true, true, true, true, true, true] rfl rfl) (by decide) (v := (cPk.val (t0, A0, b0.length, c0))) ?_
      refine rxV 5 rfl (by kernel_rfl) rfl (fun _ _ => rfl) (fun _ _ hF => opMove rfl (hF.ev 6 rfl)) (kA rfl) (by decide) (v := (.slice (some ⟨b16, off17, none⟩) L.length c)) ?_
      refine rxV 6 rfl (by kernel_rfl) rfl (fun _ _ => rfl) (fun _ _ hF => opMove rfl (hF.ev 2 rfl)) (kM [true, true, false, true, true, true, true, true] rfl rfl) (by decide) (v := (.int .i64 (((i) : Nat) : Int))) ?_
      have hi24 : i < L.length := by omega
      have hj27 : i < L.length := by first | exact hi24 | (simp only [List.length_drop, List.length_take]; omega) | omega
      refine rxV 7 rfl (by kernel_rfl) rfl (fun _ _ => rfl) (fun _ _ hF => opIndex (i := i) (e := 31) (sz := 2) rfl (by kernel_rfl) (by kernel_rfl) (hF.ev 1 rfl) (hF.ev 0 rfl) rfl hi24) (kM [false, false, true, true, true, true, true, true] rfl rfl) (by decide) (v := (.pointer (some ⟨b16, off17 + i * 2, none⟩))) ?_
      refine rxS (fun w => HoldsL cPk w b16 off17 L) 8 rfl (by kernel_rfl) rfl (fun _ _ => rfl) (hH.holdsL hL18 hb19 hR20) (fun _ _ hF hS => opLoadT (C := cPk) (y := (t0, A0, b0.length, c0)) rfl (hF.ev 0 rfl) (by kernel_rfl) (hS i _ hx0) rfl) (kM [false, true, true, true, true, true, true] rfl rfl) (by decide) (v := (cPk.val (t0, A0, b0.length, c0))) ?_
      refine rx1 4 (by kernel_rfl) ?_
      refine moM rfl hH (fun _ hF => Does.small ((formed_c t0 A0 b0.length c0).does) (fun w => opCall rfl Try.func12 rfl rfl (Evs.cons (v := (cPk.val (t0, A0, b0.length, c0))) (hF.ev 1 rfl) Evs.nil) w)) trivial rfl (fun _ _ => rfl) (kM [true, false, true, true, true, true, true] rfl rfl) (by decide) (PendOk.keep (PendOk.go [] (by kernel_rfl) (PendOk.nil _ []))) ?_
      clear hH
      rintro _ _ w ⟨rfl, rfl⟩ hH
      replace hH : HH w0 [] [E3, E9] w := hH.unpad
      refine ⟨(by
        intro s hs
        simp only [List.mem_cons, List.not_mem_nil, or_false] at hs
        rcases hs with rfl
        · exact (hH.holdsL hL18 hb19 hR20)
        ), ?_⟩
      refine rx1 9 (by kernel_rfl) ?_
      refine moM rfl hH (fun _ hF => Does.small ((formed_r t0 A0 b0.length c0).does) (fun w => opCall rfl Try.func13 rfl rfl (Evs.cons (v := (cPk.val (t0, A0, b0.length, c0))) (hF.ev 1 rfl) Evs.nil) w)) trivial rfl (fun _ _ => rfl) (kM [true, false, true, true, true, true, true] rfl rfl) (by decide) (PendOk.go [] (by kernel_rfl) (PendOk.nil _ [])) ?_
      clear hH
      rintro _ _ w ⟨rfl, rfl⟩ hH
      replace hH : HH w0 [] [E3, E9] w := hH.unpad
      refine ⟨(fun _ hs => by cases hs), ?_⟩
      refine rxV 10 rfl (by kernel_rfl) rfl (fun _ _ => rfl) (fun _ _ hF => opNeB rfl (by kernel_rfl) (hF.ev 1 rfl) (hF.ev 0 rfl) (bne_self_eq_false _)) (kM [false, false, true, true, true, true, true] rfl rfl) (by decide) (v := (.bool false)) ?_
      refine rxEnd (by kernel_rfl) ?_
      refine qxThen ?_
      refine cxF 0 rfl rfl ?_
      refine cxSkip ?_
      refine qxInN ?_
      refine qxThen ?_
      refine cxReg ?_
      refine pxV (v := (.int .i64 (((i + 1) : Nat) : Int))) (fun _ _ hF => opAdd rfl (hF.ev 1 rfl) rfl (wI (by omega) (by omega) (by omega))) rfl (fun _ _ => rfl) (kM [false, false, true, true, true, true] rfl rfl) (by decide) ?_
      refine pxV (v := (.int .i64 (((i + 1) : Nat) : Int))) (fun _ _ hF => opMove rfl (hF.ev 0 rfl)) rfl (fun _ _ => rfl) (kM [false, true, true, true, true] rfl rfl) (by decide) ?_
      refine pxEnd ?_
      exact qxRound (i + 1) ⟨hH, (show (i + 1) ≤ L.length from (by omega))⟩ (by omega) (slots_at [0, 1, 2, 3, 4] rfl)
    · refine cxExit ?_
      refine qxThenE ?_
      refine qxThenE ?_
      refine qxInE ?_
      refine qxThen ?_
      refine cxSeq ?_
      refine cxReg ?_
      refine pxV (v := (.slice A5 ((wrt D).2.length) c6)) (fun _ _ hF => opMove rfl (hF.ev 4 rfl)) rfl (fun _ _ => rfl) (kM [false, false, false, true, false, true] rfl rfl) (by decide) ?_
      refine pxM hH (fun _ hF => Does.small (parse_c c6 A5 ((wrt D).2) (wrt_len hDl (by decide))) (fun w => opCall rfl Try.func14 rfl rfl (Evs.cons (v := (.slice A5 ((wrt D).2.length) c6)) (hF.ev 0 rfl) Evs.nil) w)) (hO4.vuAt (hH.has 0 rfl)) rfl (fun _ _ => rfl) (kM [false, true, true] rfl rfl) (by decide) ?_
      clear hH
      rintro _ _ w ⟨s28, rfl, L33, E29, E30, rfl, hO31, hB32⟩ hH
      replace hH : HH w0 [] [E3, E9, ([E29, E30] : List Hl).flatten] w := hH
      obtain ⟨A34, c35, rfl⟩ := hO31.slice
      replace hH : HH w0 [] [E3, E9, E29, E30] w := hH.cast (by simp)
      refine pxV (v := (.tuple #[(.slice A34 L33.length c35), (.int .i64 ((((prs [] ((wrt D).2)).1) : Nat) : Int))])) (fun _ _ hF => opMove rfl (hF.ev 0 rfl)) rfl (fun _ _ => rfl) (kM [false, true, true] rfl rfl) (by decide) ?_
      refine pxV (v := (.slice A34 L33.length c35)) (fun _ _ hF => opExtract rfl (hF.ev 0 rfl) rfl) rfl (fun _ _ => rfl) (kA rfl) (by decide) ?_
      refine pxV (v := (.int .i64 ((((prs [] ((wrt D).2)).1) : Nat) : Int))) (fun _ _ hF => opExtract rfl (hF.ev 1 rfl) rfl) rfl (fun _ _ => rfl) (kM [true, false, true, true] rfl rfl) (by decide) ?_
      refine pxV (v := (.slice A34 L33.length c35)) (fun _ _ hF => opAssign rfl (hF.ev 1 rfl)) rfl (fun _ _ => rfl) (kM [true, false, true, true] rfl rfl) (by decide) ?_
      refine pxV (v := (.int .i64 ((((prs [] ((wrt D).2)).1) : Nat) : Int))) (fun _ _ hF => opAssign rfl (hF.ev 1 rfl)) rfl (fun _ _ => rfl) (kM [true, false, true, true] rfl rfl) (by decide) ?_
      refine pxEnd ?_
      refine qxThen ?_
      refine cxSeq ?_
      rcases wrt_cases D with ⟨hw, hall⟩ | hw
      · have hp : prs [] (wrt D).2 = (0, D) := by rw [hw]; exact prs_back hall
        refine cxReg ?_
        refine pxV (v := (.int .i64 ((((wrt D).1) : Nat) : Int))) (fun _ _ hF => opMove rfl (hF.ev 2 rfl)) rfl (fun _ _ => rfl) (kM [true, true, false, true] rfl rfl) (by decide) ?_
        refine pxV (v := (.bool false)) (fun _ _ hF => opNeI rfl (hF.ev 0 rfl) rfl (decide_eq_false (by rw [hw]; exact fun h => h rfl))) rfl (fun _ _ => rfl) (kM [false, true, true, true] rfl rfl) (by decide) ?_
        refine pxV (v := (.bool false)) (fun _ _ hF => opMove rfl (hF.ev 0 rfl)) rfl (fun _ _ => rfl) (kM [false, true, true, true] rfl rfl) (by decide) ?_
        refine pxV (v := (.int .i64 ((((prs [] ((wrt D).2)).1) : Nat) : Int))) (fun _ _ hF => opMove rfl (hF.ev 1 rfl)) rfl (gOn 0 rfl rfl rfl (by decide)) (kM [true, false, true, true] rfl rfl) (by decide) ?_
        refine pxV (v := (.bool true)) (fun _ _ hF => opEqI rfl (hF.ev 0 rfl) rfl (decide_eq_true (by rw [hp]; rfl))) rfl (gOn 1 rfl rfl rfl (by decide)) (kM [false, true, true, true] rfl rfl) (by decide) ?_
        refine pxV (v := (.bool true)) (fun _ _ hF => opMove rfl (hF.ev 0 rfl)) rfl (gOn 1 rfl rfl rfl (by decide)) (kM [false, true, true, true] rfl rfl) (by decide) ?_
        refine pxV (v := (.slice A34 L33.length c35)) (fun _ _ hF => opMove rfl (hF.ev 2 rfl)) rfl (gOn 0 rfl rfl rfl (by decide)) (kM [true, true, false, true] rfl rfl) (by decide) ?_
        refine pxV (v := (.slice A L.length c)) (fun _ _ hF => opMove rfl (hF.ev 3 rfl)) rfl (gOn 1 rfl rfl rfl (by decide)) (kM [true, true, true, false] rfl rfl) (by decide) ?_
        refine pxM hH (fun _ hF => Does.small ((Pure.as (v := (.bool true)) (same_c L33 L ((prs [] ((wrt D).2)).2) D A34 A c35 c (by rw [hB32.len, hp]; exact Nat.le_trans hDl (by decide))) (congrArg Value.bool (decide_eq_true (by rw [hp])))).does) (fun w => opCall rfl Try.func15 rfl rfl (Evs.cons (v := (.slice A34 L33.length c35)) (hF.ev 1 rfl) (Evs.cons (v := (.slice A L.length c)) (hF.ev 0 rfl) Evs.nil)) w)) ⟨(hO31.vuAt (hH.has 2 rfl)), (hB32.beh (hH.has 3 rfl)), (hH.vu hR.1 (by decide) (Off.nil _ _)), (hH.beh hR.2)⟩ rfl (gOn 2 rfl rfl rfl (by decide)) (kM [false, false, true, true] rfl rfl) (by decide) ?_
        clear hH
        rintro _ _ w ⟨rfl, rfl⟩ hH
        replace hH : HH w0 [] [E3, E9, E29, E30] w := hH.unpad
        refine pxV (v := (.bool true)) (fun _ _ hF => opPickT rfl (hF.ev 1 rfl) (hF.ev 0 rfl)) rfl (gOn 2 rfl rfl rfl (by decide)) (kM [false, false, true] rfl rfl) (by decide) ?_
        refine pxV (v := (.bool true)) (fun _ _ hF => opPickF rfl (hF.ev 1 rfl) (hF.ev 0 rfl)) rfl (fun _ _ => rfl) (kM [false, false] rfl rfl) (by decide) ?_
        refine pxV (v := (.bool true)) (fun _ _ hF => opAssign rfl (hF.ev 0 rfl)) rfl (fun _ _ => rfl) (kM [false] rfl rfl) (by decide) ?_
        refine pxEnd ?_
        refine qxThen ?_
        refine cxRet ?_
        refine qxRet1 0 rfl rfl ?_
        exact ⟨rfl, HH.toBelow hH⟩
      · refine cxReg ?_
        refine pxV (v := (.int .i64 ((((wrt D).1) : Nat) : Int))) (fun _ _ hF => opMove rfl (hF.ev 2 rfl)) rfl (fun _ _ => rfl) (kM [true, true, false, true] rfl rfl) (by decide) ?_
        refine pxV (v := (.bool true)) (fun _ _ hF => opNeI rfl (hF.ev 0 rfl) rfl (decide_eq_true (by rw [hw]; decide))) rfl (fun _ _ => rfl) (kM [false, true, true, true] rfl rfl) (by decide) ?_
        refine pxV (v := (.bool true)) (fun _ _ hF => opMove rfl (hF.ev 0 rfl)) rfl (fun _ _ => rfl) (kM [false, true, true, true] rfl rfl) (by decide) ?_
        refine pxU rfl (gOff 0 rfl rfl rfl (by decide)) (kM [true, false, true, true] rfl rfl) (by decide) ?_
        refine pxU rfl (gOff 0 rfl rfl rfl (by decide)) (kA rfl) (by decide) ?_
        refine pxUK rfl (gOff 0 rfl rfl rfl (by decide)) (kA rfl) (by decide) ?_
        refine pxU rfl (gOffU 0 rfl rfl rfl) (kM [true, true, false, true] rfl rfl) (by decide) ?_
        refine pxU rfl (gOffU 0 rfl rfl rfl) (kM [true, true, false] rfl rfl) (by decide) ?_
        refine pxU rfl (gOffU 0 rfl rfl rfl) (kA rfl) (by decide) ?_
        refine pxU rfl (gOff 1 rfl rfl rfl (by decide)) (kM [false, true] rfl rfl) (by decide) ?_
        refine pxV (v := (.bool true)) (fun _ _ hF => opPickT rfl (hF.ev 0 rfl) rfl) rfl (fun _ _ => rfl) (kM [false] rfl rfl) (by decide) ?_
        refine pxV (v := (.bool true)) (fun _ _ hF => opAssign rfl (hF.ev 0 rfl)) rfl (fun _ _ => rfl) (kM [false] rfl rfl) (by decide) ?_
        refine pxEnd ?_
        refine qxThen ?_
        refine cxRet ?_
        refine qxRet1 0 rfl rfl ?_
        exact ⟨rfl, HH.toBelow hH⟩

set_option maxHeartbeats 8000000 in
theorem parses_l (A : Option Addr) (c : Nat) (b : List UInt8) (_hb : b.length ≤ 140737488355328) : Pure Try.prog 4 #[(.slice A b.length c)] (fun w => Vu cByte w A b.length c b) (.bool true) := by
  refine pure_of (fn := Try.f4) Try.func4 rfl Try.ntmps4 (Nat.le_of_ble_eq_true rfl) rfl ?_
  intro w0 hH hR
  refine cxSeq ?_
  refine cxReg ?_
  refine pxV (v := (.bool false)) (fun _ _ hF => opAssign rfl rfl) rfl (fun _ _ => rfl) (kA rfl) (by decide) ?_
  refine pxEnd ?_
  refine qxThen ?_
  refine cxSeq ?_
  refine cxSeq ?_
  refine cxReg ?_
  refine pxM hH (fun _ hF => Does.small ((awake_c ).does) (fun w => opCall rfl Try.func8 rfl rfl Evs.nil w)) trivial rfl (fun _ _ => rfl) (kM [false, true] rfl rfl) (by decide) ?_
  clear hH
  rintro _ _ w ⟨rfl, rfl⟩ hH
  replace hH : HH w0 [] [] w := hH.unpad
  refine pxV (v := (.bool false)) (fun _ _ hF => opNot rfl (hF.ev 0 rfl) rfl) rfl (fun _ _ => rfl) (kM [false, true] rfl rfl) (by decide) ?_
  refine pxV (v := (.bool false)) (fun _ _ hF => opMove rfl (hF.ev 0 rfl)) rfl (fun _ _ => rfl) (kM [false, true] rfl rfl) (by decide) ?_
  refine pxV (v := (.slice A b.length c)) (fun _ _ hF => opMove rfl (hF.ev 1 rfl)) rfl (gOn 0 rfl rfl rfl (by decide)) (kA rfl) (by decide) ?_
  refine pxV (v := (.int .i64 (((b.length) : Nat) : Int))) (fun _ _ hF => opLen (e := 5) rfl (by kernel_rfl) (hF.ev 0 rfl)) rfl (gOn 1 rfl rfl rfl (by decide)) (kM [false, true, true] rfl rfl) (by decide) ?_
  refine pxV (v := (.bool (decide (b.length > 100000)))) (fun _ _ hF => opGtr rfl (hF.ev 0 rfl) rfl (dc (by omega))) rfl (gOn 1 rfl rfl rfl (by decide)) (kM [false, true, true] rfl rfl) (by decide) ?_
  refine pxV (v := (.bool (decide (b.length > 100000)))) (fun _ _ hF => opPickF rfl (hF.ev 1 rfl) (hF.ev 0 rfl)) rfl (fun _ _ => rfl) (kM [false, false, true] rfl rfl) (by decide) ?_
  refine pxEnd ?_
  refine qxThen ?_
  refine cxP 0 rfl rfl (fun hc1 => ?_) (fun hc1 => ?_)
  · refine cxSeq ?_
    refine cxReg ?_
    refine pxM hH (fun _ hF => Does.small ((awake_c ).does) (fun w => opCall rfl Try.func8 rfl rfl Evs.nil w)) trivial rfl (fun _ _ => rfl) (kM [false, false] rfl rfl) (by decide) ?_
    clear hH
    rintro _ _ w ⟨rfl, rfl⟩ hH
    replace hH : HH w0 [] [] w := hH.unpad
    refine pxV (v := (.bool true)) (fun _ _ hF => opAssign rfl (hF.ev 0 rfl)) rfl (fun _ _ => rfl) (kM [false] rfl rfl) (by decide) ?_
    refine pxEnd ?_
    refine qxThen ?_
    refine cxRet ?_
    refine qxThenR ?_
    refine qxRet1 0 rfl rfl ?_
    exact ⟨rfl, HH.toBelow hH⟩
  · obtain ⟨hfl, hall⟩ := prs_frm b
    have hDl : (prs [] b).2.length ≤ 100000 := by omega
    have herr := (prs_err b).2
    refine cxSkip ?_
    refine qxThen ?_
    refine cxSeq ?_
    refine cxReg ?_
    refine pxV (v := (.slice A b.length c)) (fun _ _ hF => opMove rfl (hF.ev 1 rfl)) rfl (fun _ _ => rfl) (kM [false, true] rfl rfl) (by decide) ?_
    refine pxM hH (fun _ hF => Does.small (parse_c c A b (by omega)) (fun w => opCall rfl Try.func14 rfl rfl (Evs.cons (v := (.slice A b.length c)) (hF.ev 0 rfl) Evs.nil) w)) (hH.vu hR (by decide) (Off.nil _ _)) rfl (fun _ _ => rfl) (kM [false, true] rfl rfl) (by decide) ?_
    clear hH
    rintro _ _ w ⟨s2, rfl, L7, E3, E4, rfl, hO5, hB6⟩ hH
    replace hH : HH w0 [] [([E3, E4] : List Hl).flatten] w := hH
    obtain ⟨A8, c9, rfl⟩ := hO5.slice
    replace hH : HH w0 [] [E3, E4] w := hH.cast (by simp)
    refine pxV (v := (.tuple #[(.slice A8 L7.length c9), (.int .i64 ((((prs [] b).1) : Nat) : Int))])) (fun _ _ hF => opMove rfl (hF.ev 0 rfl)) rfl (fun _ _ => rfl) (kM [false, true] rfl rfl) (by decide) ?_
    refine pxV (v := (.slice A8 L7.length c9)) (fun _ _ hF => opExtract rfl (hF.ev 0 rfl) rfl) rfl (fun _ _ => rfl) (kA rfl) (by decide) ?_
    refine pxV (v := (.int .i64 ((((prs [] b).1) : Nat) : Int))) (fun _ _ hF => opExtract rfl (hF.ev 1 rfl) rfl) rfl (fun _ _ => rfl) (kM [true, false, true] rfl rfl) (by decide) ?_
    refine pxV (v := (.slice A8 L7.length c9)) (fun _ _ hF => opAssign rfl (hF.ev 1 rfl)) rfl (fun _ _ => rfl) (kM [true, false, true] rfl rfl) (by decide) ?_
    refine pxV (v := (.int .i64 ((((prs [] b).1) : Nat) : Int))) (fun _ _ hF => opAssign rfl (hF.ev 1 rfl)) rfl (fun _ _ => rfl) (kM [true, false, true] rfl rfl) (by decide) ?_
    refine pxEnd ?_
    refine qxThen ?_
    refine cxSeq ?_
    refine cxReg ?_
    refine pxV (v := (.slice A b.length c)) (fun _ _ hF => opMove rfl (hF.ev 2 rfl)) rfl (fun _ _ => rfl) (kM [true, true, false] rfl rfl) (by decide) ?_
    refine pxM hH (fun _ hF => Does.small (parse_r c A b (by omega)) (fun w => opCall rfl Try.func16 rfl rfl (Evs.cons (v := (.slice A b.length c)) (hF.ev 0 rfl) Evs.nil) w)) (hH.vu hR (by decide) (Off.nil _ _)) rfl (fun _ _ => rfl) (kM [false, true, true] rfl rfl) (by decide) ?_
    clear hH
    rintro _ _ w ⟨s12, rfl, L17, E13, E14, rfl, hO15, hB16⟩ hH
    replace hH : HH w0 [] [E3, E4, ([E13, E14] : List Hl).flatten] w := hH
    obtain ⟨A18, c19, rfl⟩ := hO15.slice
    replace hH : HH w0 [] [E3, E4, E13, E14] w := hH.cast (by simp)
    refine pxV (v := (.tuple #[(.slice A18 L17.length c19), (.int .i64 ((((prs [] b).1) : Nat) : Int))])) (fun _ _ hF => opMove rfl (hF.ev 0 rfl)) rfl (fun _ _ => rfl) (kM [false, true, true] rfl rfl) (by decide) ?_
    refine pxV (v := (.slice A18 L17.length c19)) (fun _ _ hF => opExtract rfl (hF.ev 0 rfl) rfl) rfl (fun _ _ => rfl) (kA rfl) (by decide) ?_
    refine pxV (v := (.int .i64 ((((prs [] b).1) : Nat) : Int))) (fun _ _ hF => opExtract rfl (hF.ev 1 rfl) rfl) rfl (fun _ _ => rfl) (kM [true, false, true, true] rfl rfl) (by decide) ?_
    refine pxV (v := (.slice A18 L17.length c19)) (fun _ _ hF => opAssign rfl (hF.ev 1 rfl)) rfl (fun _ _ => rfl) (kM [true, false, true, true] rfl rfl) (by decide) ?_
    refine pxV (v := (.int .i64 ((((prs [] b).1) : Nat) : Int))) (fun _ _ hF => opAssign rfl (hF.ev 1 rfl)) rfl (fun _ _ => rfl) (kM [true, false, true, true] rfl rfl) (by decide) ?_
    refine pxEnd ?_
    refine qxThen ?_
    refine cxSeq ?_
    refine cxSeq ?_
    refine cxReg ?_
    refine pxV (v := (.slice A8 L7.length c9)) (fun _ _ hF => opMove rfl (hF.ev 3 rfl)) rfl (fun _ _ => rfl) (kA rfl) (by decide) ?_
    refine pxV (v := (.slice A18 L17.length c19)) (fun _ _ hF => opMove rfl (hF.ev 2 rfl)) rfl (fun _ _ => rfl) (kM [true, true, false, true, true] rfl rfl) (by decide) ?_
    refine pxM hH (fun _ hF => Does.small ((Pure.as (v := (.bool true)) (same_c L7 L17 ((prs [] b).2) ((prs [] b).2) A8 A18 c9 c19 (by rw [hB6.len]; omega)) (congrArg Value.bool (decide_eq_true rfl))).does) (fun w => opCall rfl Try.func15 rfl rfl (Evs.cons (v := (.slice A8 L7.length c9)) (hF.ev 1 rfl) (Evs.cons (v := (.slice A18 L17.length c19)) (hF.ev 0 rfl) Evs.nil)) w)) ⟨(hO5.vuAt (hH.has 0 rfl)), (hB6.beh (hH.has 1 rfl)), (hO15.vuAt (hH.has 2 rfl)), (hB16.beh (hH.has 3 rfl))⟩ rfl (fun _ _ => rfl) (kM [false, false, true, true, true] rfl rfl) (by decide) ?_
    clear hH
    rintro _ _ w ⟨rfl, rfl⟩ hH
    replace hH : HH w0 [] [E3, E4, E13, E14] w := hH.unpad
    refine pxV (v := (.bool false)) (fun _ _ hF => opNot rfl (hF.ev 0 rfl) rfl) rfl (fun _ _ => rfl) (kM [false, true, true, true] rfl rfl) (by decide) ?_
    refine pxV (v := (.bool false)) (fun _ _ hF => opMove rfl (hF.ev 0 rfl)) rfl (fun _ _ => rfl) (kM [false, true, true, true] rfl rfl) (by decide) ?_
    refine pxV (v := (.int .i64 ((((prs [] b).1) : Nat) : Int))) (fun _ _ hF => opMove rfl (hF.ev 2 rfl)) rfl (gOn 0 rfl rfl rfl (by decide)) (kA rfl) (by decide) ?_
    refine pxV (v := (.int .i64 ((((prs [] b).1) : Nat) : Int))) (fun _ _ hF => opMove rfl (hF.ev 2 rfl)) rfl (gOn 1 rfl rfl rfl (by decide)) (kM [true, true, false, true, true] rfl rfl) (by decide) ?_
    refine pxV (v := (.bool false)) (fun _ _ hF => opNeI rfl (hF.ev 1 rfl) (hF.ev 0 rfl) (decide_eq_false (fun h => h rfl))) rfl (gOn 2 rfl rfl rfl (by decide)) (kM [false, false, true, true, true] rfl rfl) (by decide) ?_
    refine pxV (v := (.bool false)) (fun _ _ hF => opPickF rfl (hF.ev 1 rfl) (hF.ev 0 rfl)) rfl (fun _ _ => rfl) (kM [false, false, true, true] rfl rfl) (by decide) ?_
    refine pxEnd ?_
    refine qxThen ?_
    refine cxF 0 rfl rfl ?_
    refine cxSkip ?_
    refine qxThen ?_
    refine cxSeq ?_
    refine cxSeq ?_
    refine cxReg ?_
    refine pxV (v := (.int .i64 ((((prs [] b).1) : Nat) : Int))) (fun _ _ hF => opMove rfl (hF.ev 1 rfl)) rfl (fun _ _ => rfl) (kM [false, false, true] rfl rfl) (by decide) ?_
    refine pxV (v := (.bool (decide ((prs [] b).1 ≠ 0)))) (fun _ _ hF => opNeI rfl (hF.ev 0 rfl) rfl (dc (by omega))) rfl (fun _ _ => rfl) (kM [false, true] rfl rfl) (by decide) ?_
    refine pxEnd ?_
    refine qxThen ?_
    refine cxP 0 rfl rfl (fun hc22 => ?_) (fun hc22 => ?_)
    · refine cxSeq ?_
      refine cxReg ?_
      refine pxV (v := (.slice A8 L7.length c9)) (fun _ _ hF => opMove rfl (hF.ev 1 rfl)) rfl (fun _ _ => rfl) (kM [false, false] rfl rfl) (by decide) ?_
      refine pxV (v := (.int .i64 (((L7.length) : Nat) : Int))) (fun _ _ hF => opLen (e := 31) rfl (by kernel_rfl) (hF.ev 0 rfl)) rfl (fun _ _ => rfl) (kM [false] rfl rfl) (by decide) ?_
      refine pxV (v := (.bool true)) (fun _ _ hF => opEqI rfl (hF.ev 0 rfl) rfl (decide_eq_true (by rw [hB6.len, herr hc22]; rfl))) rfl (fun _ _ => rfl) (kM [false] rfl rfl) (by decide) ?_
      refine pxV (v := (.bool true)) (fun _ _ hF => opAssign rfl (hF.ev 0 rfl)) rfl (fun _ _ => rfl) (kM [false] rfl rfl) (by decide) ?_
      refine pxEnd ?_
      refine qxThen ?_
      refine cxRet ?_
      refine qxThenR ?_
      refine qxRet1 0 rfl rfl ?_
      exact ⟨rfl, HH.toBelow hH⟩
    · have hw := wrt_ok hall
      have hp : prs [] (wrt (prs [] b).2).2 = (0, (prs [] b).2) := by rw [hw]; exact prs_back hall
      refine cxSkip ?_
      refine qxThen ?_
      refine cxSeq ?_
      refine cxReg ?_
      refine pxV (v := (.slice A8 L7.length c9)) (fun _ _ hF => opMove rfl (hF.ev 1 rfl)) rfl (fun _ _ => rfl) (kM [false, true] rfl rfl) (by decide) ?_
      refine pxM hH (fun _ hF => Does.small (write_c L7 ((prs [] b).2) A8 c9 (by rw [hB6.len]; exact Nat.le_trans hDl (by decide))) (fun w => opCall rfl Try.func10 rfl rfl (Evs.cons (v := (.slice A8 L7.length c9)) (hF.ev 0 rfl) Evs.nil) w)) ⟨(hO5.vuAt (hH.has 0 rfl)), (hB6.beh (hH.has 1 rfl))⟩ rfl (fun _ _ => rfl) (kM [false, true] rfl rfl) (by decide) ?_
      clear hH
      rintro _ E24 w ⟨s23, rfl, hO25⟩ hH
      replace hH : HH w0 [] [E3, E4, E13, E14, E24] w := hH
      obtain ⟨A26, c27, rfl⟩ := hO25.slice
      refine pxV (v := (.tuple #[(.slice A26 ((wrt ((prs [] b).2)).2.length) c27), (.int .i64 ((((wrt ((prs [] b).2)).1) : Nat) : Int))])) (fun _ _ hF => opMove rfl (hF.ev 0 rfl)) rfl (fun _ _ => rfl) (kM [false, true] rfl rfl) (by decide) ?_
      refine pxV (v := (.slice A26 ((wrt ((prs [] b).2)).2.length) c27)) (fun _ _ hF => opExtract rfl (hF.ev 0 rfl) rfl) rfl (fun _ _ => rfl) (kA rfl) (by decide) ?_
      refine pxV (v := (.int .i64 ((((wrt ((prs [] b).2)).1) : Nat) : Int))) (fun _ _ hF => opExtract rfl (hF.ev 1 rfl) rfl) rfl (fun _ _ => rfl) (kM [true, false, true] rfl rfl) (by decide) ?_
      refine pxV (v := (.slice A26 ((wrt ((prs [] b).2)).2.length) c27)) (fun _ _ hF => opAssign rfl (hF.ev 1 rfl)) rfl (fun _ _ => rfl) (kM [true, false, true] rfl rfl) (by decide) ?_
      refine pxV (v := (.int .i64 ((((wrt ((prs [] b).2)).1) : Nat) : Int))) (fun _ _ hF => opAssign rfl (hF.ev 1 rfl)) rfl (fun _ _ => rfl) (kM [true, false, true] rfl rfl) (by decide) ?_
      refine pxEnd ?_
      refine qxThen ?_
      refine cxSeq ?_
      refine cxReg ?_
      refine pxV (v := (.slice A26 ((wrt ((prs [] b).2)).2.length) c27)) (fun _ _ hF => opMove rfl (hF.ev 1 rfl)) rfl (fun _ _ => rfl) (kA rfl) (by decide) ?_
      refine pxM hH (fun _ hF => Does.small (parse_c c27 A26 ((wrt ((prs [] b).2)).2) (wrt_len hDl (by decide))) (fun w => opCall rfl Try.func14 rfl rfl (Evs.cons (v := (.slice A26 ((wrt ((prs [] b).2)).2.length) c27)) (hF.ev 0 rfl) Evs.nil) w)) (hO25.vuAt (hH.has 4 rfl)) rfl (fun _ _ => rfl) (kM [false, true, true, true] rfl rfl) (by decide) ?_
      clear hH
      rintro _ _ w ⟨s29, rfl, L34, E30, E31, rfl, hO32, hB33⟩ hH
      replace hH : HH w0 [] [E3, E4, E13, E14, E24, ([E30, E31] : List Hl).flatten] w := hH
      obtain ⟨A35, c36, rfl⟩ := hO32.slice
      replace hH : HH w0 [] [E3, E4, E13, E14, E24, E30, E31] w := hH.cast (by simp)
      refine pxV (v := (.tuple #[(.slice A35 L34.length c36), (.int .i64 ((((prs [] ((wrt ((prs [] b).2)).2)).1) : Nat) : Int))])) (fun _ _ hF => opMove rfl (hF.ev 0 rfl)) rfl (fun _ _ => rfl) (kM [false, true, true, true] rfl rfl) (by decide) ?_
      refine pxV (v := (.slice A35 L34.length c36)) (fun _ _ hF => opExtract rfl (hF.ev 0 rfl) rfl) rfl (fun _ _ => rfl) (kA rfl) (by decide) ?_
      refine pxV (v := (.int .i64 ((((prs [] ((wrt ((prs [] b).2)).2)).1) : Nat) : Int))) (fun _ _ hF => opExtract rfl (hF.ev 1 rfl) rfl) rfl (fun _ _ => rfl) (kM [true, false, true, true, true] rfl rfl) (by decide) ?_
      refine pxV (v := (.slice A35 L34.length c36)) (fun _ _ hF => opAssign rfl (hF.ev 1 rfl)) rfl (fun _ _ => rfl) (kM [true, false, true, true, true] rfl rfl) (by decide) ?_
      refine pxV (v := (.int .i64 ((((prs [] ((wrt ((prs [] b).2)).2)).1) : Nat) : Int))) (fun _ _ hF => opAssign rfl (hF.ev 1 rfl)) rfl (fun _ _ => rfl) (kM [true, false, true, true, true] rfl rfl) (by decide) ?_
      refine pxEnd ?_
      refine qxThen ?_
      refine cxSeq ?_
      refine cxReg ?_
      refine pxV (v := (.slice A35 L34.length c36)) (fun _ _ hF => opMove rfl (hF.ev 1 rfl)) rfl (fun _ _ => rfl) (kA rfl) (by decide) ?_
      refine pxM hH (fun _ hF => Does.small (write_c L34 ((prs [] ((wrt ((prs [] b).2)).2)).2) A35 c36 (by rw [hB33.len, hp]; exact Nat.le_trans hDl (by decide))) (fun w => opCall rfl Try.func10 rfl rfl (Evs.cons (v := (.slice A35 L34.length c36)) (hF.ev 0 rfl) Evs.nil) w)) ⟨(hO32.vuAt (hH.has 5 rfl)), (hB33.beh (hH.has 6 rfl))⟩ rfl (fun _ _ => rfl) (kM [false, true, true, true, true, true] rfl rfl) (by decide) ?_
      clear hH
      rintro _ E40 w ⟨s39, rfl, hO41⟩ hH
      replace hH : HH w0 [] [E3, E4, E13, E14, E24, E30, E31, E40] w := hH
      obtain ⟨A42, c43, rfl⟩ := hO41.slice
      refine pxV (v := (.tuple #[(.slice A42 ((wrt ((prs [] ((wrt ((prs [] b).2)).2)).2)).2.length) c43), (.int .i64 ((((wrt ((prs [] ((wrt ((prs [] b).2)).2)).2)).1) : Nat) : Int))])) (fun _ _ hF => opMove rfl (hF.ev 0 rfl)) rfl (fun _ _ => rfl) (kM [false, true, true, true, true, true] rfl rfl) (by decide) ?_
      refine pxV (v := (.slice A42 ((wrt ((prs [] ((wrt ((prs [] b).2)).2)).2)).2.length) c43)) (fun _ _ hF => opExtract rfl (hF.ev 0 rfl) rfl) rfl (fun _ _ => rfl) (kA rfl) (by decide) ?_
      refine pxV (v := (.int .i64 ((((wrt ((prs [] ((wrt ((prs [] b).2)).2)).2)).1) : Nat) : Int))) (fun _ _ hF => opExtract rfl (hF.ev 1 rfl) rfl) rfl (fun _ _ => rfl) (kM [true, false, true, true, true, true, true] rfl rfl) (by decide) ?_
      refine pxV (v := (.slice A42 ((wrt ((prs [] ((wrt ((prs [] b).2)).2)).2)).2.length) c43)) (fun _ _ hF => opAssign rfl (hF.ev 1 rfl)) rfl (fun _ _ => rfl) (kM [true, false, true, true, true, true, true] rfl rfl) (by decide) ?_
      refine pxV (v := (.int .i64 ((((wrt ((prs [] ((wrt ((prs [] b).2)).2)).2)).1) : Nat) : Int))) (fun _ _ hF => opAssign rfl (hF.ev 1 rfl)) rfl (fun _ _ => rfl) (kM [true, false, true, true, true, true, true] rfl rfl) (by decide) ?_
      refine pxEnd ?_
      refine qxThen ?_
      refine cxSeq ?_
      refine cxReg ?_
      refine pxV (v := (.int .i64 ((((wrt ((prs [] b).2)).1) : Nat) : Int))) (fun _ _ hF => opMove rfl (hF.ev 4 rfl)) rfl (fun _ _ => rfl) (kM [true, true, true, true, false, true, true] rfl rfl) (by decide) ?_
      refine pxV (v := (.bool true)) (fun _ _ hF => opEqI rfl (hF.ev 0 rfl) rfl (decide_eq_true (by rw [hw]; rfl))) rfl (fun _ _ => rfl) (kM [false, true, true, true, true, true, true] rfl rfl) (by decide) ?_
      refine pxV (v := (.bool true)) (fun _ _ hF => opMove rfl (hF.ev 0 rfl)) rfl (fun _ _ => rfl) (kM [false, true, true, true, true, true, true] rfl rfl) (by decide) ?_
      refine pxV (v := (.int .i64 ((((prs [] ((wrt ((prs [] b).2)).2)).1) : Nat) : Int))) (fun _ _ hF => opMove rfl (hF.ev 3 rfl)) rfl (gOn 0 rfl rfl rfl (by decide)) (kM [true, true, true, false, true, true, true] rfl rfl) (by decide) ?_
      refine pxV (v := (.bool true)) (fun _ _ hF => opEqI rfl (hF.ev 0 rfl) rfl (decide_eq_true (by rw [hp]; rfl))) rfl (gOn 1 rfl rfl rfl (by decide)) (kM [false, true, true, true, true, true, true] rfl rfl) (by decide) ?_
      refine pxV (v := (.bool true)) (fun _ _ hF => opPickT rfl (hF.ev 1 rfl) (hF.ev 0 rfl)) rfl (fun _ _ => rfl) (kM [false, false, true, true, true, true, true] rfl rfl) (by decide) ?_
      refine pxV (v := (.bool true)) (fun _ _ hF => opMove rfl (hF.ev 0 rfl)) rfl (fun _ _ => rfl) (kM [false, true, true, true, true, true] rfl rfl) (by decide) ?_
      refine pxV (v := (.int .i64 ((((wrt ((prs [] ((wrt ((prs [] b).2)).2)).2)).1) : Nat) : Int))) (fun _ _ hF => opMove rfl (hF.ev 1 rfl)) rfl (gOn 0 rfl rfl rfl (by decide)) (kM [true, false, true, true, true, true] rfl rfl) (by decide) ?_
      refine pxV (v := (.bool true)) (fun _ _ hF => opEqI rfl (hF.ev 0 rfl) rfl (decide_eq_true (by rw [hp, hw]; rfl))) rfl (gOn 1 rfl rfl rfl (by decide)) (kM [false, true, true, true, true, true] rfl rfl) (by decide) ?_
      refine pxV (v := (.bool true)) (fun _ _ hF => opPickT rfl (hF.ev 1 rfl) (hF.ev 0 rfl)) rfl (fun _ _ => rfl) (kM [false, false, true, true, true, true] rfl rfl) (by decide) ?_
      refine pxV (v := (.bool true)) (fun _ _ hF => opMove rfl (hF.ev 0 rfl)) rfl (fun _ _ => rfl) (kM [false, true, true, true, true] rfl rfl) (by decide) ?_
      refine pxV (v := (.slice A8 L7.length c9)) (fun _ _ hF => opMove rfl (hF.ev 4 rfl)) rfl (gOn 0 rfl rfl rfl (by decide)) (kM [true, true, true, true, false] rfl rfl) (by decide) ?_
      refine pxV (v := (.slice A35 L34.length c36)) (fun _ _ hF => opMove rfl (hF.ev 3 rfl)) rfl (gOn 1 rfl rfl rfl (by decide)) (kM [true, true, true, false, true] rfl rfl) (by decide) ?_
      refine pxM hH (fun _ hF => Does.small ((Pure.as (v := (.bool true)) (same_c L7 L34 ((prs [] b).2) ((prs [] ((wrt ((prs [] b).2)).2)).2) A8 A35 c9 c36 (by rw [hB6.len]; omega)) (congrArg Value.bool (decide_eq_true (by rw [hp])))).does) (fun w => opCall rfl Try.func15 rfl rfl (Evs.cons (v := (.slice A8 L7.length c9)) (hF.ev 1 rfl) (Evs.cons (v := (.slice A35 L34.length c36)) (hF.ev 0 rfl) Evs.nil)) w)) ⟨(hO5.vuAt (hH.has 0 rfl)), (hB6.beh (hH.has 1 rfl)), (hO32.vuAt (hH.has 5 rfl)), (hB33.beh (hH.has 6 rfl))⟩ rfl (gOn 2 rfl rfl rfl (by decide)) (kM [false, false, true, true, true] rfl rfl) (by decide) ?_
      clear hH
      rintro _ _ w ⟨rfl, rfl⟩ hH
      replace hH : HH w0 [] [E3, E4, E13, E14, E24, E30, E31, E40] w := hH.unpad
      refine pxV (v := (.bool true)) (fun _ _ hF => opPickT rfl (hF.ev 1 rfl) (hF.ev 0 rfl)) rfl (fun _ _ => rfl) (kM [false, false, true, true] rfl rfl) (by decide) ?_
      refine pxV (v := (.bool true)) (fun _ _ hF => opMove rfl (hF.ev 0 rfl)) rfl (fun _ _ => rfl) (kM [false, true, true] rfl rfl) (by decide) ?_
      refine pxV (v := (.slice A26 ((wrt ((prs [] b).2)).2.length) c27)) (fun _ _ hF => opMove rfl (hF.ev 2 rfl)) rfl (gOn 0 rfl rfl rfl (by decide)) (kM [true, true, false] rfl rfl) (by decide) ?_
      refine pxS (v := (.string (strL ((wrt ((prs [] b).2)).2)))) (fun w => Vu cByte w A26 ((wrt ((prs [] b).2)).2.length) c27 ((wrt ((prs [] b).2)).2)) (hO25.vuAt (hH.has 4 rfl)) (fun _ _ hF hS => opStr (e := 5) rfl (by kernel_rfl) (by kernel_rfl) (by kernel_rfl) (hF.ev 0 rfl) hS) rfl (gOn 1 rfl rfl rfl (by decide)) (kM [false, true, true] rfl rfl) (by decide) ?_
      refine pxV (v := (.slice A42 ((wrt ((prs [] ((wrt ((prs [] b).2)).2)).2)).2.length) c43)) (fun _ _ hF => opMove rfl (hF.ev 2 rfl)) rfl (gOn 1 rfl rfl rfl (by decide)) (kM [true, true, false] rfl rfl) (by decide) ?_
      refine pxS (v := (.string (strL ((wrt ((prs [] ((wrt ((prs [] b).2)).2)).2)).2)))) (fun w => Vu cByte w A42 ((wrt ((prs [] ((wrt ((prs [] b).2)).2)).2)).2.length) c43 ((wrt ((prs [] ((wrt ((prs [] b).2)).2)).2)).2)) (hO41.vuAt (hH.has 7 rfl)) (fun _ _ hF hS => opStr (e := 5) rfl (by kernel_rfl) (by kernel_rfl) (by kernel_rfl) (hF.ev 0 rfl) hS) rfl (gOn 2 rfl rfl rfl (by decide)) (kM [false, true, true] rfl rfl) (by decide) ?_
      refine pxV (v := (.bool true)) (fun _ _ hF => opEqS rfl (hF.ev 1 rfl) (hF.ev 0 rfl) (decide_eq_true (by rw [hp]))) rfl (gOn 2 rfl rfl rfl (by decide)) (kM [false, false, true] rfl rfl) (by decide) ?_
      refine pxV (v := (.bool true)) (fun _ _ hF => opPickT rfl (hF.ev 1 rfl) (hF.ev 0 rfl)) rfl (fun _ _ => rfl) (kM [false, false] rfl rfl) (by decide) ?_
      refine pxV (v := (.bool true)) (fun _ _ hF => opAssign rfl (hF.ev 0 rfl)) rfl (fun _ _ => rfl) (kM [false] rfl rfl) (by decide) ?_
      refine pxEnd ?_
      refine qxThen ?_
      refine cxRet ?_
      refine qxRet1 0 rfl rfl ?_
      exact ⟨rfl, HH.toBelow hH⟩

set_option maxHeartbeats 8000000 in
theorem joins_l (A B : Option Addr) (c d : Nat) (a b : List UInt8) (_ha : a.length ≤ 140737488355328) (_hb : b.length ≤ 140737488355328) : Pure Try.prog 7 #[(.slice A a.length c), (.slice B b.length d)] (fun w => Vu cByte w A a.length c a ∧ Vu cByte w B b.length d b) (.bool true) := by
  refine pure_of (fn := Try.f7) Try.func7 rfl Try.ntmps7 (Nat.le_of_ble_eq_true rfl) rfl ?_
  intro w0 hH hR
  refine cxSeq ?_
  refine cxReg ?_
  refine pxV (v := (.bool false)) (fun _ _ hF => opAssign rfl rfl) rfl (fun _ _ => rfl) (kA rfl) (by decide) ?_
  refine pxEnd ?_
  refine qxThen ?_
  refine cxSeq ?_
  refine cxSeq ?_
  refine cxReg ?_
  refine pxM hH (fun _ hF => Does.small ((awake_c ).does) (fun w => opCall rfl Try.func8 rfl rfl Evs.nil w)) trivial rfl (fun _ _ => rfl) (kM [false, true, true] rfl rfl) (by decide) ?_
  clear hH
  rintro _ _ w ⟨rfl, rfl⟩ hH
  replace hH : HH w0 [] [] w := hH.unpad
  refine pxV (v := (.bool false)) (fun _ _ hF => opNot rfl (hF.ev 0 rfl) rfl) rfl (fun _ _ => rfl) (kM [false, true, true] rfl rfl) (by decide) ?_
  refine pxV (v := (.bool false)) (fun _ _ hF => opMove rfl (hF.ev 0 rfl)) rfl (fun _ _ => rfl) (kM [false, true, true] rfl rfl) (by decide) ?_
  refine pxV (v := (.slice A a.length c)) (fun _ _ hF => opMove rfl (hF.ev 1 rfl)) rfl (gOn 0 rfl rfl rfl (by decide)) (kA rfl) (by decide) ?_
  refine pxV (v := (.int .i64 (((a.length) : Nat) : Int))) (fun _ _ hF => opLen (e := 5) rfl (by kernel_rfl) (hF.ev 0 rfl)) rfl (gOn 1 rfl rfl rfl (by decide)) (kM [false, true, true, true] rfl rfl) (by decide) ?_
  refine pxV (v := (.bool (decide (a.length > 20000)))) (fun _ _ hF => opGtr rfl (hF.ev 0 rfl) rfl (dc (by omega))) rfl (gOn 1 rfl rfl rfl (by decide)) (kM [false, true, true, true] rfl rfl) (by decide) ?_
  refine pxV (v := (.bool (decide (a.length > 20000)))) (fun _ _ hF => opPickF rfl (hF.ev 1 rfl) (hF.ev 0 rfl)) rfl (fun _ _ => rfl) (kM [false, false, true, true] rfl rfl) (by decide) ?_
  refine pxV (v := (.bool (decide (a.length > 20000)))) (fun _ _ hF => opMove rfl (hF.ev 0 rfl)) rfl (fun _ _ => rfl) (kM [false, true, true] rfl rfl) (by decide) ?_
  refine pxSplitP 0 rfl (l1 := [(20, (.bool true)), (0, (.slice A a.length c)), (1, (.slice B b.length d))]) (l2 := [(20, (.bool false)), (0, (.slice A a.length c)), (1, (.slice B b.length d))]) rfl rfl (fun hg1 => ?_) (fun hg1 => ?_)
  · refine pxU rfl (gOff 0 rfl rfl rfl (by decide)) (kA rfl) (by decide) ?_
    refine pxU rfl (gOff 0 rfl rfl rfl (by decide)) (kA rfl) (by decide) ?_
    refine pxU rfl (gOff 0 rfl rfl rfl (by decide)) (kA rfl) (by decide) ?_
    refine pxV (v := (.bool true)) (fun _ _ hF => opPickT rfl (hF.ev 0 rfl) rfl) rfl (fun _ _ => rfl) (kM [false, true, true] rfl rfl) (by decide) ?_
    refine pxEnd ?_
    refine qxThen ?_
    refine cxT 0 rfl rfl ?_
    refine cxSeq ?_
    refine cxReg ?_
    refine pxM hH (fun _ hF => Does.small ((awake_c ).does) (fun w => opCall rfl Try.func8 rfl rfl Evs.nil w)) trivial rfl (fun _ _ => rfl) (kM [false, false, false] rfl rfl) (by decide) ?_
    clear hH
    rintro _ _ w ⟨rfl, rfl⟩ hH
    replace hH : HH w0 [] [] w := hH.unpad
    refine pxV (v := (.bool true)) (fun _ _ hF => opAssign rfl (hF.ev 0 rfl)) rfl (fun _ _ => rfl) (kM [false] rfl rfl) (by decide) ?_
    refine pxEnd ?_
    refine qxThen ?_
    refine cxRet ?_
    refine qxThenR ?_
    refine qxRet1 0 rfl rfl ?_
    exact ⟨rfl, HH.toBelow hH⟩
  · refine pxV (v := (.slice B b.length d)) (fun _ _ hF => opMove rfl (hF.ev 2 rfl)) rfl (gOn 0 rfl rfl rfl (by decide)) (kA rfl) (by decide) ?_
    refine pxV (v := (.int .i64 (((b.length) : Nat) : Int))) (fun _ _ hF => opLen (e := 5) rfl (by kernel_rfl) (hF.ev 0 rfl)) rfl (gOn 1 rfl rfl rfl (by decide)) (kM [false, true, true, true] rfl rfl) (by decide) ?_
    refine pxV (v := (.bool (decide (b.length > 20000)))) (fun _ _ hF => opGtr rfl (hF.ev 0 rfl) rfl (dc (by omega))) rfl (gOn 1 rfl rfl rfl (by decide)) (kM [false, true, true, true] rfl rfl) (by decide) ?_
    refine pxV (v := (.bool (decide (b.length > 20000)))) (fun _ _ hF => opPickF rfl (hF.ev 1 rfl) (hF.ev 0 rfl)) rfl (fun _ _ => rfl) (kM [false, false, true, true] rfl rfl) (by decide) ?_
    refine pxEnd ?_
    refine qxThen ?_
    refine cxP 0 rfl rfl (fun hc2 => ?_) (fun hc2 => ?_)
    · refine cxSeq ?_
      refine cxReg ?_
      refine pxM hH (fun _ hF => Does.small ((awake_c ).does) (fun w => opCall rfl Try.func8 rfl rfl Evs.nil w)) trivial rfl (fun _ _ => rfl) (kM [false, false, false] rfl rfl) (by decide) ?_
      clear hH
      rintro _ _ w ⟨rfl, rfl⟩ hH
      replace hH : HH w0 [] [] w := hH.unpad
      refine pxV (v := (.bool true)) (fun _ _ hF => opAssign rfl (hF.ev 0 rfl)) rfl (fun _ _ => rfl) (kM [false] rfl rfl) (by decide) ?_
      refine pxEnd ?_
      refine qxThen ?_
      refine cxRet ?_
      refine qxThenR ?_
      refine qxRet1 0 rfl rfl ?_
      exact ⟨rfl, HH.toBelow hH⟩
    · obtain ⟨hfa, halla⟩ := prs_frm a
      obtain ⟨hfb, hallb⟩ := prs_frm b
      have hw := wrt_ok halla
      have hwl := wrt_len (D := (prs [] a).2) (n := 20000) (by omega) (by decide)
      have hwl2 := wrL_le _ halla
      have hlj : ((prs [] a).2 ++ (prs [] b).2).length ≤ 40000 := by rw [List.length_append]; omega
      have hwe : (wrt (prs [] a).2).2.length = (wrL (prs [] a).2).length := by rw [hw]
      refine cxSkip ?_
      refine qxThen ?_
      refine cxSeq ?_
      refine cxReg ?_
      refine pxV (v := (.slice A a.length c)) (fun _ _ hF => opMove rfl (hF.ev 1 rfl)) rfl (fun _ _ => rfl) (kM [false, false, true] rfl rfl) (by decide) ?_
      refine pxM hH (fun _ hF => Does.small (parse_c c A a (by omega)) (fun w => opCall rfl Try.func14 rfl rfl (Evs.cons (v := (.slice A a.length c)) (hF.ev 0 rfl) Evs.nil) w)) (hH.vu hR.1 (by decide) (Off.nil _ _)) rfl (fun _ _ => rfl) (kM [false, true] rfl rfl) (by decide) ?_
      clear hH
      rintro _ _ w ⟨s3, rfl, L8, E4, E5, rfl, hO6, hB7⟩ hH
      replace hH : HH w0 [] [([E4, E5] : List Hl).flatten] w := hH
      obtain ⟨A9, c10, rfl⟩ := hO6.slice
      replace hH : HH w0 [] [E4, E5] w := hH.cast (by simp)
      refine pxV (v := (.tuple #[(.slice A9 L8.length c10), (.int .i64 ((((prs [] a).1) : Nat) : Int))])) (fun _ _ hF => opMove rfl (hF.ev 0 rfl)) rfl (fun _ _ => rfl) (kM [false, true] rfl rfl) (by decide) ?_
      refine pxV (v := (.slice A9 L8.length c10)) (fun _ _ hF => opExtract rfl (hF.ev 0 rfl) rfl) rfl (fun _ _ => rfl) (kA rfl) (by decide) ?_
      refine pxV (v := (.int .i64 ((((prs [] a).1) : Nat) : Int))) (fun _ _ hF => opExtract rfl (hF.ev 1 rfl) rfl) rfl (fun _ _ => rfl) (kM [true, false, true] rfl rfl) (by decide) ?_
      refine pxV (v := (.slice A9 L8.length c10)) (fun _ _ hF => opAssign rfl (hF.ev 1 rfl)) rfl (fun _ _ => rfl) (kM [true, false, true] rfl rfl) (by decide) ?_
      refine pxV (v := (.int .i64 ((((prs [] a).1) : Nat) : Int))) (fun _ _ hF => opAssign rfl (hF.ev 1 rfl)) rfl (fun _ _ => rfl) (kM [true, false, true] rfl rfl) (by decide) ?_
      refine pxEnd ?_
      refine qxThen ?_
      refine cxSeq ?_
      refine cxReg ?_
      refine pxV (v := (.slice B b.length d)) (fun _ _ hF => opMove rfl (hF.ev 2 rfl)) rfl (fun _ _ => rfl) (kA rfl) (by decide) ?_
      refine pxM hH (fun _ hF => Does.small (parse_c d B b (by omega)) (fun w => opCall rfl Try.func14 rfl rfl (Evs.cons (v := (.slice B b.length d)) (hF.ev 0 rfl) Evs.nil) w)) (hH.vu hR.2 (by decide) (Off.nil _ _)) rfl (fun _ _ => rfl) (kM [false, true, true, true] rfl rfl) (by decide) ?_
      clear hH
      rintro _ _ w ⟨s13, rfl, L18, E14, E15, rfl, hO16, hB17⟩ hH
      replace hH : HH w0 [] [E4, E5, ([E14, E15] : List Hl).flatten] w := hH
      obtain ⟨A19, c20, rfl⟩ := hO16.slice
      replace hH : HH w0 [] [E4, E5, E14, E15] w := hH.cast (by simp)
      refine pxV (v := (.tuple #[(.slice A19 L18.length c20), (.int .i64 ((((prs [] b).1) : Nat) : Int))])) (fun _ _ hF => opMove rfl (hF.ev 0 rfl)) rfl (fun _ _ => rfl) (kM [false, true, true, true] rfl rfl) (by decide) ?_
      refine pxV (v := (.slice A19 L18.length c20)) (fun _ _ hF => opExtract rfl (hF.ev 0 rfl) rfl) rfl (fun _ _ => rfl) (kA rfl) (by decide) ?_
      refine pxV (v := (.int .i64 ((((prs [] b).1) : Nat) : Int))) (fun _ _ hF => opExtract rfl (hF.ev 1 rfl) rfl) rfl (fun _ _ => rfl) (kM [true, false, true, true, true] rfl rfl) (by decide) ?_
      refine pxV (v := (.slice A19 L18.length c20)) (fun _ _ hF => opAssign rfl (hF.ev 1 rfl)) rfl (fun _ _ => rfl) (kM [true, false, true, true, true] rfl rfl) (by decide) ?_
      refine pxV (v := (.int .i64 ((((prs [] b).1) : Nat) : Int))) (fun _ _ hF => opAssign rfl (hF.ev 1 rfl)) rfl (fun _ _ => rfl) (kM [true, false, true, true, true] rfl rfl) (by decide) ?_
      refine pxEnd ?_
      refine qxThen ?_
      refine cxSeq ?_
      refine cxSeq ?_
      have hl1 : L8.length ≤ 20000 := by rw [hB7.len]; omega
      have hl2 : L18.length ≤ 20000 := by rw [hB17.len]; omega
      refine cxReg ?_
      refine pxV (v := (.int .i64 ((((prs [] a).1) : Nat) : Int))) (fun _ _ hF => opMove rfl (hF.ev 2 rfl)) rfl (fun _ _ => rfl) (kM [true, true, false, true, true] rfl rfl) (by decide) ?_
      refine pxV (v := (.bool (decide ((prs [] a).1 ≠ 0)))) (fun _ _ hF => opNeI rfl (hF.ev 0 rfl) rfl (dc (by omega))) rfl (fun _ _ => rfl) (kM [false, true, true, true, true] rfl rfl) (by decide) ?_
      refine pxV (v := (.bool (decide ((prs [] a).1 ≠ 0)))) (fun _ _ hF => opMove rfl (hF.ev 0 rfl)) rfl (fun _ _ => rfl) (kM [false, true, true, true, true] rfl rfl) (by decide) ?_
      refine pxSplitP 0 rfl (l1 := [(38, (.bool true)), (8, (.int .i64 ((((prs [] b).1) : Nat) : Int))), (7, (.slice A19 L18.length c20)), (5, (.slice A9 L8.length c10)), (1, (.slice B b.length d))]) (l2 := [(38, (.bool false)), (8, (.int .i64 ((((prs [] b).1) : Nat) : Int))), (7, (.slice A19 L18.length c20)), (5, (.slice A9 L8.length c10)), (1, (.slice B b.length d))]) rfl rfl (fun hg23 => ?_) (fun hg23 => ?_)
      · refine pxU rfl (gOff 0 rfl rfl rfl (by decide)) (kM [true, false, true, true, true] rfl rfl) (by decide) ?_
        refine pxU rfl (gOff 0 rfl rfl rfl (by decide)) (kA rfl) (by decide) ?_
        refine pxV (v := (.bool true)) (fun _ _ hF => opPickT rfl (hF.ev 0 rfl) rfl) rfl (fun _ _ => rfl) (kM [false, true, true, true] rfl rfl) (by decide) ?_
        refine pxEnd ?_
        refine qxThen ?_
        refine cxT 0 rfl rfl ?_
        refine cxSeq ?_
        refine cxReg ?_
        refine pxV (v := (.bool true)) (fun _ _ hF => opAssign rfl rfl) rfl (fun _ _ => rfl) (kM [false, false, false, false] rfl rfl) (by decide) ?_
        refine pxEnd ?_
        refine qxThen ?_
        refine cxRet ?_
        refine qxThenR ?_
        refine qxRet1 0 rfl rfl ?_
        exact ⟨rfl, HH.toBelow hH⟩
      · refine pxV (v := (.int .i64 ((((prs [] b).1) : Nat) : Int))) (fun _ _ hF => opMove rfl (hF.ev 1 rfl)) rfl (gOn 0 rfl rfl rfl (by decide)) (kM [true, false, true, true, true] rfl rfl) (by decide) ?_
        refine pxV (v := (.bool (decide ((prs [] b).1 ≠ 0)))) (fun _ _ hF => opNeI rfl (hF.ev 0 rfl) rfl (dc (by omega))) rfl (gOn 1 rfl rfl rfl (by decide)) (kM [false, true, true, true, true] rfl rfl) (by decide) ?_
        refine pxV (v := (.bool (decide ((prs [] b).1 ≠ 0)))) (fun _ _ hF => opPickF rfl (hF.ev 1 rfl) (hF.ev 0 rfl)) rfl (fun _ _ => rfl) (kM [false, false, true, true, true] rfl rfl) (by decide) ?_
        refine pxEnd ?_
        refine qxThen ?_
        refine cxP 0 rfl rfl (fun hc24 => ?_) (fun hc24 => ?_)
        · refine cxSeq ?_
          refine cxReg ?_
          refine pxV (v := (.bool true)) (fun _ _ hF => opAssign rfl rfl) rfl (fun _ _ => rfl) (kM [false, false, false, false] rfl rfl) (by decide) ?_
          refine pxEnd ?_
          refine qxThen ?_
          refine cxRet ?_
          refine qxThenR ?_
          refine qxRet1 0 rfl rfl ?_
          exact ⟨rfl, HH.toBelow hH⟩
        · refine cxSkip ?_
          refine qxThen ?_
          refine cxSeq ?_
          refine cxReg ?_
          refine pxV (v := (.slice A9 L8.length c10)) (fun _ _ hF => opMove rfl (hF.ev 2 rfl)) rfl (fun _ _ => rfl) (kM [false, true, true, true] rfl rfl) (by decide) ?_
          refine pxM hH (fun _ hF => Does.small (write_c L8 ((prs [] a).2) A9 c10 (by omega)) (fun w => opCall rfl Try.func10 rfl rfl (Evs.cons (v := (.slice A9 L8.length c10)) (hF.ev 0 rfl) Evs.nil) w)) ⟨(hO6.vuAt (hH.has 0 rfl)), (hB7.beh (hH.has 1 rfl))⟩ rfl (fun _ _ => rfl) (kM [false, true, true, true] rfl rfl) (by decide) ?_
          clear hH
          rintro _ E26 w ⟨s25, rfl, hO27⟩ hH
          replace hH : HH w0 [] [E4, E5, E14, E15, E26] w := hH
          obtain ⟨A28, c29, rfl⟩ := hO27.slice
          refine pxV (v := (.tuple #[(.slice A28 ((wrt ((prs [] a).2)).2.length) c29), (.int .i64 ((((wrt ((prs [] a).2)).1) : Nat) : Int))])) (fun _ _ hF => opMove rfl (hF.ev 0 rfl)) rfl (fun _ _ => rfl) (kM [false, true, true, true] rfl rfl) (by decide) ?_
          refine pxV (v := (.slice A28 ((wrt ((prs [] a).2)).2.length) c29)) (fun _ _ hF => opExtract rfl (hF.ev 0 rfl) rfl) rfl (fun _ _ => rfl) (kA rfl) (by decide) ?_
          refine pxV (v := (.int .i64 ((((wrt ((prs [] a).2)).1) : Nat) : Int))) (fun _ _ hF => opExtract rfl (hF.ev 1 rfl) rfl) rfl (fun _ _ => rfl) (kM [true, false, true, true, true] rfl rfl) (by decide) ?_
          refine pxV (v := (.slice A28 ((wrt ((prs [] a).2)).2.length) c29)) (fun _ _ hF => opAssign rfl (hF.ev 1 rfl)) rfl (fun _ _ => rfl) (kM [true, false, true, true, true] rfl rfl) (by decide) ?_
          refine pxV (v := (.int .i64 ((((wrt ((prs [] a).2)).1) : Nat) : Int))) (fun _ _ hF => opAssign rfl (hF.ev 1 rfl)) rfl (fun _ _ => rfl) (kM [true, false, true, true, true] rfl rfl) (by decide) ?_
          refine pxEnd ?_
          refine qxThen ?_
          refine cxSeq ?_
          have hp : prs [] ((wrt (prs [] a).2).2 ++ b) = (0, (prs [] a).2 ++ (prs [] b).2) := by rw [hw]; exact prs_join halla (Prod.ext (Decidable.of_not_not hc24) rfl)
          refine cxReg ?_
          refine pxM hH (fun _ hF => smLit0 (e := 5) rfl (by kernel_rfl) (by kernel_rfl)) trivial rfl (fun _ _ => rfl) (kM [false, true, true, true, true] rfl rfl) (by decide) ?_
          clear hH
          rintro _ _ w ⟨g31, rfl, rfl⟩ hH
          replace hH : HH w0 [] [E4, E5, E14, E15, E26, [bl g31 5 #[]]] w := hH
          refine pxV (v := (.slice A28 ((wrt ((prs [] a).2)).2.length) c29)) (fun _ _ hF => opMove rfl (hF.ev 1 rfl)) rfl (fun _ _ => rfl) (kM [true, false, true, true, true] rfl rfl) (by decide) ?_
          refine pxE 5 hH rfl (fun _ hF => smAppT (C := cByte) (l := []) (m := (wrt ((prs [] a).2)).2) (e := 5) (z := (.int .u8 0)) (by_ := 1) rfl (by kernel_rfl) (by kernel_rfl) rfl (ltb rfl) (hF.ev 1 rfl) ((Bk.lit0 (C := cByte)).own 5 g31 rfl) (hF.ev 0 rfl) rfl hO27.nilA (by rw [List.length_nil]; unfold maxLen; omega) (by rw [List.length_nil]; omega)) (hO27.vuAt (hH.has 4 rfl)) rfl (fun _ _ => rfl) (kM [false, false, true, true, true] rfl rfl) (by decide) ?_
          clear hH
          rintro v34 E35 w ⟨hO36, _⟩ hH
          replace hH : HH w0 [] [E4, E5, E14, E15, E26, E35] w := hH
          replace hO36 : OwnT cByte 5 v34 ((wrt ((prs [] a).2)).2) E35 := hO36
          obtain ⟨A32, c33, rfl⟩ := hO36.slice
          refine pxV (v := (.slice B b.length d)) (fun _ _ hF => opMove rfl (hF.ev 3 rfl)) rfl (fun _ _ => rfl) (kM [true, true, true, false] rfl rfl) (by decide) ?_
          refine pxE 5 hH rfl (fun _ hF => smAppT (C := cByte) (l := (wrt ((prs [] a).2)).2) (m := b) (e := 5) (z := (.int .u8 0)) (by_ := 1) rfl (by kernel_rfl) (by kernel_rfl) rfl (ltb rfl) (hF.ev 1 rfl) hO36 (hF.ev 0 rfl) rfl hR.2.nilA (by unfold maxLen; omega) (by omega)) (hH.vu hR.2 (by decide) (Off.nil _ _)) rfl (fun _ _ => rfl) (kM [false, false, true, true] rfl rfl) (by decide) ?_
          clear hH
          rintro v39 E40 w ⟨hO41, _⟩ hH
          replace hH : HH w0 [] [E4, E5, E14, E15, E26, E40] w := hH
          replace hO41 : OwnT cByte 5 v39 ((wrt ((prs [] a).2)).2 ++ b) E40 := hO41
          obtain ⟨A37, c38, rfl⟩ := hO41.slice
          refine pxM hH (fun _ hF => Does.small (parse_c c38 A37 ((wrt ((prs [] a).2)).2 ++ b) (by rw [List.length_append]; omega)) (fun w => opCall rfl Try.func14 rfl rfl (Evs.cons (v := (.slice A37 (((wrt ((prs [] a).2)).2 ++ b).length) c38)) (hF.ev 0 rfl) Evs.nil) w)) (hO41.vuAt (hH.has 5 rfl)) rfl (fun _ _ => rfl) (kM [false, true, true] rfl rfl) (by decide) ?_
          clear hH
          rintro _ _ w ⟨s42, rfl, L47, E43, E44, rfl, hO45, hB46⟩ hH
          replace hH : HH w0 [] [E4, E5, E14, E15, E26, E40, ([E43, E44] : List Hl).flatten] w := hH
          obtain ⟨A48, c49, rfl⟩ := hO45.slice
          replace hH : HH w0 [] [E4, E5, E14, E15, E26, E40, E43, E44] w := hH.cast (by simp)
          refine pxV (v := (.tuple #[(.slice A48 L47.length c49), (.int .i64 ((((prs [] ((wrt ((prs [] a).2)).2 ++ b)).1) : Nat) : Int))])) (fun _ _ hF => opMove rfl (hF.ev 0 rfl)) rfl (fun _ _ => rfl) (kM [false, true, true] rfl rfl) (by decide) ?_
          refine pxV (v := (.slice A48 L47.length c49)) (fun _ _ hF => opExtract rfl (hF.ev 0 rfl) rfl) rfl (fun _ _ => rfl) (kA rfl) (by decide) ?_
          refine pxV (v := (.int .i64 ((((prs [] ((wrt ((prs [] a).2)).2 ++ b)).1) : Nat) : Int))) (fun _ _ hF => opExtract rfl (hF.ev 1 rfl) rfl) rfl (fun _ _ => rfl) (kM [true, false, true, true] rfl rfl) (by decide) ?_
          refine pxV (v := (.slice A48 L47.length c49)) (fun _ _ hF => opAssign rfl (hF.ev 1 rfl)) rfl (fun _ _ => rfl) (kM [true, false, true, true] rfl rfl) (by decide) ?_
          refine pxV (v := (.int .i64 ((((prs [] ((wrt ((prs [] a).2)).2 ++ b)).1) : Nat) : Int))) (fun _ _ hF => opAssign rfl (hF.ev 1 rfl)) rfl (fun _ _ => rfl) (kM [true, false, true, true] rfl rfl) (by decide) ?_
          refine pxEnd ?_
          refine qxThen ?_
          refine cxSeq ?_
          refine cxReg ?_
          refine pxV (v := (.int .i64 ((((prs [] ((wrt ((prs [] a).2)).2 ++ b)).1) : Nat) : Int))) (fun _ _ hF => opMove rfl (hF.ev 0 rfl)) rfl (fun _ _ => rfl) (kM [false, true, true, true] rfl rfl) (by decide) ?_
          refine pxV (v := (.bool true)) (fun _ _ hF => opEqI rfl (hF.ev 0 rfl) rfl (decide_eq_true (by rw [hp]; rfl))) rfl (fun _ _ => rfl) (kM [false, true, true, true] rfl rfl) (by decide) ?_
          refine pxV (v := (.bool true)) (fun _ _ hF => opMove rfl (hF.ev 0 rfl)) rfl (fun _ _ => rfl) (kM [false, true, true, true] rfl rfl) (by decide) ?_
          refine pxV (v := (.slice A48 L47.length c49)) (fun _ _ hF => opMove rfl (hF.ev 1 rfl)) rfl (gOn 0 rfl rfl rfl (by decide)) (kM [true, false, true, true] rfl rfl) (by decide) ?_
          refine pxM hH (fun _ hF => smLit0 (e := 31) rfl (by kernel_rfl) (by kernel_rfl)) trivial rfl (gOn 1 rfl rfl rfl (by decide)) (kA rfl) (by decide) ?_
          clear hH
          rintro _ _ w ⟨g52, rfl, rfl⟩ hH
          replace hH : HH w0 [] [E4, E5, E14, E15, E26, E40, E43, E44, [bl g52 31 #[]]] w := hH
          refine pxV (v := (.slice A9 L8.length c10)) (fun _ _ hF => opMove rfl (hF.ev 4 rfl)) rfl (gOn 2 rfl rfl rfl (by decide)) (kM [true, true, true, true, false] rfl rfl) (by decide) ?_
          refine pxE 8 hH rfl (fun _ hF => smAppT (C := cPk) (l := []) (m := L8) (e := 31) (z := (cPk.val (0, none, 0, 0))) (by_ := 32) rfl (by kernel_rfl) (by kernel_rfl) rfl (ltb rfl) (hF.ev 1 rfl) ((Bk.lit0 (C := cPk)).own 31 g52 rfl) (hF.ev 0 rfl) rfl hO6.nilA (by rw [List.length_nil]; unfold maxLen; omega) (by rw [List.length_nil]; omega)) (hO6.vuAt (hH.has 0 rfl)) rfl (gOn 3 rfl rfl rfl (by decide)) (kM [false, false, true, true, true] rfl rfl) (by decide) ?_
          clear hH
          rintro v55 E56 w ⟨hO57, _⟩ hH
          replace hH : HH w0 [] [E4, E5, E14, E15, E26, E40, E43, E44, E56] w := hH
          replace hO57 : OwnT cPk 31 v55 L8 E56 := hO57
          obtain ⟨A53, c54, rfl⟩ := hO57.slice
          refine pxV (v := (.slice A19 L18.length c20)) (fun _ _ hF => opMove rfl (hF.ev 3 rfl)) rfl (gOn 2 rfl rfl rfl (by decide)) (kM [true, true, true, false] rfl rfl) (by decide) ?_
          refine pxE 8 hH rfl (fun _ hF => smAppT (C := cPk) (l := L8) (m := L18) (e := 31) (z := (cPk.val (0, none, 0, 0))) (by_ := 32) rfl (by kernel_rfl) (by kernel_rfl) rfl (ltb rfl) (hF.ev 1 rfl) hO57 (hF.ev 0 rfl) rfl hO16.nilA (by unfold maxLen; omega) (by omega)) (hO16.vuAt (hH.has 2 rfl)) rfl (gOn 3 rfl rfl rfl (by decide)) (kM [false, false, true, true] rfl rfl) (by decide) ?_
          clear hH
          rintro v60 E61 w ⟨hO62, _⟩ hH
          replace hH : HH w0 [] [E4, E5, E14, E15, E26, E40, E43, E44, E61] w := hH
          replace hO62 : OwnT cPk 31 v60 (L8 ++ L18) E61 := hO62
          obtain ⟨A58, c59, rfl⟩ := hO62.slice
          refine pxM hH (fun _ hF => Does.small ((Pure.as (v := (.bool true)) (same_c L47 (L8 ++ L18) ((prs [] ((wrt ((prs [] a).2)).2 ++ b)).2) ((prs [] a).2 ++ (prs [] b).2) A48 A58 c49 c59 (by rw [hB46.len, hp]; exact Nat.le_trans hlj (by decide))) (congrArg Value.bool (decide_eq_true (by rw [hp])))).does) (fun w => opCall rfl Try.func15 rfl rfl (Evs.cons (v := (.slice A48 L47.length c49)) (hF.ev 1 rfl) (Evs.cons (v := (.slice A58 ((L8 ++ L18).length) c59)) (hF.ev 0 rfl) Evs.nil)) w)) ⟨(hO45.vuAt (hH.has 6 rfl)), (hB46.beh (hH.has 7 rfl)), (hO62.vuAt (hH.has 8 rfl)), ((hB7.beh (hH.has 1 rfl)).append (hB17.beh (hH.has 3 rfl)))⟩ rfl (gOn 2 rfl rfl rfl (by decide)) (kM [false, false, true] rfl rfl) (by decide) ?_
          clear hH
          rintro _ _ w ⟨rfl, rfl⟩ hH
          replace hH : HH w0 [] [E4, E5, E14, E15, E26, E40, E43, E44, E61] w := hH.unpad
          refine pxV (v := (.bool true)) (fun _ _ hF => opPickT rfl (hF.ev 1 rfl) (hF.ev 0 rfl)) rfl (fun _ _ => rfl) (kM [false, false] rfl rfl) (by decide) ?_
          refine pxV (v := (.bool true)) (fun _ _ hF => opAssign rfl (hF.ev 0 rfl)) rfl (fun _ _ => rfl) (kM [false] rfl rfl) (by decide) ?_
          refine pxEnd ?_
          refine qxThen ?_
          refine cxRet ?_
          refine qxRet1 0 rfl rfl ?_
          exact ⟨rfl, HH.toBelow hH⟩
end Go.Proofs.Ytjncbpmigpocbaa
