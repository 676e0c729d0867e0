/- The document's packets (mkpd.py writes this text). -/
import Derived.Test.YtjncbpmigpocbaaPkQ
namespace Go.Proofs.Ytjncbpmigpocbaa
open Go Go.RowKit
set_option maxRecDepth 100000

theorem same_no {D F : List Pd} {i : Nat} {p q : Pd} (hp : D[i]? = some p) (hq : F[i]? = some q) (h : p ≠ q) : D ≠ F := fun e => by
  subst e; rw [hp] at hq; exact h (Option.some.inj hq)
theorem same_step {D F : List Pd} {i : Nat} {t u : Int} {b d : List UInt8} (hp : D[i]? = some (t, b)) (hq : F[i]? = some (u, d)) (h : t = u) (h2 : b = d) (he : D.take i = F.take i) : D.take (i + 1) = F.take (i + 1) := by
  subst h h2; rw [take_snoc hp, take_snoc hq, he]
theorem wr_len2 {D : List Pd} {L : List PkH} {i : Nat} {B : List UInt8} (hf : ∀ p ∈ D.take i, frmP p) (hB : B = wrL (D.take i)) (hi : i ≤ L.length) (hlen : L.length ≤ 4294967296) : B.length ≤ 85925115723776 := by
  have h1 := wrL_le (D.take i) hf
  have h2 : (D.take i).length ≤ i := by rw [List.length_take]; omega
  have h3 := Nat.mul_le_mul_right 20006 h2
  rw [hB]; omega

set_option maxHeartbeats 8000000 in
theorem same_c (L M : List PkH) (D F : List Pd) (A B : Option Addr) (c d : Nat) (hlen : L.length ≤ 140737488355328) : Pure Try.prog 15 #[(.slice A L.length c), (.slice B M.length d)] (fun w => Vu cPk w A L.length c L ∧ Beh w L D ∧ Vu cPk w B M.length d M ∧ Beh w M F) (.bool (decide (D = F))) := by
  refine pure_of (fn := Try.f15) Try.func15 rfl Try.ntmps15 (Nat.le_of_ble_eq_true rfl) rfl ?_
  intro w0 hH hR
  refine cxSeq ?_
  refine cxReg ?_
  refine pxV (v := (.bool false)) (fun _ _ hF => opAssign rfl rfl) rfl (fun _ _ => rfl) (kA rfl) (by decide) ?_
  refine pxEnd ?_
  refine qxThen ?_
  refine cxSeq ?_
  refine cxSeq ?_
  refine cxReg ?_
  refine pxV (v := (.slice A L.length c)) (fun _ _ hF => opMove rfl (hF.ev 1 rfl)) rfl (fun _ _ => rfl) (kM [false, true, true] rfl rfl) (by decide) ?_
  refine pxV (v := (.int .i64 (((L.length) : Nat) : Int))) (fun _ _ hF => opLen (e := 31) rfl (by kernel_rfl) (hF.ev 0 rfl)) rfl (fun _ _ => rfl) (kM [false, true, true] rfl rfl) (by decide) ?_
  refine pxV (v := (.slice B M.length d)) (fun _ _ hF => opMove rfl (hF.ev 2 rfl)) rfl (fun _ _ => rfl) (kA rfl) (by decide) ?_
  refine pxV (v := (.int .i64 (((M.length) : Nat) : Int))) (fun _ _ hF => opLen (e := 31) rfl (by kernel_rfl) (hF.ev 0 rfl)) rfl (fun _ _ => rfl) (kM [false, true, true, true] rfl rfl) (by decide) ?_
  refine pxV (v := (.bool (decide (L.length ≠ M.length)))) (fun _ _ hF => opNeI rfl (hF.ev 1 rfl) (hF.ev 0 rfl) (dc (by omega))) rfl (fun _ _ => rfl) (kM [false, false, true, true] rfl rfl) (by decide) ?_
  refine pxEnd ?_
  refine qxThen ?_
  refine cxP 0 rfl rfl (fun hc1 => ?_) (fun hc1 => ?_)
  · refine cxSeq ?_
    refine cxReg ?_
    refine pxV (v := (.bool false)) (fun _ _ hF => opAssign rfl rfl) rfl (fun _ _ => rfl) (kM [false, false, false] rfl rfl) (by decide) ?_
    refine pxEnd ?_
    refine qxThen ?_
    refine cxRet ?_
    refine qxThenR ?_
    refine qxRet1 0 rfl rfl ?_
    have hq : ¬ D = F := fun e => hc1 (by rw [hR.2.1.len, hR.2.2.2.len, e])
    exact ⟨by rw [decide_eq_false hq], HH.toBelow hH⟩
  · have hll : L.length = M.length := Decidable.of_not_not hc1
    refine cxSkip ?_
    refine qxThen ?_
    refine cxSeq ?_
    refine cxSeq ?_
    refine cxReg ?_
    refine pxV (v := (.slice A L.length c)) (fun _ _ hF => opMove rfl (hF.ev 1 rfl)) rfl (fun _ _ => rfl) (kM [false, true, true] rfl rfl) (by decide) ?_
    refine pxV (v := (.int .i64 (((L.length) : Nat) : Int))) (fun _ _ hF => opLen (e := 31) rfl (by kernel_rfl) (hF.ev 0 rfl)) rfl (fun _ _ => rfl) (kM [false, true, true] rfl rfl) (by decide) ?_
    refine pxV (v := (.int .i64 0)) (fun _ _ hF => opMove rfl rfl) rfl (fun _ _ => rfl) (kA rfl) (by decide) ?_
    refine pxEnd ?_
    refine qxThen ?_
    refine cxBlock ?_
    refine cxLoop (σ := Nat) (fun x => [(13, (.int .i64 (((x) : Nat) : Int))), (12, (.int .i64 (((L.length) : Nat) : Int))), (1, (.slice B M.length d)), (0, (.slice A L.length c))]) (fun x w => HH w0 [] [] w ∧ (x ≤ L.length) ∧ (D.take x = F.take x)) (fun x => L.length - x) 0 ⟨hH, (Nat.zero_le _), rfl⟩ (slots_at [0, 1, 3, 2] rfl) ?_
    clear hH
    rintro i w ⟨hH, hi, he⟩
    change CX _ _ _ _ [(13, (.int .i64 (((i) : Nat) : Int))), (12, (.int .i64 (((L.length) : Nat) : Int))), (1, (.slice B M.length d)), (0, (.slice A L.length c))] _
    replace hH : HH w0 [] [] w := hH
    replace hi : i ≤ L.length := hi
    replace he : D.take i = F.take i := he
    refine cxSeq ?_
    refine cxReg ?_
    refine pxV (v := (.bool (decide (i < L.length)))) (fun _ _ hF => opLss rfl (hF.ev 0 rfl) (hF.ev 1 rfl) (dc (by omega))) rfl (fun _ _ => rfl) (kA rfl) (by decide) ?_
    refine pxEnd ?_
    refine qxThen ?_
    refine cxSeq ?_
    refine cxP 0 rfl rfl (fun hc2 => ?_) (fun hc2 => ?_)
    · refine cxSkip ?_
      refine qxThen ?_
      refine cxSeq ?_
      refine cxBlock ?_
      refine cxSeq ?_
      obtain ⟨⟨t0, A0, n0, c0⟩, hx0⟩ := get_at L i (by omega)
      obtain ⟨b0, hd0, hn0, hb0⟩ := hR.2.1.at' _ _ hx0
      replace hd0 : D[i]? = some (t0, b0) := hd0
      obtain rfl : n0 = b0.length := hn0
      replace hb0 : Vu cByte w0 A0 b0.length c0 b0 := hb0
      have := hb0.cap
      obtain ⟨⟨t1, A1, n1, c1⟩, hx1⟩ := get_at M i (by omega)
      obtain ⟨b1, hd1, hn1, hb1⟩ := hR.2.2.2.at' _ _ hx1
      replace hd1 : F[i]? = some (t1, b1) := hd1
      obtain rfl : n1 = b1.length := hn1
      replace hb1 : Vu cByte w0 A1 b1.length c1 b1 := hb1
      have := hb1.cap
      refine cxReg ?_
      refine pxV (v := (.int .i64 (((i) : Nat) : Int))) (fun _ _ hF => opMove rfl (hF.ev 1 rfl)) rfl (fun _ _ => rfl) (kM [false, true, true, true, true] rfl rfl) (by decide) ?_
      refine pxV (v := (.int .i64 (((i) : Nat) : Int))) (fun _ _ hF => opAssign rfl (hF.ev 0 rfl)) rfl (fun _ _ => rfl) (kM [false, true, true, true, true] rfl rfl) (by decide) ?_
      refine pxEnd ?_
      refine qxThen ?_
      refine cxSeq ?_
      refine cxRegX mixedOrders (by kernel_rfl) ?_
      replace hH := hH.drew
      refine rxV 0 rfl (by kernel_rfl) rfl (fun _ _ => rfl) (fun _ _ hF => opMove rfl (hF.ev 4 rfl)) (kA rfl) (by decide) (v := (.slice A L.length c)) ?_
      refine rxV 1 rfl (by kernel_rfl) rfl (fun _ _ => rfl) (fun _ _ hF => opMove rfl (hF.ev 1 rfl)) (kA rfl) (by decide) (v := (.int .i64 (((i) : Nat) : Int))) ?_
      have hi3 : i < L.length := by omega
      obtain ⟨b4, off5, rfl, hL6, hb7, hR8⟩ := hR.1.blk (by decide) (Off.nil _ _) (by omega)
      have := hR.1.cap
      have hj11 : i < L.length := by first | exact hi3 | (simp only [List.length_drop, List.length_take]; omega) | omega
      refine rxV 2 rfl (by kernel_rfl) rfl (fun _ _ => rfl) (fun _ _ hF => opIndex (i := i) (e := 31) (sz := 2) rfl (by kernel_rfl) (by kernel_rfl) (hF.ev 1 rfl) (hF.ev 0 rfl) rfl hi3) (kM [false, false, true, true, true, true, true] rfl rfl) (by decide) (v := (.pointer (some ⟨b4, off5 + i * 2, none⟩))) ?_
      refine rxV 3 rfl (by kernel_rfl) rfl (fun _ _ => rfl) (fun _ _ hF => opField (off := 0) rfl (hF.ev 0 rfl) (by kernel_rfl)) (kM [false, true, true, true, true, true] rfl rfl) (by decide) (v := (.pointer (some ⟨b4, off5 + i * 2 + 0, none⟩))) ?_
      refine rxS (fun w => HoldsL cPk w b4 off5 L) 4 rfl (by kernel_rfl) rfl (fun _ _ => rfl) (hH.holdsL hL6 hb7 hR8) (fun _ _ hF hS => opLoadT (C := (cInt .i64)) (y := t0) rfl (hF.ev 0 rfl) (by kernel_rfl) (hS i _ hx0).fst rfl) (kM [false, true, true, true, true, true] rfl rfl) (by decide) (v := (.int .i64 (t0))) ?_
      refine rxV 5 rfl (by kernel_rfl) rfl (fun _ _ => rfl) (fun _ _ hF => opMove rfl (hF.ev 4 rfl)) (kA rfl) (by decide) (v := (.slice B M.length d)) ?_
      refine rxV 6 rfl (by kernel_rfl) rfl (fun _ _ => rfl) (fun _ _ hF => opMove rfl (hF.ev 2 rfl)) (kA rfl) (by decide) (v := (.int .i64 (((i) : Nat) : Int))) ?_
      have hi12 : i < M.length := by omega
      obtain ⟨b13, off14, rfl, hL15, hb16, hR17⟩ := hR.2.2.1.blk (by decide) (Off.nil _ _) (by omega)
      have := hR.2.2.1.cap
      have hj20 : i < M.length := by first | exact hi12 | (simp only [List.length_drop, List.length_take]; omega) | omega
      refine rxV 7 rfl (by kernel_rfl) rfl (fun _ _ => rfl) (fun _ _ hF => opIndex (i := i) (e := 31) (sz := 2) rfl (by kernel_rfl) (by kernel_rfl) (hF.ev 1 rfl) (hF.ev 0 rfl) rfl hi12) (kM [false, false, true, true, true, true, true, true] rfl rfl) (by decide) (v := (.pointer (some ⟨b13, off14 + i * 2, none⟩))) ?_
      refine rxV 8 rfl (by kernel_rfl) rfl (fun _ _ => rfl) (fun _ _ hF => opField (off := 0) rfl (hF.ev 0 rfl) (by kernel_rfl)) (kM [false, true, true, true, true, true, true] rfl rfl) (by decide) (v := (.pointer (some ⟨b13, off14 + i * 2 + 0, none⟩))) ?_
      refine rxS (fun w => HoldsL cPk w b13 off14 M) 9 rfl (by kernel_rfl) rfl (fun _ _ => rfl) (hH.holdsL hL15 hb16 hR17) (fun _ _ hF hS => opLoadT (C := (cInt .i64)) (y := t1) rfl (hF.ev 0 rfl) (by kernel_rfl) (hS i _ hx1).fst rfl) (kM [false, true, true, true, true, true, true] rfl rfl) (by decide) (v := (.int .i64 (t1))) ?_
      refine rxV 10 rfl (by kernel_rfl) rfl (fun _ _ => rfl) (fun _ _ hF => opNeI rfl (hF.ev 1 rfl) (hF.ev 0 rfl) rfl) (kM [false, false, true, true, true, true, true] rfl rfl) (by decide) (v := (.bool (decide ((t0) ≠ (t1))))) ?_
      refine rxV 11 rfl (by kernel_rfl) rfl (fun _ _ => rfl) (fun _ _ hF => opMove rfl (hF.ev 0 rfl)) (kM [false, true, true, true, true, true] rfl rfl) (by decide) (v := (.bool (decide ((t0) ≠ (t1))))) ?_
      refine rxSplitP 0 rfl (l1 := [(27, (.bool true)), (5, (.int .i64 (((i) : Nat) : Int))), (13, (.int .i64 (((i) : Nat) : Int))), (12, (.int .i64 (((L.length) : Nat) : Int))), (1, (.slice (some ⟨b13, off14, none⟩) M.length d)), (0, (.slice (some ⟨b4, off5, none⟩) L.length c))]) (l2 := [(27, (.bool false)), (5, (.int .i64 (((i) : Nat) : Int))), (13, (.int .i64 (((i) : Nat) : Int))), (12, (.int .i64 (((L.length) : Nat) : Int))), (1, (.slice (some ⟨b13, off14, none⟩) M.length d)), (0, (.slice (some ⟨b4, off5, none⟩) L.length c))]) rfl rfl (fun hg21 => ?_) (fun hg21 => ?_)
      · refine rxU 12 rfl (by kernel_rfl) rfl (gOff 0 rfl rfl rfl (by decide)) (kA rfl) (by decide) ?_
        refine rxU 13 rfl (by kernel_rfl) rfl (gOff 0 rfl rfl rfl (by decide)) (kA rfl) (by decide) ?_
        refine rxU 14 rfl (by kernel_rfl) rfl (gOff 0 rfl rfl rfl (by decide)) (kA rfl) (by decide) ?_
        refine rxU 15 rfl (by kernel_rfl) rfl (gOff 0 rfl rfl rfl (by decide)) (kA rfl) (by decide) ?_
        refine rxU 16 rfl (by kernel_rfl) rfl (gOff 0 rfl rfl rfl (by decide)) (kA rfl) (by decide) ?_
        refine rxU 17 rfl (by kernel_rfl) rfl (gOff 0 rfl rfl rfl (by decide)) (kA rfl) (by decide) ?_
        refine rxU 18 rfl (by kernel_rfl) rfl (gOff 0 rfl rfl rfl (by decide)) (kA rfl) (by decide) ?_
        refine rxU 19 rfl (by kernel_rfl) rfl (gOff 0 rfl rfl rfl (by decide)) (kM [true, false, true, true, true, true] rfl rfl) (by decide) ?_
        refine rxU 20 rfl (by kernel_rfl) rfl (gOff 0 rfl rfl rfl (by decide)) (kA rfl) (by decide) ?_
        refine rxU 21 rfl (by kernel_rfl) rfl (gOff 0 rfl rfl rfl (by decide)) (kA rfl) (by decide) ?_
        refine rxU 22 rfl (by kernel_rfl) rfl (gOff 0 rfl rfl rfl (by decide)) (kA rfl) (by decide) ?_
        refine rxU 23 rfl (by kernel_rfl) rfl (gOff 0 rfl rfl rfl (by decide)) (kA rfl) (by decide) ?_
        refine rxU 24 rfl (by kernel_rfl) rfl (gOff 0 rfl rfl rfl (by decide)) (kA rfl) (by decide) ?_
        refine rxV 25 rfl (by kernel_rfl) rfl (fun _ _ => rfl) (fun _ _ hF => opPickT rfl (hF.ev 0 rfl) rfl) (kM [false, true, true, true, true] rfl rfl) (by decide) (v := (.bool true)) ?_
        refine rxEnd (by kernel_rfl) ?_
        refine qxThen ?_
        refine cxT 0 rfl rfl ?_
        refine cxSeq ?_
        refine cxReg ?_
        refine pxV (v := (.bool false)) (fun _ _ hF => opAssign rfl rfl) rfl (fun _ _ => rfl) (kM [false, false, false, false, false] rfl rfl) (by decide) ?_
        refine pxEnd ?_
        refine qxThen ?_
        refine cxRet ?_
        refine qxInR ?_
        refine qxThenR ?_
        refine qxThenR ?_
        refine qxInR ?_
        refine qxThenR ?_
        refine qxRet1 0 rfl rfl ?_
        have hq : ¬ D = F := same_no hd0 hd1 (fun e => hg21 (congrArg (fun p : Pd => p.1) e))
        exact ⟨by rw [decide_eq_false hq], HH.toBelow hH⟩
      · refine rxV 12 rfl (by kernel_rfl) rfl (gOn 0 rfl rfl rfl (by decide)) (fun _ _ hF => opMove rfl (hF.ev 5 rfl)) (kA rfl) (by decide) (v := (.slice (some ⟨b4, off5, none⟩) L.length c)) ?_
        refine rxV 13 rfl (by kernel_rfl) rfl (gOn 1 rfl rfl rfl (by decide)) (fun _ _ hF => opMove rfl (hF.ev 2 rfl)) (kA rfl) (by decide) (v := (.int .i64 (((i) : Nat) : Int))) ?_
        have hi22 : i < L.length := by omega
        have hj25 : i < L.length := by first | exact hi22 | (simp only [List.length_drop, List.length_take]; omega) | omega
        refine rxV 14 rfl (by kernel_rfl) rfl (gOn 2 rfl rfl rfl (by decide)) (fun _ _ hF => opIndex (i := i) (e := 31) (sz := 2) rfl (by kernel_rfl) (by kernel_rfl) (hF.ev 1 rfl) (hF.ev 0 rfl) rfl hi22) (kM [false, false, true, true, true, true, true, true] rfl rfl) (by decide) (v := (.pointer (some ⟨b4, off5 + i * 2, none⟩))) ?_
        refine rxV 15 rfl (by kernel_rfl) rfl (gOn 1 rfl rfl rfl (by decide)) (fun _ _ hF => opField (off := 1) rfl (hF.ev 0 rfl) (by kernel_rfl)) (kM [false, true, true, true, true, true, true] rfl rfl) (by decide) (v := (.pointer (some ⟨b4, off5 + i * 2 + 1, none⟩))) ?_
        refine rxS (fun w => HoldsL cPk w b4 off5 L) 16 rfl (by kernel_rfl) rfl (gOn 1 rfl rfl rfl (by decide)) (hH.holdsL hL6 hb7 hR8) (fun _ _ hF hS => opLoadT (C := cSl) (y := (A0, b0.length, c0)) rfl (hF.ev 0 rfl) (by kernel_rfl) (hS i _ hx0).snd rfl) (kM [false, true, true, true, true, true, true] rfl rfl) (by decide) (v := (.slice A0 b0.length c0)) ?_
        refine rxS (fun w => Vu cByte w A0 b0.length c0 b0) 17 rfl (by kernel_rfl) rfl (gOn 1 rfl rfl rfl (by decide)) (hH.vu hb0 (by decide) (Off.nil _ _)) (fun _ _ hF hS => opStr (e := 5) rfl (by kernel_rfl) (by kernel_rfl) (by kernel_rfl) (hF.ev 0 rfl) hS) (kM [false, true, true, true, true, true, true] rfl rfl) (by decide) (v := (.string (strL b0))) ?_
        refine rxV 18 rfl (by kernel_rfl) rfl (gOn 1 rfl rfl rfl (by decide)) (fun _ _ hF => opMove rfl (hF.ev 5 rfl)) (kA rfl) (by decide) (v := (.slice (some ⟨b13, off14, none⟩) M.length d)) ?_
        refine rxV 19 rfl (by kernel_rfl) rfl (gOn 2 rfl rfl rfl (by decide)) (fun _ _ hF => opMove rfl (hF.ev 3 rfl)) (kM [true, true, true, false, true, true, true, true] rfl rfl) (by decide) (v := (.int .i64 (((i) : Nat) : Int))) ?_
        have hi26 : i < M.length := by omega
        have hj29 : i < M.length := by first | exact hi26 | (simp only [List.length_drop, List.length_take]; omega) | omega
        refine rxV 20 rfl (by kernel_rfl) rfl (gOn 3 rfl rfl rfl (by decide)) (fun _ _ hF => opIndex (i := i) (e := 31) (sz := 2) rfl (by kernel_rfl) (by kernel_rfl) (hF.ev 1 rfl) (hF.ev 0 rfl) rfl hi26) (kM [false, false, true, true, true, true, true, true] rfl rfl) (by decide) (v := (.pointer (some ⟨b13, off14 + i * 2, none⟩))) ?_
        refine rxV 21 rfl (by kernel_rfl) rfl (gOn 2 rfl rfl rfl (by decide)) (fun _ _ hF => opField (off := 1) rfl (hF.ev 0 rfl) (by kernel_rfl)) (kM [false, true, true, true, true, true, true] rfl rfl) (by decide) (v := (.pointer (some ⟨b13, off14 + i * 2 + 1, none⟩))) ?_
        refine rxS (fun w => HoldsL cPk w b13 off14 M) 22 rfl (by kernel_rfl) rfl (gOn 2 rfl rfl rfl (by decide)) (hH.holdsL hL15 hb16 hR17) (fun _ _ hF hS => opLoadT (C := cSl) (y := (A1, b1.length, c1)) rfl (hF.ev 0 rfl) (by kernel_rfl) (hS i _ hx1).snd rfl) (kM [false, true, true, true, true, true, true] rfl rfl) (by decide) (v := (.slice A1 b1.length c1)) ?_
        refine rxS (fun w => Vu cByte w A1 b1.length c1 b1) 23 rfl (by kernel_rfl) rfl (gOn 2 rfl rfl rfl (by decide)) (hH.vu hb1 (by decide) (Off.nil _ _)) (fun _ _ hF hS => opStr (e := 5) rfl (by kernel_rfl) (by kernel_rfl) (by kernel_rfl) (hF.ev 0 rfl) hS) (kM [false, true, true, true, true, true, true] rfl rfl) (by decide) (v := (.string (strL b1))) ?_
        refine rxV 24 rfl (by kernel_rfl) rfl (gOn 2 rfl rfl rfl (by decide)) (fun _ _ hF => opNeS rfl (hF.ev 1 rfl) (hF.ev 0 rfl) rfl) (kM [false, false, true, true, true, true, true] rfl rfl) (by decide) (v := (.bool (decide ((strL b0) ≠ (strL b1))))) ?_
        refine rxV 25 rfl (by kernel_rfl) rfl (fun _ _ => rfl) (fun _ _ hF => opPickF rfl (hF.ev 1 rfl) (hF.ev 0 rfl)) (kM [false, false, true, true, true, true] rfl rfl) (by decide) (v := (.bool (decide ((strL b0) ≠ (strL b1))))) ?_
        refine rxEnd (by kernel_rfl) ?_
        refine qxThen ?_
        refine cxP 0 rfl rfl (fun hc30 => ?_) (fun hc30 => ?_)
        · refine cxSeq ?_
          refine cxReg ?_
          refine pxV (v := (.bool false)) (fun _ _ hF => opAssign rfl rfl) rfl (fun _ _ => rfl) (kM [false, false, false, false, false] rfl rfl) (by decide) ?_
          refine pxEnd ?_
          refine qxThen ?_
          refine cxRet ?_
          refine qxInR ?_
          refine qxThenR ?_
          refine qxThenR ?_
          refine qxInR ?_
          refine qxThenR ?_
          refine qxRet1 0 rfl rfl ?_
          have hq : ¬ D = F := same_no hd0 hd1 (fun e => hc30 (congrArg (fun p : Pd => strL p.2) e))
          exact ⟨by rw [decide_eq_false hq], HH.toBelow hH⟩
        · refine cxSkip ?_
          refine qxInN ?_
          refine qxThen ?_
          refine cxReg ?_
          refine pxV (v := (.int .i64 (((i + 1) : Nat) : Int))) (fun _ _ hF => opAdd rfl (hF.ev 1 rfl) rfl (wI (by omega) (by omega) (by omega))) rfl (fun _ _ => rfl) (kM [false, false, true, true, true] rfl rfl) (by decide) ?_
          refine pxV (v := (.int .i64 (((i + 1) : Nat) : Int))) (fun _ _ hF => opMove rfl (hF.ev 0 rfl)) rfl (fun _ _ => rfl) (kM [false, true, true, true] rfl rfl) (by decide) ?_
          refine pxEnd ?_
          exact qxRound (i + 1) ⟨hH, (show (i + 1) ≤ L.length from (by omega)), (same_step hd0 hd1 (Decidable.of_not_not hg21) (strL_inj.1 (Decidable.of_not_not hc30)) he)⟩ (by omega) (slots_at [0, 1, 2, 3] rfl)
    · refine cxExit ?_
      refine qxThenE ?_
      refine qxThenE ?_
      refine qxInE ?_
      refine qxThen ?_
      refine cxSeq ?_
      refine cxReg ?_
      refine pxV (v := (.bool true)) (fun _ _ hF => opAssign rfl rfl) rfl (fun _ _ => rfl) (kM [false, false, false, false, false] rfl rfl) (by decide) ?_
      refine pxEnd ?_
      refine qxThen ?_
      refine cxRet ?_
      refine qxRet1 0 rfl rfl ?_
      have hq : D = F := by rw [List.take_of_length_le (by rw [← hR.2.1.len]; omega), List.take_of_length_le (by rw [← hR.2.2.2.len]; omega)] at he; exact he
      exact ⟨by rw [decide_eq_true hq], HH.toBelow hH⟩

set_option maxHeartbeats 8000000 in
theorem write_r (L : List PkH) (D : List Pd) (A : Option Addr) (c : Nat) (hlen : L.length ≤ 4294967296) : Does Try.prog 11 #[(.slice A L.length c)] [] (fun w => Vu cPk w A L.length c L ∧ Beh w L D) (fun v E' => ∃ s, v = .tuple #[s, .int .i64 ((wrt D).1 : Int)] ∧ OwnT cByte 5 s (wrt D).2 E') := by
  refine does_of (fn := Try.f11) Try.func11 rfl Try.ntmps11 (Nat.le_of_ble_eq_true rfl) rfl ?_
  intro w0 hH hR
  replace hH : HH w0 [] [] w0 := hH.only [false]
  refine cxSeq ?_
  refine cxReg ?_
  refine pxV (v := (.slice none 0 0)) (fun _ _ hF => opAssign rfl rfl) rfl (fun _ _ => rfl) (kA rfl) (by decide) ?_
  refine pxV (v := (.int .i64 0)) (fun _ _ hF => opAssign rfl rfl) rfl (fun _ _ => rfl) (kM [false, true] rfl rfl) (by decide) ?_
  refine pxEnd ?_
  refine qxThen ?_
  refine cxSeq ?_
  refine cxReg ?_
  refine pxV (v := (.slice none 0 0)) (fun _ _ hF => opAssign rfl rfl) rfl (fun _ _ => rfl) (kM [false, true] rfl rfl) (by decide) ?_
  refine pxEnd ?_
  refine qxThen ?_
  refine cxSeq ?_
  refine cxSeq ?_
  refine cxReg ?_
  refine pxV (v := (.slice A L.length c)) (fun _ _ hF => opMove rfl (hF.ev 1 rfl)) rfl (fun _ _ => rfl) (kA rfl) (by decide) ?_
  refine pxV (v := (.int .i64 (((L.length) : Nat) : Int))) (fun _ _ hF => opLen (e := 31) rfl (by kernel_rfl) (hF.ev 0 rfl)) rfl (fun _ _ => rfl) (kM [false, true, true] rfl rfl) (by decide) ?_
  refine pxV (v := (.int .i64 0)) (fun _ _ hF => opMove rfl rfl) rfl (fun _ _ => rfl) (kA rfl) (by decide) ?_
  refine pxEnd ?_
  refine qxThen ?_
  refine cxBlock ?_
  replace hH := HH.pad hH 1
  replace hH : HH w0 [] [[]] w0 := hH
  refine cxLoop (σ := Nat × (Option Addr) × Nat × (List UInt8) × Hl) (fun x => [(8, (.int .i64 (((x.1) : Nat) : Int))), (7, (.int .i64 (((L.length) : Nat) : Int))), (4, (.slice x.2.1 x.2.2.2.1.length x.2.2.1)), (0, (.slice A L.length c))]) (fun x w => HH w0 [] [x.2.2.2.2] w ∧ (x.1 ≤ L.length) ∧ (OwnT cByte 5 (.slice x.2.1 x.2.2.2.1.length x.2.2.1) x.2.2.2.1 x.2.2.2.2) ∧ (x.2.2.2.1 = wrL (D.take x.1)) ∧ (∀ p ∈ D.take x.1, frmP p)) (fun x => L.length - x.1) (0, none, 0, [], []) ⟨hH, (Nat.zero_le _), (OwnT.nil _ _), rfl, (fun p hp => by simp at hp)⟩ (slots_at [0, 1, 2, 3] rfl) ?_
  clear hH
  rintro ⟨i, A1, c1, B, E1⟩ w ⟨hH, hi, hO, hB, hf⟩
  change CX _ _ _ _ [(8, (.int .i64 (((i) : Nat) : Int))), (7, (.int .i64 (((L.length) : Nat) : Int))), (4, (.slice A1 B.length c1)), (0, (.slice A L.length c))] _
  replace hH : HH w0 [] [E1] w := hH
  replace hi : i ≤ L.length := hi
  replace hO : OwnT cByte 5 (.slice A1 B.length c1) B E1 := hO
  replace hB : B = wrL (D.take i) := hB
  replace hf : ∀ p ∈ D.take i, frmP p := hf
  refine cxSeq ?_
  refine cxReg ?_
  refine pxV (v := (.bool (decide (i < L.length)))) (fun _ _ hF => opLss rfl (hF.ev 0 rfl) (hF.ev 1 rfl) (dc (by omega))) rfl (fun _ _ => rfl) (kA rfl) (by decide) ?_
  refine pxEnd ?_
  refine qxThen ?_
  refine cxSeq ?_
  refine cxP 0 rfl rfl (fun hc1 => ?_) (fun hc1 => ?_)
  · refine cxSkip ?_
    refine qxThen ?_
    refine cxSeq ?_
    refine cxBlock ?_
    refine cxSeq ?_
    refine cxReg ?_
    refine pxV (v := (.int .i64 (((i) : Nat) : Int))) (fun _ _ hF => opMove rfl (hF.ev 1 rfl)) rfl (fun _ _ => rfl) (kM [false, true, true, true, true] rfl rfl) (by decide) ?_
    refine pxV (v := (.int .i64 (((i) : Nat) : Int))) (fun _ _ hF => opAssign rfl (hF.ev 0 rfl)) rfl (fun _ _ => rfl) (kM [false, true, true, true, true] rfl rfl) (by decide) ?_
    refine pxEnd ?_
    refine qxThen ?_
    refine cxSeq ?_
    refine cxSeq ?_
    obtain ⟨⟨t0, A0, n0, c0⟩, hx0⟩ := get_at L i (by omega)
    obtain ⟨b0, hd0, hn0, hb0⟩ := hR.2.at' _ _ hx0
    replace hd0 : D[i]? = some (t0, b0) := hd0
    obtain rfl : n0 = b0.length := hn0
    replace hb0 : Vu cByte w0 A0 b0.length c0 b0 := hb0
    have := hb0.cap
    refine cxReg ?_
    refine pxV (v := (.slice A L.length c)) (fun _ _ hF => opMove rfl (hF.ev 4 rfl)) rfl (fun _ _ => rfl) (kA rfl) (by decide) ?_
    refine pxV (v := (.int .i64 (((i) : Nat) : Int))) (fun _ _ hF => opMove rfl (hF.ev 1 rfl)) rfl (fun _ _ => rfl) (kA rfl) (by decide) ?_
    have hi2 : i < L.length := by omega
    obtain ⟨b3, off4, rfl, hL5, hb6, hR7⟩ := hR.1.blk (by decide) (Off.nil _ _) (by omega)
    have := hR.1.cap
    have hj10 : i < L.length := by first | exact hi2 | (simp only [List.length_drop, List.length_take]; omega) | omega
    refine pxV (v := (.pointer (some ⟨b3, off4 + i * 2, none⟩))) (fun _ _ hF => opIndex (i := i) (e := 31) (sz := 2) rfl (by kernel_rfl) (by kernel_rfl) (hF.ev 1 rfl) (hF.ev 0 rfl) rfl hi2) rfl (fun _ _ => rfl) (kM [false, false, true, true, true, true, true] rfl rfl) (by decide) ?_
    refine pxS (v := (cPk.val (t0, A0, b0.length, c0))) (fun w => HoldsL cPk w b3 off4 L) (hH.holdsL hL5 hb6 hR7) (fun _ _ hF hS => opLoadT (C := cPk) (y := (t0, A0, b0.length, c0)) rfl (hF.ev 0 rfl) (by kernel_rfl) (hS i _ hx0) rfl) rfl (fun _ _ => rfl) (kM [false, true, true, true, true, true] rfl rfl) (by decide) ?_
    refine pxM hH (fun _ hF => Does.small ((formed_r t0 A0 b0.length c0).does) (fun w => opCall rfl Try.func13 rfl rfl (Evs.cons (v := (cPk.val (t0, A0, b0.length, c0))) (hF.ev 0 rfl) Evs.nil) w)) trivial rfl (fun _ _ => rfl) (kM [false, true, true, true, true, true] rfl rfl) (by decide) ?_
    clear hH
    rintro _ _ w ⟨rfl, rfl⟩ hH
    replace hH : HH w0 [] [E1] w := hH.unpad
    refine pxV (v := (.bool (decide (¬ (1 ≤ t0 ∧ t0 ≤ 63 ∧ b0.length ≤ 20000))))) (fun _ _ hF => opNot rfl (hF.ev 0 rfl) decide_not.symm) rfl (fun _ _ => rfl) (kM [false, true, true, true, true, true] rfl rfl) (by decide) ?_
    refine pxEnd ?_
    refine qxThen ?_
    refine cxP 0 rfl rfl (fun hc11 => ?_) (fun hc11 => ?_)
    · refine cxSeq ?_
      refine cxReg ?_
      refine pxV (v := (.slice none 0 0)) (fun _ _ hF => opAssign rfl rfl) rfl (fun _ _ => rfl) (kM [false, false, false, false, false, false] rfl rfl) (by decide) ?_
      refine pxV (v := (.int .i64 1)) (fun _ _ hF => opAssign rfl rfl) rfl (fun _ _ => rfl) (kA rfl) (by decide) ?_
      refine pxEnd ?_
      refine qxThen ?_
      refine cxRet ?_
      refine qxThenR ?_
      refine qxInR ?_
      refine qxThenR ?_
      refine qxThenR ?_
      refine qxInR ?_
      refine qxThenR ?_
      refine qxRet2 1 0 rfl rfl rfl ?_
      have he := wrt_no hd0 (fun q => by have h1 : 1 ≤ t0 ∧ t0 ≤ 63 ∧ b0.length ≤ 20000 := q; exact hc11 h1)
      exact ⟨_, [], rfl, ⟨.slice none 0 0, (by rw [he]; first | done | rfl), by rw [he]; exact OwnT.nil _ _⟩, HH.out1 (HH.pad hH 1) [false, true] rfl⟩
    · have hf0 : frmP (t0, b0) := Decidable.of_not_not hc11
      obtain ⟨tn, rfl, htn, htn2, hb2⟩ := frm_at hf0
      have hl0 := (lenL_len (n := b0.length)).2
      have hBl := wr_len2 hf hB hi hlen
      refine cxSkip ?_
      refine qxThen ?_
      refine cxRegX mixedOrders (by kernel_rfl) ?_
      replace hH := hH.drew
      refine rxV 0 rfl (by kernel_rfl) rfl (fun _ _ => rfl) (fun _ _ hF => opMove rfl (hF.ev 4 rfl)) (kM [false, true, true, true, true, true] rfl rfl) (by decide) (v := (.slice A1 B.length c1)) ?_
      refine rxV 1 rfl (by kernel_rfl) rfl (fun _ _ => rfl) (fun _ _ hF => opMove rfl (hF.ev 5 rfl)) (kA rfl) (by decide) (v := (.slice (some ⟨b3, off4, none⟩) L.length c)) ?_
      refine rxV 2 rfl (by kernel_rfl) rfl (fun _ _ => rfl) (fun _ _ hF => opMove rfl (hF.ev 2 rfl)) (kA rfl) (by decide) (v := (.int .i64 (((i) : Nat) : Int))) ?_
      have hi12 : i < L.length := by omega
      have hj15 : i < L.length := by first | exact hi12 | (simp only [List.length_drop, List.length_take]; omega) | omega
      refine rxV 3 rfl (by kernel_rfl) rfl (fun _ _ => rfl) (fun _ _ hF => opIndex (i := i) (e := 31) (sz := 2) rfl (by kernel_rfl) (by kernel_rfl) (hF.ev 1 rfl) (hF.ev 0 rfl) rfl hi12) (kM [false, false, true, true, true, true, true, true] rfl rfl) (by decide) (v := (.pointer (some ⟨b3, off4 + i * 2, none⟩))) ?_
      refine rxV 4 rfl (by kernel_rfl) rfl (fun _ _ => rfl) (fun _ _ hF => opField (off := 0) rfl (hF.ev 0 rfl) (by kernel_rfl)) (kM [false, true, true, true, true, true, true] rfl rfl) (by decide) (v := (.pointer (some ⟨b3, off4 + i * 2 + 0, none⟩))) ?_
      refine rxS (fun w => HoldsL cPk w b3 off4 L) 5 rfl (by kernel_rfl) rfl (fun _ _ => rfl) (hH.holdsL hL5 hb6 hR7) (fun _ _ hF hS => opLoadT (C := (cInt .i64)) (y := ((tn : Nat) : Int)) rfl (hF.ev 0 rfl) (by kernel_rfl) (hS i _ hx0).fst rfl) (kM [false, true, true, true, true, true, true] rfl rfl) (by decide) (v := (.int .i64 (((tn) : Nat) : Int))) ?_
      refine rxV 6 rfl (by kernel_rfl) rfl (fun _ _ => rfl) (fun _ _ hF => opAdd rfl rfl (hF.ev 0 rfl) (wI (by omega) (by omega) (by omega))) (kM [false, true, true, true, true, true, true] rfl rfl) (by decide) (v := (.int .i64 (((192 + tn) : Nat) : Int))) ?_
      refine rxV 7 rfl (by kernel_rfl) rfl (fun _ _ => rfl) (fun _ _ hF => opConvU (k' := .u8) rfl rfl (by kernel_rfl) (by kernel_rfl) (hF.ev 0 rfl) (UInt8.toNat_ofNat' (n := 192 + tn)).symm) (kM [false, true, true, true, true, true, true] rfl rfl) (by decide) (v := (.int .u8 ((((UInt8.ofNat (192 + tn)).toNat) : Nat) : Int))) ?_
      refine rxV 10 rfl (by kernel_rfl) rfl (fun _ _ => rfl) (fun _ _ hF => opMove rfl (hF.ev 6 rfl)) (kA rfl) (by decide) (v := (.slice (some ⟨b3, off4, none⟩) L.length c)) ?_
      refine rxV 11 rfl (by kernel_rfl) rfl (fun _ _ => rfl) (fun _ _ hF => opMove rfl (hF.ev 3 rfl)) (kA rfl) (by decide) (v := (.int .i64 (((i) : Nat) : Int))) ?_
      have hi16 : i < L.length := by omega
      have hj19 : i < L.length := by first | exact hi16 | (simp only [List.length_drop, List.length_take]; omega) | omega
      refine rxV 12 rfl (by kernel_rfl) rfl (fun _ _ => rfl) (fun _ _ hF => opIndex (i := i) (e := 31) (sz := 2) rfl (by kernel_rfl) (by kernel_rfl) (hF.ev 1 rfl) (hF.ev 0 rfl) rfl hi16) (kM [false, false, true, true, true, true, true, true, true] rfl rfl) (by decide) (v := (.pointer (some ⟨b3, off4 + i * 2, none⟩))) ?_
      refine rxV 13 rfl (by kernel_rfl) rfl (fun _ _ => rfl) (fun _ _ hF => opField (off := 1) rfl (hF.ev 0 rfl) (by kernel_rfl)) (kM [false, true, true, true, true, true, true, true] rfl rfl) (by decide) (v := (.pointer (some ⟨b3, off4 + i * 2 + 1, none⟩))) ?_
      refine rxS (fun w => HoldsL cPk w b3 off4 L) 14 rfl (by kernel_rfl) rfl (fun _ _ => rfl) (hH.holdsL hL5 hb6 hR7) (fun _ _ hF hS => opLoadT (C := cSl) (y := (A0, b0.length, c0)) rfl (hF.ev 0 rfl) (by kernel_rfl) (hS i _ hx0).snd rfl) (kM [false, true, true, true, true, true, true, true] rfl rfl) (by decide) (v := (.slice A0 b0.length c0)) ?_
      refine rxV 15 rfl (by kernel_rfl) rfl (fun _ _ => rfl) (fun _ _ hF => opLen (e := 5) rfl (by kernel_rfl) (hF.ev 0 rfl)) (kM [false, true, true, true, true, true, true, true] rfl rfl) (by decide) (v := (.int .i64 (((b0.length) : Nat) : Int))) ?_
      refine rxV 18 rfl (by kernel_rfl) rfl (fun _ _ => rfl) (fun _ _ hF => opMove rfl (hF.ev 7 rfl)) (kA rfl) (by decide) (v := (.slice (some ⟨b3, off4, none⟩) L.length c)) ?_
      refine rxV 19 rfl (by kernel_rfl) rfl (fun _ _ => rfl) (fun _ _ hF => opMove rfl (hF.ev 4 rfl)) (kM [true, true, true, true, false, true, true, true, true] rfl rfl) (by decide) (v := (.int .i64 (((i) : Nat) : Int))) ?_
      have hi20 : i < L.length := by omega
      have hj23 : i < L.length := by first | exact hi20 | (simp only [List.length_drop, List.length_take]; omega) | omega
      refine rxV 20 rfl (by kernel_rfl) rfl (fun _ _ => rfl) (fun _ _ hF => opIndex (i := i) (e := 31) (sz := 2) rfl (by kernel_rfl) (by kernel_rfl) (hF.ev 1 rfl) (hF.ev 0 rfl) rfl hi20) (kM [false, false, true, true, true, true, true, true, true] rfl rfl) (by decide) (v := (.pointer (some ⟨b3, off4 + i * 2, none⟩))) ?_
      refine rxV 21 rfl (by kernel_rfl) rfl (fun _ _ => rfl) (fun _ _ hF => opField (off := 1) rfl (hF.ev 0 rfl) (by kernel_rfl)) (kM [false, true, true, true, true, true, true, true] rfl rfl) (by decide) (v := (.pointer (some ⟨b3, off4 + i * 2 + 1, none⟩))) ?_
      refine rxS (fun w => HoldsL cPk w b3 off4 L) 22 rfl (by kernel_rfl) rfl (fun _ _ => rfl) (hH.holdsL hL5 hb6 hR7) (fun _ _ hF hS => opLoadT (C := cSl) (y := (A0, b0.length, c0)) rfl (hF.ev 0 rfl) (by kernel_rfl) (hS i _ hx0).snd rfl) (kM [false, true, true, true, true, true, true, true] rfl rfl) (by decide) (v := (.slice A0 b0.length c0)) ?_
      refine rx1 8 (by kernel_rfl) ?_
      refine moM rfl hH (fun _ hF => smLit1 (e := 5) (sz := 1) (z := (.int .u8 0)) (by_ := 1) (cs := cByte.enc (UInt8.ofNat (192 + tn))) rfl (by kernel_rfl) (by kernel_rfl) (hF.ev 2 rfl) (cByte.len (UInt8.ofNat (192 + tn))) (ltb rfl) (leb rfl) rfl) trivial rfl (fun _ _ => rfl) (kM [true, true, false, true, true, true, true, true] rfl rfl) (by decide) (PendOk.keep (PendOk.keep (PendOk.go [7, 6] (by kernel_rfl) (PendOk.nil _ [])))) ?_
      clear hH
      rintro _ _ w ⟨g24, rfl, rfl⟩ hH
      replace hH : HH w0 [] [E1, [bl g24 5 (cByte.enc (UInt8.ofNat (192 + tn)))]] w := hH
      refine ⟨(by
        intro s hs
        simp only [List.mem_cons, List.not_mem_nil, or_false] at hs
        rcases hs with rfl | rfl
        · exact (hH.holdsL hL5 hb6 hR7)
        · exact (hH.holdsL hL5 hb6 hR7)
        ), ?_⟩
      refine rx1 9 (by kernel_rfl) ?_
      refine moE 0 rfl hH rfl (fun _ hF => smAppT (C := cByte) (l := B) (m := [(UInt8.ofNat (192 + tn))]) (e := 5) (z := (.int .u8 0)) (by_ := 1) rfl (by kernel_rfl) (by kernel_rfl) rfl (ltb rfl) (hF.ev 3 rfl) hO (hF.ev 0 rfl) rfl (fun h => by cases h) (by unfold maxLen; omega) (by omega)) ((Bk.lit1 (C := cByte) (UInt8.ofNat (192 + tn))).vu (hH.blk 1 rfl) rfl) rfl (fun _ _ => rfl) (kM [false, true, true, false, true, true, true, true] rfl rfl) (by decide) (PendOk.keep (PendOk.keep (PendOk.nil _ []))) ?_
      clear hH
      rintro v27 E28 w ⟨hO29, _⟩ hH
      replace hH : HH w0 [] [E28, [bl g24 5 (cByte.enc (UInt8.ofNat (192 + tn)))]] w := hH
      replace hO29 : OwnT cByte 5 v27 (B ++ [(UInt8.ofNat (192 + tn))]) E28 := hO29
      obtain ⟨A25, c26, rfl⟩ := hO29.slice
      refine ⟨(by
        intro s hs
        simp only [List.mem_cons, List.not_mem_nil, or_false] at hs
        rcases hs with rfl | rfl
        · exact (hH.holdsL hL5 hb6 hR7)
        · exact (hH.holdsL hL5 hb6 hR7)
        ), ?_⟩
      refine rx1 16 (by kernel_rfl) ?_
      refine moM rfl hH (fun _ hF => Does.small (length_r b0.length hb2) (fun w => opCall rfl Try.func18 rfl rfl (Evs.cons (v := (.int .i64 (((b0.length) : Nat) : Int))) (hF.ev 2 rfl) Evs.nil) w)) trivial rfl (fun _ _ => rfl) (kM [true, true, false, true, true, true, true] rfl rfl) (by decide) (PendOk.keep (PendOk.go [15] (by kernel_rfl) (PendOk.nil _ []))) ?_
      clear hH
      rintro v34 E30 w hO31 hH
      replace hH : HH w0 [] [E28, [bl g24 5 (cByte.enc (UInt8.ofNat (192 + tn)))], E30] w := hH
      obtain ⟨A32, c33, rfl⟩ := hO31.slice
      refine ⟨(by
        intro s hs
        simp only [List.mem_cons, List.not_mem_nil, or_false] at hs
        rcases hs with rfl
        · exact (hH.holdsL hL5 hb6 hR7)
        ), ?_⟩
      refine rx1 17 (by kernel_rfl) ?_
      refine moE 0 rfl hH rfl (fun _ hF => smAppT (C := cByte) (l := (B ++ [(UInt8.ofNat (192 + tn))])) (m := (lenL b0.length)) (e := 5) (z := (.int .u8 0)) (by_ := 1) rfl (by kernel_rfl) (by kernel_rfl) rfl (ltb rfl) (hF.ev 1 rfl) hO29 (hF.ev 0 rfl) rfl hO31.nilA (by simp only [List.length_append, List.length_cons, List.length_nil]; unfold maxLen; omega) (by simp only [List.length_append, List.length_cons, List.length_nil]; omega)) (hO31.vuAt (hH.has 2 rfl)) rfl (fun _ _ => rfl) (kM [false, false, true, true, true, true, true] rfl rfl) (by decide) (PendOk.keep (PendOk.nil _ [])) ?_
      clear hH
      rintro v38 E39 w ⟨hO40, _⟩ hH
      replace hH : HH w0 [] [E39, [bl g24 5 (cByte.enc (UInt8.ofNat (192 + tn)))], E30] w := hH
      replace hO40 : OwnT cByte 5 v38 ((B ++ [(UInt8.ofNat (192 + tn))]) ++ (lenL b0.length)) E39 := hO40
      obtain ⟨A36, c37, rfl⟩ := hO40.slice
      refine ⟨(by
        intro s hs
        simp only [List.mem_cons, List.not_mem_nil, or_false] at hs
        rcases hs with rfl
        · exact (hH.holdsL hL5 hb6 hR7)
        ), ?_⟩
      refine rx1 23 (by kernel_rfl) ?_
      refine moE 0 rfl hH rfl (fun _ hF => smAppT (C := cByte) (l := ((B ++ [(UInt8.ofNat (192 + tn))]) ++ (lenL b0.length))) (m := b0) (e := 5) (z := (.int .u8 0)) (by_ := 1) rfl (by kernel_rfl) (by kernel_rfl) rfl (ltb rfl) (hF.ev 0 rfl) hO40 (hF.ev 1 rfl) rfl hb0.nilA (by simp only [List.length_append, List.length_cons, List.length_nil]; unfold maxLen; omega) (by simp only [List.length_append, List.length_cons, List.length_nil]; omega)) (hH.vu hb0 (by decide) (Off.nil _ _)) rfl (fun _ _ => rfl) (kM [false, false, true, true, true, true] rfl rfl) (by decide) (PendOk.go [] (by kernel_rfl) (PendOk.nil _ [])) ?_
      clear hH
      rintro v43 E44 w ⟨hO45, _⟩ hH
      replace hH : HH w0 [] [E44, [bl g24 5 (cByte.enc (UInt8.ofNat (192 + tn)))], E30] w := hH
      replace hO45 : OwnT cByte 5 v43 (((B ++ [(UInt8.ofNat (192 + tn))]) ++ (lenL b0.length)) ++ b0) E44 := hO45
      obtain ⟨A41, c42, rfl⟩ := hO45.slice
      refine ⟨(fun _ hs => by cases hs), ?_⟩
      refine rxV 24 rfl (by kernel_rfl) rfl (fun _ _ => rfl) (fun _ _ hF => opAssign rfl (hF.ev 0 rfl)) (kM [false, true, true, false, true] rfl rfl) (by decide) (v := (.slice A41 ((((B ++ [(UInt8.ofNat (192 + tn))]) ++ (lenL b0.length)) ++ b0).length) c42)) ?_
      refine rxEnd (by kernel_rfl) ?_
      refine qxInN ?_
      refine qxThen ?_
      refine cxReg ?_
      refine pxV (v := (.int .i64 (((i + 1) : Nat) : Int))) (fun _ _ hF => opAdd rfl (hF.ev 1 rfl) rfl (wI (by omega) (by omega) (by omega))) rfl (fun _ _ => rfl) (kM [true, false, true, true] rfl rfl) (by decide) ?_
      refine pxV (v := (.int .i64 (((i + 1) : Nat) : Int))) (fun _ _ hF => opMove rfl (hF.ev 0 rfl)) rfl (fun _ _ => rfl) (kM [false, true, true, true] rfl rfl) (by decide) ?_
      refine pxEnd ?_
      replace hH : HH w0 [] [E44] w := hH.only [true, false, false]
      exact qxRound (i + 1, A41, c42, (((B ++ [(UInt8.ofNat (192 + tn))]) ++ (lenL b0.length)) ++ b0), E44) ⟨hH, (show (i + 1) ≤ L.length from (by omega)), hO45, (wr_step hd0 hB), (frm_take hf hd0 hf0)⟩ (by omega) (slots_at [0, 2, 1, 3] rfl)
  · refine cxExit ?_
    refine qxThenE ?_
    refine qxThenE ?_
    refine qxInE ?_
    refine qxThen ?_
    refine cxSeq ?_
    refine cxReg ?_
    refine pxV (v := (.slice A1 B.length c1)) (fun _ _ hF => opMove rfl (hF.ev 3 rfl)) rfl (fun _ _ => rfl) (kM [false, false, false, false, false] rfl rfl) (by decide) ?_
    refine pxV (v := (.slice A1 B.length c1)) (fun _ _ hF => opAssign rfl (hF.ev 0 rfl)) rfl (fun _ _ => rfl) (kM [false] rfl rfl) (by decide) ?_
    refine pxV (v := (.int .i64 0)) (fun _ _ hF => opAssign rfl rfl) rfl (fun _ _ => rfl) (kA rfl) (by decide) ?_
    refine pxEnd ?_
    refine qxThen ?_
    refine cxRet ?_
    refine qxRet2 1 0 rfl rfl rfl ?_
    have hi2 : i = L.length := by omega
    have hall : ∀ p ∈ D, frmP p := (fun p hp => hf p (by rw [List.take_of_length_le (by rw [← hR.2.len]; omega)]; exact hp))
    have he : wrt D = (0, B) := by rw [wrt_ok hall, hB, List.take_of_length_le (by rw [← hR.2.len]; omega)]
    exact ⟨_, _, rfl, ⟨(.slice A1 B.length c1), (by rw [he]; first | done | rfl), by rw [he]; exact hO⟩, hH.out1 [true] rfl⟩
end Go.Proofs.Ytjncbpmigpocbaa
