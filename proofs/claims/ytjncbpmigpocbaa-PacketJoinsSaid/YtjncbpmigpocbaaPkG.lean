/- The document's Parse (mkpg.py writes this text). -/
import Derived.Test.YtjncbpmigpocbaaPkE
namespace Go.Proofs.Ytjncbpmigpocbaa
open Go Go.RowKit
set_option maxRecDepth 100000

theorem tag_new {x : Nat} (h : 192 ≤ x) : tagB x = x % 64 := by unfold tagB; rw [if_pos h]
theorem tag_old {x : Nat} (h : ¬ 192 ≤ x) (h2 : 128 ≤ x) : tagB x = x / 4 % 16 := by unfold tagB; rw [if_neg h, if_pos h2]
theorem tag_none {x : Nat} (h : ¬ 192 ≤ x) (h2 : ¬ 128 ≤ x) : tagB x = 0 := by unfold tagB; rw [if_neg h, if_neg h2]
theorem bdy_fresh {x : Nat} {b : List UInt8} (h : 192 ≤ x) : bdy x b = frs (mayT (x % 64)) [] b := by unfold bdy; rw [if_pos h, tag_new h]
theorem bdy_leg {x : Nat} {b : List UInt8} (h : ¬ 192 ≤ x) : bdy x b = leg (x % 4) b := by unfold bdy; rw [if_neg h]
theorem one_of {b : List UInt8} {x t : Nat} {r : Nat × List UInt8 × List UInt8} (e0 : (b.getD 0 0).toNat = x) (ht : tagB x = t) (h0 : t ≠ 0) (hr : bdy x (b.drop 1) = r) : one b = (r.1, ((t : Int), r.2.1), r.2.2) := by
  subst ht hr e0
  exact one_yes h0

set_option maxHeartbeats 8000000 in
theorem parse_r (c : Nat) (A : Option Addr) (b : List UInt8) (hbig : b.length ≤ 4294967296) : Does Try.prog 16 #[(.slice A b.length c)] [] (fun w => Vu cByte w A b.length c b) (fun v E' => ∃ s, v = .tuple #[s, .int .i64 ((prs [] b).1 : Int)] ∧ OwnP s (prs [] b).2 E') := by
  refine does_of (fn := Try.f16) Try.func16 rfl Try.ntmps16 (Nat.le_of_ble_eq_true rfl) rfl ?_
  intro w0 hH hR
  replace hH : HH w0 [] [] w0 := hH.only [false]
  refine cxSeq ?_
  refine cxReg ?_
  refine pxV (v := (.slice none 0 0)) (fun _ _ hF => opAssign rfl rfl) rfl (fun _ _ => rfl) (kA rfl) (by decide) ?_
  refine pxV (v := (.int .i64 0)) (fun _ _ hF => opAssign rfl rfl) rfl (fun _ _ => rfl) (kM [false, true] rfl rfl) (by decide) ?_
  refine pxEnd ?_
  refine qxThen ?_
  refine cxSeq ?_
  refine cxReg ?_
  refine pxV (v := (.slice none 0 0)) (fun _ _ hF => opAssign rfl rfl) rfl (fun _ _ => rfl) (kM [false, true] rfl rfl) (by decide) ?_
  refine pxEnd ?_
  refine qxThen ?_
  refine cxSeq ?_
  refine cxBlock ?_
  replace hH := HH.pad hH 1
  replace hH : HH w0 [] [[]] w0 := hH
  replace hH := HH.pad hH 1
  replace hH : HH w0 [] [[], []] w0 := hH
  refine cxLoop (σ := (List UInt8) × (Option Addr) × Nat × Nat × (List PkH) × (Option Addr) × Nat × Hl × Hl × (List Pd)) (fun x => [(4, (.slice x.2.2.2.2.2.1 x.2.2.2.2.1.length x.2.2.2.2.2.2.1)), (0, (.slice x.2.1 x.2.2.1 x.2.2.2.1))]) (fun x w => HH w0 [] [x.2.2.2.2.2.2.2.1, x.2.2.2.2.2.2.2.2.1] w ∧ (Vu cByte w0 x.2.1 x.2.2.1 x.2.2.2.1 x.1) ∧ (x.2.2.1 = x.1.length) ∧ (prs [] b = prs x.2.2.2.2.2.2.2.2.2 x.1) ∧ (OwnT cPk 31 (.slice x.2.2.2.2.2.1 x.2.2.2.2.1.length x.2.2.2.2.2.2.1) x.2.2.2.2.1 x.2.2.2.2.2.2.2.1) ∧ (Bods x.2.2.2.2.1 x.2.2.2.2.2.2.2.2.2 x.2.2.2.2.2.2.2.2.1) ∧ (x.2.2.2.2.1.length + x.1.length ≤ b.length)) (fun x => x.1.length) (b, A, b.length, c, [], none, 0, [], [], []) ⟨hH, hR, rfl, rfl, (OwnT.nil _ _), Bods.nil, (by rw [List.length_nil, Nat.zero_add]; exact Nat.le_refl _)⟩ (slots_at [0, 1] rfl) ?_
  clear hH
  rintro ⟨b1, A1, n1, c1, L, Al, cl, El, Eb, D⟩ w ⟨hH, hV, hn1, hp, hO, hB, hn⟩
  change CX _ _ _ _ [(4, (.slice Al L.length cl)), (0, (.slice A1 n1 c1))] _
  replace hH : HH w0 [] [El, Eb] w := hH
  replace hV : Vu cByte w0 A1 n1 c1 b1 := hV
  replace hn1 : n1 = b1.length := hn1
  replace hp : prs [] b = prs D b1 := hp
  replace hO : OwnT cPk 31 (.slice Al L.length cl) L El := hO
  replace hB : Bods L D Eb := hB
  replace hn : L.length + b1.length ≤ b.length := hn
  have hcap := hV.cap
  refine cxSeq ?_
  refine cxSeq ?_
  refine cxReg ?_
  refine pxV (v := (.slice A1 n1 c1)) (fun _ _ hF => opMove rfl (hF.ev 1 rfl)) rfl (fun _ _ => rfl) (kA rfl) (by decide) ?_
  refine pxV (v := (.int .i64 (((n1) : Nat) : Int))) (fun _ _ hF => opLen (e := 5) rfl (by kernel_rfl) (hF.ev 0 rfl)) rfl (fun _ _ => rfl) (kM [false, true, true] rfl rfl) (by decide) ?_
  refine pxV (v := (.bool (decide (n1 > 0)))) (fun _ _ hF => opGtr rfl (hF.ev 0 rfl) rfl (dc (by omega))) rfl (fun _ _ => rfl) (kM [false, true, true] rfl rfl) (by decide) ?_
  refine pxEnd ?_
  refine qxThen ?_
  refine cxP 0 rfl rfl (fun hc1 => ?_) (fun hc1 => ?_)
  · have hne : b1 ≠ [] := by intro q; rw [q, List.length_nil] at hn1; omega
    refine cxSkip ?_
    refine qxThen ?_
    refine cxBlock ?_
    refine cxSeq ?_
    obtain ⟨x0, hx0⟩ := get_at b1 0 (by omega)
    have e0 : (b1.getD 0 0).toNat = x0.toNat := congrArg UInt8.toNat (getD_el hx0)
    have hb0 := UInt8.toNat_lt x0
    refine cxReg ?_
    refine pxM hH (fun _ hF => smAlloc (z := (.agg #[(.int .i64 0), (.slice none 0 0)])) rfl (by kernel_rfl) rfl) trivial rfl (fun _ _ => rfl) (kM [false, true, true] rfl rfl) (by decide) ?_
    clear hH
    rintro _ _ w ⟨g2, rfl, rfl⟩ hH
    replace hH : HH w0 [] [El, Eb, [bl g2 31 #[(.int .i64 0), (.slice none 0 0)]]] w := hH
    refine pxEnd ?_
    refine qxThen ?_
    refine cxSeq ?_
    refine cxReg ?_
    refine pxV (v := (.int .i64 0)) (fun _ _ hF => opAssign rfl rfl) rfl (fun _ _ => rfl) (kA rfl) (by decide) ?_
    refine pxEnd ?_
    refine qxThen ?_
    refine cxSeq ?_
    refine cxReg ?_
    refine pxV (v := (.int .i64 0)) (fun _ _ hF => opAssign rfl rfl) rfl (fun _ _ => rfl) (kM [false, true, true, true] rfl rfl) (by decide) ?_
    refine pxEnd ?_
    refine qxThen ?_
    refine cxSeq ?_
    refine cxBlock ?_
    refine cxSeq ?_
    refine cxReg ?_
    refine pxV (v := (.slice A1 n1 c1)) (fun _ _ hF => opMove rfl (hF.ev 3 rfl)) rfl (fun _ _ => rfl) (kM [false, true, true, true] rfl rfl) (by decide) ?_
    have hi3 : 0 < n1 := by omega
    obtain ⟨b4, off5, rfl, hL6, hb7, hR8⟩ := hV.blk (by decide) (Off.nil _ _) (by omega)
    have := hV.cap
    have hj11 : 0 < b1.length := by first | exact hi3 | (simp only [List.length_drop, List.length_take]; omega) | omega
    refine pxV (v := (.pointer (some ⟨b4, off5 + 0 * 1, none⟩))) (fun _ _ hF => opIndex (i := 0) (e := 5) (sz := 1) rfl (by kernel_rfl) (by kernel_rfl) (hF.ev 0 rfl) rfl rfl hi3) rfl (fun _ _ => rfl) (kM [false, true, true, true] rfl rfl) (by decide) ?_
    refine pxS (v := (.int .u8 (((x0.toNat) : Nat) : Int))) (fun w => HoldsL cByte w b4 off5 b1) (hH.holdsL hL6 hb7 hR8) (fun _ _ hF hS => opLoadT (C := cByte) (y := x0) rfl (hF.ev 0 rfl) (by kernel_rfl) (hS 0 _ hx0) rfl) rfl (fun _ _ => rfl) (kM [false, true, true, true] rfl rfl) (by decide) ?_
    refine pxV (v := (.bool (decide (x0.toNat ≥ 192)))) (fun _ _ hF => opGeq rfl (hF.ev 0 rfl) rfl (dc (by omega))) rfl (fun _ _ => rfl) (kM [false, true, true, true] rfl rfl) (by decide) ?_
    refine pxV (v := (.bool (decide (x0.toNat ≥ 192)))) (fun _ _ hF => opAssign rfl (hF.ev 0 rfl)) rfl (fun _ _ => rfl) (kM [false, true, true, true] rfl rfl) (by decide) ?_
    refine pxEnd ?_
    refine qxThen ?_
    refine cxP 0 rfl rfl (fun hc12 => ?_) (fun hc12 => ?_)
    · refine cxReg ?_
      refine pxV (v := (.slice (some ⟨b4, off5, none⟩) n1 c1)) (fun _ _ hF => opMove rfl (hF.ev 3 rfl)) rfl (fun _ _ => rfl) (kM [false, true, true, true] rfl rfl) (by decide) ?_
      have hi13 : 0 < n1 := by omega
      have hj16 : 0 < b1.length := by first | exact hi13 | (simp only [List.length_drop, List.length_take]; omega) | omega
      refine pxV (v := (.pointer (some ⟨b4, off5 + 0 * 1, none⟩))) (fun _ _ hF => opIndex (i := 0) (e := 5) (sz := 1) rfl (by kernel_rfl) (by kernel_rfl) (hF.ev 0 rfl) rfl rfl hi13) rfl (fun _ _ => rfl) (kM [false, true, true, true] rfl rfl) (by decide) ?_
      refine pxS (v := (.int .u8 (((x0.toNat) : Nat) : Int))) (fun w => HoldsL cByte w b4 off5 b1) (hH.holdsL hL6 hb7 hR8) (fun _ _ hF hS => opLoadT (C := cByte) (y := x0) rfl (hF.ev 0 rfl) (by kernel_rfl) (hS 0 _ hx0) rfl) rfl (fun _ _ => rfl) (kM [false, true, true, true] rfl rfl) (by decide) ?_
      refine pxV (v := (.int .u8 (((x0.toNat % 64) : Nat) : Int))) (fun _ _ hF => opAndU (m := x0.toNat) (j := 63) (z := (x0.toNat % 64)) rfl rfl (hF.ev 0 rfl) rfl (UInt8.toNat_lt _) (by decide) (and_mask x0.toNat 6)) rfl (fun _ _ => rfl) (kM [false, true, true, true] rfl rfl) (by decide) ?_
      refine pxV (v := (.int .i64 (((x0.toNat % 64) : Nat) : Int))) (fun _ _ hF => opConvI (k' := .i64) rfl (by kernel_rfl) (by kernel_rfl) (hF.ev 0 rfl) (wI rfl (by omega) (by omega))) rfl (fun _ _ => rfl) (kM [false, true, true, true] rfl rfl) (by decide) ?_
      refine pxV (v := (.pointer (some ⟨g2, 0, none⟩))) (fun _ _ hF => opField (off := 0) rfl (hF.ev 1 rfl) (by kernel_rfl)) rfl (fun _ _ => rfl) (kA rfl) (by decide) ?_
      refine pxE0 2 hH rfl (fun _ hF => smStore (v := (.int .i64 (((x0.toNat % 64) : Nat) : Int))) rfl (hF.ev 0 rfl) (hF.ev 1 rfl) (by kernel_rfl) (ltb rfl) rfl rfl) trivial rfl (fun _ _ => rfl) ?_
      clear hH
      rintro _ _ w rfl hH
      replace hH : HH w0 [] [El, Eb, [bl g2 31 #[(.int .i64 (((x0.toNat % 64) : Nat) : Int)), (.slice none 0 0)]]] w := hH
      refine pxEnd ?_
      refine qxInN ?_
      refine qxThen ?_
      refine cxSeq ?_
      refine cxSeq ?_
      refine cxReg ?_
      refine pxV (v := (.pointer (some ⟨g2, 0, none⟩))) (fun _ _ hF => opField (off := 0) rfl (hF.ev 2 rfl) (by kernel_rfl)) rfl (fun _ _ => rfl) (kM [false, false, true, true, true] rfl rfl) (by decide) ?_
      refine pxS (v := (.int .i64 (((x0.toNat % 64) : Nat) : Int))) (fun w => w.heap[g2]? = some (.cells #[(.int .i64 (((x0.toNat % 64) : Nat) : Int)), (.slice none 0 0)] 31 (0, 0))) (hH.blk 2 rfl) (fun _ _ hF hS => opLoadK hS rfl (hF.ev 0 rfl) (by kernel_rfl) rfl) rfl (fun _ _ => rfl) (kM [false, true, true, true] rfl rfl) (by decide) ?_
      refine pxV (v := (.bool (decide (x0.toNat % 64 = 0)))) (fun _ _ hF => opEqI rfl (hF.ev 0 rfl) rfl (dc (by omega))) rfl (fun _ _ => rfl) (kM [false, true, true, true] rfl rfl) (by decide) ?_
      refine pxEnd ?_
      refine qxThen ?_
      refine cxP 0 rfl rfl (fun hc17 => ?_) (fun hc17 => ?_)
      · refine cxSeq ?_
        refine cxReg ?_
        refine pxV (v := (.slice none 0 0)) (fun _ _ hF => opAssign rfl rfl) rfl (fun _ _ => rfl) (kM [false, false, false, false] rfl rfl) (by decide) ?_
        refine pxV (v := (.int .i64 2)) (fun _ _ hF => opAssign rfl rfl) rfl (fun _ _ => rfl) (kA rfl) (by decide) ?_
        refine pxEnd ?_
        refine qxThen ?_
        refine cxRet ?_
        refine qxThenR ?_
        refine qxInR ?_
        refine qxThenR ?_
        refine qxInR ?_
        refine qxThenR ?_
        refine qxRet2 1 0 rfl rfl rfl ?_
        have h1 := one_no (b := b1) (by rw [e0, (tag_new hc12)]; exact hc17)
        have hq := hp.trans (prs_bad hne (by rw [h1]; decide))
        rw [h1] at hq
        exact ⟨_, [], rfl, ⟨.slice none 0 0, (by rw [hq]; first | done | rfl), (by rw [hq]; exact OwnP.nil)⟩, HH.out1 (HH.pad hH 1) [false, false, false, true] rfl⟩
      · refine cxSkip ?_
        refine qxThen ?_
        refine cxSeq ?_
        refine cxSeq ?_
        refine cxReg ?_
        refine pxV (v := (.slice (some ⟨b4, off5, none⟩) n1 c1)) (fun _ _ hF => opMove rfl (hF.ev 3 rfl)) rfl (fun _ _ => rfl) (kM [false, true, true, true] rfl rfl) (by decide) ?_
        have hi18 : 0 < n1 := by omega
        have hj21 : 0 < b1.length := by first | exact hi18 | (simp only [List.length_drop, List.length_take]; omega) | omega
        refine pxV (v := (.pointer (some ⟨b4, off5 + 0 * 1, none⟩))) (fun _ _ hF => opIndex (i := 0) (e := 5) (sz := 1) rfl (by kernel_rfl) (by kernel_rfl) (hF.ev 0 rfl) rfl rfl hi18) rfl (fun _ _ => rfl) (kM [false, true, true, true] rfl rfl) (by decide) ?_
        refine pxS (v := (.int .u8 (((x0.toNat) : Nat) : Int))) (fun w => HoldsL cByte w b4 off5 b1) (hH.holdsL hL6 hb7 hR8) (fun _ _ hF hS => opLoadT (C := cByte) (y := x0) rfl (hF.ev 0 rfl) (by kernel_rfl) (hS 0 _ hx0) rfl) rfl (fun _ _ => rfl) (kM [false, true, true, true] rfl rfl) (by decide) ?_
        refine pxV (v := (.bool true)) (fun _ _ hF => opGeq rfl (hF.ev 0 rfl) rfl (decide_eq_true (by omega))) rfl (fun _ _ => rfl) (kM [false, true, true, true] rfl rfl) (by decide) ?_
        refine pxEnd ?_
        refine qxThen ?_
        refine cxT 0 rfl rfl ?_
        refine cxRegX mixedOrders (by kernel_rfl) ?_
        replace hH := hH.drew
        refine rxV 0 rfl (by kernel_rfl) rfl (fun _ _ => rfl) (fun _ _ hF => opField (off := 0) rfl (hF.ev 1 rfl) (by kernel_rfl)) (kM [false, true, true, true] rfl rfl) (by decide) (v := (.pointer (some ⟨g2, 0, none⟩))) ?_
        refine rxS (fun w => w.heap[g2]? = some (.cells #[(.int .i64 (((x0.toNat % 64) : Nat) : Int)), (.slice none 0 0)] 31 (0, 0))) 1 rfl (by kernel_rfl) rfl (fun _ _ => rfl) (hH.blk 2 rfl) (fun _ _ hF hS => opLoadK hS rfl (hF.ev 0 rfl) (by kernel_rfl) rfl) (kM [false, true, true, true] rfl rfl) (by decide) (v := (.int .i64 (((x0.toNat % 64) : Nat) : Int))) ?_
        refine rxV 2 rfl (by kernel_rfl) rfl (fun _ _ => rfl) (fun _ _ hF => opMove rfl (hF.ev 3 rfl)) (kA rfl) (by decide) (v := (.slice (some ⟨b4, off5, none⟩) n1 c1)) ?_
        refine rxV 3 rfl (by kernel_rfl) rfl (fun _ _ => rfl) (fun _ _ hF => opCutL (k := 1) (e := 5) (sz := 1) rfl (by kernel_rfl) (by kernel_rfl) (hF.ev 0 rfl) rfl rfl (by omega)) (kM [false, true, true, true, true] rfl rfl) (by decide) (v := (.slice (cutA (some ⟨b4, off5, none⟩) c1 1 1) (n1 - 1) (c1 - 1))) ?_
        refine rx1 4 (by kernel_rfl) ?_
        refine moM rfl hH (fun _ hF => Does.small (fresh_c (x0.toNat % 64) (cutA (some ⟨b4, off5, none⟩) c1 1 1) (n1 - 1) (c1 - 1) (b1.drop 1) (by rw [List.length_drop]; omega) (by omega)) (fun w => opCall rfl Try.func21 rfl rfl (Evs.cons (v := (.int .i64 (((x0.toNat % 64) : Nat) : Int))) (hF.ev 1 rfl) (Evs.cons (v := (.slice (cutA (some ⟨b4, off5, none⟩) c1 1 1) (n1 - 1) (c1 - 1))) (hF.ev 0 rfl) Evs.nil)) w)) ((hH.vu hV (by decide) (Off.nil _ _)).from (k := 1) (by omega)) rfl (fun _ _ => rfl) (kM [false, false, true, true, true] rfl rfl) (by decide) (PendOk.go [] (by kernel_rfl) (PendOk.nil _ [])) ?_
        clear hH
        rintro _ E23 w ⟨s22, m28, rfl, hO24, hm25⟩ hH
        replace hH : HH w0 [] [El, Eb, [bl g2 31 #[(.int .i64 (((x0.toNat % 64) : Nat) : Int)), (.slice none 0 0)]], E23] w := hH
        obtain ⟨A26, c27, rfl⟩ := hO24.slice
        refine ⟨(fun _ hs => by cases hs), ?_⟩
        refine rxV 5 rfl (by kernel_rfl) rfl (fun _ _ => rfl) (fun _ _ hF => opMove rfl (hF.ev 0 rfl)) (kM [false, true, true, true] rfl rfl) (by decide) (v := (.tuple #[(.slice A26 ((frs (mayT (x0.toNat % 64)) [] (b1.drop 1)).2.1.length) c27), (.int .i64 (((m28) : Nat) : Int)), (.int .i64 ((((frs (mayT (x0.toNat % 64)) [] (b1.drop 1)).1) : Nat) : Int))])) ?_
        refine rxV 6 rfl (by kernel_rfl) rfl (fun _ _ => rfl) (fun _ _ hF => opExtract rfl (hF.ev 0 rfl) rfl) (kA rfl) (by decide) (v := (.slice A26 ((frs (mayT (x0.toNat % 64)) [] (b1.drop 1)).2.1.length) c27)) ?_
        refine rxV 7 rfl (by kernel_rfl) rfl (fun _ _ => rfl) (fun _ _ hF => opExtract rfl (hF.ev 1 rfl) rfl) (kA rfl) (by decide) (v := (.int .i64 (((m28) : Nat) : Int))) ?_
        refine rxV 8 rfl (by kernel_rfl) rfl (fun _ _ => rfl) (fun _ _ hF => opExtract rfl (hF.ev 2 rfl) rfl) (kM [true, true, false, true, true, true] rfl rfl) (by decide) (v := (.int .i64 ((((frs (mayT (x0.toNat % 64)) [] (b1.drop 1)).1) : Nat) : Int))) ?_
        refine rxV 9 rfl (by kernel_rfl) rfl (fun _ _ => rfl) (fun _ _ hF => opField (off := 1) rfl (hF.ev 3 rfl) (by kernel_rfl)) (kA rfl) (by decide) (v := (.pointer (some ⟨g2, 1, none⟩))) ?_
        refine rx1 10 (by kernel_rfl) ?_
        refine moE0 2 rfl hH rfl (fun _ hF => smStore (v := (.slice A26 ((frs (mayT (x0.toNat % 64)) [] (b1.drop 1)).2.1.length) c27)) rfl (hF.ev 0 rfl) (hF.ev 3 rfl) (by kernel_rfl) (ltb rfl) rfl rfl) trivial rfl (fun _ _ => rfl) (PendOk.nil _ []) ?_
        clear hH
        rintro _ _ w rfl hH
        replace hH : HH w0 [] [El, Eb, [bl g2 31 #[(.int .i64 (((x0.toNat % 64) : Nat) : Int)), (.slice A26 ((frs (mayT (x0.toNat % 64)) [] (b1.drop 1)).2.1.length) c27)]], E23] w := hH
        refine ⟨(fun _ hs => by cases hs), ?_⟩
        refine rxV 11 rfl (by kernel_rfl) rfl (fun _ _ => rfl) (fun _ _ hF => opAssign rfl (hF.ev 2 rfl)) (kM [false, true, false, false, true, true, true] rfl rfl) (by decide) (v := (.int .i64 (((m28) : Nat) : Int))) ?_
        refine rxV 12 rfl (by kernel_rfl) rfl (fun _ _ => rfl) (fun _ _ hF => opAssign rfl (hF.ev 1 rfl)) (kM [true, false, true, true, true] rfl rfl) (by decide) (v := (.int .i64 ((((frs (mayT (x0.toNat % 64)) [] (b1.drop 1)).1) : Nat) : Int))) ?_
        refine rxEnd (by kernel_rfl) ?_
        refine qxThen ?_
        refine cxSeq ?_
        refine cxSeq ?_
        have he := one_of e0 (tag_new hc12) (by omega) (bdy_fresh hc12) (b := b1)
        refine cxReg ?_
        refine pxV (v := (.int .i64 ((((frs (mayT (x0.toNat % 64)) [] (b1.drop 1)).1) : Nat) : Int))) (fun _ _ hF => opMove rfl (hF.ev 0 rfl)) rfl (fun _ _ => rfl) (kA rfl) (by decide) ?_
        refine pxV (v := (.bool (decide ((frs (mayT (x0.toNat % 64)) [] (b1.drop 1)).1 ≠ 0)))) (fun _ _ hF => opNeI rfl (hF.ev 0 rfl) rfl (dc (by omega))) rfl (fun _ _ => rfl) (kM [false, true, true, true, true, true] rfl rfl) (by decide) ?_
        refine pxEnd ?_
        refine qxThen ?_
        refine cxP 0 rfl rfl (fun hc29 => ?_) (fun hc29 => ?_)
        · refine cxSeq ?_
          refine cxReg ?_
          refine pxV (v := (.int .i64 ((((frs (mayT (x0.toNat % 64)) [] (b1.drop 1)).1) : Nat) : Int))) (fun _ _ hF => opMove rfl (hF.ev 1 rfl)) rfl (fun _ _ => rfl) (kM [false, false, false, false, false, false] rfl rfl) (by decide) ?_
          refine pxV (v := (.slice none 0 0)) (fun _ _ hF => opAssign rfl rfl) rfl (fun _ _ => rfl) (kA rfl) (by decide) ?_
          refine pxV (v := (.int .i64 ((((frs (mayT (x0.toNat % 64)) [] (b1.drop 1)).1) : Nat) : Int))) (fun _ _ hF => opAssign rfl (hF.ev 1 rfl)) rfl (fun _ _ => rfl) (kM [true, false] rfl rfl) (by decide) ?_
          refine pxEnd ?_
          refine qxThen ?_
          refine cxRet ?_
          refine qxThenR ?_
          refine qxInR ?_
          refine qxThenR ?_
          refine qxInR ?_
          refine qxThenR ?_
          refine qxRet2 1 0 rfl rfl rfl ?_
          have hq := hp.trans (prs_bad hne (by rw [he]; exact hc29))
          rw [he] at hq
          exact ⟨_, [], rfl, ⟨.slice none 0 0, (by rw [hq]), (by rw [hq]; exact OwnP.nil)⟩, HH.out1 (HH.pad hH 1) [false, false, false, false, true] rfl⟩
        · have hz : (frs (mayT (x0.toNat % 64)) [] (b1.drop 1)).1 = 0 := Decidable.of_not_not hc29
          obtain ⟨hm1, hm2⟩ := hm25 hz
          rw [List.length_drop] at hm1
          have hz1 : (one b1).1 = 0 := by rw [he]; exact hz
          have hp2 := hp.trans (prs_one hne hz1)
          rw [he] at hp2
          refine cxSkip ?_
          refine qxThen ?_
          refine cxSeq ?_
          refine cxReg ?_
          refine pxV (v := (.slice Al L.length cl)) (fun _ _ hF => opMove rfl (hF.ev 4 rfl)) rfl (fun _ _ => rfl) (kM [false, false, true, true, false, true] rfl rfl) (by decide) ?_
          refine pxS (v := (.agg #[(.int .i64 (((x0.toNat % 64) : Nat) : Int)), (.slice A26 ((frs (mayT (x0.toNat % 64)) [] (b1.drop 1)).2.1.length) c27)])) (fun w => w.heap[g2]? = some (.cells #[(.int .i64 (((x0.toNat % 64) : Nat) : Int)), (.slice A26 ((frs (mayT (x0.toNat % 64)) [] (b1.drop 1)).2.1.length) c27)] 31 (0, 0))) (hH.blk 2 rfl) (fun _ _ hF hS => opLoadKR (k := 2) hS rfl (hF.ev 2 rfl) (by kernel_rfl) rfl (by kernel_rfl) rfl) rfl (fun _ _ => rfl) (kM [true, true, false, true] rfl rfl) (by decide) ?_
          refine pxM hH (fun _ hF => smLit1 (e := 31) (sz := 2) (z := (cPk.val (0, none, 0, 0))) (by_ := 32) (cs := cPk.enc ((((x0.toNat % 64) : Nat) : Int), A26, (frs (mayT (x0.toNat % 64)) [] (b1.drop 1)).2.1.length, c27)) rfl (by kernel_rfl) (by kernel_rfl) ((hF.ev 0 rfl).trans (cPk_val (((x0.toNat % 64) : Nat) : Int) A26 ((frs (mayT (x0.toNat % 64)) [] (b1.drop 1)).2.1.length) c27)) (cPk.len ((((x0.toNat % 64) : Nat) : Int), A26, (frs (mayT (x0.toNat % 64)) [] (b1.drop 1)).2.1.length, c27)) (ltb rfl) (leb rfl) rfl) trivial rfl (fun _ _ => rfl) (kM [false, true, true, true] rfl rfl) (by decide) ?_
          clear hH
          rintro _ _ w ⟨g30, rfl, rfl⟩ hH
          replace hH : HH w0 [] [El, Eb, [bl g2 31 #[(.int .i64 (((x0.toNat % 64) : Nat) : Int)), (.slice A26 ((frs (mayT (x0.toNat % 64)) [] (b1.drop 1)).2.1.length) c27)]], E23, [bl g30 31 (cPk.enc ((((x0.toNat % 64) : Nat) : Int), A26, (frs (mayT (x0.toNat % 64)) [] (b1.drop 1)).2.1.length, c27))]] w := hH
          refine pxE 0 hH rfl (fun _ hF => smAppT (C := cPk) (l := L) (m := [((((x0.toNat % 64) : Nat) : Int), A26, (frs (mayT (x0.toNat % 64)) [] (b1.drop 1)).2.1.length, c27)]) (e := 31) (z := (cPk.val (0, none, 0, 0))) (by_ := 32) rfl (by kernel_rfl) (by kernel_rfl) rfl (ltb rfl) (hF.ev 1 rfl) hO (hF.ev 0 rfl) rfl (fun h => by cases h) (by unfold maxLen; omega) (by omega)) ((Bk.lit1 (C := cPk) ((((x0.toNat % 64) : Nat) : Int), A26, (frs (mayT (x0.toNat % 64)) [] (b1.drop 1)).2.1.length, c27)).vu (hH.blk 4 rfl) rfl) rfl (fun _ _ => rfl) (kM [false, false, true, true] rfl rfl) (by decide) ?_
          clear hH
          rintro v33 E34 w ⟨hO35, _⟩ hH
          replace hH : HH w0 [] [E34, Eb, [bl g2 31 #[(.int .i64 (((x0.toNat % 64) : Nat) : Int)), (.slice A26 ((frs (mayT (x0.toNat % 64)) [] (b1.drop 1)).2.1.length) c27)]], E23, [bl g30 31 (cPk.enc ((((x0.toNat % 64) : Nat) : Int), A26, (frs (mayT (x0.toNat % 64)) [] (b1.drop 1)).2.1.length, c27))]] w := hH
          replace hO35 : OwnT cPk 31 v33 (L ++ [((((x0.toNat % 64) : Nat) : Int), A26, (frs (mayT (x0.toNat % 64)) [] (b1.drop 1)).2.1.length, c27)]) E34 := hO35
          obtain ⟨A31, c32, rfl⟩ := hO35.slice
          refine pxV (v := (.slice A31 ((L ++ [((((x0.toNat % 64) : Nat) : Int), A26, (frs (mayT (x0.toNat % 64)) [] (b1.drop 1)).2.1.length, c27)]).length) c32)) (fun _ _ hF => opAssign rfl (hF.ev 0 rfl)) rfl (fun _ _ => rfl) (kM [false, true, true] rfl rfl) (by decide) ?_
          refine pxEnd ?_
          refine qxThen ?_
          refine cxReg ?_
          refine pxV (v := (.slice (some ⟨b4, off5, none⟩) n1 c1)) (fun _ _ hF => opMove rfl (hF.ev 2 rfl)) rfl (fun _ _ => rfl) (kM [true, true, false] rfl rfl) (by decide) ?_
          refine pxV (v := (.int .i64 (((m28) : Nat) : Int))) (fun _ _ hF => opMove rfl (hF.ev 2 rfl)) rfl (fun _ _ => rfl) (kM [true, true, false] rfl rfl) (by decide) ?_
          refine pxV (v := (.int .i64 (((1 + m28) : Nat) : Int))) (fun _ _ hF => opAdd rfl rfl (hF.ev 0 rfl) (wI (by omega) (by omega) (by omega))) rfl (fun _ _ => rfl) (kM [false, true, true] rfl rfl) (by decide) ?_
          refine pxV (v := (.slice (cutA (some ⟨b4, off5, none⟩) c1 (1 + m28) 1) (n1 - (1 + m28)) (c1 - (1 + m28)))) (fun _ _ hF => opCutL (k := 1 + m28) (e := 5) (sz := 1) rfl (by kernel_rfl) (by kernel_rfl) (hF.ev 1 rfl) (hF.ev 0 rfl) rfl (by omega)) rfl (fun _ _ => rfl) (kM [false, false, true] rfl rfl) (by decide) ?_
          refine pxV (v := (.slice (cutA (some ⟨b4, off5, none⟩) c1 (1 + m28) 1) (n1 - (1 + m28)) (c1 - (1 + m28)))) (fun _ _ hF => opAssign rfl (hF.ev 0 rfl)) rfl (fun _ _ => rfl) (kM [false, true] rfl rfl) (by decide) ?_
          refine pxEnd ?_
          refine qxInN ?_
          replace hH : HH w0 [] [E34, Eb, E23] w := HH.sel hH [0, 1, 3] rfl (by decide)
          replace hH : HH w0 [] [E34, (Eb ++ E23)] w := hH.cast (by simp)
          have hr : b1.drop (1 + m28) = (frs (mayT (x0.toNat % 64)) [] (b1.drop 1)).2.2 := by rw [← hm2, List.drop_drop]
          exact qxRound (b1.drop (1 + m28), (cutA (some ⟨b4, off5, none⟩) c1 (1 + m28) 1), (n1 - (1 + m28)), (c1 - (1 + m28)), (L ++ [((((x0.toNat % 64) : Nat) : Int), A26, (frs (mayT (x0.toNat % 64)) [] (b1.drop 1)).2.1.length, c27)]), A31, c32, E34, (Eb ++ E23), D ++ [(((x0.toNat % 64 : Nat) : Int), (frs (mayT (x0.toNat % 64)) [] (b1.drop 1)).2.1)]) ⟨hH, (show Vu cByte w0 (cutA (some ⟨b4, off5, none⟩) c1 (1 + m28) 1) (n1 - (1 + m28)) (c1 - (1 + m28)) (b1.drop (1 + m28)) from (hV.from (k := 1 + m28) (by omega))), (show (n1 - (1 + m28)) = (b1.drop (1 + m28)).length from (by rw [List.length_drop]; omega)), (by rw [hr]; exact hp2), hO35, (Bods.snoc hB hO24), (show (L ++ [((((x0.toNat % 64) : Nat) : Int), A26, (frs (mayT (x0.toNat % 64)) [] (b1.drop 1)).2.1.length, c27)]).length + (b1.drop (1 + m28)).length ≤ b.length from (by rw [List.length_append, List.length_drop]; show L.length + 1 + _ ≤ _; omega))⟩ (show (b1.drop (1 + m28)).length < b1.length from by rw [List.length_drop]; omega) (slots_at [1, 0] rfl)
    · refine cxSeq ?_
      refine cxReg ?_
      refine pxV (v := (.slice (some ⟨b4, off5, none⟩) n1 c1)) (fun _ _ hF => opMove rfl (hF.ev 3 rfl)) rfl (fun _ _ => rfl) (kM [false, true, true, true] rfl rfl) (by decide) ?_
      have hi36 : 0 < n1 := by omega
      have hj39 : 0 < b1.length := by first | exact hi36 | (simp only [List.length_drop, List.length_take]; omega) | omega
      refine pxV (v := (.pointer (some ⟨b4, off5 + 0 * 1, none⟩))) (fun _ _ hF => opIndex (i := 0) (e := 5) (sz := 1) rfl (by kernel_rfl) (by kernel_rfl) (hF.ev 0 rfl) rfl rfl hi36) rfl (fun _ _ => rfl) (kM [false, true, true, true] rfl rfl) (by decide) ?_
      refine pxS (v := (.int .u8 (((x0.toNat) : Nat) : Int))) (fun w => HoldsL cByte w b4 off5 b1) (hH.holdsL hL6 hb7 hR8) (fun _ _ hF hS => opLoadT (C := cByte) (y := x0) rfl (hF.ev 0 rfl) (by kernel_rfl) (hS 0 _ hx0) rfl) rfl (fun _ _ => rfl) (kM [false, true, true, true] rfl rfl) (by decide) ?_
      refine pxV (v := (.bool (decide (x0.toNat ≥ 128)))) (fun _ _ hF => opGeq rfl (hF.ev 0 rfl) rfl (dc (by omega))) rfl (fun _ _ => rfl) (kM [false, true, true, true] rfl rfl) (by decide) ?_
      refine pxV (v := (.bool (decide (x0.toNat ≥ 128)))) (fun _ _ hF => opAssign rfl (hF.ev 0 rfl)) rfl (fun _ _ => rfl) (kM [false, true, true, true] rfl rfl) (by decide) ?_
      refine pxEnd ?_
      refine qxThen ?_
      refine cxP 0 rfl rfl (fun hc40 => ?_) (fun hc40 => ?_)
      · refine cxReg ?_
        refine pxV (v := (.slice (some ⟨b4, off5, none⟩) n1 c1)) (fun _ _ hF => opMove rfl (hF.ev 3 rfl)) rfl (fun _ _ => rfl) (kM [false, true, true, true] rfl rfl) (by decide) ?_
        have hi41 : 0 < n1 := by omega
        have hj44 : 0 < b1.length := by first | exact hi41 | (simp only [List.length_drop, List.length_take]; omega) | omega
        refine pxV (v := (.pointer (some ⟨b4, off5 + 0 * 1, none⟩))) (fun _ _ hF => opIndex (i := 0) (e := 5) (sz := 1) rfl (by kernel_rfl) (by kernel_rfl) (hF.ev 0 rfl) rfl rfl hi41) rfl (fun _ _ => rfl) (kM [false, true, true, true] rfl rfl) (by decide) ?_
        refine pxS (v := (.int .u8 (((x0.toNat) : Nat) : Int))) (fun w => HoldsL cByte w b4 off5 b1) (hH.holdsL hL6 hb7 hR8) (fun _ _ hF hS => opLoadT (C := cByte) (y := x0) rfl (hF.ev 0 rfl) (by kernel_rfl) (hS 0 _ hx0) rfl) rfl (fun _ _ => rfl) (kM [false, true, true, true] rfl rfl) (by decide) ?_
        refine pxV (v := (.int .u8 (((x0.toNat / 4) : Nat) : Int))) (fun _ _ hF => opShrU (n := 2) (z := (x0.toNat / 4)) rfl (hF.ev 0 rfl) rfl (leb rfl) (rfl)) rfl (fun _ _ => rfl) (kM [false, true, true, true] rfl rfl) (by decide) ?_
        refine pxV (v := (.int .u8 (((x0.toNat / 4 % 16) : Nat) : Int))) (fun _ _ hF => opAndU (m := x0.toNat / 4) (j := 15) (z := (x0.toNat / 4 % 16)) rfl rfl (hF.ev 0 rfl) rfl (by show _ < 256; omega) (by decide) (and_mask (x0.toNat / 4) 4)) rfl (fun _ _ => rfl) (kM [false, true, true, true] rfl rfl) (by decide) ?_
        refine pxV (v := (.int .i64 (((x0.toNat / 4 % 16) : Nat) : Int))) (fun _ _ hF => opConvI (k' := .i64) rfl (by kernel_rfl) (by kernel_rfl) (hF.ev 0 rfl) (wI rfl (by omega) (by omega))) rfl (fun _ _ => rfl) (kM [false, true, true, true] rfl rfl) (by decide) ?_
        refine pxV (v := (.pointer (some ⟨g2, 0, none⟩))) (fun _ _ hF => opField (off := 0) rfl (hF.ev 1 rfl) (by kernel_rfl)) rfl (fun _ _ => rfl) (kA rfl) (by decide) ?_
        refine pxE0 2 hH rfl (fun _ hF => smStore (v := (.int .i64 (((x0.toNat / 4 % 16) : Nat) : Int))) rfl (hF.ev 0 rfl) (hF.ev 1 rfl) (by kernel_rfl) (ltb rfl) rfl rfl) trivial rfl (fun _ _ => rfl) ?_
        clear hH
        rintro _ _ w rfl hH
        replace hH : HH w0 [] [El, Eb, [bl g2 31 #[(.int .i64 (((x0.toNat / 4 % 16) : Nat) : Int)), (.slice none 0 0)]]] w := hH
        refine pxEnd ?_
        refine qxInN ?_
        refine qxThen ?_
        refine cxSeq ?_
        refine cxSeq ?_
        refine cxReg ?_
        refine pxV (v := (.pointer (some ⟨g2, 0, none⟩))) (fun _ _ hF => opField (off := 0) rfl (hF.ev 2 rfl) (by kernel_rfl)) rfl (fun _ _ => rfl) (kM [false, false, true, true, true] rfl rfl) (by decide) ?_
        refine pxS (v := (.int .i64 (((x0.toNat / 4 % 16) : Nat) : Int))) (fun w => w.heap[g2]? = some (.cells #[(.int .i64 (((x0.toNat / 4 % 16) : Nat) : Int)), (.slice none 0 0)] 31 (0, 0))) (hH.blk 2 rfl) (fun _ _ hF hS => opLoadK hS rfl (hF.ev 0 rfl) (by kernel_rfl) rfl) rfl (fun _ _ => rfl) (kM [false, true, true, true] rfl rfl) (by decide) ?_
        refine pxV (v := (.bool (decide (x0.toNat / 4 % 16 = 0)))) (fun _ _ hF => opEqI rfl (hF.ev 0 rfl) rfl (dc (by omega))) rfl (fun _ _ => rfl) (kM [false, true, true, true] rfl rfl) (by decide) ?_
        refine pxEnd ?_
        refine qxThen ?_
        refine cxP 0 rfl rfl (fun hc45 => ?_) (fun hc45 => ?_)
        · refine cxSeq ?_
          refine cxReg ?_
          refine pxV (v := (.slice none 0 0)) (fun _ _ hF => opAssign rfl rfl) rfl (fun _ _ => rfl) (kM [false, false, false, false] rfl rfl) (by decide) ?_
          refine pxV (v := (.int .i64 2)) (fun _ _ hF => opAssign rfl rfl) rfl (fun _ _ => rfl) (kA rfl) (by decide) ?_
          refine pxEnd ?_
          refine qxThen ?_
          refine cxRet ?_
          refine qxThenR ?_
          refine qxInR ?_
          refine qxThenR ?_
          refine qxInR ?_
          refine qxThenR ?_
          refine qxRet2 1 0 rfl rfl rfl ?_
          have h1 := one_no (b := b1) (by rw [e0, (tag_old hc12 hc40)]; exact hc45)
          have hq := hp.trans (prs_bad hne (by rw [h1]; decide))
          rw [h1] at hq
          exact ⟨_, [], rfl, ⟨.slice none 0 0, (by rw [hq]; first | done | rfl), (by rw [hq]; exact OwnP.nil)⟩, HH.out1 (HH.pad hH 1) [false, false, false, true] rfl⟩
        · refine cxSkip ?_
          refine qxThen ?_
          refine cxSeq ?_
          refine cxSeq ?_
          refine cxReg ?_
          refine pxV (v := (.slice (some ⟨b4, off5, none⟩) n1 c1)) (fun _ _ hF => opMove rfl (hF.ev 3 rfl)) rfl (fun _ _ => rfl) (kM [false, true, true, true] rfl rfl) (by decide) ?_
          have hi46 : 0 < n1 := by omega
          have hj49 : 0 < b1.length := by first | exact hi46 | (simp only [List.length_drop, List.length_take]; omega) | omega
          refine pxV (v := (.pointer (some ⟨b4, off5 + 0 * 1, none⟩))) (fun _ _ hF => opIndex (i := 0) (e := 5) (sz := 1) rfl (by kernel_rfl) (by kernel_rfl) (hF.ev 0 rfl) rfl rfl hi46) rfl (fun _ _ => rfl) (kM [false, true, true, true] rfl rfl) (by decide) ?_
          refine pxS (v := (.int .u8 (((x0.toNat) : Nat) : Int))) (fun w => HoldsL cByte w b4 off5 b1) (hH.holdsL hL6 hb7 hR8) (fun _ _ hF hS => opLoadT (C := cByte) (y := x0) rfl (hF.ev 0 rfl) (by kernel_rfl) (hS 0 _ hx0) rfl) rfl (fun _ _ => rfl) (kM [false, true, true, true] rfl rfl) (by decide) ?_
          refine pxV (v := (.bool false)) (fun _ _ hF => opGeq rfl (hF.ev 0 rfl) rfl (decide_eq_false (by omega))) rfl (fun _ _ => rfl) (kM [false, true, true, true] rfl rfl) (by decide) ?_
          refine pxEnd ?_
          refine qxThen ?_
          refine cxF 0 rfl rfl ?_
          refine cxRegX mixedOrders (by kernel_rfl) ?_
          replace hH := hH.drew
          refine rxV 0 rfl (by kernel_rfl) rfl (fun _ _ => rfl) (fun _ _ hF => opMove rfl (hF.ev 3 rfl)) (kM [false, true, true, true] rfl rfl) (by decide) (v := (.slice (some ⟨b4, off5, none⟩) n1 c1)) ?_
          have hi50 : 0 < n1 := by omega
          have hj53 : 0 < b1.length := by first | exact hi50 | (simp only [List.length_drop, List.length_take]; omega) | omega
          refine rxV 1 rfl (by kernel_rfl) rfl (fun _ _ => rfl) (fun _ _ hF => opIndex (i := 0) (e := 5) (sz := 1) rfl (by kernel_rfl) (by kernel_rfl) (hF.ev 0 rfl) rfl rfl hi50) (kM [false, true, true, true] rfl rfl) (by decide) (v := (.pointer (some ⟨b4, off5 + 0 * 1, none⟩))) ?_
          refine rxS (fun w => HoldsL cByte w b4 off5 b1) 2 rfl (by kernel_rfl) rfl (fun _ _ => rfl) (hH.holdsL hL6 hb7 hR8) (fun _ _ hF hS => opLoadT (C := cByte) (y := x0) rfl (hF.ev 0 rfl) (by kernel_rfl) (hS 0 _ hx0) rfl) (kM [false, true, true, true] rfl rfl) (by decide) (v := (.int .u8 (((x0.toNat) : Nat) : Int))) ?_
          refine rxV 3 rfl (by kernel_rfl) rfl (fun _ _ => rfl) (fun _ _ hF => opAndU (m := x0.toNat) (j := 3) (z := (x0.toNat % 4)) rfl rfl (hF.ev 0 rfl) rfl (UInt8.toNat_lt _) (by decide) (and_mask x0.toNat 2)) (kM [false, true, true, true] rfl rfl) (by decide) (v := (.int .u8 (((x0.toNat % 4) : Nat) : Int))) ?_
          refine rxV 4 rfl (by kernel_rfl) rfl (fun _ _ => rfl) (fun _ _ hF => opMove rfl (hF.ev 3 rfl)) (kA rfl) (by decide) (v := (.slice (some ⟨b4, off5, none⟩) n1 c1)) ?_
          refine rxV 5 rfl (by kernel_rfl) rfl (fun _ _ => rfl) (fun _ _ hF => opCutL (k := 1) (e := 5) (sz := 1) rfl (by kernel_rfl) (by kernel_rfl) (hF.ev 0 rfl) rfl rfl (by omega)) (kM [false, true, true, true, true] rfl rfl) (by decide) (v := (.slice (cutA (some ⟨b4, off5, none⟩) c1 1 1) (n1 - 1) (c1 - 1))) ?_
          refine rx1 6 (by kernel_rfl) ?_
          refine moM rfl hH (fun _ hF => Does.small (legacy_c (x0.toNat % 4) (by omega) (cutA (some ⟨b4, off5, none⟩) c1 1 1) (n1 - 1) (c1 - 1) (b1.drop 1) (by rw [List.length_drop]; omega) (by omega)) (fun w => opCall rfl Try.func22 rfl rfl (Evs.cons (v := (.int .u8 (((x0.toNat % 4) : Nat) : Int))) (hF.ev 1 rfl) (Evs.cons (v := (.slice (cutA (some ⟨b4, off5, none⟩) c1 1 1) (n1 - 1) (c1 - 1))) (hF.ev 0 rfl) Evs.nil)) w)) ((hH.vu hV (by decide) (Off.nil _ _)).from (k := 1) (by omega)) rfl (fun _ _ => rfl) (kM [false, false, true, true, true] rfl rfl) (by decide) (PendOk.go [3] (by kernel_rfl) (PendOk.nil _ [])) ?_
          clear hH
          rintro _ E55 w ⟨s54, m60, rfl, hO56, hm57⟩ hH
          replace hH : HH w0 [] [El, Eb, [bl g2 31 #[(.int .i64 (((x0.toNat / 4 % 16) : Nat) : Int)), (.slice none 0 0)]], E55] w := hH
          obtain ⟨A58, c59, rfl⟩ := hO56.slice
          refine ⟨(fun _ hs => by cases hs), ?_⟩
          refine rxV 7 rfl (by kernel_rfl) rfl (fun _ _ => rfl) (fun _ _ hF => opMove rfl (hF.ev 0 rfl)) (kM [false, true, true, true] rfl rfl) (by decide) (v := (.tuple #[(.slice A58 ((leg (x0.toNat % 4) (b1.drop 1)).2.1.length) c59), (.int .i64 (((m60) : Nat) : Int)), (.int .i64 ((((leg (x0.toNat % 4) (b1.drop 1)).1) : Nat) : Int))])) ?_
          refine rxV 8 rfl (by kernel_rfl) rfl (fun _ _ => rfl) (fun _ _ hF => opExtract rfl (hF.ev 0 rfl) rfl) (kA rfl) (by decide) (v := (.slice A58 ((leg (x0.toNat % 4) (b1.drop 1)).2.1.length) c59)) ?_
          refine rxV 9 rfl (by kernel_rfl) rfl (fun _ _ => rfl) (fun _ _ hF => opExtract rfl (hF.ev 1 rfl) rfl) (kA rfl) (by decide) (v := (.int .i64 (((m60) : Nat) : Int))) ?_
          refine rxV 10 rfl (by kernel_rfl) rfl (fun _ _ => rfl) (fun _ _ hF => opExtract rfl (hF.ev 2 rfl) rfl) (kM [true, true, false, true, true, true] rfl rfl) (by decide) (v := (.int .i64 ((((leg (x0.toNat % 4) (b1.drop 1)).1) : Nat) : Int))) ?_
          refine rxV 11 rfl (by kernel_rfl) rfl (fun _ _ => rfl) (fun _ _ hF => opField (off := 1) rfl (hF.ev 3 rfl) (by kernel_rfl)) (kA rfl) (by decide) (v := (.pointer (some ⟨g2, 1, none⟩))) ?_
          refine rx1 12 (by kernel_rfl) ?_
          refine moE0 2 rfl hH rfl (fun _ hF => smStore (v := (.slice A58 ((leg (x0.toNat % 4) (b1.drop 1)).2.1.length) c59)) rfl (hF.ev 0 rfl) (hF.ev 3 rfl) (by kernel_rfl) (ltb rfl) rfl rfl) trivial rfl (fun _ _ => rfl) (PendOk.nil _ []) ?_
          clear hH
          rintro _ _ w rfl hH
          replace hH : HH w0 [] [El, Eb, [bl g2 31 #[(.int .i64 (((x0.toNat / 4 % 16) : Nat) : Int)), (.slice A58 ((leg (x0.toNat % 4) (b1.drop 1)).2.1.length) c59)]], E55] w := hH
          refine ⟨(fun _ hs => by cases hs), ?_⟩
          refine rxV 13 rfl (by kernel_rfl) rfl (fun _ _ => rfl) (fun _ _ hF => opAssign rfl (hF.ev 2 rfl)) (kM [false, true, false, false, true, true, true] rfl rfl) (by decide) (v := (.int .i64 (((m60) : Nat) : Int))) ?_
          refine rxV 14 rfl (by kernel_rfl) rfl (fun _ _ => rfl) (fun _ _ hF => opAssign rfl (hF.ev 1 rfl)) (kM [true, false, true, true, true] rfl rfl) (by decide) (v := (.int .i64 ((((leg (x0.toNat % 4) (b1.drop 1)).1) : Nat) : Int))) ?_
          refine rxEnd (by kernel_rfl) ?_
          refine qxThen ?_
          refine cxSeq ?_
          refine cxSeq ?_
          have he := one_of e0 (tag_old hc12 hc40) (by omega) (bdy_leg hc12) (b := b1)
          refine cxReg ?_
          refine pxV (v := (.int .i64 ((((leg (x0.toNat % 4) (b1.drop 1)).1) : Nat) : Int))) (fun _ _ hF => opMove rfl (hF.ev 0 rfl)) rfl (fun _ _ => rfl) (kA rfl) (by decide) ?_
          refine pxV (v := (.bool (decide ((leg (x0.toNat % 4) (b1.drop 1)).1 ≠ 0)))) (fun _ _ hF => opNeI rfl (hF.ev 0 rfl) rfl (dc (by omega))) rfl (fun _ _ => rfl) (kM [false, true, true, true, true, true] rfl rfl) (by decide) ?_
          refine pxEnd ?_
          refine qxThen ?_
          refine cxP 0 rfl rfl (fun hc61 => ?_) (fun hc61 => ?_)
          · refine cxSeq ?_
            refine cxReg ?_
            refine pxV (v := (.int .i64 ((((leg (x0.toNat % 4) (b1.drop 1)).1) : Nat) : Int))) (fun _ _ hF => opMove rfl (hF.ev 1 rfl)) rfl (fun _ _ => rfl) (kM [false, false, false, false, false, false] rfl rfl) (by decide) ?_
            refine pxV (v := (.slice none 0 0)) (fun _ _ hF => opAssign rfl rfl) rfl (fun _ _ => rfl) (kA rfl) (by decide) ?_
            refine pxV (v := (.int .i64 ((((leg (x0.toNat % 4) (b1.drop 1)).1) : Nat) : Int))) (fun _ _ hF => opAssign rfl (hF.ev 1 rfl)) rfl (fun _ _ => rfl) (kM [true, false] rfl rfl) (by decide) ?_
            refine pxEnd ?_
            refine qxThen ?_
            refine cxRet ?_
            refine qxThenR ?_
            refine qxInR ?_
            refine qxThenR ?_
            refine qxInR ?_
            refine qxThenR ?_
            refine qxRet2 1 0 rfl rfl rfl ?_
            have hq := hp.trans (prs_bad hne (by rw [he]; exact hc61))
            rw [he] at hq
            exact ⟨_, [], rfl, ⟨.slice none 0 0, (by rw [hq]), (by rw [hq]; exact OwnP.nil)⟩, HH.out1 (HH.pad hH 1) [false, false, false, false, true] rfl⟩
          · have hz : (leg (x0.toNat % 4) (b1.drop 1)).1 = 0 := Decidable.of_not_not hc61
            obtain ⟨hm1, hm2⟩ := hm57 hz
            rw [List.length_drop] at hm1
            have hz1 : (one b1).1 = 0 := by rw [he]; exact hz
            have hp2 := hp.trans (prs_one hne hz1)
            rw [he] at hp2
            refine cxSkip ?_
            refine qxThen ?_
            refine cxSeq ?_
            refine cxReg ?_
            refine pxV (v := (.slice Al L.length cl)) (fun _ _ hF => opMove rfl (hF.ev 4 rfl)) rfl (fun _ _ => rfl) (kM [false, false, true, true, false, true] rfl rfl) (by decide) ?_
            refine pxS (v := (.agg #[(.int .i64 (((x0.toNat / 4 % 16) : Nat) : Int)), (.slice A58 ((leg (x0.toNat % 4) (b1.drop 1)).2.1.length) c59)])) (fun w => w.heap[g2]? = some (.cells #[(.int .i64 (((x0.toNat / 4 % 16) : Nat) : Int)), (.slice A58 ((leg (x0.toNat % 4) (b1.drop 1)).2.1.length) c59)] 31 (0, 0))) (hH.blk 2 rfl) (fun _ _ hF hS => opLoadKR (k := 2) hS rfl (hF.ev 2 rfl) (by kernel_rfl) rfl (by kernel_rfl) rfl) rfl (fun _ _ => rfl) (kM [true, true, false, true] rfl rfl) (by decide) ?_
            refine pxM hH (fun _ hF => smLit1 (e := 31) (sz := 2) (z := (cPk.val (0, none, 0, 0))) (by_ := 32) (cs := cPk.enc ((((x0.toNat / 4 % 16) : Nat) : Int), A58, (leg (x0.toNat % 4) (b1.drop 1)).2.1.length, c59)) rfl (by kernel_rfl) (by kernel_rfl) ((hF.ev 0 rfl).trans (cPk_val (((x0.toNat / 4 % 16) : Nat) : Int) A58 ((leg (x0.toNat % 4) (b1.drop 1)).2.1.length) c59)) (cPk.len ((((x0.toNat / 4 % 16) : Nat) : Int), A58, (leg (x0.toNat % 4) (b1.drop 1)).2.1.length, c59)) (ltb rfl) (leb rfl) rfl) trivial rfl (fun _ _ => rfl) (kM [false, true, true, true] rfl rfl) (by decide) ?_
            clear hH
            rintro _ _ w ⟨g62, rfl, rfl⟩ hH
            replace hH : HH w0 [] [El, Eb, [bl g2 31 #[(.int .i64 (((x0.toNat / 4 % 16) : Nat) : Int)), (.slice A58 ((leg (x0.toNat % 4) (b1.drop 1)).2.1.length) c59)]], E55, [bl g62 31 (cPk.enc ((((x0.toNat / 4 % 16) : Nat) : Int), A58, (leg (x0.toNat % 4) (b1.drop 1)).2.1.length, c59))]] w := hH
            refine pxE 0 hH rfl (fun _ hF => smAppT (C := cPk) (l := L) (m := [((((x0.toNat / 4 % 16) : Nat) : Int), A58, (leg (x0.toNat % 4) (b1.drop 1)).2.1.length, c59)]) (e := 31) (z := (cPk.val (0, none, 0, 0))) (by_ := 32) rfl (by kernel_rfl) (by kernel_rfl) rfl (ltb rfl) (hF.ev 1 rfl) hO (hF.ev 0 rfl) rfl (fun h => by cases h) (by unfold maxLen; omega) (by omega)) ((Bk.lit1 (C := cPk) ((((x0.toNat / 4 % 16) : Nat) : Int), A58, (leg (x0.toNat % 4) (b1.drop 1)).2.1.length, c59)).vu (hH.blk 4 rfl) rfl) rfl (fun _ _ => rfl) (kM [false, false, true, true] rfl rfl) (by decide) ?_
            clear hH
            rintro v65 E66 w ⟨hO67, _⟩ hH
            replace hH : HH w0 [] [E66, Eb, [bl g2 31 #[(.int .i64 (((x0.toNat / 4 % 16) : Nat) : Int)), (.slice A58 ((leg (x0.toNat % 4) (b1.drop 1)).2.1.length) c59)]], E55, [bl g62 31 (cPk.enc ((((x0.toNat / 4 % 16) : Nat) : Int), A58, (leg (x0.toNat % 4) (b1.drop 1)).2.1.length, c59))]] w := hH
            replace hO67 : OwnT cPk 31 v65 (L ++ [((((x0.toNat / 4 % 16) : Nat) : Int), A58, (leg (x0.toNat % 4) (b1.drop 1)).2.1.length, c59)]) E66 := hO67
            obtain ⟨A63, c64, rfl⟩ := hO67.slice
            refine pxV (v := (.slice A63 ((L ++ [((((x0.toNat / 4 % 16) : Nat) : Int), A58, (leg (x0.toNat % 4) (b1.drop 1)).2.1.length, c59)]).length) c64)) (fun _ _ hF => opAssign rfl (hF.ev 0 rfl)) rfl (fun _ _ => rfl) (kM [false, true, true] rfl rfl) (by decide) ?_
            refine pxEnd ?_
            refine qxThen ?_
            refine cxReg ?_
            refine pxV (v := (.slice (some ⟨b4, off5, none⟩) n1 c1)) (fun _ _ hF => opMove rfl (hF.ev 2 rfl)) rfl (fun _ _ => rfl) (kM [true, true, false] rfl rfl) (by decide) ?_
            refine pxV (v := (.int .i64 (((m60) : Nat) : Int))) (fun _ _ hF => opMove rfl (hF.ev 2 rfl)) rfl (fun _ _ => rfl) (kM [true, true, false] rfl rfl) (by decide) ?_
            refine pxV (v := (.int .i64 (((1 + m60) : Nat) : Int))) (fun _ _ hF => opAdd rfl rfl (hF.ev 0 rfl) (wI (by omega) (by omega) (by omega))) rfl (fun _ _ => rfl) (kM [false, true, true] rfl rfl) (by decide) ?_
            refine pxV (v := (.slice (cutA (some ⟨b4, off5, none⟩) c1 (1 + m60) 1) (n1 - (1 + m60)) (c1 - (1 + m60)))) (fun _ _ hF => opCutL (k := 1 + m60) (e := 5) (sz := 1) rfl (by kernel_rfl) (by kernel_rfl) (hF.ev 1 rfl) (hF.ev 0 rfl) rfl (by omega)) rfl (fun _ _ => rfl) (kM [false, false, true] rfl rfl) (by decide) ?_
            refine pxV (v := (.slice (cutA (some ⟨b4, off5, none⟩) c1 (1 + m60) 1) (n1 - (1 + m60)) (c1 - (1 + m60)))) (fun _ _ hF => opAssign rfl (hF.ev 0 rfl)) rfl (fun _ _ => rfl) (kM [false, true] rfl rfl) (by decide) ?_
            refine pxEnd ?_
            refine qxInN ?_
            replace hH : HH w0 [] [E66, Eb, E55] w := HH.sel hH [0, 1, 3] rfl (by decide)
            replace hH : HH w0 [] [E66, (Eb ++ E55)] w := hH.cast (by simp)
            have hr : b1.drop (1 + m60) = (leg (x0.toNat % 4) (b1.drop 1)).2.2 := by rw [← hm2, List.drop_drop]
            exact qxRound (b1.drop (1 + m60), (cutA (some ⟨b4, off5, none⟩) c1 (1 + m60) 1), (n1 - (1 + m60)), (c1 - (1 + m60)), (L ++ [((((x0.toNat / 4 % 16) : Nat) : Int), A58, (leg (x0.toNat % 4) (b1.drop 1)).2.1.length, c59)]), A63, c64, E66, (Eb ++ E55), D ++ [(((x0.toNat / 4 % 16 : Nat) : Int), (leg (x0.toNat % 4) (b1.drop 1)).2.1)]) ⟨hH, (show Vu cByte w0 (cutA (some ⟨b4, off5, none⟩) c1 (1 + m60) 1) (n1 - (1 + m60)) (c1 - (1 + m60)) (b1.drop (1 + m60)) from (hV.from (k := 1 + m60) (by omega))), (show (n1 - (1 + m60)) = (b1.drop (1 + m60)).length from (by rw [List.length_drop]; omega)), (by rw [hr]; exact hp2), hO67, (Bods.snoc hB hO56), (show (L ++ [((((x0.toNat / 4 % 16) : Nat) : Int), A58, (leg (x0.toNat % 4) (b1.drop 1)).2.1.length, c59)]).length + (b1.drop (1 + m60)).length ≤ b.length from (by rw [List.length_append, List.length_drop]; show L.length + 1 + _ ≤ _; omega))⟩ (show (b1.drop (1 + m60)).length < b1.length from by rw [List.length_drop]; omega) (slots_at [1, 0] rfl)
      · refine cxSkip ?_
        refine qxInN ?_
        refine qxThen ?_
        refine cxSeq ?_
        refine cxSeq ?_
        refine cxReg ?_
        refine pxV (v := (.pointer (some ⟨g2, 0, none⟩))) (fun _ _ hF => opField (off := 0) rfl (hF.ev 1 rfl) (by kernel_rfl)) rfl (fun _ _ => rfl) (kM [false, true, true, true] rfl rfl) (by decide) ?_
        refine pxS (v := (.int .i64 0)) (fun w => w.heap[g2]? = some (.cells #[(.int .i64 0), (.slice none 0 0)] 31 (0, 0))) (hH.blk 2 rfl) (fun _ _ hF hS => opLoadK hS rfl (hF.ev 0 rfl) (by kernel_rfl) rfl) rfl (fun _ _ => rfl) (kM [false, true, true, true] rfl rfl) (by decide) ?_
        refine pxV (v := (.bool true)) (fun _ _ hF => opEqI rfl (hF.ev 0 rfl) rfl (by decide)) rfl (fun _ _ => rfl) (kM [false, true, true, true] rfl rfl) (by decide) ?_
        refine pxEnd ?_
        refine qxThen ?_
        refine cxT 0 rfl rfl ?_
        refine cxSeq ?_
        refine cxReg ?_
        refine pxV (v := (.slice none 0 0)) (fun _ _ hF => opAssign rfl rfl) rfl (fun _ _ => rfl) (kM [false, false, false, false] rfl rfl) (by decide) ?_
        refine pxV (v := (.int .i64 2)) (fun _ _ hF => opAssign rfl rfl) rfl (fun _ _ => rfl) (kA rfl) (by decide) ?_
        refine pxEnd ?_
        refine qxThen ?_
        refine cxRet ?_
        refine qxThenR ?_
        refine qxInR ?_
        refine qxThenR ?_
        refine qxInR ?_
        refine qxThenR ?_
        refine qxRet2 1 0 rfl rfl rfl ?_
        have h1 := one_no (b := b1) (by rw [e0, (tag_none hc12 hc40)]; first | done | rfl)
        have hq := hp.trans (prs_bad hne (by rw [h1]; decide))
        rw [h1] at hq
        exact ⟨_, [], rfl, ⟨.slice none 0 0, (by rw [hq]; first | done | rfl), (by rw [hq]; exact OwnP.nil)⟩, HH.out1 (HH.pad hH 1) [false, false, false, true] rfl⟩
  · have hnil : b1 = [] := List.eq_nil_of_length_eq_zero (by omega)
    refine cxExit ?_
    refine qxThenE ?_
    refine qxThenE ?_
    refine qxInE ?_
    refine qxThen ?_
    refine cxSeq ?_
    refine cxReg ?_
    refine pxV (v := (.slice Al L.length cl)) (fun _ _ hF => opMove rfl (hF.ev 1 rfl)) rfl (fun _ _ => rfl) (kM [false, false, false] rfl rfl) (by decide) ?_
    refine pxV (v := (.slice Al L.length cl)) (fun _ _ hF => opAssign rfl (hF.ev 0 rfl)) rfl (fun _ _ => rfl) (kM [false] rfl rfl) (by decide) ?_
    refine pxV (v := (.int .i64 0)) (fun _ _ hF => opAssign rfl rfl) rfl (fun _ _ => rfl) (kA rfl) (by decide) ?_
    refine pxEnd ?_
    refine qxThen ?_
    refine cxRet ?_
    refine qxRet2 1 0 rfl rfl rfl ?_
    have hq : prs [] b = (0, D) := by rw [hp, hnil, prs_nil]
    exact ⟨_, _, rfl, ⟨(.slice Al L.length cl), (by rw [hq]; first | done | rfl), (by rw [hq]; exact ⟨_, _, _, rfl, hO, hB⟩)⟩, hH.out [true, true]⟩
end Go.Proofs.Ytjncbpmigpocbaa
