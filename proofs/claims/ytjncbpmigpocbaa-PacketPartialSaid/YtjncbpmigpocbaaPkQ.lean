/- The program's Parse (mkpq.py writes this text). -/
import Derived.Test.YtjncbpmigpocbaaPkP
namespace Go.Proofs.Ytjncbpmigpocbaa
open Go Go.RowKit
set_option maxRecDepth 100000

theorem one_less {b : List UInt8} (hb : b ≠ []) (h : (one b).1 = 0) : (one b).2.2.length < b.length := by
  rcases one_ok hb with ⟨k, k1, k2, _, k3, _⟩ | ⟨h2, _⟩
  · rw [k3, List.length_drop]; omega
  · exact absurd h h2

set_option maxHeartbeats 8000000 in
theorem parse_c (c : Nat) (A : Option Addr) (b : List UInt8) (hbig : b.length ≤ 4294967296) : Does Try.prog 14 #[(.slice A b.length c)] [] (fun w => Vu cByte w A b.length c b) (fun v E' => ∃ s, v = .tuple #[s, .int .i64 ((prs [] b).1 : Int)] ∧ OwnP s (prs [] b).2 E') := by
  refine does_of (fn := Try.f14) Try.func14 rfl Try.ntmps14 (Nat.le_of_ble_eq_true rfl) rfl ?_
  intro w0 hH hR
  replace hH : HH w0 [] [] w0 := hH.only [false]
  have hcap := hR.cap
  refine cxSeq ?_
  refine cxReg ?_
  refine pxV (v := (.slice none 0 0)) (fun _ _ hF => opAssign rfl rfl) rfl (fun _ _ => rfl) (kA rfl) (by decide) ?_
  refine pxV (v := (.int .i64 0)) (fun _ _ hF => opAssign rfl rfl) rfl (fun _ _ => rfl) (kM [false, true] rfl rfl) (by decide) ?_
  refine pxEnd ?_
  refine qxThen ?_
  refine cxSeq ?_
  refine cxReg ?_
  refine pxV (v := (.slice none 0 0)) (fun _ _ hF => opAssign rfl rfl) rfl (fun _ _ => rfl) (kM [false, true] rfl rfl) (by decide) ?_
  refine pxEnd ?_
  refine qxThen ?_
  refine cxSeq ?_
  refine cxReg ?_
  refine pxV (v := (.slice A b.length c)) (fun _ _ hF => opMove rfl (hF.ev 1 rfl)) rfl (fun _ _ => rfl) (kM [true, false] rfl rfl) (by decide) ?_
  refine pxV (v := (.agg #[(.slice A b.length c)])) (fun _ _ hF => opBuildP (cells := #[(.slice A b.length c)]) rfl (EvP.cons (v := (.slice A b.length c)) (hF.ev 0 rfl) EvP.nil) rfl _) rfl (fun _ _ => rfl) (kM [false, true] rfl rfl) (by decide) ?_
  refine pxM hH (fun _ hF => smAlloc (z := (.agg #[(.slice none 0 0)])) rfl (by kernel_rfl) rfl) trivial rfl (fun _ _ => rfl) (kA rfl) (by decide) ?_
  clear hH
  rintro _ _ w ⟨g1, rfl, rfl⟩ hH
  replace hH : HH w0 [] [[bl g1 43 #[(.slice none 0 0)]]] w := hH
  refine pxE0 0 hH rfl (fun _ hF => smStoreK (k := 1) rfl (hF.ev 0 rfl) (hF.ev 1 rfl) rfl (by kernel_rfl) (leb rfl) rfl rfl) trivial rfl (fun _ _ => rfl) ?_
  clear hH
  rintro _ _ w rfl hH
  replace hH : HH w0 [] [[bl g1 43 #[(.slice A b.length c)]]] w := hH
  refine pxEnd ?_
  refine qxThen ?_
  refine cxSeq ?_
  refine cxBlock ?_
  replace hH := HH.pad hH 1
  replace hH : HH w0 [] [[bl g1 43 #[(.slice A b.length c)]], []] w := hH
  replace hH := HH.pad hH 1
  replace hH : HH w0 [] [[bl g1 43 #[(.slice A b.length c)]], [], []] w := hH
  refine cxLoop (σ := (List UInt8) × (Option Addr) × Nat × (List PkH) × (Option Addr) × Nat × Hl × Hl × (List Pd)) (fun x => [(5, (.pointer (some ⟨g1, 0, none⟩))), (4, (.slice x.2.2.2.2.1 x.2.2.2.1.length x.2.2.2.2.2.1))]) (fun x w => HH w0 [] [[bl g1 43 #[(.slice x.2.1 x.1.length x.2.2.1)]], x.2.2.2.2.2.2.1, x.2.2.2.2.2.2.2.1] w ∧ (Vu cByte w0 x.2.1 x.1.length x.2.2.1 x.1) ∧ (prs [] b = prs x.2.2.2.2.2.2.2.2 x.1) ∧ (OwnT cPk 31 (.slice x.2.2.2.2.1 x.2.2.2.1.length x.2.2.2.2.2.1) x.2.2.2.1 x.2.2.2.2.2.2.1) ∧ (Bods x.2.2.2.1 x.2.2.2.2.2.2.2.2 x.2.2.2.2.2.2.2.1) ∧ (x.2.2.2.1.length + x.1.length ≤ b.length)) (fun x => x.1.length) (b, A, c, [], none, 0, [], [], []) ⟨hH, hR, rfl, (OwnT.nil _ _), Bods.nil, (by rw [List.length_nil, Nat.zero_add]; exact Nat.le_refl _)⟩ (slots_at [0, 2] rfl) ?_
  clear hH
  rintro ⟨b1, A1, c1, L, Al, cl, El, Eb, D⟩ w ⟨hH, hV, hp, hO, hB, hn⟩
  change CX _ _ _ _ [(5, (.pointer (some ⟨g1, 0, none⟩))), (4, (.slice Al L.length cl))] _
  replace hH : HH w0 [] [[bl g1 43 #[(.slice A1 b1.length c1)]], El, Eb] w := hH
  replace hV : Vu cByte w0 A1 b1.length c1 b1 := hV
  replace hp : prs [] b = prs D b1 := hp
  replace hO : OwnT cPk 31 (.slice Al L.length cl) L El := hO
  replace hB : Bods L D Eb := hB
  replace hn : L.length + b1.length ≤ b.length := hn
  refine cxSeq ?_
  refine cxSeq ?_
  refine cxReg ?_
  refine pxV (v := (.pointer (some ⟨g1, 0, none⟩))) (fun _ _ hF => opField (off := 0) rfl (hF.ev 0 rfl) (by kernel_rfl)) rfl (fun _ _ => rfl) (kA rfl) (by decide) ?_
  refine pxS (v := (.slice A1 b1.length c1)) (fun w => w.heap[g1]? = some (.cells #[(.slice A1 b1.length c1)] 43 (0, 0))) (hH.blk 0 rfl) (fun _ _ hF hS => opLoadK hS rfl (hF.ev 0 rfl) (by kernel_rfl) rfl) rfl (fun _ _ => rfl) (kM [false, true, true] rfl rfl) (by decide) ?_
  refine pxV (v := (.int .i64 (((b1.length) : Nat) : Int))) (fun _ _ hF => opLen (e := 5) rfl (by kernel_rfl) (hF.ev 0 rfl)) rfl (fun _ _ => rfl) (kM [false, true, true] rfl rfl) (by decide) ?_
  refine pxV (v := (.bool (decide (b1.length > 0)))) (fun _ _ hF => opGtr rfl (hF.ev 0 rfl) rfl (dc (by omega))) rfl (fun _ _ => rfl) (kM [false, true, true] rfl rfl) (by decide) ?_
  refine pxEnd ?_
  refine qxThen ?_
  refine cxP 0 rfl rfl (fun hc2 => ?_) (fun hc2 => ?_)
  · have hne : b1 ≠ [] := by intro q; rw [q] at hc2; exact absurd hc2 (by decide)
    refine cxSkip ?_
    refine qxThen ?_
    refine cxBlock ?_
    refine cxSeq ?_
    refine cxReg ?_
    refine pxE 0 hH rfl (fun _ hF => Does.small (packet_c g1 c1 A1 b1 (hH.off 0 rfl hV (by decide) (Off.nil _ _)) (by omega) (by omega)) (fun w => opCall rfl Try.func20 rfl rfl (Evs.cons (v := (.pointer (some ⟨g1, 0, none⟩))) (hF.ev 1 rfl) Evs.nil) w)) (hH.vu hV (by decide) (Off.nil _ _)) rfl (fun _ _ => rfl) (kM [false, true, true] rfl rfl) (by decide) ?_
    clear hH
    rintro _ _ w ⟨t3, A4, n5, c6, _, E7, rfl, rfl, hP8, A9, c10, b11, rfl, hS12, hb13⟩ hH
    replace hH : HH w0 [] [([[bl g1 43 #[.slice A9 b11.length c10]], E7] : List Hl).flatten, El, Eb] w := hH
    replace hH : HH w0 [] [[bl g1 43 #[(.slice A9 b11.length c10)]], E7, El, Eb] w := hH.cast (by simp)
    obtain ⟨hV14, hQ15⟩ := hS12 w0 hV
    replace hV14 : Vu cByte w0 A9 b11.length c10 b11 := hV14
    replace hQ15 := hQ15 _ (Off.nil _ _)
    refine pxV (v := (.tuple #[(.agg #[(.int .i64 (t3)), (.slice A4 n5 c6)]), (.int .i64 ((((one b1).1) : Nat) : Int))])) (fun _ _ hF => opMove rfl (hF.ev 0 rfl)) rfl (fun _ _ => rfl) (kM [false, true, true] rfl rfl) (by decide) ?_
    refine pxV (v := (.agg #[(.int .i64 (t3)), (.slice A4 n5 c6)])) (fun _ _ hF => opExtract rfl (hF.ev 0 rfl) rfl) rfl (fun _ _ => rfl) (kA rfl) (by decide) ?_
    refine pxV (v := (.int .i64 ((((one b1).1) : Nat) : Int))) (fun _ _ hF => opExtract rfl (hF.ev 1 rfl) rfl) rfl (fun _ _ => rfl) (kM [true, false, true, true] rfl rfl) (by decide) ?_
    refine pxM hH (fun _ hF => smAlloc (z := (.agg #[(.int .i64 0), (.slice none 0 0)])) rfl (by kernel_rfl) rfl) trivial rfl (fun _ _ => rfl) (kA rfl) (by decide) ?_
    clear hH
    rintro _ _ w ⟨g16, rfl, rfl⟩ hH
    replace hH : HH w0 [] [[bl g1 43 #[(.slice A9 b11.length c10)]], E7, El, Eb, [bl g16 31 #[(.int .i64 0), (.slice none 0 0)]]] w := hH
    refine pxE0 4 hH rfl (fun _ hF => smStoreK (k := 2) rfl (hF.ev 0 rfl) (hF.ev 2 rfl) rfl (by kernel_rfl) (leb rfl) rfl rfl) trivial rfl (fun _ _ => rfl) ?_
    clear hH
    rintro _ _ w rfl hH
    replace hH : HH w0 [] [[bl g1 43 #[(.slice A9 b11.length c10)]], E7, El, Eb, [bl g16 31 #[(.int .i64 (t3)), (.slice A4 n5 c6)]]] w := hH
    refine pxV (v := (.int .i64 ((((one b1).1) : Nat) : Int))) (fun _ _ hF => opAssign rfl (hF.ev 1 rfl)) rfl (fun _ _ => rfl) (kM [true, false, false, true, true] rfl rfl) (by decide) ?_
    refine pxEnd ?_
    refine qxThen ?_
    refine cxSeq ?_
    refine cxSeq ?_
    refine cxReg ?_
    refine pxV (v := (.int .i64 ((((one b1).1) : Nat) : Int))) (fun _ _ hF => opMove rfl (hF.ev 0 rfl)) rfl (fun _ _ => rfl) (kA rfl) (by decide) ?_
    refine pxV (v := (.bool (decide ((one b1).1 ≠ 0)))) (fun _ _ hF => opNeI rfl (hF.ev 0 rfl) rfl (dc (by omega))) rfl (fun _ _ => rfl) (kM [false, true, true, true, true] rfl rfl) (by decide) ?_
    refine pxEnd ?_
    refine qxThen ?_
    refine cxP 0 rfl rfl (fun hc17 => ?_) (fun hc17 => ?_)
    · refine cxSeq ?_
      refine cxReg ?_
      refine pxV (v := (.int .i64 ((((one b1).1) : Nat) : Int))) (fun _ _ hF => opMove rfl (hF.ev 1 rfl)) rfl (fun _ _ => rfl) (kM [false, false, false, false, false] rfl rfl) (by decide) ?_
      refine pxV (v := (.slice none 0 0)) (fun _ _ hF => opAssign rfl rfl) rfl (fun _ _ => rfl) (kA rfl) (by decide) ?_
      refine pxV (v := (.int .i64 ((((one b1).1) : Nat) : Int))) (fun _ _ hF => opAssign rfl (hF.ev 1 rfl)) rfl (fun _ _ => rfl) (kM [true, false] rfl rfl) (by decide) ?_
      refine pxEnd ?_
      refine qxThen ?_
      refine cxRet ?_
      refine qxThenR ?_
      refine qxInR ?_
      refine qxThenR ?_
      refine qxInR ?_
      refine qxThenR ?_
      refine qxRet2 1 0 rfl rfl rfl ?_
      have he := hp.trans (prs_bad hne hc17)
      exact ⟨_, [], rfl, ⟨.slice none 0 0, (by rw [he]), (by rw [he]; exact OwnP.nil)⟩, HH.out1 (HH.pad hH 1) [false, false, false, false, false, true] rfl⟩
    · have hz : (one b1).1 = 0 := Decidable.of_not_not hc17
      obtain ⟨rfl, rfl, hO18⟩ := hP8 hz
      obtain rfl := hb13 hz
      have hless := one_less hne hz
      refine cxSkip ?_
      refine qxThen ?_
      refine cxReg ?_
      refine pxV (v := (.slice Al L.length cl)) (fun _ _ hF => opMove rfl (hF.ev 4 rfl)) rfl (fun _ _ => rfl) (kM [false, false, true, true, false] rfl rfl) (by decide) ?_
      refine pxS (v := (.agg #[(.int .i64 ((one b1).2.1.1)), (.slice A4 ((one b1).2.1.2.length) c6)])) (fun w => w.heap[g16]? = some (.cells #[(.int .i64 ((one b1).2.1.1)), (.slice A4 ((one b1).2.1.2.length) c6)] 31 (0, 0))) (hH.blk 4 rfl) (fun _ _ hF hS => opLoadKR (k := 2) hS rfl (hF.ev 1 rfl) (by kernel_rfl) rfl (by kernel_rfl) rfl) rfl (fun _ _ => rfl) (kM [true, false, true] rfl rfl) (by decide) ?_
      refine pxM hH (fun _ hF => smLit1 (e := 31) (sz := 2) (z := (cPk.val (0, none, 0, 0))) (by_ := 32) (cs := cPk.enc (((one b1).2.1.1), A4, (one b1).2.1.2.length, c6)) rfl (by kernel_rfl) (by kernel_rfl) ((hF.ev 0 rfl).trans (cPk_val ((one b1).2.1.1) A4 ((one b1).2.1.2.length) c6)) (cPk.len (((one b1).2.1.1), A4, (one b1).2.1.2.length, c6)) (ltb rfl) (leb rfl) rfl) trivial rfl (fun _ _ => rfl) (kM [false, true, true] rfl rfl) (by decide) ?_
      clear hH
      rintro _ _ w ⟨g19, rfl, rfl⟩ hH
      replace hH : HH w0 [] [[bl g1 43 #[(.slice A9 ((one b1).2.2.length) c10)]], E7, El, Eb, [bl g16 31 #[(.int .i64 ((one b1).2.1.1)), (.slice A4 ((one b1).2.1.2.length) c6)]], [bl g19 31 (cPk.enc (((one b1).2.1.1), A4, (one b1).2.1.2.length, c6))]] w := hH
      refine pxE 2 hH rfl (fun _ hF => smAppT (C := cPk) (l := L) (m := [(((one b1).2.1.1), A4, (one b1).2.1.2.length, c6)]) (e := 31) (z := (cPk.val (0, none, 0, 0))) (by_ := 32) rfl (by kernel_rfl) (by kernel_rfl) rfl (ltb rfl) (hF.ev 1 rfl) hO (hF.ev 0 rfl) rfl (fun h => by cases h) (by unfold maxLen; omega) (by omega)) ((Bk.lit1 (C := cPk) (((one b1).2.1.1), A4, (one b1).2.1.2.length, c6)).vu (hH.blk 5 rfl) rfl) rfl (fun _ _ => rfl) (kM [false, false, true] rfl rfl) (by decide) ?_
      clear hH
      rintro v22 E23 w ⟨hO24, _⟩ hH
      replace hH : HH w0 [] [[bl g1 43 #[(.slice A9 ((one b1).2.2.length) c10)]], E7, E23, Eb, [bl g16 31 #[(.int .i64 ((one b1).2.1.1)), (.slice A4 ((one b1).2.1.2.length) c6)]], [bl g19 31 (cPk.enc (((one b1).2.1.1), A4, (one b1).2.1.2.length, c6))]] w := hH
      replace hO24 : OwnT cPk 31 v22 (L ++ [(((one b1).2.1.1), A4, (one b1).2.1.2.length, c6)]) E23 := hO24
      obtain ⟨A20, c21, rfl⟩ := hO24.slice
      refine pxV (v := (.slice A20 ((L ++ [(((one b1).2.1.1), A4, (one b1).2.1.2.length, c6)]).length) c21)) (fun _ _ hF => opAssign rfl (hF.ev 0 rfl)) rfl (fun _ _ => rfl) (kM [false, true] rfl rfl) (by decide) ?_
      refine pxEnd ?_
      refine qxInN ?_
      replace hH : HH w0 [] [[bl g1 43 #[(.slice A9 ((one b1).2.2.length) c10)]], E23, Eb, E7] w := HH.sel hH [0, 2, 3, 1] rfl (by decide)
      replace hH : HH w0 [] [[bl g1 43 #[(.slice A9 ((one b1).2.2.length) c10)]], E23, (Eb ++ E7)] w := hH.cast (by simp)
      exact qxRound (((one b1).2.2), A9, c10, (L ++ [(((one b1).2.1.1), A4, (one b1).2.1.2.length, c6)]), A20, c21, E23, (Eb ++ E7), D ++ [(one b1).2.1]) ⟨hH, hV14, (hp.trans (prs_one hne hz)), hO24, (Bods.snoc hB hO18), (show (L ++ [(((one b1).2.1.1), A4, (one b1).2.1.2.length, c6)]).length + ((one b1).2.2).length ≤ b.length from (by rw [List.length_append]; show L.length + 1 + _ ≤ _; omega))⟩ hless (slots_at [1, 0] rfl)
  · have hnil : b1 = [] := List.eq_nil_of_length_eq_zero (by omega)
    refine cxExit ?_
    refine qxThenE ?_
    refine qxThenE ?_
    refine qxInE ?_
    refine qxThen ?_
    refine cxSeq ?_
    refine cxReg ?_
    refine pxV (v := (.slice Al L.length cl)) (fun _ _ hF => opMove rfl (hF.ev 2 rfl)) rfl (fun _ _ => rfl) (kM [false, false, false] rfl rfl) (by decide) ?_
    refine pxV (v := (.slice Al L.length cl)) (fun _ _ hF => opAssign rfl (hF.ev 0 rfl)) rfl (fun _ _ => rfl) (kM [false] rfl rfl) (by decide) ?_
    refine pxV (v := (.int .i64 0)) (fun _ _ hF => opAssign rfl rfl) rfl (fun _ _ => rfl) (kA rfl) (by decide) ?_
    refine pxEnd ?_
    refine qxThen ?_
    refine cxRet ?_
    refine qxRet2 1 0 rfl rfl rfl ?_
    have he : prs [] b = (0, D) := by rw [hp, hnil, prs_nil]
    exact ⟨_, _, rfl, ⟨(.slice Al L.length cl), (by rw [he]; first | done | rfl), (by rw [he]; exact ⟨_, _, _, rfl, hO, hB⟩)⟩, hH.out [false, true, true]⟩
end Go.Proofs.Ytjncbpmigpocbaa
