/- The document's Unbase64. -/
import Derived.Test.YtadbpmcmdcnlfaaArR
namespace Go.Proofs.Ytadbpmcmdcnlfaa
open Go Go.RowKit
set_option maxRecDepth 100000

/-- What the document's Unbase64 answers. -/
def UnPostR (r : Option (List UInt8)) (v : Value) (E' : Hl) : Prop :=
  (r = none ∧ v = .tuple #[.slice none 0 0, .int .i64 2] ∧ E' = []) ∨ ∃ b A c, r = some b ∧ v = .tuple #[.slice A b.length c, .int .i64 0] ∧ OwnT cByte 5 (.slice A b.length c) b E'

set_option maxHeartbeats 8000000 in
theorem runbase64_c (s : List UInt8) (hs : s.length ≤ 1099511627776) : Does Try.prog 6 #[(.string (strL s))] [] (fun _ => True) (fun v E' => UnPostR (unR s) v E') := by
  refine does_of (fn := Try.f6) Try.func6 rfl Try.ntmps6 (Nat.le_of_ble_eq_true rfl) rfl ?_
  intro w0 hH hR
  replace hH : HH w0 [] [] w0 := hH.only [false]
  refine cxSeq ?_
  refine cxReg ?_
  refine pxV (v := (.slice none 0 0)) (fun _ _ hF => opAssign rfl rfl) rfl (fun _ _ => rfl) (kA rfl) (by decide) ?_
  refine pxV (v := (.int .i64 0)) (fun _ _ hF => opAssign rfl rfl) rfl (fun _ _ => rfl) (kM [false, true] rfl rfl) (by decide) ?_
  refine pxEnd ?_
  refine qxThen ?_
  refine cxSeq ?_
  refine cxSeq ?_
  refine cxReg ?_
  refine pxV (v := (.string (strL s))) (fun _ _ hF => opMove rfl (hF.ev 1 rfl)) rfl (fun _ _ => rfl) (kM [false, true] rfl rfl) (by decide) ?_
  refine pxV (v := (.int .i64 (((s.length) : Nat) : Int))) (fun _ _ hF => opLenL (l := s) rfl (by kernel_rfl) (hF.ev 0 rfl)) rfl (fun _ _ => rfl) (kM [false, true] rfl rfl) (by decide) ?_
  refine pxV (v := (.int .i64 (((s.length % 4) : Nat) : Int))) (fun _ _ hF => opRem (z := ((s.length % 4 : Nat) : Int)) rfl (hF.ev 0 rfl) rfl (by omega) remN) rfl (fun _ _ => rfl) (kM [false, true] rfl rfl) (by decide) ?_
  refine pxV (v := (.bool (decide (s.length % 4 ≠ 0)))) (fun _ _ hF => opNeI rfl (hF.ev 0 rfl) rfl (dc (by omega))) rfl (fun _ _ => rfl) (kM [false, true] rfl rfl) (by decide) ?_
  refine pxEnd ?_
  refine qxThen ?_
  refine cxP 0 rfl rfl (fun hc1 => ?_) (fun hc1 => ?_)
  · refine cxSeq ?_
    refine cxReg ?_
    refine pxV (v := (.slice none 0 0)) (fun _ _ hF => opAssign rfl rfl) rfl (fun _ _ => rfl) (kM [false, false] rfl rfl) (by decide) ?_
    refine pxV (v := (.int .i64 2)) (fun _ _ hF => opAssign rfl rfl) rfl (fun _ _ => rfl) (kA rfl) (by decide) ?_
    refine pxEnd ?_
    refine qxThen ?_
    refine cxRet ?_
    refine qxThenR ?_
    refine qxRet2 1 0 rfl rfl rfl ?_
    exact ⟨_, _, rfl, .inl ⟨unR_len hc1, rfl, rfl⟩, hH.out []⟩
  · refine cxSkip ?_
    refine qxThen ?_
    refine cxSeq ?_
    refine cxReg ?_
    refine pxV (v := (.slice none 0 0)) (fun _ _ hF => opAssign rfl rfl) rfl (fun _ _ => rfl) (kM [false, true] rfl rfl) (by decide) ?_
    refine pxEnd ?_
    refine qxThen ?_
    refine cxSeq ?_
    refine cxSeq ?_
    refine cxReg ?_
    refine pxV (v := (.int .i64 0)) (fun _ _ hF => opAssign rfl rfl) rfl (fun _ _ => rfl) (kA rfl) (by decide) ?_
    refine pxEnd ?_
    refine qxThen ?_
    refine cxBlock ?_
    replace hH := HH.pad hH 1
    replace hH : HH w0 [] [[]] w0 := hH
    refine cxLoop (σ := Nat × (List UInt8) × (Option Addr) × Nat × Hl) (fun x => [(5, (.int .i64 (((x.1) : Nat) : Int))), (4, (.slice x.2.2.1 x.2.1.length x.2.2.2.1)), (0, (.string (strL s)))]) (fun x w => HH w0 [] [x.2.2.2.2] w ∧ (x.1 ≤ s.length) ∧ (x.1 % 4 = 0) ∧ (x.2.1.length ≤ x.1) ∧ ((ul (s.drop x.1)).map (x.2.1 ++ ·) = ul s) ∧ (OwnT cByte 5 (.slice x.2.2.1 x.2.1.length x.2.2.2.1) x.2.1 x.2.2.2.2)) (fun x => s.length - x.1) (0, [], none, 0, []) ⟨hH, Nat.zero_le _, rfl, Nat.le_refl _, (ul_start s), (OwnT.nil cByte 5)⟩ (slots_at [0, 1, 2] rfl) ?_
    clear hH
    rintro ⟨i, o, A1, c1, E⟩ w ⟨hH, hi, hi4, hol, hinv, hO⟩
    change CX _ _ _ _ [(5, (.int .i64 (((i) : Nat) : Int))), (4, (.slice A1 o.length c1)), (0, (.string (strL s)))] _
    replace hH : HH w0 [] [E] w := hH
    replace hi : i ≤ s.length := hi
    replace hi4 : i % 4 = 0 := hi4
    replace hol : o.length ≤ i := hol
    replace hinv : (ul (s.drop i)).map (o ++ ·) = ul s := hinv
    replace hO : OwnT cByte 5 (.slice A1 o.length c1) o E := hO
    have h4 : s.length % 4 = 0 := by omega
    refine cxSeq ?_
    refine cxSeq ?_
    refine cxReg ?_
    refine pxV (v := (.int .i64 (((i) : Nat) : Int))) (fun _ _ hF => opMove rfl (hF.ev 0 rfl)) rfl (fun _ _ => rfl) (kA rfl) (by decide) ?_
    refine pxV (v := (.string (strL s))) (fun _ _ hF => opMove rfl (hF.ev 3 rfl)) rfl (fun _ _ => rfl) (kA rfl) (by decide) ?_
    refine pxV (v := (.int .i64 (((s.length) : Nat) : Int))) (fun _ _ hF => opLenL (l := s) rfl (by kernel_rfl) (hF.ev 0 rfl)) rfl (fun _ _ => rfl) (kM [false, true, true, true, true] rfl rfl) (by decide) ?_
    refine pxV (v := (.bool (decide (i < s.length)))) (fun _ _ hF => opLss rfl (hF.ev 1 rfl) (hF.ev 0 rfl) (dc (by omega))) rfl (fun _ _ => rfl) (kM [false, false, true, true, true] rfl rfl) (by decide) ?_
    refine pxEnd ?_
    refine qxThen ?_
    refine cxP 0 rfl rfl (fun hc2 => ?_) (fun hc2 => ?_)
    · refine cxSkip ?_
      refine qxThen ?_
      refine cxSeq ?_
      refine cxBlock ?_
      refine cxSeq ?_
      refine cxReg ?_
      refine pxV (v := (.int .u32 0)) (fun _ _ hF => opAssign rfl rfl) rfl (fun _ _ => rfl) (kM [false, true, true, true] rfl rfl) (by decide) ?_
      refine pxEnd ?_
      refine qxThen ?_
      refine cxSeq ?_
      refine cxReg ?_
      refine pxV (v := (.int .i64 0)) (fun _ _ hF => opAssign rfl rfl) rfl (fun _ _ => rfl) (kA rfl) (by decide) ?_
      refine pxEnd ?_
      refine qxThen ?_
      refine cxSeq ?_
      refine cxSeq ?_
      refine cxReg ?_
      refine pxV (v := (.int .i64 0)) (fun _ _ hF => opMove rfl rfl) rfl (fun _ _ => rfl) (kA rfl) (by decide) ?_
      refine pxEnd ?_
      refine qxThen ?_
      refine cxBlock ?_
      refine cxLoop (σ := Nat × Nat × Nat) (fun x => [(22, (.int .i64 (((x.1) : Nat) : Int))), (7, (.int .i64 (((x.2.2) : Nat) : Int))), (6, (.int .u32 (((x.2.1) : Nat) : Int))), (5, (.int .i64 (((i) : Nat) : Int))), (4, (.slice A1 o.length c1)), (0, (.string (strL s)))]) (fun x w => HH w0 [] [E] w ∧ (x.1 ≤ 4) ∧ (x.2.1 < 2 ^ (6 * x.1)) ∧ (x.2.2 ≤ x.1) ∧ (us x.2.1 x.2.2 (((s.drop i).take 4).drop x.1) = us 0 0 ((s.drop i).take 4))) (fun x => 4 - x.1) (0, 0, 0) ⟨hH, Nat.zero_le _, (by decide), Nat.le_refl _, rfl⟩ (slots_at [0, 1, 2, 3, 4, 5] rfl) ?_
      clear hH
      rintro ⟨k, n, p⟩ w ⟨hH, hk, hn, hp, hus⟩
      change CX _ _ _ _ [(22, (.int .i64 (((k) : Nat) : Int))), (7, (.int .i64 (((p) : Nat) : Int))), (6, (.int .u32 (((n) : Nat) : Int))), (5, (.int .i64 (((i) : Nat) : Int))), (4, (.slice A1 o.length c1)), (0, (.string (strL s)))] _
      replace hH : HH w0 [] [E] w := hH
      replace hk : k ≤ 4 := hk
      replace hn : n < 2 ^ (6 * k) := hn
      replace hp : p ≤ k := hp
      replace hus : us n p (((s.drop i).take 4).drop k) = us 0 0 ((s.drop i).take 4) := hus
      refine cxSeq ?_
      refine cxReg ?_
      refine pxV (v := (.bool (decide (k < 4)))) (fun _ _ hF => opLss rfl (hF.ev 0 rfl) rfl (dc (by omega))) rfl (fun _ _ => rfl) (kA rfl) (by decide) ?_
      refine pxEnd ?_
      refine qxThen ?_
      refine cxSeq ?_
      refine cxP 0 rfl rfl (fun hc3 => ?_) (fun hc3 => ?_)
      · refine cxSkip ?_
        refine qxThen ?_
        refine cxSeq ?_
        refine cxBlock ?_
        refine cxSeq ?_
        obtain ⟨xs, hxs⟩ := get_at s (i + k) (by omega)
        have hbs := UInt8.toNat_lt xs
        have hpw := pw6 (n := n) (k := k) (v := 0) (by omega) (by decide) hn
        refine cxReg ?_
        refine pxV (v := (.int .i64 (((k) : Nat) : Int))) (fun _ _ hF => opMove rfl (hF.ev 1 rfl)) rfl (fun _ _ => rfl) (kM [false, true, true, true, true, true, true] rfl rfl) (by decide) ?_
        refine pxV (v := (.int .i64 (((k) : Nat) : Int))) (fun _ _ hF => opAssign rfl (hF.ev 0 rfl)) rfl (fun _ _ => rfl) (kM [false, true, true, true, true, true, true] rfl rfl) (by decide) ?_
        refine pxEnd ?_
        refine qxThen ?_
        refine cxSeq ?_
        refine cxReg ?_
        refine pxV (v := (.int .i64 (-1))) (fun _ _ hF => opAssign rfl rfl) rfl (fun _ _ => rfl) (kA rfl) (by decide) ?_
        refine pxEnd ?_
        refine qxThen ?_
        refine cxSeq ?_
        refine cxSeq ?_
        refine cxReg ?_
        refine pxV (v := (.int .i64 0)) (fun _ _ hF => opMove rfl rfl) rfl (fun _ _ => rfl) (kA rfl) (by decide) ?_
        refine pxEnd ?_
        refine qxThen ?_
        refine cxBlock ?_
        refine cxLoop (σ := Nat × Int) (fun x => [(25, (.int .i64 (((x.1) : Nat) : Int))), (22, (.int .i64 (((k) : Nat) : Int))), (9, (.int .i64 (x.2))), (8, (.int .i64 (((k) : Nat) : Int))), (7, (.int .i64 (((p) : Nat) : Int))), (6, (.int .u32 (((n) : Nat) : Int))), (5, (.int .i64 (((i) : Nat) : Int))), (4, (.slice A1 o.length c1)), (0, (.string (strL s)))]) (fun x w => HH w0 [] [E] w ∧ (x.1 ≤ 64) ∧ (x.2 = sgJ xs x.1)) (fun x => 64 - x.1) (0, -1) ⟨hH, Nat.zero_le _, (sgJ_zero xs).symm⟩ (slots_at [0, 3, 1, 2, 4, 5, 6, 7, 8] rfl) ?_
        clear hH
        rintro ⟨j, v⟩ w ⟨hH, hj, hv⟩
        change CX _ _ _ _ [(25, (.int .i64 (((j) : Nat) : Int))), (22, (.int .i64 (((k) : Nat) : Int))), (9, (.int .i64 (v))), (8, (.int .i64 (((k) : Nat) : Int))), (7, (.int .i64 (((p) : Nat) : Int))), (6, (.int .u32 (((n) : Nat) : Int))), (5, (.int .i64 (((i) : Nat) : Int))), (4, (.slice A1 o.length c1)), (0, (.string (strL s)))] _
        replace hH : HH w0 [] [E] w := hH
        replace hj : j ≤ 64 := hj
        replace hv : v = sgJ xs j := hv
        refine cxSeq ?_
        refine cxReg ?_
        refine pxV (v := (.bool (decide (j < 64)))) (fun _ _ hF => opLss rfl (hF.ev 0 rfl) rfl (dc (by omega))) rfl (fun _ _ => rfl) (kA rfl) (by decide) ?_
        refine pxEnd ?_
        refine qxThen ?_
        refine cxSeq ?_
        refine cxP 0 rfl rfl (fun hc4 => ?_) (fun hc4 => ?_)
        · refine cxSkip ?_
          refine qxThen ?_
          refine cxSeq ?_
          refine cxBlock ?_
          refine cxSeq ?_
          refine cxReg ?_
          refine pxV (v := (.int .i64 (((j) : Nat) : Int))) (fun _ _ hF => opMove rfl (hF.ev 1 rfl)) rfl (fun _ _ => rfl) (kM [false, true, true, true, true, true, true, true, true, true] rfl rfl) (by decide) ?_
          refine pxV (v := (.int .i64 (((j) : Nat) : Int))) (fun _ _ hF => opAssign rfl (hF.ev 0 rfl)) rfl (fun _ _ => rfl) (kM [false, true, true, true, true, true, true, true, true, true] rfl rfl) (by decide) ?_
          refine pxEnd ?_
          refine qxThen ?_
          refine cxSeq ?_
          refine cxRegX mixedOrders (by kernel_rfl) ?_
          replace hH := hH.drew
          refine rxV 0 rfl (by kernel_rfl) rfl (fun _ _ => rfl) (fun _ _ hF => opMove rfl (hF.ev 9 rfl)) (kA rfl) (by decide) (v := (.string (strL s))) ?_
          refine rxV 1 rfl (by kernel_rfl) rfl (fun _ _ => rfl) (fun _ _ hF => opMove rfl (hF.ev 8 rfl)) (kA rfl) (by decide) (v := (.int .i64 (((i) : Nat) : Int))) ?_
          refine rxV 2 rfl (by kernel_rfl) rfl (fun _ _ => rfl) (fun _ _ hF => opMove rfl (hF.ev 6 rfl)) (kA rfl) (by decide) (v := (.int .i64 (((k) : Nat) : Int))) ?_
          refine rxV 3 rfl (by kernel_rfl) rfl (fun _ _ => rfl) (fun _ _ hF => opAdd rfl (hF.ev 1 rfl) (hF.ev 0 rfl) (wI (by omega) (by omega) (by omega))) (kM [false, false, true, true, true, true, true, true, true, true, true, true, true] rfl rfl) (by decide) (v := (.int .i64 (((i + k) : Nat) : Int))) ?_
          refine rxV 4 rfl (by kernel_rfl) rfl (fun _ _ => rfl) (fun _ _ hF => opIdxL (l := s) (i := i + k) (c := xs) rfl (by kernel_rfl) (hF.ev 1 rfl) (hF.ev 0 rfl) rfl hxs) (kM [false, false, true, true, true, true, true, true, true, true, true, true] rfl rfl) (by decide) (v := (.int .u8 (((xs.toNat) : Nat) : Int))) ?_
          refine rxV 5 rfl (by kernel_rfl) rfl (fun _ _ => rfl) (fun _ _ hF => opMove rfl (hF.ev 1 rfl)) (kA rfl) (by decide) (v := (.int .i64 (((j) : Nat) : Int))) ?_
          refine rxV 6 rfl (by kernel_rfl) rfl (fun _ _ => rfl) (fun _ _ hF => opIdxL (l := sgnL) (i := j) (c := (sg j)) rfl (by kernel_rfl) rfl (hF.ev 0 rfl) rfl (sg_get (by omega))) (kM [false, true, true, true, true, true, true, true, true, true, true, true] rfl rfl) (by decide) (v := (.int .u8 ((((sg j).toNat) : Nat) : Int))) ?_
          refine rxV 7 rfl (by kernel_rfl) rfl (fun _ _ => rfl) (fun _ _ hF => opEqI rfl (hF.ev 1 rfl) (hF.ev 0 rfl) (dc (by omega))) (kM [false, false, true, true, true, true, true, true, true, true, true, true] rfl rfl) (by decide) (v := (.bool (decide (xs.toNat = (sg j).toNat)))) ?_
          refine rxEnd (by kernel_rfl) ?_
          refine qxThen ?_
          refine cxP 0 rfl rfl (fun hc5 => ?_) (fun hc5 => ?_)
          · refine cxReg ?_
            refine pxV (v := (.int .i64 (((j) : Nat) : Int))) (fun _ _ hF => opMove rfl (hF.ev 1 rfl)) rfl (fun _ _ => rfl) (kM [false, false, true, true, false, true, true, true, true, true, true] rfl rfl) (by decide) ?_
            refine pxV (v := (.int .i64 (((j) : Nat) : Int))) (fun _ _ hF => opAssign rfl (hF.ev 0 rfl)) rfl (fun _ _ => rfl) (kM [false, true, true, true, true, true, true, true, true] rfl rfl) (by decide) ?_
            refine pxEnd ?_
            refine qxInN ?_
            refine qxThen ?_
            refine cxReg ?_
            refine pxV (v := (.int .i64 (((j + 1) : Nat) : Int))) (fun _ _ hF => opAdd rfl (hF.ev 1 rfl) rfl (wI (by omega) (by omega) (by omega))) rfl (fun _ _ => rfl) (kM [true, false, true, true, true, true, true, true, true] rfl rfl) (by decide) ?_
            refine pxV (v := (.int .i64 (((j + 1) : Nat) : Int))) (fun _ _ hF => opMove rfl (hF.ev 0 rfl)) rfl (fun _ _ => rfl) (kM [false, true, true, true, true, true, true, true, true] rfl rfl) (by decide) ?_
            refine pxEnd ?_
            exact qxRound ((j + 1), j) ⟨hH, (show (j + 1) ≤ 64 from (by omega)), (show j = sgJ xs (j + 1) from (sgJ_hit (by omega) hc5).symm)⟩ (by show 64 - (j + 1) < 64 - j; omega) (slots_at [0, 2, 1, 3, 4, 5, 6, 7, 8] rfl)
          · refine cxSkip ?_
            refine qxInN ?_
            refine qxThen ?_
            refine cxReg ?_
            refine pxV (v := (.int .i64 (((j + 1) : Nat) : Int))) (fun _ _ hF => opAdd rfl (hF.ev 2 rfl) rfl (wI (by omega) (by omega) (by omega))) rfl (fun _ _ => rfl) (kM [false, false, false, true, true, true, true, true, true, true, true] rfl rfl) (by decide) ?_
            refine pxV (v := (.int .i64 (((j + 1) : Nat) : Int))) (fun _ _ hF => opMove rfl (hF.ev 0 rfl)) rfl (fun _ _ => rfl) (kM [false, true, true, true, true, true, true, true, true] rfl rfl) (by decide) ?_
            refine pxEnd ?_
            exact qxRound ((j + 1), v) ⟨hH, (show (j + 1) ≤ 64 from (by omega)), (show v = sgJ xs (j + 1) from (hv.trans (sgJ_miss (by omega) hc5).symm))⟩ (by show 64 - (j + 1) < 64 - j; omega) (slots_at [0, 1, 2, 3, 4, 5, 6, 7, 8] rfl)
        · refine cxExit ?_
          refine qxThenE ?_
          refine qxThenE ?_
          refine qxInE ?_
          refine qxThen ?_
          refine cxSeq ?_
          refine cxSeq ?_
          refine cxReg ?_
          refine pxV (v := (.string (strL s))) (fun _ _ hF => opMove rfl (hF.ev 9 rfl)) rfl (fun _ _ => rfl) (kM [false, false, true, true, true, true, true, true, true, true] rfl rfl) (by decide) ?_
          refine pxV (v := (.int .i64 (((i) : Nat) : Int))) (fun _ _ hF => opMove rfl (hF.ev 6 rfl)) rfl (fun _ _ => rfl) (kA rfl) (by decide) ?_
          refine pxV (v := (.int .i64 (((k) : Nat) : Int))) (fun _ _ hF => opMove rfl (hF.ev 4 rfl)) rfl (fun _ _ => rfl) (kM [true, true, true, true, false, true, true, true, true, true] rfl rfl) (by decide) ?_
          refine pxV (v := (.int .i64 (((i + k) : Nat) : Int))) (fun _ _ hF => opAdd rfl (hF.ev 1 rfl) (hF.ev 0 rfl) (wI (by omega) (by omega) (by omega))) rfl (fun _ _ => rfl) (kM [false, false, true, true, true, true, true, true, true, true] rfl rfl) (by decide) ?_
          refine pxV (v := (.int .u8 (((xs.toNat) : Nat) : Int))) (fun _ _ hF => opIdxL (l := s) (i := i + k) (c := xs) rfl (by kernel_rfl) (hF.ev 1 rfl) (hF.ev 0 rfl) rfl hxs) rfl (fun _ _ => rfl) (kM [false, false, true, true, true, true, true, true, true] rfl rfl) (by decide) ?_
          refine pxV (v := (.bool (decide (xs.toNat = 61)))) (fun _ _ hF => opEqI rfl (hF.ev 0 rfl) rfl (dc (by omega))) rfl (fun _ _ => rfl) (kM [false, true, true, true, true, true, true, true] rfl rfl) (by decide) ?_
          refine pxEnd ?_
          refine qxThen ?_
          refine cxP 0 rfl rfl (fun hc6 => ?_) (fun hc6 => ?_)
          · refine cxSeq ?_
            refine cxReg ?_
            refine pxV (v := (.int .i64 (((p) : Nat) : Int))) (fun _ _ hF => opMove rfl (hF.ev 3 rfl)) rfl (fun _ _ => rfl) (kM [false, true, false, false, true, true, true, true] rfl rfl) (by decide) ?_
            refine pxV (v := (.int .i64 (((p + 1) : Nat) : Int))) (fun _ _ hF => opAdd rfl (hF.ev 0 rfl) rfl (wI (by omega) (by omega) (by omega))) rfl (fun _ _ => rfl) (kM [false, true, true, true, true, true] rfl rfl) (by decide) ?_
            refine pxV (v := (.int .i64 (((p + 1) : Nat) : Int))) (fun _ _ hF => opAssign rfl (hF.ev 0 rfl)) rfl (fun _ _ => rfl) (kM [false, true, true, true, true, true] rfl rfl) (by decide) ?_
            refine pxEnd ?_
            refine qxThen ?_
            refine cxReg ?_
            refine pxV (v := (.int .i64 0)) (fun _ _ hF => opAssign rfl rfl) rfl (fun _ _ => rfl) (kA rfl) (by decide) ?_
            refine pxEnd ?_
            refine qxThen ?_
            refine cxSeq ?_
            refine cxSeq ?_
            · refine cxReg ?_
              refine pxV (v := (.int .i64 0)) (fun _ _ hF => opMove rfl (hF.ev 0 rfl)) rfl (fun _ _ => rfl) (kA rfl) (by decide) ?_
              refine pxV (v := (.bool false)) (fun _ _ hF => opLss rfl (hF.ev 0 rfl) rfl (by decide)) rfl (fun _ _ => rfl) (kM [false, true, true, true, true, true, true, true] rfl rfl) (by decide) ?_
              refine pxEnd ?_
              refine qxThen ?_
              refine cxF 0 rfl rfl ?_
              refine cxSkip ?_
              refine qxThen ?_
              refine cxReg ?_
              refine pxV (v := (.int .u32 (((n) : Nat) : Int))) (fun _ _ hF => opMove rfl (hF.ev 4 rfl)) rfl (fun _ _ => rfl) (kM [false, true, true, true, false, true, true, true] rfl rfl) (by decide) ?_
              refine pxV (v := (.int .u32 (((n * 64) : Nat) : Int))) (fun _ _ hF => opShlU (n := 6) (z := (n * 64)) rfl rfl (hF.ev 0 rfl) rfl (leb rfl) (by show (n * 2 ^ 6) % 4294967296 = _; omega)) rfl (fun _ _ => rfl) (kM [false, true, true, true, true, true, true] rfl rfl) (by decide) ?_
              refine pxV (v := (.int .i64 0)) (fun _ _ hF => opMove rfl (hF.ev 1 rfl)) rfl (fun _ _ => rfl) (kM [true, false, true, true, true, true, true] rfl rfl) (by decide) ?_
              refine pxV (v := (.int .u32 0)) (fun _ _ hF => opConvU (k' := .u32) (m := 0) rfl rfl (by kernel_rfl) (by kernel_rfl) (hF.ev 0 rfl) (Nat.mod_eq_of_lt (by show _ < 4294967296; omega))) rfl (fun _ _ => rfl) (kM [false, true, true, true, true, true, true] rfl rfl) (by decide) ?_
              refine pxV (v := (.int .u32 (((n * 64) : Nat) : Int))) (fun _ _ hF => opOrU (m := n * 64) (j := 0) (z := (n * 64)) rfl rfl (hF.ev 1 rfl) (hF.ev 0 rfl) (by show _ < 4294967296; omega) (by decide) (Nat.or_zero _)) rfl (fun _ _ => rfl) (kM [false, false, true, true, true, true, true] rfl rfl) (by decide) ?_
              refine pxV (v := (.int .u32 (((n * 64) : Nat) : Int))) (fun _ _ hF => opAssign rfl (hF.ev 0 rfl)) rfl (fun _ _ => rfl) (kM [false, true, true, true, true, true] rfl rfl) (by decide) ?_
              refine pxEnd ?_
              refine qxInN ?_
              refine qxThen ?_
              refine cxReg ?_
              refine pxV (v := (.int .i64 (((k + 1) : Nat) : Int))) (fun _ _ hF => opAdd rfl (hF.ev 2 rfl) rfl (wI (by omega) (by omega) (by omega))) rfl (fun _ _ => rfl) (kM [true, true, false, true, true, true] rfl rfl) (by decide) ?_
              refine pxV (v := (.int .i64 (((k + 1) : Nat) : Int))) (fun _ _ hF => opMove rfl (hF.ev 0 rfl)) rfl (fun _ _ => rfl) (kM [false, true, true, true, true, true] rfl rfl) (by decide) ?_
              refine pxEnd ?_
              exact qxRound ((k + 1), n * 64, p + 1) ⟨hH, (show (k + 1) ≤ 4 from (by omega)), (show (n * 64) < 2 ^ (6 * (k + 1)) from (pw6 (v := 0) (by omega) (by decide) hn).2), (show (p + 1) ≤ (k + 1) from (by omega)), (show us (n * 64) (p + 1) (((s.drop i).take 4).drop (k + 1)) = us 0 0 ((s.drop i).take 4) from (by rw [four_drop (by omega) hxs] at hus; exact us_go_fill (by omega) hus))⟩ (by show 4 - (k + 1) < 4 - k; omega) (slots_at [0, 2, 1, 3, 4, 5] rfl)
          · refine cxSeq ?_
            refine cxReg ?_
            refine pxV (v := (.int .i64 (((p) : Nat) : Int))) (fun _ _ hF => opMove rfl (hF.ev 3 rfl)) rfl (fun _ _ => rfl) (kM [false, true, true, true, true, true, true, true] rfl rfl) (by decide) ?_
            refine pxV (v := (.bool (decide (p > 0)))) (fun _ _ hF => opGtr rfl (hF.ev 0 rfl) rfl (dc (by omega))) rfl (fun _ _ => rfl) (kM [false, true, true, true, true, true, true, true] rfl rfl) (by decide) ?_
            refine pxEnd ?_
            refine qxThen ?_
            refine cxP 0 rfl rfl (fun hc7 => ?_) (fun hc7 => ?_)
            · refine cxSeq ?_
              refine cxReg ?_
              refine pxV (v := (.slice none 0 0)) (fun _ _ hF => opAssign rfl rfl) rfl (fun _ _ => rfl) (kM [false, false, false, false, false, false, false, false] rfl rfl) (by decide) ?_
              refine pxV (v := (.int .i64 2)) (fun _ _ hF => opAssign rfl rfl) rfl (fun _ _ => rfl) (kA rfl) (by decide) ?_
              refine pxEnd ?_
              refine qxThen ?_
              refine cxRet ?_
              refine qxThenR ?_
              refine qxInR ?_
              refine qxThenR ?_
              refine qxThenR ?_
              refine qxInR ?_
              refine qxThenR ?_
              refine qxInR ?_
              refine qxThenR ?_
              refine qxThenR ?_
              refine qxInR ?_
              refine qxThenR ?_
              refine qxRet2 1 0 rfl rfl rfl ?_
              exact ⟨_, _, rfl, .inl ⟨unR_none (map_none hinv (ul_none (by omega) (by rw [four_drop (by omega) hxs] at hus; exact us_no_more hc6 hc7 hus))), rfl, rfl⟩, hH.out [false]⟩
            · refine cxSkip ?_
              refine qxThen ?_
              refine cxSeq ?_
              refine cxSeq ?_
              have ev : v = if sgI xs < 64 then ((sgI xs : Nat) : Int) else -1 := by have e : j = 64 := (by omega); subst e; exact hv
              rcases Nat.lt_or_ge (sgI xs) 64 with hsg | hsg
              · rw [if_pos hsg] at ev
                subst ev
                refine cxReg ?_
                refine pxV (v := (.int .i64 (((sgI xs) : Nat) : Int))) (fun _ _ hF => opMove rfl (hF.ev 2 rfl)) rfl (fun _ _ => rfl) (kM [false, true, true, true, true, true, true, true] rfl rfl) (by decide) ?_
                refine pxV (v := (.bool false)) (fun _ _ hF => opLss rfl (hF.ev 0 rfl) rfl (decide_eq_false (by omega))) rfl (fun _ _ => rfl) (kM [false, true, true, true, true, true, true, true] rfl rfl) (by decide) ?_
                refine pxEnd ?_
                refine qxThen ?_
                refine cxF 0 rfl rfl ?_
                refine cxSkip ?_
                refine qxThen ?_
                refine cxReg ?_
                refine pxV (v := (.int .u32 (((n) : Nat) : Int))) (fun _ _ hF => opMove rfl (hF.ev 4 rfl)) rfl (fun _ _ => rfl) (kM [false, true, true, true, false, true, true, true] rfl rfl) (by decide) ?_
                refine pxV (v := (.int .u32 (((n * 64) : Nat) : Int))) (fun _ _ hF => opShlU (n := 6) (z := (n * 64)) rfl rfl (hF.ev 0 rfl) rfl (leb rfl) (by show (n * 2 ^ 6) % 4294967296 = _; omega)) rfl (fun _ _ => rfl) (kM [false, true, true, true, true, true, true] rfl rfl) (by decide) ?_
                refine pxV (v := (.int .i64 (((sgI xs) : Nat) : Int))) (fun _ _ hF => opMove rfl (hF.ev 2 rfl)) rfl (fun _ _ => rfl) (kM [true, true, false, true, true, true, true] rfl rfl) (by decide) ?_
                refine pxV (v := (.int .u32 (((sgI xs) : Nat) : Int))) (fun _ _ hF => opConvU (k' := .u32) (m := sgI xs) rfl rfl (by kernel_rfl) (by kernel_rfl) (hF.ev 0 rfl) (Nat.mod_eq_of_lt (by show _ < 4294967296; omega))) rfl (fun _ _ => rfl) (kM [false, true, true, true, true, true, true] rfl rfl) (by decide) ?_
                refine pxV (v := (.int .u32 (((n * 64 + sgI xs) : Nat) : Int))) (fun _ _ hF => opOrU (m := n * 64) (j := sgI xs) (z := (n * 64 + sgI xs)) rfl rfl (hF.ev 1 rfl) (hF.ev 0 rfl) (by show _ < 4294967296; omega) (by show _ < 4294967296; omega) (orN (k := 6) hsg)) rfl (fun _ _ => rfl) (kM [false, false, true, true, true, true, true] rfl rfl) (by decide) ?_
                refine pxV (v := (.int .u32 (((n * 64 + sgI xs) : Nat) : Int))) (fun _ _ hF => opAssign rfl (hF.ev 0 rfl)) rfl (fun _ _ => rfl) (kM [false, true, true, true, true, true] rfl rfl) (by decide) ?_
                refine pxEnd ?_
                refine qxInN ?_
                refine qxThen ?_
                refine cxReg ?_
                refine pxV (v := (.int .i64 (((k + 1) : Nat) : Int))) (fun _ _ hF => opAdd rfl (hF.ev 1 rfl) rfl (wI (by omega) (by omega) (by omega))) rfl (fun _ _ => rfl) (kM [true, false, true, true, true, true] rfl rfl) (by decide) ?_
                refine pxV (v := (.int .i64 (((k + 1) : Nat) : Int))) (fun _ _ hF => opMove rfl (hF.ev 0 rfl)) rfl (fun _ _ => rfl) (kM [false, true, true, true, true, true] rfl rfl) (by decide) ?_
                refine pxEnd ?_
                exact qxRound ((k + 1), n * 64 + sgI xs, p) ⟨hH, (show (k + 1) ≤ 4 from (by omega)), (show (n * 64 + sgI xs) < 2 ^ (6 * (k + 1)) from (pw6 (by omega) hsg hn).2), (show p ≤ (k + 1) from (by omega)), (show us (n * 64 + sgI xs) p (((s.drop i).take 4).drop (k + 1)) = us 0 0 ((s.drop i).take 4) from (by rw [four_drop (by omega) hxs] at hus; exact us_go hc6 hc7 hsg hus))⟩ (by show 4 - (k + 1) < 4 - k; omega) (slots_at [0, 2, 1, 3, 4, 5] rfl)
              · rw [if_neg (by omega)] at ev
                subst ev
                refine cxReg ?_
                refine pxV (v := (.int .i64 (-1))) (fun _ _ hF => opMove rfl (hF.ev 2 rfl)) rfl (fun _ _ => rfl) (kM [false, true, true, true, true, true, true, true] rfl rfl) (by decide) ?_
                refine pxV (v := (.bool true)) (fun _ _ hF => opLss rfl (hF.ev 0 rfl) rfl (decide_eq_true (by decide))) rfl (fun _ _ => rfl) (kM [false, true, true, true, true, true, true, true] rfl rfl) (by decide) ?_
                refine pxEnd ?_
                refine qxThen ?_
                refine cxT 0 rfl rfl ?_
                refine cxSeq ?_
                refine cxReg ?_
                refine pxV (v := (.slice none 0 0)) (fun _ _ hF => opAssign rfl rfl) rfl (fun _ _ => rfl) (kM [false, false, false, false, false, false, false, false] rfl rfl) (by decide) ?_
                refine pxV (v := (.int .i64 2)) (fun _ _ hF => opAssign rfl rfl) rfl (fun _ _ => rfl) (kA rfl) (by decide) ?_
                refine pxEnd ?_
                refine qxThen ?_
                refine cxRet ?_
                refine qxThenR ?_
                refine qxInR ?_
                refine qxThenR ?_
                refine qxThenR ?_
                refine qxInR ?_
                refine qxThenR ?_
                refine qxInR ?_
                refine qxThenR ?_
                refine qxThenR ?_
                refine qxInR ?_
                refine qxThenR ?_
                refine qxRet2 1 0 rfl rfl rfl ?_
                exact ⟨_, _, rfl, .inl ⟨unR_none (map_none hinv (ul_none (by omega) (by rw [four_drop (by omega) hxs] at hus; exact us_no_sign hc6 hsg hus))), rfl, rfl⟩, hH.out [false]⟩
      · refine cxExit ?_
        refine qxThenE ?_
        refine qxThenE ?_
        refine qxInE ?_
        refine qxThen ?_
        refine cxSeq ?_
        refine cxSeq ?_
        have hk4 : k = 4 := by omega
        have hus4 : us n p (((s.drop i).take 4).drop 4) = us 0 0 ((s.drop i).take 4) := by rw [hk4] at hus; exact hus
        have hn24 : n < 16777216 := by rw [hk4] at hn; exact hn
        refine cxReg ?_
        refine pxV (v := (.int .i64 (((p) : Nat) : Int))) (fun _ _ hF => opMove rfl (hF.ev 2 rfl)) rfl (fun _ _ => rfl) (kM [false, false, true, true, true, true, true] rfl rfl) (by decide) ?_
        refine pxV (v := (.bool (decide (p > 2)))) (fun _ _ hF => opGtr rfl (hF.ev 0 rfl) rfl (dc (by omega))) rfl (fun _ _ => rfl) (kM [false, true, true, true, true, true] rfl rfl) (by decide) ?_
        refine pxV (v := (.bool (decide (p > 2)))) (fun _ _ hF => opMove rfl (hF.ev 0 rfl)) rfl (fun _ _ => rfl) (kM [false, true, true, true, true, true] rfl rfl) (by decide) ?_
        refine pxSplitP 0 rfl (l1 := [(58, (.bool true)), (7, (.int .i64 (((p) : Nat) : Int))), (6, (.int .u32 (((n) : Nat) : Int))), (5, (.int .i64 (((i) : Nat) : Int))), (4, (.slice A1 o.length c1)), (0, (.string (strL s)))]) (l2 := [(58, (.bool false)), (7, (.int .i64 (((p) : Nat) : Int))), (6, (.int .u32 (((n) : Nat) : Int))), (5, (.int .i64 (((i) : Nat) : Int))), (4, (.slice A1 o.length c1)), (0, (.string (strL s)))]) rfl rfl (fun hg8 => ?_) (fun hg8 => ?_)
        · refine pxU rfl (gOff 0 rfl rfl rfl (by decide)) (kA rfl) (by decide) ?_
          refine pxU rfl (gOff 0 rfl rfl rfl (by decide)) (kA rfl) (by decide) ?_
          refine pxUK rfl (gOff 0 rfl rfl rfl (by decide)) (kA rfl) (by decide) ?_
          refine pxU rfl (gOffU 0 rfl rfl rfl) (kA rfl) (by decide) ?_
          refine pxU rfl (gOffU 0 rfl rfl rfl) (kA rfl) (by decide) ?_
          refine pxU rfl (gOffU 0 rfl rfl rfl) (kA rfl) (by decide) ?_
          refine pxU rfl (gOffU 0 rfl rfl rfl) (kA rfl) (by decide) ?_
          refine pxU rfl (gOffU 0 rfl rfl rfl) (kA rfl) (by decide) ?_
          refine pxU rfl (gOff 1 rfl rfl rfl (by decide)) (kM [false, true, true, true, true, true, true] rfl rfl) (by decide) ?_
          refine pxV (v := (.bool true)) (fun _ _ hF => opPickT rfl (hF.ev 0 rfl) rfl) rfl (fun _ _ => rfl) (kM [false, true, true, true, true, true] rfl rfl) (by decide) ?_
          refine pxEnd ?_
          refine qxThen ?_
          refine cxT 0 rfl rfl ?_
          refine cxSeq ?_
          refine cxReg ?_
          refine pxV (v := (.slice none 0 0)) (fun _ _ hF => opAssign rfl rfl) rfl (fun _ _ => rfl) (kM [false, false, false, false, false, false] rfl rfl) (by decide) ?_
          refine pxV (v := (.int .i64 2)) (fun _ _ hF => opAssign rfl rfl) rfl (fun _ _ => rfl) (kA rfl) (by decide) ?_
          refine pxEnd ?_
          refine qxThen ?_
          refine cxRet ?_
          refine qxThenR ?_
          refine qxInR ?_
          refine qxThenR ?_
          refine qxThenR ?_
          refine qxInR ?_
          refine qxThenR ?_
          refine qxRet2 1 0 rfl rfl rfl ?_
          exact ⟨_, _, rfl, .inl ⟨unR_none (ul_bad (by omega) (us_end hus4) (by rw [drop_ne]; omega) hinv), rfl, rfl⟩, hH.out [false]⟩
        · refine pxV (v := (.int .i64 (((p) : Nat) : Int))) (fun _ _ hF => opMove rfl (hF.ev 1 rfl)) rfl (gOn 0 rfl rfl rfl (by decide)) (kA rfl) (by decide) ?_
          refine pxV (v := (.bool (decide (p > 0)))) (fun _ _ hF => opGtr rfl (hF.ev 0 rfl) rfl (dc (by omega))) rfl (gOn 1 rfl rfl rfl (by decide)) (kM [false, true, true, true, true, true, true] rfl rfl) (by decide) ?_
          refine pxV (v := (.bool (decide (p > 0)))) (fun _ _ hF => opMove rfl (hF.ev 0 rfl)) rfl (gOn 1 rfl rfl rfl (by decide)) (kM [false, true, true, true, true, true, true] rfl rfl) (by decide) ?_
          refine pxSplitP 0 rfl (l1 := [(61, (.bool true)), (58, (.bool false)), (7, (.int .i64 (((p) : Nat) : Int))), (6, (.int .u32 (((n) : Nat) : Int))), (5, (.int .i64 (((i) : Nat) : Int))), (4, (.slice A1 o.length c1)), (0, (.string (strL s)))]) (l2 := [(61, (.bool false)), (58, (.bool false)), (7, (.int .i64 (((p) : Nat) : Int))), (6, (.int .u32 (((n) : Nat) : Int))), (5, (.int .i64 (((i) : Nat) : Int))), (4, (.slice A1 o.length c1)), (0, (.string (strL s)))]) rfl rfl (fun hg9 => ?_) (fun hg9 => ?_)
          · refine pxV (v := (.int .i64 (((i) : Nat) : Int))) (fun _ _ hF => opMove rfl (hF.ev 4 rfl)) rfl (gOn 0 rfl rfl rfl (by decide)) (kA rfl) (by decide) ?_
            refine pxV (v := (.int .i64 (((i + 4) : Nat) : Int))) (fun _ _ hF => opAdd rfl (hF.ev 0 rfl) rfl (wI (by omega) (by omega) (by omega))) rfl (gOn 1 rfl rfl rfl (by decide)) (kM [false, true, true, true, true, true, true, true] rfl rfl) (by decide) ?_
            refine pxV (v := (.string (strL s))) (fun _ _ hF => opMove rfl (hF.ev 7 rfl)) rfl (gOn 1 rfl rfl rfl (by decide)) (kA rfl) (by decide) ?_
            refine pxV (v := (.int .i64 (((s.length) : Nat) : Int))) (fun _ _ hF => opLenL (l := s) rfl (by kernel_rfl) (hF.ev 0 rfl)) rfl (gOn 2 rfl rfl rfl (by decide)) (kM [false, true, true, true, true, true, true, true, true] rfl rfl) (by decide) ?_
            refine pxV (v := (.bool (decide (i + 4 < s.length)))) (fun _ _ hF => opLss rfl (hF.ev 1 rfl) (hF.ev 0 rfl) (dc (by omega))) rfl (gOn 2 rfl rfl rfl (by decide)) (kM [false, false, true, true, true, true, true, true, true] rfl rfl) (by decide) ?_
            refine pxV (v := (.bool (decide (i + 4 < s.length)))) (fun _ _ hF => opPickT rfl (hF.ev 1 rfl) (hF.ev 0 rfl)) rfl (gOn 2 rfl rfl rfl (by decide)) (kM [false, false, true, true, true, true, true, true] rfl rfl) (by decide) ?_
            refine pxV (v := (.bool (decide (i + 4 < s.length)))) (fun _ _ hF => opPickF rfl (hF.ev 1 rfl) (hF.ev 0 rfl)) rfl (fun _ _ => rfl) (kM [false, false, true, true, true, true, true] rfl rfl) (by decide) ?_
            refine pxEnd ?_
            refine qxThen ?_
            refine cxP 0 rfl rfl (fun hc10 => ?_) (fun hc10 => ?_)
            · refine cxSeq ?_
              refine cxReg ?_
              refine pxV (v := (.slice none 0 0)) (fun _ _ hF => opAssign rfl rfl) rfl (fun _ _ => rfl) (kM [false, false, false, false, false, false] rfl rfl) (by decide) ?_
              refine pxV (v := (.int .i64 2)) (fun _ _ hF => opAssign rfl rfl) rfl (fun _ _ => rfl) (kA rfl) (by decide) ?_
              refine pxEnd ?_
              refine qxThen ?_
              refine cxRet ?_
              refine qxThenR ?_
              refine qxInR ?_
              refine qxThenR ?_
              refine qxThenR ?_
              refine qxInR ?_
              refine qxThenR ?_
              refine qxRet2 1 0 rfl rfl rfl ?_
              exact ⟨_, _, rfl, .inl ⟨unR_none (ul_bad (by omega) (us_end hus4) (by rw [drop_ne]; omega) hinv), rfl, rfl⟩, hH.out [false]⟩
            · refine cxSkip ?_
              refine qxThen ?_
              refine cxSeq ?_
              have hpok : ¬ (2 < p ∨ 0 < p ∧ s.drop (i + 4) ≠ []) := by rw [drop_ne]; omega
              refine cxReg ?_
              refine pxV (v := (.int .u32 (((n) : Nat) : Int))) (fun _ _ hF => opMove rfl (hF.ev 2 rfl)) rfl (fun _ _ => rfl) (kM [false, true, true, true, true, true] rfl rfl) (by decide) ?_
              refine pxV (v := (.int .u32 (((n / 65536) : Nat) : Int))) (fun _ _ hF => opShrU (n := 16) (z := (n / 65536)) rfl (hF.ev 0 rfl) rfl (leb rfl) (rfl)) rfl (fun _ _ => rfl) (kM [false, true, true, true, true, true] rfl rfl) (by decide) ?_
              refine pxV (v := (.int .u8 ((((UInt8.ofNat (n / 65536)).toNat) : Nat) : Int))) (fun _ _ hF => opConvU (k' := .u8) rfl rfl (by kernel_rfl) (by kernel_rfl) (hF.ev 0 rfl) (UInt8.toNat_ofNat' (n := n / 65536)).symm) rfl (fun _ _ => rfl) (kM [false, true, true, true, true, true] rfl rfl) (by decide) ?_
              refine pxV (v := (.int .u32 (((n) : Nat) : Int))) (fun _ _ hF => opMove rfl (hF.ev 2 rfl)) rfl (fun _ _ => rfl) (kA rfl) (by decide) ?_
              refine pxV (v := (.int .u32 (((n / 256) : Nat) : Int))) (fun _ _ hF => opShrU (n := 8) (z := (n / 256)) rfl (hF.ev 0 rfl) rfl (leb rfl) (rfl)) rfl (fun _ _ => rfl) (kM [false, true, true, true, true, true, true] rfl rfl) (by decide) ?_
              refine pxV (v := (.int .u8 ((((UInt8.ofNat (n / 256)).toNat) : Nat) : Int))) (fun _ _ hF => opConvU (k' := .u8) rfl rfl (by kernel_rfl) (by kernel_rfl) (hF.ev 0 rfl) (UInt8.toNat_ofNat' (n := n / 256)).symm) rfl (fun _ _ => rfl) (kM [false, true, true, true, true, true, true] rfl rfl) (by decide) ?_
              refine pxV (v := (.int .u32 (((n) : Nat) : Int))) (fun _ _ hF => opMove rfl (hF.ev 3 rfl)) rfl (fun _ _ => rfl) (kM [true, true, true, false, true, true, true] rfl rfl) (by decide) ?_
              refine pxV (v := (.int .u8 ((((UInt8.ofNat n).toNat) : Nat) : Int))) (fun _ _ hF => opConvU (k' := .u8) rfl rfl (by kernel_rfl) (by kernel_rfl) (hF.ev 0 rfl) (UInt8.toNat_ofNat' (n := n)).symm) rfl (fun _ _ => rfl) (kM [false, true, true, true, true, true, true] rfl rfl) (by decide) ?_
              refine pxM hH (fun _ hF => smLits (C := cByte) (e := 5) (z := (.int .u8 0)) (by_ := 1) [(UInt8.ofNat (n / 65536)), (UInt8.ofNat (n / 256)), (UInt8.ofNat n)] rfl (by kernel_rfl) (by kernel_rfl) (EvP.cons (v := cByte.val (UInt8.ofNat (n / 65536))) (hF.ev 2 rfl) (EvP.cons (v := cByte.val (UInt8.ofNat (n / 256))) (hF.ev 1 rfl) (EvP.cons (v := cByte.val (UInt8.ofNat n)) (hF.ev 0 rfl) EvP.nil))) rfl (ltb rfl) (leb rfl) rfl) trivial rfl (fun _ _ => rfl) (kM [false, false, false, true, true, true, true] rfl rfl) (by decide) ?_
              clear hH
              rintro _ _ w ⟨g11, rfl, rfl⟩ hH
              replace hH : HH w0 [] [E, [bl g11 5 (flat cByte [(UInt8.ofNat (n / 65536)), (UInt8.ofNat (n / 256)), (UInt8.ofNat n)]).toArray]] w := hH
              refine pxV (v := (.slice (some ⟨g11, 0, none⟩) 3 3)) (fun _ _ hF => opAssign rfl (hF.ev 0 rfl)) rfl (fun _ _ => rfl) (kM [false, true, true, true, true] rfl rfl) (by decide) ?_
              refine pxEnd ?_
              refine qxThen ?_
              refine cxReg ?_
              refine pxV (v := (.slice A1 o.length c1)) (fun _ _ hF => opMove rfl (hF.ev 3 rfl)) rfl (fun _ _ => rfl) (kM [true, true, true, false, true] rfl rfl) (by decide) ?_
              refine pxV (v := (.slice (some ⟨g11, 0, none⟩) 3 3)) (fun _ _ hF => opMove rfl (hF.ev 1 rfl)) rfl (fun _ _ => rfl) (kM [true, false, true, true, true] rfl rfl) (by decide) ?_
              refine pxV (v := (.int .i64 (((p) : Nat) : Int))) (fun _ _ hF => opMove rfl (hF.ev 2 rfl)) rfl (fun _ _ => rfl) (kM [true, true, false, true, true] rfl rfl) (by decide) ?_
              refine pxV (v := (.int .i64 ((((3 - p)) : Nat) : Int))) (fun _ _ hF => opSub rfl rfl (hF.ev 0 rfl) (wI (by omega) (by omega) (by omega))) rfl (fun _ _ => rfl) (kM [false, true, true, true, true] rfl rfl) (by decide) ?_
              refine pxV (v := (.slice (some ⟨g11, 0, none⟩) (3 - p) 3)) (fun _ _ hF => opCutH (h := (3 - p)) (e := 5) (sz := 1) rfl (by kernel_rfl) (by kernel_rfl) (hF.ev 1 rfl) (hF.ev 0 rfl) rfl (by omega)) rfl (fun _ _ => rfl) (kM [false, false, true, true, true] rfl rfl) (by decide) ?_
              refine pxE 0 hH rfl (fun _ hF => smAppT (C := cByte) (l := o) (m := ([(UInt8.ofNat (n / 65536)), (UInt8.ofNat (n / 256)), (UInt8.ofNat n)].take (3 - p))) (e := 5) (z := (.int .u8 0)) (by_ := 1) rfl (by kernel_rfl) (by kernel_rfl) rfl (ltb rfl) (hF.ev 1 rfl) hO (hF.ev 0 rfl) (by rw [List.length_take]; exact Nat.min_eq_left (by show 3 - p ≤ 3; omega)) (fun h => by cases h) (by unfold maxLen; omega) (by omega)) (((Bk.lits (C := cByte) [(UInt8.ofNat (n / 65536)), (UInt8.ofNat (n / 256)), (UInt8.ofNat n)] (by show 3 ≤ _; unfold maxLen; decide)).vu (n := 3) (hH.blk 1 rfl) rfl).head (m := (3 - p)) (by omega)) rfl (fun _ _ => rfl) (kM [false, false, true, true] rfl rfl) (by decide) ?_
              clear hH
              rintro v14 E15 w ⟨hO16, _⟩ hH
              replace hH : HH w0 [] [E15, [bl g11 5 (flat cByte [(UInt8.ofNat (n / 65536)), (UInt8.ofNat (n / 256)), (UInt8.ofNat n)]).toArray]] w := hH
              replace hO16 : OwnT cByte 5 v14 (o ++ ([(UInt8.ofNat (n / 65536)), (UInt8.ofNat (n / 256)), (UInt8.ofNat n)].take (3 - p))) E15 := hO16
              obtain ⟨A12, c13, rfl⟩ := hO16.slice
              refine pxV (v := (.slice A12 ((o ++ ([(UInt8.ofNat (n / 65536)), (UInt8.ofNat (n / 256)), (UInt8.ofNat n)].take (3 - p))).length) c13)) (fun _ _ hF => opAssign rfl (hF.ev 0 rfl)) rfl (fun _ _ => rfl) (kM [false, true, true] rfl rfl) (by decide) ?_
              refine pxEnd ?_
              refine qxInN ?_
              refine qxThen ?_
              refine cxReg ?_
              refine pxV (v := (.int .i64 (((i) : Nat) : Int))) (fun _ _ hF => opMove rfl (hF.ev 1 rfl)) rfl (fun _ _ => rfl) (kM [true, false, true] rfl rfl) (by decide) ?_
              refine pxV (v := (.int .i64 (((i + 4) : Nat) : Int))) (fun _ _ hF => opAdd rfl (hF.ev 0 rfl) rfl (wI (by omega) (by omega) (by omega))) rfl (fun _ _ => rfl) (kM [false, true, true] rfl rfl) (by decide) ?_
              refine pxV (v := (.int .i64 (((i + 4) : Nat) : Int))) (fun _ _ hF => opAssign rfl (hF.ev 0 rfl)) rfl (fun _ _ => rfl) (kM [false, true, true] rfl rfl) (by decide) ?_
              refine pxEnd ?_
              replace hH : HH w0 [] [E15] w := hH.only [true, false]
              exact qxRound ((i + 4), (o ++ ([(UInt8.ofNat (n / 65536)), (UInt8.ofNat (n / 256)), (UInt8.ofNat n)].take (3 - p))), A12, c13, E15) ⟨hH, (show (i + 4) ≤ s.length from (by omega)), (show (i + 4) % 4 = 0 from (by omega)), (show (o ++ ([(UInt8.ofNat (n / 65536)), (UInt8.ofNat (n / 256)), (UInt8.ofNat n)].take (3 - p))).length ≤ (i + 4) from (by rw [List.length_append, List.length_take]; omega)), (show (ul (s.drop (i + 4))).map ((o ++ ([(UInt8.ofNat (n / 65536)), (UInt8.ofNat (n / 256)), (UInt8.ofNat n)].take (3 - p))) ++ ·) = ul s from (ul_go (by omega) (us_end hus4) hpok hinv)), hO16⟩ (by show s.length - (i + 4) < s.length - i; omega) (slots_at [0, 1, 2] rfl)
          · refine pxU rfl (gOff 0 rfl rfl rfl (by decide)) (kA rfl) (by decide) ?_
            refine pxU rfl (gOff 0 rfl rfl rfl (by decide)) (kA rfl) (by decide) ?_
            refine pxU rfl (gOff 0 rfl rfl rfl (by decide)) (kA rfl) (by decide) ?_
            refine pxU rfl (gOff 0 rfl rfl rfl (by decide)) (kA rfl) (by decide) ?_
            refine pxU rfl (gOff 0 rfl rfl rfl (by decide)) (kA rfl) (by decide) ?_
            refine pxV (v := (.bool false)) (fun _ _ hF => opPickF rfl (hF.ev 0 rfl) rfl) rfl (gOn 1 rfl rfl rfl (by decide)) (kM [false, true, true, true, true, true, true] rfl rfl) (by decide) ?_
            refine pxV (v := (.bool false)) (fun _ _ hF => opPickF rfl (hF.ev 1 rfl) (hF.ev 0 rfl)) rfl (fun _ _ => rfl) (kM [false, false, true, true, true, true, true] rfl rfl) (by decide) ?_
            refine pxEnd ?_
            refine qxThen ?_
            refine cxF 0 rfl rfl ?_
            refine cxSkip ?_
            refine qxThen ?_
            refine cxSeq ?_
            have hpok : ¬ (2 < p ∨ 0 < p ∧ s.drop (i + 4) ≠ []) := by rw [drop_ne]; omega
            refine cxReg ?_
            refine pxV (v := (.int .u32 (((n) : Nat) : Int))) (fun _ _ hF => opMove rfl (hF.ev 2 rfl)) rfl (fun _ _ => rfl) (kM [false, true, true, true, true, true] rfl rfl) (by decide) ?_
            refine pxV (v := (.int .u32 (((n / 65536) : Nat) : Int))) (fun _ _ hF => opShrU (n := 16) (z := (n / 65536)) rfl (hF.ev 0 rfl) rfl (leb rfl) (rfl)) rfl (fun _ _ => rfl) (kM [false, true, true, true, true, true] rfl rfl) (by decide) ?_
            refine pxV (v := (.int .u8 ((((UInt8.ofNat (n / 65536)).toNat) : Nat) : Int))) (fun _ _ hF => opConvU (k' := .u8) rfl rfl (by kernel_rfl) (by kernel_rfl) (hF.ev 0 rfl) (UInt8.toNat_ofNat' (n := n / 65536)).symm) rfl (fun _ _ => rfl) (kM [false, true, true, true, true, true] rfl rfl) (by decide) ?_
            refine pxV (v := (.int .u32 (((n) : Nat) : Int))) (fun _ _ hF => opMove rfl (hF.ev 2 rfl)) rfl (fun _ _ => rfl) (kA rfl) (by decide) ?_
            refine pxV (v := (.int .u32 (((n / 256) : Nat) : Int))) (fun _ _ hF => opShrU (n := 8) (z := (n / 256)) rfl (hF.ev 0 rfl) rfl (leb rfl) (rfl)) rfl (fun _ _ => rfl) (kM [false, true, true, true, true, true, true] rfl rfl) (by decide) ?_
            refine pxV (v := (.int .u8 ((((UInt8.ofNat (n / 256)).toNat) : Nat) : Int))) (fun _ _ hF => opConvU (k' := .u8) rfl rfl (by kernel_rfl) (by kernel_rfl) (hF.ev 0 rfl) (UInt8.toNat_ofNat' (n := n / 256)).symm) rfl (fun _ _ => rfl) (kM [false, true, true, true, true, true, true] rfl rfl) (by decide) ?_
            refine pxV (v := (.int .u32 (((n) : Nat) : Int))) (fun _ _ hF => opMove rfl (hF.ev 3 rfl)) rfl (fun _ _ => rfl) (kM [true, true, true, false, true, true, true] rfl rfl) (by decide) ?_
            refine pxV (v := (.int .u8 ((((UInt8.ofNat n).toNat) : Nat) : Int))) (fun _ _ hF => opConvU (k' := .u8) rfl rfl (by kernel_rfl) (by kernel_rfl) (hF.ev 0 rfl) (UInt8.toNat_ofNat' (n := n)).symm) rfl (fun _ _ => rfl) (kM [false, true, true, true, true, true, true] rfl rfl) (by decide) ?_
            refine pxM hH (fun _ hF => smLits (C := cByte) (e := 5) (z := (.int .u8 0)) (by_ := 1) [(UInt8.ofNat (n / 65536)), (UInt8.ofNat (n / 256)), (UInt8.ofNat n)] rfl (by kernel_rfl) (by kernel_rfl) (EvP.cons (v := cByte.val (UInt8.ofNat (n / 65536))) (hF.ev 2 rfl) (EvP.cons (v := cByte.val (UInt8.ofNat (n / 256))) (hF.ev 1 rfl) (EvP.cons (v := cByte.val (UInt8.ofNat n)) (hF.ev 0 rfl) EvP.nil))) rfl (ltb rfl) (leb rfl) rfl) trivial rfl (fun _ _ => rfl) (kM [false, false, false, true, true, true, true] rfl rfl) (by decide) ?_
            clear hH
            rintro _ _ w ⟨g17, rfl, rfl⟩ hH
            replace hH : HH w0 [] [E, [bl g17 5 (flat cByte [(UInt8.ofNat (n / 65536)), (UInt8.ofNat (n / 256)), (UInt8.ofNat n)]).toArray]] w := hH
            refine pxV (v := (.slice (some ⟨g17, 0, none⟩) 3 3)) (fun _ _ hF => opAssign rfl (hF.ev 0 rfl)) rfl (fun _ _ => rfl) (kM [false, true, true, true, true] rfl rfl) (by decide) ?_
            refine pxEnd ?_
            refine qxThen ?_
            refine cxReg ?_
            refine pxV (v := (.slice A1 o.length c1)) (fun _ _ hF => opMove rfl (hF.ev 3 rfl)) rfl (fun _ _ => rfl) (kM [true, true, true, false, true] rfl rfl) (by decide) ?_
            refine pxV (v := (.slice (some ⟨g17, 0, none⟩) 3 3)) (fun _ _ hF => opMove rfl (hF.ev 1 rfl)) rfl (fun _ _ => rfl) (kM [true, false, true, true, true] rfl rfl) (by decide) ?_
            refine pxV (v := (.int .i64 (((p) : Nat) : Int))) (fun _ _ hF => opMove rfl (hF.ev 2 rfl)) rfl (fun _ _ => rfl) (kM [true, true, false, true, true] rfl rfl) (by decide) ?_
            refine pxV (v := (.int .i64 ((((3 - p)) : Nat) : Int))) (fun _ _ hF => opSub rfl rfl (hF.ev 0 rfl) (wI (by omega) (by omega) (by omega))) rfl (fun _ _ => rfl) (kM [false, true, true, true, true] rfl rfl) (by decide) ?_
            refine pxV (v := (.slice (some ⟨g17, 0, none⟩) (3 - p) 3)) (fun _ _ hF => opCutH (h := (3 - p)) (e := 5) (sz := 1) rfl (by kernel_rfl) (by kernel_rfl) (hF.ev 1 rfl) (hF.ev 0 rfl) rfl (by omega)) rfl (fun _ _ => rfl) (kM [false, false, true, true, true] rfl rfl) (by decide) ?_
            refine pxE 0 hH rfl (fun _ hF => smAppT (C := cByte) (l := o) (m := ([(UInt8.ofNat (n / 65536)), (UInt8.ofNat (n / 256)), (UInt8.ofNat n)].take (3 - p))) (e := 5) (z := (.int .u8 0)) (by_ := 1) rfl (by kernel_rfl) (by kernel_rfl) rfl (ltb rfl) (hF.ev 1 rfl) hO (hF.ev 0 rfl) (by rw [List.length_take]; exact Nat.min_eq_left (by show 3 - p ≤ 3; omega)) (fun h => by cases h) (by unfold maxLen; omega) (by omega)) (((Bk.lits (C := cByte) [(UInt8.ofNat (n / 65536)), (UInt8.ofNat (n / 256)), (UInt8.ofNat n)] (by show 3 ≤ _; unfold maxLen; decide)).vu (n := 3) (hH.blk 1 rfl) rfl).head (m := (3 - p)) (by omega)) rfl (fun _ _ => rfl) (kM [false, false, true, true] rfl rfl) (by decide) ?_
            clear hH
            rintro v20 E21 w ⟨hO22, _⟩ hH
            replace hH : HH w0 [] [E21, [bl g17 5 (flat cByte [(UInt8.ofNat (n / 65536)), (UInt8.ofNat (n / 256)), (UInt8.ofNat n)]).toArray]] w := hH
            replace hO22 : OwnT cByte 5 v20 (o ++ ([(UInt8.ofNat (n / 65536)), (UInt8.ofNat (n / 256)), (UInt8.ofNat n)].take (3 - p))) E21 := hO22
            obtain ⟨A18, c19, rfl⟩ := hO22.slice
            refine pxV (v := (.slice A18 ((o ++ ([(UInt8.ofNat (n / 65536)), (UInt8.ofNat (n / 256)), (UInt8.ofNat n)].take (3 - p))).length) c19)) (fun _ _ hF => opAssign rfl (hF.ev 0 rfl)) rfl (fun _ _ => rfl) (kM [false, true, true] rfl rfl) (by decide) ?_
            refine pxEnd ?_
            refine qxInN ?_
            refine qxThen ?_
            refine cxReg ?_
            refine pxV (v := (.int .i64 (((i) : Nat) : Int))) (fun _ _ hF => opMove rfl (hF.ev 1 rfl)) rfl (fun _ _ => rfl) (kM [true, false, true] rfl rfl) (by decide) ?_
            refine pxV (v := (.int .i64 (((i + 4) : Nat) : Int))) (fun _ _ hF => opAdd rfl (hF.ev 0 rfl) rfl (wI (by omega) (by omega) (by omega))) rfl (fun _ _ => rfl) (kM [false, true, true] rfl rfl) (by decide) ?_
            refine pxV (v := (.int .i64 (((i + 4) : Nat) : Int))) (fun _ _ hF => opAssign rfl (hF.ev 0 rfl)) rfl (fun _ _ => rfl) (kM [false, true, true] rfl rfl) (by decide) ?_
            refine pxEnd ?_
            replace hH : HH w0 [] [E21] w := hH.only [true, false]
            exact qxRound ((i + 4), (o ++ ([(UInt8.ofNat (n / 65536)), (UInt8.ofNat (n / 256)), (UInt8.ofNat n)].take (3 - p))), A18, c19, E21) ⟨hH, (show (i + 4) ≤ s.length from (by omega)), (show (i + 4) % 4 = 0 from (by omega)), (show (o ++ ([(UInt8.ofNat (n / 65536)), (UInt8.ofNat (n / 256)), (UInt8.ofNat n)].take (3 - p))).length ≤ (i + 4) from (by rw [List.length_append, List.length_take]; omega)), (show (ul (s.drop (i + 4))).map ((o ++ ([(UInt8.ofNat (n / 65536)), (UInt8.ofNat (n / 256)), (UInt8.ofNat n)].take (3 - p))) ++ ·) = ul s from (ul_go (by omega) (us_end hus4) hpok hinv)), hO22⟩ (by show s.length - (i + 4) < s.length - i; omega) (slots_at [0, 1, 2] rfl)
    · refine cxExit ?_
      refine qxThenE ?_
      refine qxThenE ?_
      refine qxInE ?_
      refine qxThen ?_
      refine cxSeq ?_
      refine cxSeq ?_
      have ei : i = s.length := by omega
      have hul : ul s = some o := by rw [ei] at hinv; exact ul_end hinv
      refine cxReg ?_
      refine pxV (v := (.slice A1 o.length c1)) (fun _ _ hF => opMove rfl (hF.ev 2 rfl)) rfl (fun _ _ => rfl) (kM [false, false, true, true] rfl rfl) (by decide) ?_
      refine pxM hH (fun _ hF => Does.small ((rbase64_c o A1 c1 (by omega)).does) (fun w => opCall rfl Try.func8 rfl rfl (Evs.cons (v := (.slice A1 o.length c1)) (hF.ev 0 rfl) Evs.nil) w)) (hO.vuAt (hH.has 0 rfl)) rfl (fun _ _ => rfl) (kM [false, true, true] rfl rfl) (by decide) ?_
      clear hH
      rintro _ _ w ⟨rfl, rfl⟩ hH
      replace hH : HH w0 [] [E] w := hH.unpad
      refine pxV (v := (.string (strL s))) (fun _ _ hF => opMove rfl (hF.ev 2 rfl)) rfl (fun _ _ => rfl) (kM [true, true, false] rfl rfl) (by decide) ?_
      refine pxV (v := (.bool (decide ((b64 o) ≠ s)))) (fun _ _ hF => opNeL (l := (b64 o)) (m := s) rfl (hF.ev 1 rfl) (hF.ev 0 rfl) Iff.rfl) rfl (fun _ _ => rfl) (kM [false, false, true] rfl rfl) (by decide) ?_
      refine pxEnd ?_
      refine qxThen ?_
      refine cxP 0 rfl rfl (fun hc23 => ?_) (fun hc23 => ?_)
      · refine cxSeq ?_
        refine cxReg ?_
        refine pxV (v := (.slice none 0 0)) (fun _ _ hF => opAssign rfl rfl) rfl (fun _ _ => rfl) (kM [false, false] rfl rfl) (by decide) ?_
        refine pxV (v := (.int .i64 2)) (fun _ _ hF => opAssign rfl rfl) rfl (fun _ _ => rfl) (kA rfl) (by decide) ?_
        refine pxEnd ?_
        refine qxThen ?_
        refine cxRet ?_
        refine qxThenR ?_
        refine qxRet2 1 0 rfl rfl rfl ?_
        exact ⟨_, _, rfl, .inl ⟨(by rw [unR_some hc1 hul, if_neg hc23]), rfl, rfl⟩, hH.out [false]⟩
      · refine cxSkip ?_
        refine qxThen ?_
        refine cxSeq ?_
        refine cxReg ?_
        refine pxV (v := (.slice A1 o.length c1)) (fun _ _ hF => opMove rfl (hF.ev 1 rfl)) rfl (fun _ _ => rfl) (kM [false, false] rfl rfl) (by decide) ?_
        refine pxV (v := (.slice A1 o.length c1)) (fun _ _ hF => opAssign rfl (hF.ev 0 rfl)) rfl (fun _ _ => rfl) (kM [false] rfl rfl) (by decide) ?_
        refine pxV (v := (.int .i64 0)) (fun _ _ hF => opAssign rfl rfl) rfl (fun _ _ => rfl) (kA rfl) (by decide) ?_
        refine pxEnd ?_
        refine qxThen ?_
        refine cxRet ?_
        refine qxRet2 1 0 rfl rfl rfl ?_
        exact ⟨_, _, rfl, .inr ⟨o, _, _, (by rw [unR_some hc1 hul, if_pos (by have := hc23; simpa using this)]), rfl, hO⟩, hH.out1 [true] rfl⟩

end Go.Proofs.Ytadbpmcmdcnlfaa
