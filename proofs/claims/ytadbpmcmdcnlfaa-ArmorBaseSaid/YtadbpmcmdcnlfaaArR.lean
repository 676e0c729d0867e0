/- The document's Sum, Base64. -/
import Derived.Test.YtadbpmcmdcnlfaaBu
import Derived.Test.YtadbpmcmdcnlfaaAn
namespace Go.Proofs.Ytadbpmcmdcnlfaa
open Go Go.RowKit
set_option maxRecDepth 100000

set_option maxHeartbeats 8000000 in
theorem rsum_c (l : List UInt8) (A : Option Addr) (c : Nat) (hl : l.length ≤ 9223372036854775807) : Pure Try.prog 10 #[(.slice A l.length c)] (fun w => Vu cByte w A l.length c l) (.int .u32 ((crc l : Nat) : Int)) := by
  refine pure_of (fn := Try.f10) Try.func10 rfl Try.ntmps10 (Nat.le_of_ble_eq_true rfl) rfl ?_
  intro w0 hH hR
  have hcl := hR.len
  have hcc := hR.cap
  refine cxSeq ?_
  refine cxReg ?_
  refine pxV (v := (.int .u32 0)) (fun _ _ hF => opAssign rfl rfl) rfl (fun _ _ => rfl) (kA rfl) (by decide) ?_
  refine pxEnd ?_
  refine qxThen ?_
  refine cxSeq ?_
  refine cxReg ?_
  refine pxV (v := (.int .u32 11994318)) (fun _ _ hF => opAssign rfl rfl) rfl (fun _ _ => rfl) (kM [false, true] rfl rfl) (by decide) ?_
  refine pxEnd ?_
  refine qxThen ?_
  refine cxSeq ?_
  refine cxSeq ?_
  refine cxReg ?_
  refine pxV (v := (.slice A l.length c)) (fun _ _ hF => opMove rfl (hF.ev 1 rfl)) rfl (fun _ _ => rfl) (kA rfl) (by decide) ?_
  refine pxV (v := (.int .i64 (((l.length) : Nat) : Int))) (fun _ _ hF => opLen (e := 5) rfl (by kernel_rfl) (hF.ev 0 rfl)) rfl (fun _ _ => rfl) (kM [false, true, true] rfl rfl) (by decide) ?_
  refine pxV (v := (.int .i64 0)) (fun _ _ hF => opMove rfl rfl) rfl (fun _ _ => rfl) (kA rfl) (by decide) ?_
  refine pxEnd ?_
  refine qxThen ?_
  refine cxBlock ?_
  refine cxLoop (σ := Nat × Nat) (fun x => [(7, (.int .i64 (((x.1) : Nat) : Int))), (6, (.int .i64 (((l.length) : Nat) : Int))), (3, (.int .u32 (((x.2) : Nat) : Int))), (0, (.slice A l.length c))]) (fun x w => HH w0 [] [] w ∧ (x.1 ≤ l.length) ∧ (x.2 = crcF 11994318 (l.take x.1)) ∧ (x.2 < 16777216)) (fun x => l.length - x.1) (0, 11994318) ⟨hH, Nat.zero_le _, rfl, by decide⟩ (slots_at [0, 1, 2, 3] rfl) ?_
  clear hH
  rintro ⟨i, s⟩ w ⟨hH, hi, hs, h24⟩
  change CX _ _ _ _ [(7, (.int .i64 (((i) : Nat) : Int))), (6, (.int .i64 (((l.length) : Nat) : Int))), (3, (.int .u32 (((s) : Nat) : Int))), (0, (.slice A l.length c))] _
  replace hH : HH w0 [] [] w := hH
  replace hi : i ≤ l.length := hi
  replace hs : s = crcF 11994318 (l.take i) := hs
  replace h24 : s < 16777216 := h24
  refine cxSeq ?_
  refine cxReg ?_
  refine pxV (v := (.bool (decide (i < l.length)))) (fun _ _ hF => opLss rfl (hF.ev 0 rfl) (hF.ev 1 rfl) (dc (by omega))) rfl (fun _ _ => rfl) (kA rfl) (by decide) ?_
  refine pxEnd ?_
  refine qxThen ?_
  refine cxSeq ?_
  refine cxP 0 rfl rfl (fun hc1 => ?_) (fun hc1 => ?_)
  · refine cxSkip ?_
    refine qxThen ?_
    refine cxSeq ?_
    refine cxBlock ?_
    refine cxSeq ?_
    refine cxReg ?_
    refine pxV (v := (.int .i64 (((i) : Nat) : Int))) (fun _ _ hF => opMove rfl (hF.ev 1 rfl)) rfl (fun _ _ => rfl) (kM [false, true, true, true, true] rfl rfl) (by decide) ?_
    refine pxV (v := (.int .i64 (((i) : Nat) : Int))) (fun _ _ hF => opAssign rfl (hF.ev 0 rfl)) rfl (fun _ _ => rfl) (kM [false, true, true, true, true] rfl rfl) (by decide) ?_
    refine pxEnd ?_
    refine qxThen ?_
    refine cxSeq ?_
    refine cxReg ?_
    refine pxV (v := (.int .u32 (((s) : Nat) : Int))) (fun _ _ hF => opMove rfl (hF.ev 3 rfl)) rfl (fun _ _ => rfl) (kM [true, true, true, false, true] rfl rfl) (by decide) ?_
    refine pxV (v := (.slice A l.length c)) (fun _ _ hF => opMove rfl (hF.ev 4 rfl)) rfl (fun _ _ => rfl) (kA rfl) (by decide) ?_
    refine pxV (v := (.int .i64 (((i) : Nat) : Int))) (fun _ _ hF => opMove rfl (hF.ev 2 rfl)) rfl (fun _ _ => rfl) (kM [true, true, false, true, true, true] rfl rfl) (by decide) ?_
    have hi2 : i < l.length := by omega
    obtain ⟨b3, off4, rfl, hL5, hb6, hR7⟩ := hR.blk (by decide) (Off.nil _ _) (by omega)
    have := hR.cap
    have hj10 : i < l.length := by first | exact hi2 | (simp only [List.length_drop, List.length_take]; omega) | omega
    obtain ⟨x8, hx9⟩ := get_at l i hj10
    have hb11 := UInt8.toNat_lt x8
    refine pxV (v := (.pointer (some ⟨b3, off4 + i * 1, none⟩))) (fun _ _ hF => opIndex (i := i) (e := 5) (sz := 1) rfl (by kernel_rfl) (by kernel_rfl) (hF.ev 1 rfl) (hF.ev 0 rfl) rfl hi2) rfl (fun _ _ => rfl) (kM [false, false, true, true, true, true] rfl rfl) (by decide) ?_
    refine pxS (v := (.int .u8 (((x8.toNat) : Nat) : Int))) (fun w => HoldsL cByte w b3 off4 l) (hH.holdsL hL5 hb6 hR7) (fun _ _ hF hS => opLoadT (C := cByte) (y := x8) rfl (hF.ev 0 rfl) (by kernel_rfl) (hS i _ hx9) rfl) rfl (fun _ _ => rfl) (kM [false, true, true, true, true] rfl rfl) (by decide) ?_
    refine pxV (v := (.int .u32 (((x8.toNat) : Nat) : Int))) (fun _ _ hF => opConvU (k' := .u32) (m := x8.toNat) rfl rfl (by kernel_rfl) (by kernel_rfl) (hF.ev 0 rfl) (Nat.mod_eq_of_lt (by show _ < 4294967296; omega))) rfl (fun _ _ => rfl) (kM [false, true, true, true, true] rfl rfl) (by decide) ?_
    refine pxV (v := (.int .u32 (((x8.toNat * 65536) : Nat) : Int))) (fun _ _ hF => opShlU (n := 16) (z := (x8.toNat * 65536)) rfl rfl (hF.ev 0 rfl) rfl (leb rfl) (by show (x8.toNat * 2 ^ 16) % 4294967296 = _; omega)) rfl (fun _ _ => rfl) (kM [false, true, true, true, true] rfl rfl) (by decide) ?_
    refine pxV (v := (.int .u32 (((s ^^^ (x8.toNat * 65536)) : Nat) : Int))) (fun _ _ hF => opXorU (m := s) (j := x8.toNat * 65536) (z := (s ^^^ (x8.toNat * 65536))) rfl rfl (hF.ev 1 rfl) (hF.ev 0 rfl) (by show _ < 4294967296; omega) (by show _ < 4294967296; omega) (rfl)) rfl (fun _ _ => rfl) (kM [false, false, true, true, true] rfl rfl) (by decide) ?_
    refine pxV (v := (.int .u32 (((s ^^^ (x8.toNat * 65536)) : Nat) : Int))) (fun _ _ hF => opAssign rfl (hF.ev 0 rfl)) rfl (fun _ _ => rfl) (kM [false, true, true, true] rfl rfl) (by decide) ?_
    refine pxEnd ?_
    refine qxThen ?_
    refine cxSeq ?_
    refine cxReg ?_
    refine pxV (v := (.int .i64 0)) (fun _ _ hF => opMove rfl rfl) rfl (fun _ _ => rfl) (kA rfl) (by decide) ?_
    refine pxEnd ?_
    refine qxThen ?_
    refine cxBlock ?_
    refine cxLoop (σ := Nat × Nat) (fun x => [(18, (.int .i64 (((x.1) : Nat) : Int))), (7, (.int .i64 (((i) : Nat) : Int))), (6, (.int .i64 (((l.length) : Nat) : Int))), (3, (.int .u32 (((x.2) : Nat) : Int))), (0, (.slice (some ⟨b3, off4, none⟩) l.length c))]) (fun x w => HH w0 [] [] w ∧ (x.1 ≤ 8) ∧ (crcBits (8 - x.1) x.2 = crcByte s x8) ∧ (x.2 < 16777216)) (fun x => 8 - x.1) (0, (s ^^^ (x8.toNat * 65536))) ⟨hH, Nat.zero_le _, rfl, crc_in h24 x8⟩ (slots_at [0, 2, 3, 1, 4] rfl) ?_
    clear hH
    rintro ⟨k, n⟩ w ⟨hH, hk, hn, hn24⟩
    change CX _ _ _ _ [(18, (.int .i64 (((k) : Nat) : Int))), (7, (.int .i64 (((i) : Nat) : Int))), (6, (.int .i64 (((l.length) : Nat) : Int))), (3, (.int .u32 (((n) : Nat) : Int))), (0, (.slice (some ⟨b3, off4, none⟩) l.length c))] _
    replace hH : HH w0 [] [] w := hH
    replace hk : k ≤ 8 := hk
    replace hn : crcBits (8 - k) n = crcByte s x8 := hn
    replace hn24 : n < 16777216 := hn24
    refine cxSeq ?_
    refine cxReg ?_
    refine pxV (v := (.bool (decide (k < 8)))) (fun _ _ hF => opLss rfl (hF.ev 0 rfl) rfl (dc (by omega))) rfl (fun _ _ => rfl) (kA rfl) (by decide) ?_
    refine pxEnd ?_
    refine qxThen ?_
    refine cxSeq ?_
    refine cxP 0 rfl rfl (fun hc12 => ?_) (fun hc12 => ?_)
    · refine cxSkip ?_
      refine qxThen ?_
      refine cxSeq ?_
      refine cxBlock ?_
      refine cxSeq ?_
      refine cxReg ?_
      refine pxV (v := (.int .u32 (((n) : Nat) : Int))) (fun _ _ hF => opMove rfl (hF.ev 4 rfl)) rfl (fun _ _ => rfl) (kM [false, true, true, true, false, true] rfl rfl) (by decide) ?_
      refine pxV (v := (.int .u32 (((2 * n) : Nat) : Int))) (fun _ _ hF => opShlU (n := 1) (z := (2 * n)) rfl rfl (hF.ev 0 rfl) rfl (leb rfl) (by show (n * 2 ^ 1) % 4294967296 = _; omega)) rfl (fun _ _ => rfl) (kM [false, true, true, true, true] rfl rfl) (by decide) ?_
      refine pxV (v := (.int .u32 (((2 * n) : Nat) : Int))) (fun _ _ hF => opAssign rfl (hF.ev 0 rfl)) rfl (fun _ _ => rfl) (kM [false, true, true, true, true] rfl rfl) (by decide) ?_
      refine pxEnd ?_
      refine qxThen ?_
      refine cxSeq ?_
      refine cxReg ?_
      refine pxV (v := (.int .u32 (((2 * n) : Nat) : Int))) (fun _ _ hF => opMove rfl (hF.ev 0 rfl)) rfl (fun _ _ => rfl) (kA rfl) (by decide) ?_
      refine pxV (v := (.int .u32 ((((2 * n) / 2 ^ 24) : Nat) : Int))) (fun _ _ hF => opShrU (n := 24) (z := ((2 * n) / 2 ^ 24)) rfl (hF.ev 0 rfl) rfl (leb rfl) (rfl)) rfl (fun _ _ => rfl) (kM [false, true, true, true, true, true] rfl rfl) (by decide) ?_
      refine pxV (v := (.bool (decide ((2 * n) / 2 ^ 24 = 1)))) (fun _ _ hF => opEqI rfl (hF.ev 0 rfl) rfl (dc (by omega))) rfl (fun _ _ => rfl) (kM [false, true, true, true, true, true] rfl rfl) (by decide) ?_
      refine pxEnd ?_
      refine qxThen ?_
      refine cxP 0 rfl rfl (fun hc13 => ?_) (fun hc13 => ?_)
      · have hma : 2 * n &&& 16777215 ≤ 16777215 := Nat.and_le_right
        refine cxReg ?_
        refine pxV (v := (.int .u32 (((2 * n) : Nat) : Int))) (fun _ _ hF => opMove rfl (hF.ev 1 rfl)) rfl (fun _ _ => rfl) (kM [false, false, true, true, true, true] rfl rfl) (by decide) ?_
        refine pxV (v := (.int .u32 ((((2 * n) &&& 16777215) : Nat) : Int))) (fun _ _ hF => opAndU (m := 2 * n) (j := 16777215) (z := ((2 * n) &&& 16777215)) rfl rfl (hF.ev 0 rfl) rfl (by show _ < 4294967296; omega) (by decide) (rfl)) rfl (fun _ _ => rfl) (kM [false, true, true, true, true] rfl rfl) (by decide) ?_
        refine pxV (v := (.int .u32 (((((2 * n) &&& 16777215) ^^^ 8801531) : Nat) : Int))) (fun _ _ hF => opXorU (m := (2 * n) &&& 16777215) (j := 8801531) (z := (((2 * n) &&& 16777215) ^^^ 8801531)) rfl rfl (hF.ev 0 rfl) rfl (by show _ < 4294967296; omega) (by decide) (rfl)) rfl (fun _ _ => rfl) (kM [false, true, true, true, true] rfl rfl) (by decide) ?_
        refine pxV (v := (.int .u32 (((((2 * n) &&& 16777215) ^^^ 8801531) : Nat) : Int))) (fun _ _ hF => opAssign rfl (hF.ev 0 rfl)) rfl (fun _ _ => rfl) (kM [false, true, true, true, true] rfl rfl) (by decide) ?_
        refine pxEnd ?_
        refine qxInN ?_
        refine qxThen ?_
        refine cxReg ?_
        refine pxV (v := (.int .i64 (((k + 1) : Nat) : Int))) (fun _ _ hF => opAdd rfl (hF.ev 1 rfl) rfl (wI (by omega) (by omega) (by omega))) rfl (fun _ _ => rfl) (kM [true, false, true, true, true] rfl rfl) (by decide) ?_
        refine pxV (v := (.int .i64 (((k + 1) : Nat) : Int))) (fun _ _ hF => opMove rfl (hF.ev 0 rfl)) rfl (fun _ _ => rfl) (kM [false, true, true, true, true] rfl rfl) (by decide) ?_
        refine pxEnd ?_
        exact qxRound ((k + 1), ((2 * n) &&& 16777215) ^^^ 8801531) ⟨hH, (show (k + 1) ≤ 8 from by omega), (show crcBits (8 - (k + 1)) (((2 * n) &&& 16777215) ^^^ 8801531) = crcByte s x8 from (crc_upD (by omega) hn24 hn).1 hc13 |>.1), (show (((2 * n) &&& 16777215) ^^^ 8801531) < 16777216 from (crc_upD (by omega) hn24 hn).1 hc13 |>.2)⟩ (by show 8 - (k + 1) < 8 - k; omega) (slots_at [0, 2, 3, 1, 4] rfl)
      · refine cxSkip ?_
        refine qxInN ?_
        refine qxThen ?_
        refine cxReg ?_
        refine pxV (v := (.int .i64 (((k + 1) : Nat) : Int))) (fun _ _ hF => opAdd rfl (hF.ev 2 rfl) rfl (wI (by omega) (by omega) (by omega))) rfl (fun _ _ => rfl) (kM [false, true, false, true, true, true] rfl rfl) (by decide) ?_
        refine pxV (v := (.int .i64 (((k + 1) : Nat) : Int))) (fun _ _ hF => opMove rfl (hF.ev 0 rfl)) rfl (fun _ _ => rfl) (kM [false, true, true, true, true] rfl rfl) (by decide) ?_
        refine pxEnd ?_
        exact qxRound ((k + 1), 2 * n) ⟨hH, (show (k + 1) ≤ 8 from by omega), (show crcBits (8 - (k + 1)) (2 * n) = crcByte s x8 from (crc_upD (by omega) hn24 hn).2 hc13 |>.1), (show (2 * n) < 16777216 from (crc_upD (by omega) hn24 hn).2 hc13 |>.2)⟩ (by show 8 - (k + 1) < 8 - k; omega) (slots_at [0, 2, 3, 1, 4] rfl)
    · refine cxExit ?_
      refine qxThenE ?_
      refine qxThenE ?_
      refine qxInE ?_
      refine qxInN ?_
      refine qxThen ?_
      refine cxReg ?_
      refine pxV (v := (.int .i64 (((i + 1) : Nat) : Int))) (fun _ _ hF => opAdd rfl (hF.ev 2 rfl) rfl (wI (by omega) (by omega) (by omega))) rfl (fun _ _ => rfl) (kM [false, false, false, true, true, true] rfl rfl) (by decide) ?_
      refine pxV (v := (.int .i64 (((i + 1) : Nat) : Int))) (fun _ _ hF => opMove rfl (hF.ev 0 rfl)) rfl (fun _ _ => rfl) (kM [false, true, true, true] rfl rfl) (by decide) ?_
      refine pxEnd ?_
      exact qxRound ((i + 1), n) ⟨hH, (show (i + 1) ≤ l.length from by omega), (show n = crcF 11994318 (l.take (i + 1)) from (by have := hx9; have e : k = 8 := (by omega); subst e; rw [crcF_take _ this, ← hs]; exact hn)), hn24⟩ (by show l.length - (i + 1) < l.length - i; omega) (slots_at [0, 1, 2, 3] rfl)
  · refine cxExit ?_
    refine qxThenE ?_
    refine qxThenE ?_
    refine qxInE ?_
    refine qxThen ?_
    refine cxSeq ?_
    refine cxReg ?_
    refine pxV (v := (.int .u32 (((s) : Nat) : Int))) (fun _ _ hF => opMove rfl (hF.ev 3 rfl)) rfl (fun _ _ => rfl) (kM [false, false, false, false, false] rfl rfl) (by decide) ?_
    refine pxV (v := (.int .u32 (((s) : Nat) : Int))) (fun _ _ hF => opAssign rfl (hF.ev 0 rfl)) rfl (fun _ _ => rfl) (kM [false] rfl rfl) (by decide) ?_
    refine pxEnd ?_
    refine qxThen ?_
    refine cxRet ?_
    refine qxRet1 0 rfl rfl ?_
    exact ⟨(by have e : i = l.length := by omega
               subst e; rw [List.take_length] at hs; rw [hs]; rfl), hH.toBelow⟩

set_option maxHeartbeats 8000000 in
theorem rbase64_c (l : List UInt8) (A : Option Addr) (c : Nat) (hl : l.length ≤ 1099511627776) : Pure Try.prog 8 #[(.slice A l.length c)] (fun w => Vu cByte w A l.length c l) (.string (strL (b64 l))) := by
  refine pure_of (fn := Try.f8) Try.func8 rfl Try.ntmps8 (Nat.le_of_ble_eq_true rfl) rfl ?_
  intro w0 hH hR
  refine cxSeq ?_
  refine cxReg ?_
  refine pxV (v := (.string (strL ([])))) (fun _ _ hF => opAssign rfl rfl) rfl (fun _ _ => rfl) (kA rfl) (by decide) ?_
  refine pxEnd ?_
  refine qxThen ?_
  refine cxSeq ?_
  refine cxReg ?_
  refine pxV (v := (.slice none 0 0)) (fun _ _ hF => opAssign rfl rfl) rfl (fun _ _ => rfl) (kM [false, true] rfl rfl) (by decide) ?_
  refine pxEnd ?_
  refine qxThen ?_
  refine cxSeq ?_
  refine cxBlock ?_
  replace hH := HH.pad hH 1
  replace hH : HH w0 [] [[]] w0 := hH
  refine cxLoop (σ := (Option Addr) × Nat × Nat × (List UInt8) × (List UInt8) × (Option Addr) × Nat × Hl) (fun x => [(3, (.slice x.2.2.2.2.2.1 x.2.2.2.2.1.length x.2.2.2.2.2.2.1)), (0, (.slice x.1 x.2.1 x.2.2.1))]) (fun x w => HH w0 [] [x.2.2.2.2.2.2.2] w ∧ (Vu cByte w0 x.1 x.2.1 x.2.2.1 x.2.2.2.1) ∧ (x.2.2.2.2.1 ++ b64 x.2.2.2.1 = b64 l) ∧ (OwnT cByte 5 (.slice x.2.2.2.2.2.1 x.2.2.2.2.1.length x.2.2.2.2.2.2.1) x.2.2.2.2.1 x.2.2.2.2.2.2.2)) (fun x => x.2.1) (A, l.length, c, l, [], none, 0, []) ⟨hH, hR, (by rw [List.nil_append]), (OwnT.nil cByte 5)⟩ (slots_at [0, 1] rfl) ?_
  clear hH
  rintro ⟨A1, n1, c1, l1, o, Ao, co, Eo⟩ w ⟨hH, hV, hinv, hOo⟩
  change CX _ _ _ _ [(3, (.slice Ao o.length co)), (0, (.slice A1 n1 c1))] _
  replace hH : HH w0 [] [Eo] w := hH
  replace hV : Vu cByte w0 A1 n1 c1 l1 := hV
  replace hinv : o ++ b64 l1 = b64 l := hinv
  replace hOo : OwnT cByte 5 (.slice Ao o.length co) o Eo := hOo
  have hcl := hV.len
  have hcc := hV.cap
  have hob := len_app hinv
  have hbl := b64_len l
  refine cxSeq ?_
  refine cxSeq ?_
  refine cxReg ?_
  refine pxV (v := (.slice A1 n1 c1)) (fun _ _ hF => opMove rfl (hF.ev 1 rfl)) rfl (fun _ _ => rfl) (kA rfl) (by decide) ?_
  refine pxV (v := (.int .i64 (((n1) : Nat) : Int))) (fun _ _ hF => opLen (e := 5) rfl (by kernel_rfl) (hF.ev 0 rfl)) rfl (fun _ _ => rfl) (kM [false, true, true] rfl rfl) (by decide) ?_
  refine pxV (v := (.bool (decide (n1 > 0)))) (fun _ _ hF => opGtr rfl (hF.ev 0 rfl) rfl (dc (by omega))) rfl (fun _ _ => rfl) (kM [false, true, true] rfl rfl) (by decide) ?_
  refine pxEnd ?_
  refine qxThen ?_
  refine cxP 0 rfl rfl (fun hc1 => ?_) (fun hc1 => ?_)
  · refine cxSkip ?_
    refine qxThen ?_
    refine cxBlock ?_
    refine cxSeq ?_
    refine cxReg ?_
    refine pxM hH (fun _ hF => smAlloc (cs := (cArr 3).enc (fun _ => 0)) (z := ((cArr 3).val (fun _ => 0))) rfl (by kernel_rfl) rfl) trivial rfl (fun _ _ => rfl) (kM [false, true, true] rfl rfl) (by decide) ?_
    clear hH
    rintro _ _ w ⟨g2, rfl, rfl⟩ hH
    replace hH : HH w0 [] [Eo, [bl g2 45 ((cArr 3).enc (fun _ => 0))]] w := hH
    refine pxEnd ?_
    refine qxThen ?_
    refine cxSeq ?_
    obtain ⟨kk, hkk⟩ : ∃ kk, Nat.min n1 3 = kk := ⟨_, rfl⟩
    have hkk2 := min3 hkk (by omega)
    refine cxReg ?_
    refine pxV (v := (.slice (some ⟨g2, 0, none⟩) 3 3)) (fun _ _ hF => opSliceA (n := 3) (e := 5) (sz := 1) rfl (by kernel_rfl) (by kernel_rfl) (hF.ev 0 rfl)) rfl (fun _ _ => rfl) (kA rfl) (by decide) ?_
    refine pxV (v := (.slice A1 n1 c1)) (fun _ _ hF => opMove rfl (hF.ev 3 rfl)) rfl (fun _ _ => rfl) (kA rfl) (by decide) ?_
    refine pxE 1 hH rfl (fun _ hF => smCopyK (C := cByte) (m := l1) (e := 5) kk hkk rfl (by kernel_rfl) (by kernel_rfl) (ltb rfl) (hF.ev 1 rfl) (hF.ev 0 rfl) hV.len (by rw [Cod.size]; show 0 + kk * 1 ≤ 3; omega) (arr_ovr _ _)) (hH.vu hV (by decide) (Off.nil _ _)) rfl (fun _ _ => rfl) (kM [false, false, true, true, true] rfl rfl) (by decide) ?_
    clear hH
    rintro _ _ w ⟨rfl, rfl⟩ hH
    replace hH : HH w0 [] [Eo, [bl g2 45 ((cArr 3).enc (ovr (l1.take kk) (fun _ => 0)))]] w := hH
    refine pxV (v := (.int .i64 (((kk) : Nat) : Int))) (fun _ _ hF => opAssign rfl (hF.ev 0 rfl)) rfl (fun _ _ => rfl) (kM [false, true, true, true] rfl rfl) (by decide) ?_
    refine pxEnd ?_
    refine qxThen ?_
    refine cxSeq ?_
    refine cxReg ?_
    refine pxV (v := (.slice A1 n1 c1)) (fun _ _ hF => opMove rfl (hF.ev 3 rfl)) rfl (fun _ _ => rfl) (kM [true, true, true, false] rfl rfl) (by decide) ?_
    refine pxV (v := (.int .i64 (((kk) : Nat) : Int))) (fun _ _ hF => opMove rfl (hF.ev 1 rfl)) rfl (fun _ _ => rfl) (kA rfl) (by decide) ?_
    refine pxV (v := (.slice (cutA A1 c1 kk 1) (n1 - kk) (c1 - kk))) (fun _ _ hF => opCutL (k := kk) (e := 5) (sz := 1) rfl (by kernel_rfl) (by kernel_rfl) (hF.ev 1 rfl) (hF.ev 0 rfl) rfl (by omega)) rfl (fun _ _ => rfl) (kM [false, false, true, true, true] rfl rfl) (by decide) ?_
    refine pxV (v := (.slice (cutA A1 c1 kk 1) (n1 - kk) (c1 - kk))) (fun _ _ hF => opAssign rfl (hF.ev 0 rfl)) rfl (fun _ _ => rfl) (kM [false, true, true, true] rfl rfl) (by decide) ?_
    refine pxEnd ?_
    refine qxThen ?_
    refine cxSeq ?_
    obtain ⟨f, hf⟩ : ∃ f, ovr (l1.take kk) (fun _ => 0) = f := ⟨_, rfl⟩
    rw [hf] at hH
    have hf0 := (f 0).toNat_lt
    have hf1 := (f 1).toNat_lt
    have hf2 := (f 2).toNat_lt
    refine cxReg ?_
    have hi3 : 0 < 3 := by omega
    refine pxV (v := (.pointer (some ⟨g2, 0 + 0 * 1, none⟩))) (fun _ _ hF => opIndexA (i := 0) (e := 5) (sz := 1) rfl (by kernel_rfl) (by kernel_rfl) (hF.ev 2 rfl) rfl rfl hi3) rfl (fun _ _ => rfl) (kA rfl) (by decide) ?_
    refine pxS (v := (.int .u8 ((((f 0).toNat) : Nat) : Int))) (fun w => w.heap[g2]? = some (.cells ((cArr 3).enc f) 45 (0, 0))) (hH.blk 1 rfl) (fun _ _ hF hS => opLoadT (C := cByte) (y := (f 0)) rfl (hF.ev 0 rfl) (by kernel_rfl) ((holds_blk0 hS).elt hi3) rfl) rfl (fun _ _ => rfl) (kM [false, true, true, true, true] rfl rfl) (by decide) ?_
    refine pxV (v := (.int .u8 ((((ob ((f 0).toNat / 4)).toNat) : Nat) : Int))) (fun _ _ hF => opShrU (n := 2) (z := ((ob ((f 0).toNat / 4)).toNat)) rfl (hF.ev 0 rfl) rfl (leb rfl) (by rw [toNat_ob]; show _ / 4 = _; omega)) rfl (fun _ _ => rfl) (kM [false, true, true, true, true] rfl rfl) (by decide) ?_
    have hi4 : 0 < 3 := by omega
    refine pxV (v := (.pointer (some ⟨g2, 0 + 0 * 1, none⟩))) (fun _ _ hF => opIndexA (i := 0) (e := 5) (sz := 1) rfl (by kernel_rfl) (by kernel_rfl) (hF.ev 3 rfl) rfl rfl hi4) rfl (fun _ _ => rfl) (kA rfl) (by decide) ?_
    refine pxS (v := (.int .u8 ((((f 0).toNat) : Nat) : Int))) (fun w => w.heap[g2]? = some (.cells ((cArr 3).enc f) 45 (0, 0))) (hH.blk 1 rfl) (fun _ _ hF hS => opLoadT (C := cByte) (y := (f 0)) rfl (hF.ev 0 rfl) (by kernel_rfl) ((holds_blk0 hS).elt hi4) rfl) rfl (fun _ _ => rfl) (kM [false, true, true, true, true, true] rfl rfl) (by decide) ?_
    refine pxV (v := (.int .u8 ((((f 0).toNat % 4) : Nat) : Int))) (fun _ _ hF => opAndU (m := (f 0).toNat) (j := 3) (z := ((f 0).toNat % 4)) rfl rfl (hF.ev 0 rfl) rfl (UInt8.toNat_lt _) (by decide) (Nat.and_two_pow_sub_one_eq_mod _ 2)) rfl (fun _ _ => rfl) (kM [false, true, true, true, true, true] rfl rfl) (by decide) ?_
    refine pxV (v := (.int .u8 ((((f 0).toNat % 4 * 16) : Nat) : Int))) (fun _ _ hF => opShlU (n := 4) (z := ((f 0).toNat % 4 * 16)) rfl rfl (hF.ev 0 rfl) rfl (leb rfl) (by show ((f 0).toNat % 4 * 2 ^ 4) % 256 = _; omega)) rfl (fun _ _ => rfl) (kM [false, true, true, true, true, true] rfl rfl) (by decide) ?_
    have hi5 : 1 < 3 := by omega
    refine pxV (v := (.pointer (some ⟨g2, 0 + 1 * 1, none⟩))) (fun _ _ hF => opIndexA (i := 1) (e := 5) (sz := 1) rfl (by kernel_rfl) (by kernel_rfl) (hF.ev 4 rfl) rfl rfl hi5) rfl (fun _ _ => rfl) (kA rfl) (by decide) ?_
    refine pxS (v := (.int .u8 ((((f 1).toNat) : Nat) : Int))) (fun w => w.heap[g2]? = some (.cells ((cArr 3).enc f) 45 (0, 0))) (hH.blk 1 rfl) (fun _ _ hF hS => opLoadT (C := cByte) (y := (f 1)) rfl (hF.ev 0 rfl) (by kernel_rfl) ((holds_blk0 hS).elt hi5) rfl) rfl (fun _ _ => rfl) (kM [false, true, true, true, true, true, true] rfl rfl) (by decide) ?_
    refine pxV (v := (.int .u8 ((((f 1).toNat / 16) : Nat) : Int))) (fun _ _ hF => opShrU (n := 4) (z := ((f 1).toNat / 16)) rfl (hF.ev 0 rfl) rfl (leb rfl) (rfl)) rfl (fun _ _ => rfl) (kM [false, true, true, true, true, true, true] rfl rfl) (by decide) ?_
    refine pxV (v := (.int .u8 ((((ob ((f 0).toNat % 4 * 16 + (f 1).toNat / 16)).toNat) : Nat) : Int))) (fun _ _ hF => opOrU (m := (f 0).toNat % 4 * 16) (j := (f 1).toNat / 16) (z := ((ob ((f 0).toNat % 4 * 16 + (f 1).toNat / 16)).toNat)) rfl rfl (hF.ev 1 rfl) (hF.ev 0 rfl) (by show _ < 256; omega) (by show _ < 256; omega) ((orN (k := 4) (by omega)).trans (by rw [toNat_ob]; omega))) rfl (fun _ _ => rfl) (kM [false, false, true, true, true, true, true] rfl rfl) (by decide) ?_
    have hi6 : 1 < 3 := by omega
    refine pxV (v := (.pointer (some ⟨g2, 0 + 1 * 1, none⟩))) (fun _ _ hF => opIndexA (i := 1) (e := 5) (sz := 1) rfl (by kernel_rfl) (by kernel_rfl) (hF.ev 4 rfl) rfl rfl hi6) rfl (fun _ _ => rfl) (kA rfl) (by decide) ?_
    refine pxS (v := (.int .u8 ((((f 1).toNat) : Nat) : Int))) (fun w => w.heap[g2]? = some (.cells ((cArr 3).enc f) 45 (0, 0))) (hH.blk 1 rfl) (fun _ _ hF hS => opLoadT (C := cByte) (y := (f 1)) rfl (hF.ev 0 rfl) (by kernel_rfl) ((holds_blk0 hS).elt hi6) rfl) rfl (fun _ _ => rfl) (kM [false, true, true, true, true, true, true] rfl rfl) (by decide) ?_
    refine pxV (v := (.int .u8 ((((f 1).toNat % 16) : Nat) : Int))) (fun _ _ hF => opAndU (m := (f 1).toNat) (j := 15) (z := ((f 1).toNat % 16)) rfl rfl (hF.ev 0 rfl) rfl (UInt8.toNat_lt _) (by decide) (Nat.and_two_pow_sub_one_eq_mod _ 4)) rfl (fun _ _ => rfl) (kM [false, true, true, true, true, true, true] rfl rfl) (by decide) ?_
    refine pxV (v := (.int .u8 ((((f 1).toNat % 16 * 4) : Nat) : Int))) (fun _ _ hF => opShlU (n := 2) (z := ((f 1).toNat % 16 * 4)) rfl rfl (hF.ev 0 rfl) rfl (leb rfl) (by show ((f 1).toNat % 16 * 2 ^ 2) % 256 = _; omega)) rfl (fun _ _ => rfl) (kM [false, true, true, true, true, true, true] rfl rfl) (by decide) ?_
    have hi7 : 2 < 3 := by omega
    refine pxV (v := (.pointer (some ⟨g2, 0 + 2 * 1, none⟩))) (fun _ _ hF => opIndexA (i := 2) (e := 5) (sz := 1) rfl (by kernel_rfl) (by kernel_rfl) (hF.ev 5 rfl) rfl rfl hi7) rfl (fun _ _ => rfl) (kA rfl) (by decide) ?_
    refine pxS (v := (.int .u8 ((((f 2).toNat) : Nat) : Int))) (fun w => w.heap[g2]? = some (.cells ((cArr 3).enc f) 45 (0, 0))) (hH.blk 1 rfl) (fun _ _ hF hS => opLoadT (C := cByte) (y := (f 2)) rfl (hF.ev 0 rfl) (by kernel_rfl) ((holds_blk0 hS).elt hi7) rfl) rfl (fun _ _ => rfl) (kM [false, true, true, true, true, true, true, true] rfl rfl) (by decide) ?_
    refine pxV (v := (.int .u8 ((((f 2).toNat / 64) : Nat) : Int))) (fun _ _ hF => opShrU (n := 6) (z := ((f 2).toNat / 64)) rfl (hF.ev 0 rfl) rfl (leb rfl) (rfl)) rfl (fun _ _ => rfl) (kM [false, true, true, true, true, true, true, true] rfl rfl) (by decide) ?_
    refine pxV (v := (.int .u8 ((((ob ((f 1).toNat % 16 * 4 + (f 2).toNat / 64)).toNat) : Nat) : Int))) (fun _ _ hF => opOrU (m := (f 1).toNat % 16 * 4) (j := (f 2).toNat / 64) (z := ((ob ((f 1).toNat % 16 * 4 + (f 2).toNat / 64)).toNat)) rfl rfl (hF.ev 1 rfl) (hF.ev 0 rfl) (by show _ < 256; omega) (by show _ < 256; omega) ((orN (k := 2) (by omega)).trans (by rw [toNat_ob]; omega))) rfl (fun _ _ => rfl) (kM [false, false, true, true, true, true, true, true] rfl rfl) (by decide) ?_
    have hi8 : 2 < 3 := by omega
    refine pxV (v := (.pointer (some ⟨g2, 0 + 2 * 1, none⟩))) (fun _ _ hF => opIndexA (i := 2) (e := 5) (sz := 1) rfl (by kernel_rfl) (by kernel_rfl) (hF.ev 5 rfl) rfl rfl hi8) rfl (fun _ _ => rfl) (kM [true, true, true, true, true, false, true] rfl rfl) (by decide) ?_
    refine pxS (v := (.int .u8 ((((f 2).toNat) : Nat) : Int))) (fun w => w.heap[g2]? = some (.cells ((cArr 3).enc f) 45 (0, 0))) (hH.blk 1 rfl) (fun _ _ hF hS => opLoadT (C := cByte) (y := (f 2)) rfl (hF.ev 0 rfl) (by kernel_rfl) ((holds_blk0 hS).elt hi8) rfl) rfl (fun _ _ => rfl) (kM [false, true, true, true, true, true, true] rfl rfl) (by decide) ?_
    refine pxV (v := (.int .u8 ((((ob ((f 2).toNat % 64)).toNat) : Nat) : Int))) (fun _ _ hF => opAndU (m := (f 2).toNat) (j := 63) (z := ((ob ((f 2).toNat % 64)).toNat)) rfl rfl (hF.ev 0 rfl) rfl (UInt8.toNat_lt _) (by decide) ((Nat.and_two_pow_sub_one_eq_mod _ 6).trans (by rw [toNat_ob]; omega))) rfl (fun _ _ => rfl) (kM [false, true, true, true, true, true, true] rfl rfl) (by decide) ?_
    refine pxM hH (fun _ hF => smLits (C := cByte) (e := 5) (z := (.int .u8 0)) (by_ := 1) [(ob ((f 0).toNat / 4)), (ob ((f 0).toNat % 4 * 16 + (f 1).toNat / 16)), (ob ((f 1).toNat % 16 * 4 + (f 2).toNat / 64)), (ob ((f 2).toNat % 64))] rfl (by kernel_rfl) (by kernel_rfl) (EvP.cons (v := cByte.val (ob ((f 0).toNat / 4))) (hF.ev 3 rfl) (EvP.cons (v := cByte.val (ob ((f 0).toNat % 4 * 16 + (f 1).toNat / 16))) (hF.ev 2 rfl) (EvP.cons (v := cByte.val (ob ((f 1).toNat % 16 * 4 + (f 2).toNat / 64))) (hF.ev 1 rfl) (EvP.cons (v := cByte.val (ob ((f 2).toNat % 64))) (hF.ev 0 rfl) EvP.nil)))) rfl (ltb rfl) (leb rfl) rfl) trivial rfl (fun _ _ => rfl) (kM [false, false, false, false, true, true, true] rfl rfl) (by decide) ?_
    clear hH
    rintro _ _ w ⟨g9, rfl, rfl⟩ hH
    replace hH : HH w0 [] [Eo, [bl g2 45 ((cArr 3).enc f)], [bl g9 5 (flat cByte [(ob ((f 0).toNat / 4)), (ob ((f 0).toNat % 4 * 16 + (f 1).toNat / 16)), (ob ((f 1).toNat % 16 * 4 + (f 2).toNat / 64)), (ob ((f 2).toNat % 64))]).toArray]] w := hH
    refine pxV (v := (.slice (some ⟨g9, 0, none⟩) 4 4)) (fun _ _ hF => opAssign rfl (hF.ev 0 rfl)) rfl (fun _ _ => rfl) (kM [false, true, true, true] rfl rfl) (by decide) ?_
    refine pxEnd ?_
    refine qxThen ?_
    refine cxSeq ?_
    refine cxReg ?_
    refine pxV (v := (.slice (some ⟨g9, 0, none⟩) 4 4)) (fun _ _ hF => opMove rfl (hF.ev 0 rfl)) rfl (fun _ _ => rfl) (kA rfl) (by decide) ?_
    refine pxV (v := (.int .i64 4)) (fun _ _ hF => opLen (e := 5) rfl (by kernel_rfl) (hF.ev 0 rfl)) rfl (fun _ _ => rfl) (kM [false, true, true, true, true] rfl rfl) (by decide) ?_
    refine pxV (v := (.int .i64 0)) (fun _ _ hF => opMove rfl rfl) rfl (fun _ _ => rfl) (kA rfl) (by decide) ?_
    refine pxEnd ?_
    refine qxThen ?_
    refine cxBlock ?_
    refine cxLoop (σ := Nat × (List UInt8) × (Option Addr) × Nat × Hl) (fun x => [(42, (.int .i64 (((x.1) : Nat) : Int))), (41, (.int .i64 4)), (6, (.slice (some ⟨g9, 0, none⟩) 4 4)), (5, (.int .i64 (((kk) : Nat) : Int))), (3, (.slice x.2.2.1 x.2.1.length x.2.2.2.1)), (0, (.slice (cutA A1 c1 kk 1) (n1 - kk) (c1 - kk)))]) (fun x w => HH w0 [] [x.2.2.2.2, [bl g2 45 ((cArr 3).enc f)], [bl g9 5 (flat cByte [(ob ((f 0).toNat / 4)), (ob ((f 0).toNat % 4 * 16 + (f 1).toNat / 16)), (ob ((f 1).toNat % 16 * 4 + (f 2).toNat / 64)), (ob ((f 2).toNat % 64))]).toArray]] w ∧ (x.1 ≤ 4) ∧ (x.2.1.length = o.length + x.1) ∧ (x.2.1 = o ++ (g4 f kk).take x.1) ∧ (OwnT cByte 5 (.slice x.2.2.1 x.2.1.length x.2.2.2.1) x.2.1 x.2.2.2.2)) (fun x => 4 - x.1) (0, o, Ao, co, Eo) ⟨hH, (leb rfl), rfl, (by simp [g4]), hOo⟩ (slots_at [0, 1, 2, 4, 5, 3] rfl) ?_
    clear hH
    rintro ⟨i, o2, Ap, cp, Ep⟩ w ⟨hH, hi4, hol, ho2, hOp⟩
    change CX _ _ _ _ [(42, (.int .i64 (((i) : Nat) : Int))), (41, (.int .i64 4)), (6, (.slice (some ⟨g9, 0, none⟩) 4 4)), (5, (.int .i64 (((kk) : Nat) : Int))), (3, (.slice Ap o2.length cp)), (0, (.slice (cutA A1 c1 kk 1) (n1 - kk) (c1 - kk)))] _
    replace hH : HH w0 [] [Ep, [bl g2 45 ((cArr 3).enc f)], [bl g9 5 (flat cByte [(ob ((f 0).toNat / 4)), (ob ((f 0).toNat % 4 * 16 + (f 1).toNat / 16)), (ob ((f 1).toNat % 16 * 4 + (f 2).toNat / 64)), (ob ((f 2).toNat % 64))]).toArray]] w := hH
    replace hi4 : i ≤ 4 := hi4
    replace hol : o2.length = o.length + i := hol
    replace ho2 : o2 = o ++ (g4 f kk).take i := ho2
    replace hOp : OwnT cByte 5 (.slice Ap o2.length cp) o2 Ep := hOp
    refine cxSeq ?_
    refine cxReg ?_
    refine pxV (v := (.bool (decide (i < 4)))) (fun _ _ hF => opLss rfl (hF.ev 0 rfl) (hF.ev 1 rfl) (dc (by omega))) rfl (fun _ _ => rfl) (kA rfl) (by decide) ?_
    refine pxEnd ?_
    refine qxThen ?_
    refine cxSeq ?_
    refine cxP 0 rfl rfl (fun hc10 => ?_) (fun hc10 => ?_)
    · refine cxSkip ?_
      refine qxThen ?_
      refine cxSeq ?_
      refine cxBlock ?_
      refine cxSeq ?_
      refine cxReg ?_
      refine pxV (v := (.int .i64 (((i) : Nat) : Int))) (fun _ _ hF => opMove rfl (hF.ev 1 rfl)) rfl (fun _ _ => rfl) (kM [false, true, true, true, true, true, true] rfl rfl) (by decide) ?_
      refine pxV (v := (.int .i64 (((i) : Nat) : Int))) (fun _ _ hF => opAssign rfl (hF.ev 0 rfl)) rfl (fun _ _ => rfl) (kM [false, true, true, true, true, true, true] rfl rfl) (by decide) ?_
      refine pxEnd ?_
      refine qxThen ?_
      refine cxSeq ?_
      obtain ⟨x4, hx4⟩ := get_at [(ob ((f 0).toNat / 4)), (ob ((f 0).toNat % 4 * 16 + (f 1).toNat / 16)), (ob ((f 1).toNat % 16 * 4 + (f 2).toNat / 64)), (ob ((f 2).toNat % 64))] i (by simp only [List.length_cons, List.length_nil]; omega)
      have hb4 := UInt8.toNat_lt x4
      refine cxReg ?_
      refine pxV (v := (.int .i64 (((i) : Nat) : Int))) (fun _ _ hF => opMove rfl (hF.ev 0 rfl)) rfl (fun _ _ => rfl) (kA rfl) (by decide) ?_
      refine pxV (v := (.int .i64 (((kk) : Nat) : Int))) (fun _ _ hF => opMove rfl (hF.ev 5 rfl)) rfl (fun _ _ => rfl) (kA rfl) (by decide) ?_
      refine pxV (v := (.bool (decide (i ≤ kk)))) (fun _ _ hF => opLeq rfl (hF.ev 1 rfl) (hF.ev 0 rfl) (dc (by omega))) rfl (fun _ _ => rfl) (kM [false, false, true, true, true, true, true, true, true] rfl rfl) (by decide) ?_
      refine pxEnd ?_
      refine qxThen ?_
      refine cxP 0 rfl rfl (fun hc11 => ?_) (fun hc11 => ?_)
      · refine cxReg ?_
        refine pxV (v := (.slice Ap o2.length cp)) (fun _ _ hF => opMove rfl (hF.ev 6 rfl)) rfl (fun _ _ => rfl) (kM [false, true, true, true, true, true, false, true] rfl rfl) (by decide) ?_
        refine pxV (v := (.slice (some ⟨g9, 0, none⟩) 4 4)) (fun _ _ hF => opMove rfl (hF.ev 4 rfl)) rfl (fun _ _ => rfl) (kA rfl) (by decide) ?_
        refine pxV (v := (.int .i64 (((i) : Nat) : Int))) (fun _ _ hF => opMove rfl (hF.ev 2 rfl)) rfl (fun _ _ => rfl) (kM [true, true, false, true, true, true, true, true] rfl rfl) (by decide) ?_
        have hi12 : i < 4 := by omega
        have hj15 : i < ([(ob ((f 0).toNat / 4)), (ob ((f 0).toNat % 4 * 16 + (f 1).toNat / 16)), (ob ((f 1).toNat % 16 * 4 + (f 2).toNat / 64)), (ob ((f 2).toNat % 64))]).length := by first | exact hi12 | (simp only [List.length_drop, List.length_take]; omega) | omega
        refine pxV (v := (.pointer (some ⟨g9, 0 + i * 1, none⟩))) (fun _ _ hF => opIndex (i := i) (e := 5) (sz := 1) rfl (by kernel_rfl) (by kernel_rfl) (hF.ev 1 rfl) (hF.ev 0 rfl) rfl hi12) rfl (fun _ _ => rfl) (kM [false, false, true, true, true, true, true, true] rfl rfl) (by decide) ?_
        refine pxS (v := (.int .u8 (((x4.toNat) : Nat) : Int))) (fun w => w.heap[g9]? = some (.cells (flat cByte [(ob ((f 0).toNat / 4)), (ob ((f 0).toNat % 4 * 16 + (f 1).toNat / 16)), (ob ((f 1).toNat % 16 * 4 + (f 2).toNat / 64)), (ob ((f 2).toNat % 64))]).toArray 5 (0, 0))) (hH.blk 2 rfl) (fun _ _ hF hS => opLoadT (C := cByte) (y := x4) rfl (hF.ev 0 rfl) (by kernel_rfl) (((Bk.lits (C := cByte) [(ob ((f 0).toNat / 4)), (ob ((f 0).toNat % 4 * 16 + (f 1).toNat / 16)), (ob ((f 1).toNat % 16 * 4 + (f 2).toNat / 64)), (ob ((f 2).toNat % 64))] (by show 4 ≤ _; unfold maxLen; decide)).holdsL hS) i _ hx4) rfl) rfl (fun _ _ => rfl) (kM [false, true, true, true, true, true, true] rfl rfl) (by decide) ?_
        refine pxV (v := (.int .u8 ((((sg x4.toNat).toNat) : Nat) : Int))) (fun _ _ hF => opIdxL (l := sgnL) (i := x4.toNat) (c := (sg x4.toNat)) rfl (by kernel_rfl) rfl (hF.ev 0 rfl) rfl (sg_get (four_at (f := f) hx4))) rfl (fun _ _ => rfl) (kM [false, true, true, true, true, true, true] rfl rfl) (by decide) ?_
        refine pxM hH (fun _ hF => smLit1 (e := 5) (sz := 1) (z := (.int .u8 0)) (by_ := 1) (cs := cByte.enc (sg x4.toNat)) rfl (by kernel_rfl) (by kernel_rfl) (hF.ev 0 rfl) (cByte.len (sg x4.toNat)) (ltb rfl) (leb rfl) rfl) trivial rfl (fun _ _ => rfl) (kM [false, true, true, true, true, true, true] rfl rfl) (by decide) ?_
        clear hH
        rintro _ _ w ⟨g16, rfl, rfl⟩ hH
        replace hH : HH w0 [] [Ep, [bl g2 45 ((cArr 3).enc f)], [bl g9 5 (flat cByte [(ob ((f 0).toNat / 4)), (ob ((f 0).toNat % 4 * 16 + (f 1).toNat / 16)), (ob ((f 1).toNat % 16 * 4 + (f 2).toNat / 64)), (ob ((f 2).toNat % 64))]).toArray], [bl g16 5 (cByte.enc (sg x4.toNat))]] w := hH
        refine pxE 0 hH rfl (fun _ hF => smAppT (C := cByte) (l := o2) (m := [(sg x4.toNat)]) (e := 5) (z := (.int .u8 0)) (by_ := 1) rfl (by kernel_rfl) (by kernel_rfl) rfl (ltb rfl) (hF.ev 1 rfl) hOp (hF.ev 0 rfl) rfl (fun h => by cases h) (by unfold maxLen; omega) (by omega)) ((Bk.lit1 (C := cByte) (sg x4.toNat)).vu (n := 1) (hH.blk 3 rfl) rfl) rfl (fun _ _ => rfl) (kM [false, false, true, true, true, true, true] rfl rfl) (by decide) ?_
        clear hH
        rintro v19 E20 w ⟨hO21, _⟩ hH
        replace hH : HH w0 [] [E20, [bl g2 45 ((cArr 3).enc f)], [bl g9 5 (flat cByte [(ob ((f 0).toNat / 4)), (ob ((f 0).toNat % 4 * 16 + (f 1).toNat / 16)), (ob ((f 1).toNat % 16 * 4 + (f 2).toNat / 64)), (ob ((f 2).toNat % 64))]).toArray], [bl g16 5 (cByte.enc (sg x4.toNat))]] w := hH
        replace hO21 : OwnT cByte 5 v19 (o2 ++ [(sg x4.toNat)]) E20 := hO21
        obtain ⟨A17, c18, rfl⟩ := hO21.slice
        refine pxV (v := (.slice A17 ((o2 ++ [(sg x4.toNat)]).length) c18)) (fun _ _ hF => opAssign rfl (hF.ev 0 rfl)) rfl (fun _ _ => rfl) (kM [false, true, true, true, true, true] rfl rfl) (by decide) ?_
        refine pxEnd ?_
        refine qxInN ?_
        refine qxThen ?_
        refine cxReg ?_
        refine pxV (v := (.int .i64 (((i + 1) : Nat) : Int))) (fun _ _ hF => opAdd rfl (hF.ev 1 rfl) rfl (wI (by omega) (by omega) (by omega))) rfl (fun _ _ => rfl) (kM [true, false, true, true, true, true] rfl rfl) (by decide) ?_
        refine pxV (v := (.int .i64 (((i + 1) : Nat) : Int))) (fun _ _ hF => opMove rfl (hF.ev 0 rfl)) rfl (fun _ _ => rfl) (kM [false, true, true, true, true, true] rfl rfl) (by decide) ?_
        refine pxEnd ?_
        replace hH : HH w0 [] [E20, [bl g2 45 ((cArr 3).enc f)], [bl g9 5 (flat cByte [(ob ((f 0).toNat / 4)), (ob ((f 0).toNat % 4 * 16 + (f 1).toNat / 16)), (ob ((f 1).toNat % 16 * 4 + (f 2).toNat / 64)), (ob ((f 2).toNat % 64))]).toArray]] w := hH.only [true, true, true, false]
        exact qxRound ((i + 1), (o2 ++ [(sg x4.toNat)]), A17, c18, E20) ⟨hH, (show (i + 1) ≤ 4 from (by omega)), (show (o2 ++ [(sg x4.toNat)]).length = o.length + (i + 1) from (by rw [List.length_append, List.length_singleton, hol]; omega)), (show (o2 ++ [(sg x4.toNat)]) = o ++ (g4 f kk).take (i + 1) from (take_next ((g4_at (f := f) (n := kk) (by omega) hx4).trans (by rw [if_pos hc11])) ho2)), hO21⟩ (by show 4 - (i + 1) < 4 - i; omega) (slots_at [0, 2, 3, 4, 1, 5] rfl)
      · refine cxReg ?_
        refine pxV (v := (.slice Ap o2.length cp)) (fun _ _ hF => opMove rfl (hF.ev 6 rfl)) rfl (fun _ _ => rfl) (kM [false, false, true, true, true, true, false, true] rfl rfl) (by decide) ?_
        refine pxM hH (fun _ hF => smLit1 (e := 5) (sz := 1) (z := (.int .u8 0)) (by_ := 1) (cs := cByte.enc 61) rfl (by kernel_rfl) (by kernel_rfl) rfl (cByte.len 61) (ltb rfl) (leb rfl) rfl) trivial rfl (fun _ _ => rfl) (kA rfl) (by decide) ?_
        clear hH
        rintro _ _ w ⟨g22, rfl, rfl⟩ hH
        replace hH : HH w0 [] [Ep, [bl g2 45 ((cArr 3).enc f)], [bl g9 5 (flat cByte [(ob ((f 0).toNat / 4)), (ob ((f 0).toNat % 4 * 16 + (f 1).toNat / 16)), (ob ((f 1).toNat % 16 * 4 + (f 2).toNat / 64)), (ob ((f 2).toNat % 64))]).toArray], [bl g22 5 (cByte.enc 61)]] w := hH
        refine pxE 0 hH rfl (fun _ hF => smAppT (C := cByte) (l := o2) (m := [61]) (e := 5) (z := (.int .u8 0)) (by_ := 1) rfl (by kernel_rfl) (by kernel_rfl) rfl (ltb rfl) (hF.ev 1 rfl) hOp (hF.ev 0 rfl) rfl (fun h => by cases h) (by unfold maxLen; omega) (by omega)) ((Bk.lit1 (C := cByte) 61).vu (n := 1) (hH.blk 3 rfl) rfl) rfl (fun _ _ => rfl) (kM [false, false, true, true, true, true, true] rfl rfl) (by decide) ?_
        clear hH
        rintro v25 E26 w ⟨hO27, _⟩ hH
        replace hH : HH w0 [] [E26, [bl g2 45 ((cArr 3).enc f)], [bl g9 5 (flat cByte [(ob ((f 0).toNat / 4)), (ob ((f 0).toNat % 4 * 16 + (f 1).toNat / 16)), (ob ((f 1).toNat % 16 * 4 + (f 2).toNat / 64)), (ob ((f 2).toNat % 64))]).toArray], [bl g22 5 (cByte.enc 61)]] w := hH
        replace hO27 : OwnT cByte 5 v25 (o2 ++ [61]) E26 := hO27
        obtain ⟨A23, c24, rfl⟩ := hO27.slice
        refine pxV (v := (.slice A23 ((o2 ++ [61]).length) c24)) (fun _ _ hF => opAssign rfl (hF.ev 0 rfl)) rfl (fun _ _ => rfl) (kM [false, true, true, true, true, true] rfl rfl) (by decide) ?_
        refine pxEnd ?_
        refine qxInN ?_
        refine qxThen ?_
        refine cxReg ?_
        refine pxV (v := (.int .i64 (((i + 1) : Nat) : Int))) (fun _ _ hF => opAdd rfl (hF.ev 1 rfl) rfl (wI (by omega) (by omega) (by omega))) rfl (fun _ _ => rfl) (kM [true, false, true, true, true, true] rfl rfl) (by decide) ?_
        refine pxV (v := (.int .i64 (((i + 1) : Nat) : Int))) (fun _ _ hF => opMove rfl (hF.ev 0 rfl)) rfl (fun _ _ => rfl) (kM [false, true, true, true, true, true] rfl rfl) (by decide) ?_
        refine pxEnd ?_
        replace hH : HH w0 [] [E26, [bl g2 45 ((cArr 3).enc f)], [bl g9 5 (flat cByte [(ob ((f 0).toNat / 4)), (ob ((f 0).toNat % 4 * 16 + (f 1).toNat / 16)), (ob ((f 1).toNat % 16 * 4 + (f 2).toNat / 64)), (ob ((f 2).toNat % 64))]).toArray]] w := hH.only [true, true, true, false]
        exact qxRound ((i + 1), (o2 ++ [61]), A23, c24, E26) ⟨hH, (show (i + 1) ≤ 4 from (by omega)), (show (o2 ++ [61]).length = o.length + (i + 1) from (by rw [List.length_append, List.length_singleton, hol]; omega)), (show (o2 ++ [61]) = o ++ (g4 f kk).take (i + 1) from (take_next ((g4_at (f := f) (n := kk) (by omega) hx4).trans (by rw [if_neg hc11])) ho2)), hO27⟩ (by show 4 - (i + 1) < 4 - i; omega) (slots_at [0, 2, 3, 4, 1, 5] rfl)
    · refine cxExit ?_
      refine qxThenE ?_
      refine qxThenE ?_
      refine qxInE ?_
      refine qxInN ?_
      replace hH : HH w0 [] [Ep] w := hH.only [true, false, false]
      exact qxRound ((cutA A1 c1 kk 1), (n1 - kk), (c1 - kk), (l1.drop kk), o2, Ap, cp, Ep) ⟨hH, (show Vu cByte w0 (cutA A1 c1 kk 1) (n1 - kk) (c1 - kk) (l1.drop kk) from (hV.from (k := kk) (by omega))), (show o2 ++ b64 (l1.drop kk) = b64 l from (by have e : i = 4 := (by omega); subst e; rw [show (g4 f kk).take 4 = g4 f kk from rfl] at ho2; rw [b64_group (by omega) (by rw [hcl]; exact hkk) hf, ← List.append_assoc] at hinv; rw [ho2]; exact hinv)), hOp⟩ (by show n1 - kk < n1; omega) (slots_at [5, 6] rfl)
  · refine cxExit ?_
    refine qxThenE ?_
    refine qxThenE ?_
    refine qxInE ?_
    refine qxThen ?_
    refine cxSeq ?_
    refine cxReg ?_
    refine pxV (v := (.slice Ao o.length co)) (fun _ _ hF => opMove rfl (hF.ev 1 rfl)) rfl (fun _ _ => rfl) (kM [false, false, false] rfl rfl) (by decide) ?_
    refine pxS (v := (.string (strL o))) (fun w => Vu cByte w Ao o.length co o) (hOo.vuAt (hH.has 0 rfl)) (fun _ _ hF hS => opStr (e := 5) rfl (by kernel_rfl) (by kernel_rfl) (by kernel_rfl) (hF.ev 0 rfl) hS) rfl (fun _ _ => rfl) (kM [false] rfl rfl) (by decide) ?_
    refine pxV (v := (.string (strL o))) (fun _ _ hF => opAssign rfl (hF.ev 0 rfl)) rfl (fun _ _ => rfl) (kM [false] rfl rfl) (by decide) ?_
    refine pxEnd ?_
    refine qxThen ?_
    refine cxRet ?_
    refine qxRet1 0 rfl rfl ?_
    have e : l1 = [] := List.eq_nil_of_length_eq_zero (by have := hV.len; omega)
    subst e
    have ho : o = b64 l := by simpa [b64] using hinv
    exact ⟨by rw [ho], hH.toBelow⟩

end Go.Proofs.Ytadbpmcmdcnlfaa
