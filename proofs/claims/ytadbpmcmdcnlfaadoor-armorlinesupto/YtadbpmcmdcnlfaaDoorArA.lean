/- The program's Sum and Base64. -/
import Derived.Test.YtadbpmcmdcnlfaaDoorBu
import Derived.Test.YtadbpmcmdcnlfaaDoorAm
namespace Go.Proofs.YtadbpmcmdcnlfaaDoor
open Go Go.RowKit
set_option maxRecDepth 100000

set_option maxHeartbeats 8000000 in
theorem sum_c (l : List UInt8) (A : Option Addr) (c : Nat) (hl : l.length ≤ 9223372036854775807) : Pure Tryd.prog 16 #[(.slice A l.length c)] (fun w => Vu cByte w A l.length c l) (.int .u32 ((crc l : Nat) : Int)) := by
  refine pure_of (fn := Tryd.f16) Tryd.func16 rfl Tryd.ntmps16 (Nat.le_of_ble_eq_true rfl) rfl ?_
  intro w0 hH hR
  have hcl := hR.len
  have hcc := hR.cap
  refine cxSeq ?_
  refine cxReg ?_
  refine pxV (v := (.int .u32 0)) (fun _ _ hF => opAssign rfl rfl) rfl (fun _ _ => rfl) (kA rfl) (by decide) ?_
  refine pxEnd ?_
  refine qxThen ?_
  refine cxSeq ?_
  refine cxReg ?_
  refine pxV (v := (.int .u32 11994318)) (fun _ _ hF => opAssign rfl rfl) rfl (fun _ _ => rfl) (kM [false, true] rfl rfl) (by decide) ?_
  refine pxEnd ?_
  refine qxThen ?_
  refine cxSeq ?_
  refine cxSeq ?_
  refine cxReg ?_
  refine pxV (v := (.slice A l.length c)) (fun _ _ hF => opMove rfl (hF.ev 1 rfl)) rfl (fun _ _ => rfl) (kM [true, false] rfl rfl) (by decide) ?_
  refine pxV (v := (.int .i64 (((l.length) : Nat) : Int))) (fun _ _ hF => opLen (e := 5) rfl (by kernel_rfl) (hF.ev 0 rfl)) rfl (fun _ _ => rfl) (kA rfl) (by decide) ?_
  refine pxV (v := (.int .i64 0)) (fun _ _ hF => opMove rfl rfl) rfl (fun _ _ => rfl) (kA rfl) (by decide) ?_
  refine pxEnd ?_
  refine qxThen ?_
  refine cxBlock ?_
  refine cxLoop (σ := Nat × Nat) (fun x => [(8, (.int .i64 (((x.1) : Nat) : Int))), (7, (.int .i64 (((l.length) : Nat) : Int))), (6, (.slice A l.length c)), (3, (.int .u32 (((x.2) : Nat) : Int)))]) (fun x w => HH w0 [] [] w ∧ (x.1 ≤ l.length) ∧ (x.2 = crcF 11994318 (l.take x.1)) ∧ (x.2 < 16777216)) (fun x => l.length - x.1) (0, 11994318) ⟨hH, Nat.zero_le _, rfl, by decide⟩ (slots_at [0, 1, 2, 3] rfl) ?_
  clear hH
  rintro ⟨i, s⟩ w ⟨hH, hi, hs, h24⟩
  change CX _ _ _ _ [(8, (.int .i64 (((i) : Nat) : Int))), (7, (.int .i64 (((l.length) : Nat) : Int))), (6, (.slice A l.length c)), (3, (.int .u32 (((s) : Nat) : Int)))] _
  replace hH : HH w0 [] [] w := hH
  replace hi : i ≤ l.length := hi
  replace hs : s = crcF 11994318 (l.take i) := hs
  replace h24 : s < 16777216 := h24
  refine cxSeq ?_
  refine cxReg ?_
  refine pxV (v := (.bool (decide (i < l.length)))) (fun _ _ hF => opLss rfl (hF.ev 0 rfl) (hF.ev 1 rfl) (dc (by omega))) rfl (fun _ _ => rfl) (kA rfl) (by decide) ?_
  refine pxEnd ?_
  refine qxThen ?_
  refine cxSeq ?_
  refine cxP 0 rfl rfl (fun hc1 => ?_) (fun hc1 => ?_)
  · refine cxSkip ?_
    refine qxThen ?_
    refine cxSeq ?_
    refine cxBlock ?_
    refine cxSeq ?_
    refine cxReg ?_
    have hi2 : i < l.length := by omega
    obtain ⟨b3, off4, rfl, hL5, hb6, hR7⟩ := hR.blk (by decide) (Off.nil _ _) (by omega)
    have := hR.cap
    have hj10 : i < l.length := by first | exact hi2 | (simp only [List.length_drop, List.length_take]; omega) | omega
    obtain ⟨x8, hx9⟩ := get_at l i hj10
    have hb11 := UInt8.toNat_lt x8
    refine pxV (v := (.pointer (some ⟨b3, off4 + i * 1, none⟩))) (fun _ _ hF => opIndex (i := i) (e := 5) (sz := 1) rfl (by kernel_rfl) (by kernel_rfl) (hF.ev 3 rfl) (hF.ev 1 rfl) rfl hi2) rfl (fun _ _ => rfl) (kM [false, true, true, true, true] rfl rfl) (by decide) ?_
    refine pxS (v := (.int .u8 (((x8.toNat) : Nat) : Int))) (fun w => HoldsL cByte w b3 off4 l) (hH.holdsL hL5 hb6 hR7) (fun _ _ hF hS => opLoadT (C := cByte) (y := x8) rfl (hF.ev 0 rfl) (by kernel_rfl) (hS i _ hx9) rfl) rfl (fun _ _ => rfl) (kM [false, true, true, true, true] rfl rfl) (by decide) ?_
    refine pxV (v := (.int .u8 (((x8.toNat) : Nat) : Int))) (fun _ _ hF => opAssign rfl (hF.ev 0 rfl)) rfl (fun _ _ => rfl) (kM [false, true, true, true, true] rfl rfl) (by decide) ?_
    refine pxEnd ?_
    refine qxThen ?_
    refine cxSeq ?_
    refine cxReg ?_
    refine pxV (v := (.int .u32 (((s) : Nat) : Int))) (fun _ _ hF => opMove rfl (hF.ev 4 rfl)) rfl (fun _ _ => rfl) (kM [true, true, true, true, false] rfl rfl) (by decide) ?_
    refine pxV (v := (.int .u8 (((x8.toNat) : Nat) : Int))) (fun _ _ hF => opMove rfl (hF.ev 1 rfl)) rfl (fun _ _ => rfl) (kM [true, false, true, true, true] rfl rfl) (by decide) ?_
    refine pxV (v := (.int .u32 (((x8.toNat) : Nat) : Int))) (fun _ _ hF => opConvU (k' := .u32) (m := x8.toNat) rfl rfl (by kernel_rfl) (by kernel_rfl) (hF.ev 0 rfl) (Nat.mod_eq_of_lt (by show _ < 4294967296; omega))) rfl (fun _ _ => rfl) (kM [false, true, true, true, true] rfl rfl) (by decide) ?_
    refine pxV (v := (.int .u32 (((x8.toNat * 65536) : Nat) : Int))) (fun _ _ hF => opShlU (n := 16) (z := (x8.toNat * 65536)) rfl rfl (hF.ev 0 rfl) rfl (leb rfl) (by show (x8.toNat * 2 ^ 16) % 4294967296 = _; omega)) rfl (fun _ _ => rfl) (kM [false, true, true, true, true] rfl rfl) (by decide) ?_
    refine pxV (v := (.int .u32 (((s ^^^ (x8.toNat * 65536)) : Nat) : Int))) (fun _ _ hF => opXorU (m := s) (j := x8.toNat * 65536) (z := (s ^^^ (x8.toNat * 65536))) rfl rfl (hF.ev 1 rfl) (hF.ev 0 rfl) (by show _ < 4294967296; omega) (by show _ < 4294967296; omega) (rfl)) rfl (fun _ _ => rfl) (kM [false, false, true, true, true] rfl rfl) (by decide) ?_
    refine pxV (v := (.int .u32 (((s ^^^ (x8.toNat * 65536)) : Nat) : Int))) (fun _ _ hF => opAssign rfl (hF.ev 0 rfl)) rfl (fun _ _ => rfl) (kM [false, true, true, true] rfl rfl) (by decide) ?_
    refine pxEnd ?_
    refine qxThen ?_
    refine cxSeq ?_
    refine cxReg ?_
    refine pxV (v := (.int .i64 0)) (fun _ _ hF => opMove rfl rfl) rfl (fun _ _ => rfl) (kA rfl) (by decide) ?_
    refine pxEnd ?_
    refine qxThen ?_
    refine cxBlock ?_
    refine cxLoop (σ := Nat × Nat) (fun x => [(17, (.int .i64 (((x.1) : Nat) : Int))), (8, (.int .i64 (((i) : Nat) : Int))), (7, (.int .i64 (((l.length) : Nat) : Int))), (6, (.slice (some ⟨b3, off4, none⟩) l.length c)), (3, (.int .u32 (((x.2) : Nat) : Int)))]) (fun x w => HH w0 [] [] w ∧ (x.1 ≤ 8) ∧ (crcBits (8 - x.1) x.2 = crcByte s x8) ∧ (x.2 < 16777216)) (fun x => 8 - x.1) (0, (s ^^^ (x8.toNat * 65536))) ⟨hH, Nat.zero_le _, rfl, crc_in h24 x8⟩ (slots_at [0, 2, 3, 4, 1] rfl) ?_
    clear hH
    rintro ⟨k, n⟩ w ⟨hH, hk, hn, hn24⟩
    change CX _ _ _ _ [(17, (.int .i64 (((k) : Nat) : Int))), (8, (.int .i64 (((i) : Nat) : Int))), (7, (.int .i64 (((l.length) : Nat) : Int))), (6, (.slice (some ⟨b3, off4, none⟩) l.length c)), (3, (.int .u32 (((n) : Nat) : Int)))] _
    replace hH : HH w0 [] [] w := hH
    replace hk : k ≤ 8 := hk
    replace hn : crcBits (8 - k) n = crcByte s x8 := hn
    replace hn24 : n < 16777216 := hn24
    refine cxSeq ?_
    refine cxReg ?_
    refine pxV (v := (.bool (decide (k < 8)))) (fun _ _ hF => opLss rfl (hF.ev 0 rfl) rfl (dc (by omega))) rfl (fun _ _ => rfl) (kA rfl) (by decide) ?_
    refine pxEnd ?_
    refine qxThen ?_
    refine cxSeq ?_
    refine cxP 0 rfl rfl (fun hc12 => ?_) (fun hc12 => ?_)
    · refine cxSkip ?_
      refine qxThen ?_
      refine cxSeq ?_
      refine cxBlock ?_
      refine cxSeq ?_
      refine cxReg ?_
      refine pxV (v := (.int .u32 (((n) : Nat) : Int))) (fun _ _ hF => opMove rfl (hF.ev 5 rfl)) rfl (fun _ _ => rfl) (kM [false, true, true, true, true, false] rfl rfl) (by decide) ?_
      refine pxV (v := (.int .u32 (((2 * n) : Nat) : Int))) (fun _ _ hF => opShlU (n := 1) (z := (2 * n)) rfl rfl (hF.ev 0 rfl) rfl (leb rfl) (by show (n * 2 ^ 1) % 4294967296 = _; omega)) rfl (fun _ _ => rfl) (kM [false, true, true, true, true] rfl rfl) (by decide) ?_
      refine pxV (v := (.int .u32 (((2 * n) : Nat) : Int))) (fun _ _ hF => opAssign rfl (hF.ev 0 rfl)) rfl (fun _ _ => rfl) (kM [false, true, true, true, true] rfl rfl) (by decide) ?_
      refine pxEnd ?_
      refine qxThen ?_
      refine cxSeq ?_
      refine cxReg ?_
      refine pxV (v := (.int .u32 (((2 * n) : Nat) : Int))) (fun _ _ hF => opMove rfl (hF.ev 0 rfl)) rfl (fun _ _ => rfl) (kA rfl) (by decide) ?_
      refine pxV (v := (.int .u32 ((((2 * n) &&& 16777216) : Nat) : Int))) (fun _ _ hF => opAndU (m := 2 * n) (j := 16777216) (z := ((2 * n) &&& 16777216)) rfl rfl (hF.ev 0 rfl) rfl (by show _ < 4294967296; omega) (by decide) (rfl)) rfl (fun _ _ => rfl) (kM [false, true, true, true, true, true] rfl rfl) (by decide) ?_
      refine pxV (v := (.bool (decide ((2 * n) &&& 16777216 ≠ 0)))) (fun _ _ hF => opNeI rfl (hF.ev 0 rfl) rfl (dc (by omega))) rfl (fun _ _ => rfl) (kM [false, true, true, true, true, true] rfl rfl) (by decide) ?_
      refine pxEnd ?_
      refine qxThen ?_
      refine cxP 0 rfl rfl (fun hc13 => ?_) (fun hc13 => ?_)
      · refine cxReg ?_
        refine pxV (v := (.int .u32 (((2 * n) : Nat) : Int))) (fun _ _ hF => opMove rfl (hF.ev 1 rfl)) rfl (fun _ _ => rfl) (kM [false, false, true, true, true, true] rfl rfl) (by decide) ?_
        refine pxV (v := (.int .u32 ((((2 * n) ^^^ 25578747) : Nat) : Int))) (fun _ _ hF => opXorU (m := 2 * n) (j := 25578747) (z := ((2 * n) ^^^ 25578747)) rfl rfl (hF.ev 0 rfl) rfl (by show _ < 4294967296; omega) (by decide) (rfl)) rfl (fun _ _ => rfl) (kM [false, true, true, true, true] rfl rfl) (by decide) ?_
        refine pxV (v := (.int .u32 ((((2 * n) ^^^ 25578747) : Nat) : Int))) (fun _ _ hF => opAssign rfl (hF.ev 0 rfl)) rfl (fun _ _ => rfl) (kM [false, true, true, true, true] rfl rfl) (by decide) ?_
        refine pxEnd ?_
        refine qxInN ?_
        refine qxThen ?_
        refine cxReg ?_
        refine pxV (v := (.int .i64 (((k + 1) : Nat) : Int))) (fun _ _ hF => opAdd rfl (hF.ev 1 rfl) rfl (wI (by omega) (by omega) (by omega))) rfl (fun _ _ => rfl) (kM [true, false, true, true, true] rfl rfl) (by decide) ?_
        refine pxV (v := (.int .i64 (((k + 1) : Nat) : Int))) (fun _ _ hF => opMove rfl (hF.ev 0 rfl)) rfl (fun _ _ => rfl) (kM [false, true, true, true, true] rfl rfl) (by decide) ?_
        refine pxEnd ?_
        exact qxRound ((k + 1), (2 * n) ^^^ 25578747) ⟨hH, (show (k + 1) ≤ 8 from by omega), (show crcBits (8 - (k + 1)) ((2 * n) ^^^ 25578747) = crcByte s x8 from (crc_up (by omega) hn24 hn).1 hc13 |>.1), (show ((2 * n) ^^^ 25578747) < 16777216 from (crc_up (by omega) hn24 hn).1 hc13 |>.2)⟩ (by show 8 - (k + 1) < 8 - k; omega) (slots_at [0, 2, 3, 4, 1] rfl)
      · refine cxSkip ?_
        refine qxInN ?_
        refine qxThen ?_
        refine cxReg ?_
        refine pxV (v := (.int .i64 (((k + 1) : Nat) : Int))) (fun _ _ hF => opAdd rfl (hF.ev 2 rfl) rfl (wI (by omega) (by omega) (by omega))) rfl (fun _ _ => rfl) (kM [false, true, false, true, true, true] rfl rfl) (by decide) ?_
        refine pxV (v := (.int .i64 (((k + 1) : Nat) : Int))) (fun _ _ hF => opMove rfl (hF.ev 0 rfl)) rfl (fun _ _ => rfl) (kM [false, true, true, true, true] rfl rfl) (by decide) ?_
        refine pxEnd ?_
        exact qxRound ((k + 1), 2 * n) ⟨hH, (show (k + 1) ≤ 8 from by omega), (show crcBits (8 - (k + 1)) (2 * n) = crcByte s x8 from (crc_up (by omega) hn24 hn).2 hc13 |>.1), (show (2 * n) < 16777216 from (crc_up (by omega) hn24 hn).2 hc13 |>.2)⟩ (by show 8 - (k + 1) < 8 - k; omega) (slots_at [0, 2, 3, 4, 1] rfl)
    · refine cxExit ?_
      refine qxThenE ?_
      refine qxThenE ?_
      refine qxInE ?_
      refine qxInN ?_
      refine qxThen ?_
      refine cxReg ?_
      refine pxV (v := (.int .i64 (((i + 1) : Nat) : Int))) (fun _ _ hF => opAdd rfl (hF.ev 2 rfl) rfl (wI (by omega) (by omega) (by omega))) rfl (fun _ _ => rfl) (kM [false, false, false, true, true, true] rfl rfl) (by decide) ?_
      refine pxV (v := (.int .i64 (((i + 1) : Nat) : Int))) (fun _ _ hF => opMove rfl (hF.ev 0 rfl)) rfl (fun _ _ => rfl) (kM [false, true, true, true] rfl rfl) (by decide) ?_
      refine pxEnd ?_
      exact qxRound ((i + 1), n) ⟨hH, (show (i + 1) ≤ l.length from by omega), (show n = crcF 11994318 (l.take (i + 1)) from (by have := hx9; have e : k = 8 := (by omega); subst e; rw [crcF_take _ this, ← hs]; exact hn)), hn24⟩ (by show l.length - (i + 1) < l.length - i; omega) (slots_at [0, 1, 2, 3] rfl)
  · refine cxExit ?_
    refine qxThenE ?_
    refine qxThenE ?_
    refine qxInE ?_
    refine qxThen ?_
    refine cxSeq ?_
    refine cxReg ?_
    refine pxV (v := (.int .u32 (((s) : Nat) : Int))) (fun _ _ hF => opMove rfl (hF.ev 4 rfl)) rfl (fun _ _ => rfl) (kM [false, false, false, false, false] rfl rfl) (by decide) ?_
    refine pxV (v := (.int .u32 (((s) : Nat) : Int))) (fun _ _ hF => opAssign rfl (hF.ev 0 rfl)) rfl (fun _ _ => rfl) (kM [false] rfl rfl) (by decide) ?_
    refine pxEnd ?_
    refine qxThen ?_
    refine cxRet ?_
    refine qxRet1 0 rfl rfl ?_
    exact ⟨(by have e : i = l.length := by omega
               subst e; rw [List.take_length] at hs; rw [hs]; rfl), hH.toBelow⟩

set_option maxHeartbeats 8000000 in
theorem base64_c (l : List UInt8) (A : Option Addr) (c : Nat) (hl : l.length ≤ 1099511627776) : Pure Tryd.prog 22 #[(.slice A l.length c)] (fun w => Vu cByte w A l.length c l) (.string (strL (b64 l))) := by
  refine pure_of (fn := Tryd.f22) Tryd.func22 rfl Tryd.ntmps22 (Nat.le_of_ble_eq_true rfl) rfl ?_
  intro w0 hH hR
  have hcl := hR.len
  have hcc := hR.cap
  have hsh := core_short l
  have hp3 : padN (core l).length ≤ 3 := by unfold padN; omega
  refine cxSeq ?_
  refine cxReg ?_
  refine pxV (v := (.string (strL ([])))) (fun _ _ hF => opAssign rfl rfl) rfl (fun _ _ => rfl) (kA rfl) (by decide) ?_
  refine pxEnd ?_
  refine qxThen ?_
  refine cxSeq ?_
  refine cxReg ?_
  refine pxM hH (fun _ hF => smAlloc (z := (.agg #[(.pointer none), (.slice none 0 0)])) rfl (by kernel_rfl) rfl) trivial rfl (fun _ _ => rfl) (kM [false, true] rfl rfl) (by decide) ?_
  clear hH
  rintro _ _ w ⟨g1, rfl, rfl⟩ hH
  replace hH : HH w0 [] [[bl g1 43 #[(.pointer none), (.slice none 0 0)]]] w := hH
  refine pxEnd ?_
  refine qxThen ?_
  refine cxSeq ?_
  refine cxReg ?_
  refine pxV (v := (.slice A l.length c)) (fun _ _ hF => opMove rfl (hF.ev 1 rfl)) rfl (fun _ _ => rfl) (kA rfl) (by decide) ?_
  refine pxV (v := (.int .i64 (((l.length) : Nat) : Int))) (fun _ _ hF => opLen (e := 5) rfl (by kernel_rfl) (hF.ev 0 rfl)) rfl (fun _ _ => rfl) (kM [false, true, true] rfl rfl) (by decide) ?_
  refine pxV (v := (.int .i64 (((l.length + 2) : Nat) : Int))) (fun _ _ hF => opAdd rfl (hF.ev 0 rfl) rfl (wI (by omega) (by omega) (by omega))) rfl (fun _ _ => rfl) (kM [false, true, true] rfl rfl) (by decide) ?_
  refine pxV (v := (.int .i64 ((((l.length + 2) / 3) : Nat) : Int))) (fun _ _ hF => opQuo (z := (((l.length + 2) / 3 : Nat) : Int)) rfl (hF.ev 0 rfl) rfl (by omega) (wI quoN (by omega) (by omega))) rfl (fun _ _ => rfl) (kM [false, true, true] rfl rfl) (by decide) ?_
  refine pxV (v := (.int .i64 (((((l.length + 2) / 3) * 4) : Nat) : Int))) (fun _ _ hF => opMul rfl (hF.ev 0 rfl) rfl (wI (by omega) (by omega) (by omega))) rfl (fun _ _ => rfl) (kM [false, true, true] rfl rfl) (by decide) ?_
  refine pxE 0 hH rfl (fun _ hF => Does.small (bu_grow g1 (((l.length + 2) / 3) * 4) (by omega)) (fun w => opCall rfl Tryd.func38 rfl rfl (Evs.cons (v := (.pointer (some ⟨g1, 0, none⟩))) (hF.ev 1 rfl) (Evs.cons (v := (.int .i64 (((((l.length + 2) / 3) * 4) : Nat) : Int))) (hF.ev 0 rfl) Evs.nil)) w)) trivial rfl (fun _ _ => rfl) (kM [false, true, true] rfl rfl) (by decide) ?_
  clear hH
  rintro _ E2 w ⟨rfl, hB3⟩ hH
  replace hH : HH w0 [] [E2] w := hH
  refine pxEnd ?_
  refine qxThen ?_
  refine cxSeq ?_
  refine cxReg ?_
  refine pxV (v := (.int .u32 0)) (fun _ _ hF => opAssign rfl rfl) rfl (fun _ _ => rfl) (kM [false, true, true] rfl rfl) (by decide) ?_
  refine pxEnd ?_
  refine qxThen ?_
  refine cxSeq ?_
  refine cxReg ?_
  refine pxV (v := (.int .i64 0)) (fun _ _ hF => opAssign rfl rfl) rfl (fun _ _ => rfl) (kA rfl) (by decide) ?_
  refine pxEnd ?_
  refine qxThen ?_
  refine cxSeq ?_
  refine cxSeq ?_
  refine cxReg ?_
  refine pxV (v := (.slice A l.length c)) (fun _ _ hF => opMove rfl (hF.ev 3 rfl)) rfl (fun _ _ => rfl) (kM [true, true, true, false] rfl rfl) (by decide) ?_
  refine pxV (v := (.int .i64 (((l.length) : Nat) : Int))) (fun _ _ hF => opLen (e := 5) rfl (by kernel_rfl) (hF.ev 0 rfl)) rfl (fun _ _ => rfl) (kA rfl) (by decide) ?_
  refine pxV (v := (.int .i64 0)) (fun _ _ hF => opMove rfl rfl) rfl (fun _ _ => rfl) (kA rfl) (by decide) ?_
  refine pxEnd ?_
  refine qxThen ?_
  refine cxBlock ?_
  refine cxLoop (σ := Nat × Nat × Nat × (List UInt8) × Hl) (fun x => [(16, (.int .i64 (((x.1) : Nat) : Int))), (15, (.int .i64 (((l.length) : Nat) : Int))), (14, (.slice A l.length c)), (5, (.int .i64 (((x.2.2.1) : Nat) : Int))), (4, (.int .u32 (((x.2.1) : Nat) : Int))), (3, (.pointer (some ⟨g1, 0, none⟩)))]) (fun x w => HH w0 [] [x.2.2.2.2] w ∧ (x.1 ≤ l.length) ∧ (x.2.1 < 4294967296) ∧ (x.2.2.1 < 6) ∧ (x.2.2.2.1 ++ eb x.2.2.1 (x.2.1 % 2 ^ x.2.2.1) (l.drop x.1) = core l) ∧ (BuAt 43 5 g1 x.2.2.2.1 x.2.2.2.2)) (fun x => l.length - x.1) (0, 0, 0, [], E2) ⟨hH, Nat.zero_le _, (ltb rfl), (ltb rfl), (by rw [List.nil_append, List.drop_zero]; exact eb_core l), hB3⟩ (slots_at [0, 1, 2, 3, 4, 5] rfl) ?_
  clear hH
  rintro ⟨i, bits, left, o, E⟩ w ⟨hH, hi, hb, hlf, hinv, hB⟩
  change CX _ _ _ _ [(16, (.int .i64 (((i) : Nat) : Int))), (15, (.int .i64 (((l.length) : Nat) : Int))), (14, (.slice A l.length c)), (5, (.int .i64 (((left) : Nat) : Int))), (4, (.int .u32 (((bits) : Nat) : Int))), (3, (.pointer (some ⟨g1, 0, none⟩)))] _
  replace hH : HH w0 [] [E] w := hH
  replace hi : i ≤ l.length := hi
  replace hb : bits < 4294967296 := hb
  replace hlf : left < 6 := hlf
  replace hinv : o ++ eb left (bits % 2 ^ left) (l.drop i) = core l := hinv
  replace hB : BuAt 43 5 g1 o E := hB
  refine cxSeq ?_
  refine cxReg ?_
  refine pxV (v := (.bool (decide (i < l.length)))) (fun _ _ hF => opLss rfl (hF.ev 0 rfl) (hF.ev 1 rfl) (dc (by omega))) rfl (fun _ _ => rfl) (kA rfl) (by decide) ?_
  refine pxEnd ?_
  refine qxThen ?_
  refine cxSeq ?_
  refine cxP 0 rfl rfl (fun hc4 => ?_) (fun hc4 => ?_)
  · refine cxSkip ?_
    refine qxThen ?_
    refine cxSeq ?_
    refine cxBlock ?_
    refine cxSeq ?_
    refine cxReg ?_
    have hi5 : i < l.length := by omega
    obtain ⟨b6, off7, rfl, hL8, hb9, hR10⟩ := hR.blk (by decide) (Off.nil _ _) (by omega)
    have := hR.cap
    have hj13 : i < l.length := by first | exact hi5 | (simp only [List.length_drop, List.length_take]; omega) | omega
    obtain ⟨x11, hx12⟩ := get_at l i hj13
    have hb14 := UInt8.toNat_lt x11
    refine pxV (v := (.pointer (some ⟨b6, off7 + i * 1, none⟩))) (fun _ _ hF => opIndex (i := i) (e := 5) (sz := 1) rfl (by kernel_rfl) (by kernel_rfl) (hF.ev 3 rfl) (hF.ev 1 rfl) rfl hi5) rfl (fun _ _ => rfl) (kM [false, true, true, true, true, true, true] rfl rfl) (by decide) ?_
    refine pxS (v := (.int .u8 (((x11.toNat) : Nat) : Int))) (fun w => HoldsL cByte w b6 off7 l) (hH.holdsL hL8 hb9 hR10) (fun _ _ hF hS => opLoadT (C := cByte) (y := x11) rfl (hF.ev 0 rfl) (by kernel_rfl) (hS i _ hx12) rfl) rfl (fun _ _ => rfl) (kM [false, true, true, true, true, true, true] rfl rfl) (by decide) ?_
    refine pxV (v := (.int .u8 (((x11.toNat) : Nat) : Int))) (fun _ _ hF => opAssign rfl (hF.ev 0 rfl)) rfl (fun _ _ => rfl) (kM [false, true, true, true, true, true, true] rfl rfl) (by decide) ?_
    refine pxEnd ?_
    refine qxThen ?_
    refine cxSeq ?_
    refine cxReg ?_
    refine pxV (v := (.int .u32 (((bits) : Nat) : Int))) (fun _ _ hF => opMove rfl (hF.ev 5 rfl)) rfl (fun _ _ => rfl) (kM [true, true, true, true, true, false, true] rfl rfl) (by decide) ?_
    refine pxV (v := (.int .u32 ((((bits * 2 ^ 8) % 4294967296) : Nat) : Int))) (fun _ _ hF => opShlU (n := 8) (z := ((bits * 2 ^ 8) % 4294967296)) rfl rfl (hF.ev 0 rfl) rfl (leb rfl) (rfl)) rfl (fun _ _ => rfl) (kM [false, true, true, true, true, true, true] rfl rfl) (by decide) ?_
    refine pxV (v := (.int .u8 (((x11.toNat) : Nat) : Int))) (fun _ _ hF => opMove rfl (hF.ev 1 rfl)) rfl (fun _ _ => rfl) (kM [true, false, true, true, true, true, true] rfl rfl) (by decide) ?_
    refine pxV (v := (.int .u32 (((x11.toNat) : Nat) : Int))) (fun _ _ hF => opConvU (k' := .u32) (m := x11.toNat) rfl rfl (by kernel_rfl) (by kernel_rfl) (hF.ev 0 rfl) (Nat.mod_eq_of_lt (by show _ < 4294967296; omega))) rfl (fun _ _ => rfl) (kM [false, true, true, true, true, true, true] rfl rfl) (by decide) ?_
    obtain ⟨nb, hnb⟩ : ∃ nb, (bits * 2 ^ 8) % 4294967296 ||| x11.toNat = nb := ⟨_, rfl⟩
    have hpb := push_bits (bits := bits) (left := left) (k := 8) (x := x11.toNat) (by omega) (by show _ < 256; omega)
    rw [hnb] at hpb
    obtain ⟨hnb1, hnb2⟩ := hpb
    refine pxV (v := (.int .u32 (((nb) : Nat) : Int))) (fun _ _ hF => opOrU (m := (bits * 2 ^ 8) % 4294967296) (j := x11.toNat) (z := nb) rfl rfl (hF.ev 1 rfl) (hF.ev 0 rfl) (by show _ < 4294967296; omega) (by show _ < 4294967296; omega) (hnb)) rfl (fun _ _ => rfl) (kM [false, false, true, true, true, true, true] rfl rfl) (by decide) ?_
    refine pxV (v := (.int .u32 (((nb) : Nat) : Int))) (fun _ _ hF => opAssign rfl (hF.ev 0 rfl)) rfl (fun _ _ => rfl) (kM [false, true, true, true, true, true] rfl rfl) (by decide) ?_
    refine pxEnd ?_
    refine qxThen ?_
    refine cxSeq ?_
    refine cxReg ?_
    refine pxV (v := (.int .i64 (((left) : Nat) : Int))) (fun _ _ hF => opMove rfl (hF.ev 4 rfl)) rfl (fun _ _ => rfl) (kM [true, true, true, true, false, true] rfl rfl) (by decide) ?_
    refine pxV (v := (.int .i64 (((left + 8) : Nat) : Int))) (fun _ _ hF => opAdd rfl (hF.ev 0 rfl) rfl (wI (by omega) (by omega) (by omega))) rfl (fun _ _ => rfl) (kM [false, true, true, true, true, true] rfl rfl) (by decide) ?_
    refine pxV (v := (.int .i64 (((left + 8) : Nat) : Int))) (fun _ _ hF => opAssign rfl (hF.ev 0 rfl)) rfl (fun _ _ => rfl) (kM [false, true, true, true, true, true] rfl rfl) (by decide) ?_
    refine pxEnd ?_
    refine qxThen ?_
    refine cxBlock ?_
    refine cxLoop (σ := Nat × (List UInt8) × Hl) (fun x => [(16, (.int .i64 (((i) : Nat) : Int))), (15, (.int .i64 (((l.length) : Nat) : Int))), (14, (.slice (some ⟨b6, off7, none⟩) l.length c)), (5, (.int .i64 (((x.1) : Nat) : Int))), (4, (.int .u32 (((nb) : Nat) : Int))), (3, (.pointer (some ⟨g1, 0, none⟩)))]) (fun x w => HH w0 [] [x.2.2] w ∧ (x.1 ≤ 14) ∧ (x.2.1 ++ eb x.1 (nb % 2 ^ x.1) (l.drop (i + 1)) = core l) ∧ (BuAt 43 5 g1 x.2.1 x.2.2)) (fun x => x.1) ((left + 8), o, E) ⟨hH, by omega, (eb_push hlf (by rw [← drop_at hx12]; exact hinv) hnb1), hB⟩ (slots_at [2, 3, 4, 0, 1, 5] rfl) ?_
    clear hH
    rintro ⟨left2, o2, E2⟩ w ⟨hH, hlf2, hinv2, hB2⟩
    change CX _ _ _ _ [(16, (.int .i64 (((i) : Nat) : Int))), (15, (.int .i64 (((l.length) : Nat) : Int))), (14, (.slice (some ⟨b6, off7, none⟩) l.length c)), (5, (.int .i64 (((left2) : Nat) : Int))), (4, (.int .u32 (((nb) : Nat) : Int))), (3, (.pointer (some ⟨g1, 0, none⟩)))] _
    replace hH : HH w0 [] [E2] w := hH
    replace hlf2 : left2 ≤ 14 := hlf2
    replace hinv2 : o2 ++ eb left2 (nb % 2 ^ left2) (l.drop (i + 1)) = core l := hinv2
    replace hB2 : BuAt 43 5 g1 o2 E2 := hB2
    refine cxSeq ?_
    refine cxSeq ?_
    refine cxReg ?_
    refine pxV (v := (.int .i64 (((left2) : Nat) : Int))) (fun _ _ hF => opMove rfl (hF.ev 3 rfl)) rfl (fun _ _ => rfl) (kA rfl) (by decide) ?_
    refine pxV (v := (.bool (decide (left2 ≥ 6)))) (fun _ _ hF => opGeq rfl (hF.ev 0 rfl) rfl (dc (by omega))) rfl (fun _ _ => rfl) (kM [false, true, true, true, true, true, true] rfl rfl) (by decide) ?_
    refine pxEnd ?_
    refine qxThen ?_
    refine cxP 0 rfl rfl (fun hc15 => ?_) (fun hc15 => ?_)
    · refine cxSkip ?_
      refine qxThen ?_
      refine cxBlock ?_
      refine cxSeq ?_
      refine cxReg ?_
      refine pxV (v := (.int .i64 (((left2) : Nat) : Int))) (fun _ _ hF => opMove rfl (hF.ev 4 rfl)) rfl (fun _ _ => rfl) (kM [false, true, true, true, false, true, true] rfl rfl) (by decide) ?_
      refine pxV (v := (.int .i64 ((((left2 - 6)) : Nat) : Int))) (fun _ _ hF => opSub rfl (hF.ev 0 rfl) rfl (wI (by omega) (by omega) (by omega))) rfl (fun _ _ => rfl) (kM [false, true, true, true, true, true] rfl rfl) (by decide) ?_
      refine pxV (v := (.int .i64 ((((left2 - 6)) : Nat) : Int))) (fun _ _ hF => opAssign rfl (hF.ev 0 rfl)) rfl (fun _ _ => rfl) (kM [false, true, true, true, true, true] rfl rfl) (by decide) ?_
      refine pxEnd ?_
      refine qxThen ?_
      refine cxReg ?_
      refine pxV (v := (.int .u32 (((nb) : Nat) : Int))) (fun _ _ hF => opMove rfl (hF.ev 4 rfl)) rfl (fun _ _ => rfl) (kA rfl) (by decide) ?_
      refine pxV (v := (.int .i64 ((((left2 - 6)) : Nat) : Int))) (fun _ _ hF => opMove rfl (hF.ev 1 rfl)) rfl (fun _ _ => rfl) (kA rfl) (by decide) ?_
      refine pxV (v := (.int .u32 (((nb / 2 ^ (left2 - 6)) : Nat) : Int))) (fun _ _ hF => opShrU (n := (left2 - 6)) (z := (nb / 2 ^ (left2 - 6))) rfl (hF.ev 1 rfl) (hF.ev 0 rfl) (by show _ ≤ 32; omega) (rfl)) rfl (fun _ _ => rfl) (kM [false, false, true, true, true, true, true, true] rfl rfl) (by decide) ?_
      have hmb := mid_bits (bits := nb) (left := left2) (by omega)
      have hqb := Nat.div_le_self nb (2 ^ (left2 - 6))
      obtain ⟨v, hv1⟩ : ∃ v, nb % 2 ^ left2 / 2 ^ (left2 - 6) = v := ⟨_, rfl⟩
      rw [hv1] at hmb
      obtain ⟨hv0, hv64⟩ := hmb
      refine pxV (v := (.int .u32 (((v) : Nat) : Int))) (fun _ _ hF => opAndU (m := nb / 2 ^ (left2 - 6)) (j := 63) (z := v) rfl rfl (hF.ev 0 rfl) rfl (by show _ < 4294967296; omega) (by decide) (hv0)) rfl (fun _ _ => rfl) (kM [false, true, true, true, true, true, true] rfl rfl) (by decide) ?_
      refine pxV (v := (.int .u8 ((((sg v).toNat) : Nat) : Int))) (fun _ _ hF => opIdxL (l := sgnL) (i := v) (c := (sg v)) rfl (by kernel_rfl) rfl (hF.ev 0 rfl) rfl (sg_get hv64)) rfl (fun _ _ => rfl) (kM [false, true, true, true, true, true, true] rfl rfl) (by decide) ?_
      refine pxE 0 hH rfl (fun _ hF => Does.small (bu_byte g1 o2 E2 hB2 (sg v) (by have := len_app hinv2; omega)) (fun w => opCall rfl Tryd.func20 rfl rfl (Evs.cons (v := (.pointer (some ⟨g1, 0, none⟩))) (hF.ev 6 rfl) (Evs.cons (v := (.int .u8 ((((sg v).toNat) : Nat) : Int))) (hF.ev 0 rfl) Evs.nil)) w)) trivial rfl (fun _ _ => rfl) (kM [false, true, true, true, true, true, true] rfl rfl) (by decide) ?_
      clear hH
      rintro _ E16 w ⟨rfl, hB17⟩ hH
      replace hH : HH w0 [] [E16] w := hH
      refine pxEnd ?_
      refine qxInN ?_
      exact qxRound ((left2 - 6), (o2 ++ [(sg v)]), E16) ⟨hH, (show (left2 - 6) ≤ 14 from by omega), (show (o2 ++ [(sg v)]) ++ eb (left2 - 6) (nb % 2 ^ (left2 - 6)) (l.drop (i + 1)) = core l from (eb_emit (by omega) hv1 hinv2)), hB17⟩ (by show left2 - 6 < left2; omega) (slots_at [2, 3, 4, 1, 5, 6] rfl)
    · refine cxExit ?_
      refine qxThenE ?_
      refine qxThenE ?_
      refine qxInE ?_
      refine qxInN ?_
      refine qxThen ?_
      refine cxReg ?_
      refine pxV (v := (.int .i64 (((i + 1) : Nat) : Int))) (fun _ _ hF => opAdd rfl (hF.ev 1 rfl) rfl (wI (by omega) (by omega) (by omega))) rfl (fun _ _ => rfl) (kM [false, false, true, true, true, true, true] rfl rfl) (by decide) ?_
      refine pxV (v := (.int .i64 (((i + 1) : Nat) : Int))) (fun _ _ hF => opMove rfl (hF.ev 0 rfl)) rfl (fun _ _ => rfl) (kM [false, true, true, true, true, true] rfl rfl) (by decide) ?_
      refine pxEnd ?_
      exact qxRound ((i + 1), nb, left2, o2, E2) ⟨hH, (show (i + 1) ≤ l.length from by omega), hnb2, (show left2 < 6 from by omega), hinv2, hB2⟩ (by show l.length - (i + 1) < l.length - i; omega) (slots_at [0, 1, 2, 3, 4, 5] rfl)
  · refine cxExit ?_
    refine qxThenE ?_
    refine qxThenE ?_
    refine qxInE ?_
    refine qxThen ?_
    refine cxSeq ?_
    refine cxSeq ?_
    refine cxReg ?_
    refine pxV (v := (.int .i64 (((left) : Nat) : Int))) (fun _ _ hF => opMove rfl (hF.ev 4 rfl)) rfl (fun _ _ => rfl) (kM [false, false, false, false, true, true, true] rfl rfl) (by decide) ?_
    refine pxV (v := (.bool (decide (left > 0)))) (fun _ _ hF => opGtr rfl (hF.ev 0 rfl) rfl (dc (by omega))) rfl (fun _ _ => rfl) (kM [false, true, true, true] rfl rfl) (by decide) ?_
    refine pxEnd ?_
    refine qxThen ?_
    refine cxP 0 rfl rfl (fun hc18 => ?_) (fun hc18 => ?_)
    · refine cxReg ?_
      refine pxV (v := (.int .u32 (((bits) : Nat) : Int))) (fun _ _ hF => opMove rfl (hF.ev 2 rfl)) rfl (fun _ _ => rfl) (kM [false, true, false, true] rfl rfl) (by decide) ?_
      refine pxV (v := (.int .i64 (((left) : Nat) : Int))) (fun _ _ hF => opMove rfl (hF.ev 1 rfl)) rfl (fun _ _ => rfl) (kM [true, false, true] rfl rfl) (by decide) ?_
      refine pxV (v := (.int .i64 ((((6 - left)) : Nat) : Int))) (fun _ _ hF => opSub rfl rfl (hF.ev 0 rfl) (wI (by omega) (by omega) (by omega))) rfl (fun _ _ => rfl) (kM [false, true, true] rfl rfl) (by decide) ?_
      refine pxV (v := (.int .u32 ((((bits * 2 ^ (6 - left)) % 4294967296) : Nat) : Int))) (fun _ _ hF => opShlU (n := (6 - left)) (z := ((bits * 2 ^ (6 - left)) % 4294967296)) rfl rfl (hF.ev 1 rfl) (hF.ev 0 rfl) (by show _ ≤ 32; omega) (rfl)) rfl (fun _ _ => rfl) (kM [false, false, true] rfl rfl) (by decide) ?_
      have hmb := last_bits (bits := bits) (left := left) hlf
      obtain ⟨v, hv1⟩ : ∃ v, bits % 2 ^ left * 2 ^ (6 - left) = v := ⟨_, rfl⟩
      rw [hv1] at hmb
      obtain ⟨hv0, hv64⟩ := hmb
      refine pxV (v := (.int .u32 (((v) : Nat) : Int))) (fun _ _ hF => opAndU (m := (bits * 2 ^ (6 - left)) % 4294967296) (j := 63) (z := v) rfl rfl (hF.ev 0 rfl) rfl (by show _ < 4294967296; omega) (by decide) (hv0)) rfl (fun _ _ => rfl) (kM [false, true] rfl rfl) (by decide) ?_
      refine pxV (v := (.int .u8 ((((sg v).toNat) : Nat) : Int))) (fun _ _ hF => opIdxL (l := sgnL) (i := v) (c := (sg v)) rfl (by kernel_rfl) rfl (hF.ev 0 rfl) rfl (sg_get hv64)) rfl (fun _ _ => rfl) (kM [false, true] rfl rfl) (by decide) ?_
      refine pxE 0 hH rfl (fun _ hF => Does.small (bu_byte g1 o E hB (sg v) (by have := len_app hinv; omega)) (fun w => opCall rfl Tryd.func20 rfl rfl (Evs.cons (v := (.pointer (some ⟨g1, 0, none⟩))) (hF.ev 1 rfl) (Evs.cons (v := (.int .u8 ((((sg v).toNat) : Nat) : Int))) (hF.ev 0 rfl) Evs.nil)) w)) trivial rfl (fun _ _ => rfl) (kM [false, true] rfl rfl) (by decide) ?_
      clear hH
      rintro _ E19 w ⟨rfl, hB20⟩ hH
      replace hH : HH w0 [] [E19] w := hH
      refine pxEnd ?_
      refine qxThen ?_
      refine cxSeq ?_
      refine cxBlock ?_
      have ei : i = l.length := by omega
      subst ei
      rw [List.drop_length] at hinv
      have ho : (o ++ [(sg v)]) = core l := eb_last hlf hc18 hv1 hinv
      refine cxLoop (σ := Nat × Hl) (fun x => [(3, (.pointer (some ⟨g1, 0, none⟩)))]) (fun x w => HH w0 [] [x.2] w ∧ (x.1 ≤ padN (core l).length) ∧ (BuAt 43 5 g1 (core l ++ List.replicate x.1 61) x.2)) (fun x => padN (core l).length - x.1) (0, E19) ⟨hH, Nat.zero_le _, (by rw [List.replicate_zero, List.append_nil, ← ho]; exact hB20)⟩ (slots_at [1] rfl) ?_
      clear hH
      rintro ⟨q, E3⟩ w ⟨hH, hq, hB3⟩
      change CX _ _ _ _ [(3, (.pointer (some ⟨g1, 0, none⟩)))] _
      replace hH : HH w0 [] [E3] w := hH
      replace hq : q ≤ padN (core l).length := hq
      replace hB3 : BuAt 43 5 g1 (core l ++ List.replicate q 61) E3 := hB3
      refine cxSeq ?_
      refine cxSeq ?_
      refine cxReg ?_
      refine pxE 0 hH rfl (fun _ hF => Does.small (bu_len g1 (core l ++ List.replicate q 61) E3 hB3 ) (fun w => opCall rfl Tryd.func39 rfl rfl (Evs.cons (v := (.pointer (some ⟨g1, 0, none⟩))) (hF.ev 0 rfl) Evs.nil) w)) trivial rfl (fun _ _ => rfl) (kA rfl) (by decide) ?_
      clear hH
      rintro _ E21 w ⟨rfl, hB22⟩ hH
      replace hH : HH w0 [] [E21] w := hH
      refine pxV (v := (.int .i64 (((((core l ++ List.replicate q 61).length) % 4) : Nat) : Int))) (fun _ _ hF => opRem (z := ((((core l ++ List.replicate q 61).length) % 4 : Nat) : Int)) rfl (hF.ev 0 rfl) rfl (by omega) remN) rfl (fun _ _ => rfl) (kM [false, true] rfl rfl) (by decide) ?_
      refine pxV (v := (.bool (decide (((core l ++ List.replicate q 61).length) % 4 ≠ 0)))) (fun _ _ hF => opNeI rfl (hF.ev 0 rfl) rfl (dc (by omega))) rfl (fun _ _ => rfl) (kM [false, true] rfl rfl) (by decide) ?_
      refine pxEnd ?_
      refine qxThen ?_
      refine cxP 0 rfl rfl (fun hc23 => ?_) (fun hc23 => ?_)
      · refine cxSkip ?_
        refine qxThen ?_
        refine cxBlock ?_
        refine cxReg ?_
        refine pxE 0 hH rfl (fun _ hF => Does.small (bu_str g1 (core l ++ List.replicate q 61) E21 hB22 ([61]) (by simp only [List.length_append, List.length_replicate, List.length_cons, List.length_nil]; omega)) (fun w => opCall rfl Tryd.func19 rfl rfl (Evs.cons (v := (.pointer (some ⟨g1, 0, none⟩))) (hF.ev 1 rfl) (Evs.cons (v := (.string (strL ([61])))) rfl Evs.nil)) w)) trivial rfl (fun _ _ => rfl) (kM [false, true] rfl rfl) (by decide) ?_
        clear hH
        rintro _ E24 w ⟨rfl, hB25⟩ hH
        replace hH : HH w0 [] [E24] w := hH
        refine pxEnd ?_
        refine qxInN ?_
        exact qxRound ((q + 1), E24) ⟨hH, (pad_go hq (by have := hc23; rw [List.length_append, List.length_replicate] at this; exact this)), (by rw [List.replicate_succ', ← List.append_assoc]; exact hB25)⟩ (by have := pad_go hq (by have := hc23; rw [List.length_append, List.length_replicate] at this; exact this); show padN (core l).length - (q + 1) < padN (core l).length - q; omega) (slots_at [1] rfl)
      · refine cxExit ?_
        refine qxThenE ?_
        refine qxThenE ?_
        refine qxInE ?_
        refine qxThen ?_
        refine cxSeq ?_
        refine cxReg ?_
        refine pxE 0 hH rfl (fun _ hF => Does.small (bu_string g1 (core l ++ List.replicate q 61) E21 hB22) (fun w => opCall rfl Tryd.func24 rfl rfl (Evs.cons (v := (.pointer (some ⟨g1, 0, none⟩))) (hF.ev 1 rfl) Evs.nil) w)) trivial rfl (fun _ _ => rfl) (kM [false, false] rfl rfl) (by decide) ?_
        clear hH
        rintro _ E26 w rfl hH
        replace hH : HH w0 [] [E26] w := hH
        refine pxV (v := (.string (strL (core l ++ List.replicate q 61)))) (fun _ _ hF => opAssign rfl (hF.ev 0 rfl)) rfl (fun _ _ => rfl) (kM [false] rfl rfl) (by decide) ?_
        refine pxEnd ?_
        refine qxThen ?_
        refine cxRet ?_
        refine qxRet1 0 rfl rfl ?_
        exact ⟨(by have e := pad_at hq (by have := hc23; rw [List.length_append, List.length_replicate] at this; exact this); rw [e, ← b64_core]), hH.toBelow⟩
    · refine cxSkip ?_
      refine qxThen ?_
      refine cxSeq ?_
      refine cxBlock ?_
      have ei : i = l.length := by omega
      subst ei
      rw [List.drop_length] at hinv
      have ho : o = core l := eb_none hc18 hinv
      refine cxLoop (σ := Nat × Hl) (fun x => [(3, (.pointer (some ⟨g1, 0, none⟩)))]) (fun x w => HH w0 [] [x.2] w ∧ (x.1 ≤ padN (core l).length) ∧ (BuAt 43 5 g1 (core l ++ List.replicate x.1 61) x.2)) (fun x => padN (core l).length - x.1) (0, E) ⟨hH, Nat.zero_le _, (by rw [List.replicate_zero, List.append_nil, ← ho]; exact hB)⟩ (slots_at [3] rfl) ?_
      clear hH
      rintro ⟨q, E3⟩ w ⟨hH, hq, hB3⟩
      change CX _ _ _ _ [(3, (.pointer (some ⟨g1, 0, none⟩)))] _
      replace hH : HH w0 [] [E3] w := hH
      replace hq : q ≤ padN (core l).length := hq
      replace hB3 : BuAt 43 5 g1 (core l ++ List.replicate q 61) E3 := hB3
      refine cxSeq ?_
      refine cxSeq ?_
      refine cxReg ?_
      refine pxE 0 hH rfl (fun _ hF => Does.small (bu_len g1 (core l ++ List.replicate q 61) E3 hB3 ) (fun w => opCall rfl Tryd.func39 rfl rfl (Evs.cons (v := (.pointer (some ⟨g1, 0, none⟩))) (hF.ev 0 rfl) Evs.nil) w)) trivial rfl (fun _ _ => rfl) (kA rfl) (by decide) ?_
      clear hH
      rintro _ E27 w ⟨rfl, hB28⟩ hH
      replace hH : HH w0 [] [E27] w := hH
      refine pxV (v := (.int .i64 (((((core l ++ List.replicate q 61).length) % 4) : Nat) : Int))) (fun _ _ hF => opRem (z := ((((core l ++ List.replicate q 61).length) % 4 : Nat) : Int)) rfl (hF.ev 0 rfl) rfl (by omega) remN) rfl (fun _ _ => rfl) (kM [false, true] rfl rfl) (by decide) ?_
      refine pxV (v := (.bool (decide (((core l ++ List.replicate q 61).length) % 4 ≠ 0)))) (fun _ _ hF => opNeI rfl (hF.ev 0 rfl) rfl (dc (by omega))) rfl (fun _ _ => rfl) (kM [false, true] rfl rfl) (by decide) ?_
      refine pxEnd ?_
      refine qxThen ?_
      refine cxP 0 rfl rfl (fun hc29 => ?_) (fun hc29 => ?_)
      · refine cxSkip ?_
        refine qxThen ?_
        refine cxBlock ?_
        refine cxReg ?_
        refine pxE 0 hH rfl (fun _ hF => Does.small (bu_str g1 (core l ++ List.replicate q 61) E27 hB28 ([61]) (by simp only [List.length_append, List.length_replicate, List.length_cons, List.length_nil]; omega)) (fun w => opCall rfl Tryd.func19 rfl rfl (Evs.cons (v := (.pointer (some ⟨g1, 0, none⟩))) (hF.ev 1 rfl) (Evs.cons (v := (.string (strL ([61])))) rfl Evs.nil)) w)) trivial rfl (fun _ _ => rfl) (kM [false, true] rfl rfl) (by decide) ?_
        clear hH
        rintro _ E30 w ⟨rfl, hB31⟩ hH
        replace hH : HH w0 [] [E30] w := hH
        refine pxEnd ?_
        refine qxInN ?_
        exact qxRound ((q + 1), E30) ⟨hH, (pad_go hq (by have := hc29; rw [List.length_append, List.length_replicate] at this; exact this)), (by rw [List.replicate_succ', ← List.append_assoc]; exact hB31)⟩ (by have := pad_go hq (by have := hc29; rw [List.length_append, List.length_replicate] at this; exact this); show padN (core l).length - (q + 1) < padN (core l).length - q; omega) (slots_at [1] rfl)
      · refine cxExit ?_
        refine qxThenE ?_
        refine qxThenE ?_
        refine qxInE ?_
        refine qxThen ?_
        refine cxSeq ?_
        refine cxReg ?_
        refine pxE 0 hH rfl (fun _ hF => Does.small (bu_string g1 (core l ++ List.replicate q 61) E27 hB28) (fun w => opCall rfl Tryd.func24 rfl rfl (Evs.cons (v := (.pointer (some ⟨g1, 0, none⟩))) (hF.ev 1 rfl) Evs.nil) w)) trivial rfl (fun _ _ => rfl) (kM [false, false] rfl rfl) (by decide) ?_
        clear hH
        rintro _ E32 w rfl hH
        replace hH : HH w0 [] [E32] w := hH
        refine pxV (v := (.string (strL (core l ++ List.replicate q 61)))) (fun _ _ hF => opAssign rfl (hF.ev 0 rfl)) rfl (fun _ _ => rfl) (kM [false] rfl rfl) (by decide) ?_
        refine pxEnd ?_
        refine qxThen ?_
        refine cxRet ?_
        refine qxRet1 0 rfl rfl ?_
        exact ⟨(by have e := pad_at hq (by have := hc29; rw [List.length_append, List.length_replicate] at this; exact this); rw [e, ← b64_core]), hH.toBelow⟩

end Go.Proofs.YtadbpmcmdcnlfaaDoor
