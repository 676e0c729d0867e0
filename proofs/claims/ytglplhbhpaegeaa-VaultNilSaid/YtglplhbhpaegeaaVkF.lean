/- The vault's small functions (mkvk.py writes this text). -/
import Derived.Test.YtglplhbhpaegeaaVkR
import Derived.Test.YtglplhbhpaegeaaOpN
namespace Go.Proofs.Ytglplhbhpaegeaa
open Go Go.RowKit
set_option maxRecDepth 100000

/-- A head, as a value. -/
def hdV (h : Hd) : Value := .agg #[.int .i64 (h.sector : Int), .int .u64 (h.number : Int), .int .u64 (h.size : Int), .int .i64 (h.area : Int)]
theorem or_add {m c : Nat} (h : c < 256) : m * 256 ||| c = m * 256 + c := by
  have := Nat.shiftLeft_add_eq_or_of_lt (show c < 2 ^ 8 by omega) m
  rw [Nat.shiftLeft_eq] at this
  exact this.symm
theorem beN_small {l : List UInt8} {i : Nat} (hi : i < l.length) (hl : l.length ≤ 8) : beN (l.take i) < 72057594037927936 := by
  have h1 := beN_lt (l.take i)
  have h2 : (l.take i).length ≤ 7 := by rw [List.length_take]; omega
  have h3 : 256 ^ (l.take i).length ≤ 256 ^ 7 := Nat.pow_le_pow_right (by decide) h2
  have e : (256 : Nat) ^ 7 = 72057594037927936 := rfl
  omega

set_option maxHeartbeats 8000000 in
theorem sectors_v (n : Nat) (hn : n ≤ 140737488355328) : Pure Try.prog 27 #[(.int .i64 (((n) : Nat) : Int))] (fun _ => True) (.int .i64 (nsec n : Int)) := by
  refine pure_of (fn := Try.f27) Try.func27 rfl Try.ntmps27 (Nat.le_of_ble_eq_true rfl) rfl ?_
  intro w0 hH hR
  refine cxSeq ?_
  refine cxReg ?_
  refine pxV (v := (.int .i64 0)) (fun _ _ hF => opAssign rfl rfl) rfl (fun _ _ => rfl) (kA rfl) (by decide) ?_
  refine pxEnd ?_
  refine qxThen ?_
  refine cxSeq ?_
  refine cxReg ?_
  refine pxV (v := (.int .i64 (((n) : Nat) : Int))) (fun _ _ hF => opMove rfl (hF.ev 1 rfl)) rfl (fun _ _ => rfl) (kM [false, false] rfl rfl) (by decide) ?_
  refine pxV (v := (.int .i64 (((n + 64) : Nat) : Int))) (fun _ _ hF => opAdd rfl (hF.ev 0 rfl) rfl (wI (by omega) (by omega) (by omega))) rfl (fun _ _ => rfl) (kM [false] rfl rfl) (by decide) ?_
  refine pxV (v := (.int .i64 (((n + 63) : Nat) : Int))) (fun _ _ hF => opSub rfl (hF.ev 0 rfl) rfl (wI (by omega) (by omega) (by omega))) rfl (fun _ _ => rfl) (kM [false] rfl rfl) (by decide) ?_
  refine pxV (v := (.int .i64 ((((n + 63) / 64) : Nat) : Int))) (fun _ _ hF => opQuo (z := (((n + 63) / 64 : Nat) : Int)) rfl (hF.ev 0 rfl) rfl (by omega) (wI quoN (by omega) (by omega))) rfl (fun _ _ => rfl) (kM [false] rfl rfl) (by decide) ?_
  refine pxV (v := (.int .i64 ((((n + 63) / 64) : Nat) : Int))) (fun _ _ hF => opAssign rfl (hF.ev 0 rfl)) rfl (fun _ _ => rfl) (kM [false] rfl rfl) (by decide) ?_
  refine pxEnd ?_
  refine qxThen ?_
  refine cxRet ?_
  refine qxRet1 0 rfl rfl ?_
  exact ⟨rfl, HH.toBelow hH⟩

set_option maxHeartbeats 8000000 in
theorem join_c (A : Option Addr) (c : Nat) (l : List UInt8) (m : Nat) (hm : m = l.length) (h8 : m ≤ 8) : Pure Try.prog 40 #[(.slice A m c)] (fun w => Vu cByte w A m c l) (.int .u64 (beN l : Int)) := by
  refine pure_of (fn := Try.f40) Try.func40 rfl Try.ntmps40 (Nat.le_of_ble_eq_true rfl) rfl ?_
  intro w0 hH hR
  refine cxSeq ?_
  refine cxReg ?_
  refine pxV (v := (.int .u64 0)) (fun _ _ hF => opAssign rfl rfl) rfl (fun _ _ => rfl) (kA rfl) (by decide) ?_
  refine pxEnd ?_
  refine qxThen ?_
  refine cxSeq ?_
  refine cxReg ?_
  refine pxV (v := (.int .u64 0)) (fun _ _ hF => opAssign rfl rfl) rfl (fun _ _ => rfl) (kM [false, true] rfl rfl) (by decide) ?_
  refine pxEnd ?_
  refine qxThen ?_
  refine cxSeq ?_
  refine cxSeq ?_
  refine cxReg ?_
  refine pxV (v := (.slice A m c)) (fun _ _ hF => opMove rfl (hF.ev 1 rfl)) rfl (fun _ _ => rfl) (kM [true, false] rfl rfl) (by decide) ?_
  refine pxV (v := (.int .i64 (((m) : Nat) : Int))) (fun _ _ hF => opLen (e := 5) rfl (by kernel_rfl) (hF.ev 0 rfl)) rfl (fun _ _ => rfl) (kA rfl) (by decide) ?_
  refine pxV (v := (.int .i64 0)) (fun _ _ hF => opMove rfl rfl) rfl (fun _ _ => rfl) (kA rfl) (by decide) ?_
  refine pxEnd ?_
  refine qxThen ?_
  refine cxBlock ?_
  refine cxLoop (σ := Nat × Nat) (fun x => [(8, (.int .i64 (((x.1) : Nat) : Int))), (7, (.int .i64 (((m) : Nat) : Int))), (6, (.slice A m c)), (3, (.int .u64 (((x.2) : Nat) : Int)))]) (fun x w => HH w0 [] [] w ∧ (x.1 ≤ l.length) ∧ (x.2 = beN (l.take x.1))) (fun x => l.length - x.1) (0, 0) ⟨hH, (Nat.zero_le _), rfl⟩ (slots_at [0, 1, 2, 3] rfl) ?_
  clear hH
  rintro ⟨i, n⟩ w ⟨hH, hi, hn⟩
  change CX _ _ _ _ [(8, (.int .i64 (((i) : Nat) : Int))), (7, (.int .i64 (((m) : Nat) : Int))), (6, (.slice A m c)), (3, (.int .u64 (((n) : Nat) : Int)))] _
  replace hH : HH w0 [] [] w := hH
  replace hi : i ≤ l.length := hi
  replace hn : n = beN (l.take i) := hn
  refine cxSeq ?_
  refine cxReg ?_
  refine pxV (v := (.bool (decide (i < m)))) (fun _ _ hF => opLss rfl (hF.ev 0 rfl) (hF.ev 1 rfl) (dc (by omega))) rfl (fun _ _ => rfl) (kA rfl) (by decide) ?_
  refine pxEnd ?_
  refine qxThen ?_
  refine cxSeq ?_
  refine cxP 0 rfl rfl (fun hc1 => ?_) (fun hc1 => ?_)
  · refine cxSkip ?_
    refine qxThen ?_
    refine cxSeq ?_
    refine cxBlock ?_
    refine cxSeq ?_
    have hb : n < 72057594037927936 := hn ▸ beN_small (by omega) (by omega)
    refine cxReg ?_
    have hi2 : i < m := by omega
    obtain ⟨b3, off4, rfl, hL5, hb6, hR7⟩ := hR.blk (by decide) (Off.nil _ _) (by omega)
    have := hR.cap
    have hj10 : i < l.length := by first | exact hi2 | (simp only [List.length_drop, List.length_take]; omega) | omega
    obtain ⟨x8, hx9⟩ := get_at l i hj10
    have hb11 := UInt8.toNat_lt x8
    refine pxV (v := (.pointer (some ⟨b3, off4 + i * 1, none⟩))) (fun _ _ hF => opIndex (i := i) (e := 5) (sz := 1) rfl (by kernel_rfl) (by kernel_rfl) (hF.ev 3 rfl) (hF.ev 1 rfl) rfl hi2) rfl (fun _ _ => rfl) (kM [false, true, true, true, true] rfl rfl) (by decide) ?_
    refine pxS (v := (.int .u8 (((x8.toNat) : Nat) : Int))) (fun w => HoldsL cByte w b3 off4 l) (hH.holdsL hL5 hb6 hR7) (fun _ _ hF hS => opLoadT (C := cByte) (y := x8) rfl (hF.ev 0 rfl) (by kernel_rfl) (hS i _ hx9) rfl) rfl (fun _ _ => rfl) (kM [false, true, true, true, true] rfl rfl) (by decide) ?_
    refine pxV (v := (.int .u8 (((x8.toNat) : Nat) : Int))) (fun _ _ hF => opAssign rfl (hF.ev 0 rfl)) rfl (fun _ _ => rfl) (kM [false, true, true, true, true] rfl rfl) (by decide) ?_
    refine pxEnd ?_
    refine qxThen ?_
    refine cxReg ?_
    refine pxV (v := (.int .u64 (((n) : Nat) : Int))) (fun _ _ hF => opMove rfl (hF.ev 4 rfl)) rfl (fun _ _ => rfl) (kM [true, true, true, true, false] rfl rfl) (by decide) ?_
    refine pxV (v := (.int .u64 (((n * 256) : Nat) : Int))) (fun _ _ hF => opShlU (n := 8) (z := (n * 256)) rfl rfl (hF.ev 0 rfl) rfl (leb rfl) (by show (n * 2 ^ 8) % 18446744073709551616 = _; omega)) rfl (fun _ _ => rfl) (kM [false, true, true, true, true] rfl rfl) (by decide) ?_
    refine pxV (v := (.int .u8 (((x8.toNat) : Nat) : Int))) (fun _ _ hF => opMove rfl (hF.ev 1 rfl)) rfl (fun _ _ => rfl) (kM [true, false, true, true, true] rfl rfl) (by decide) ?_
    refine pxV (v := (.int .u64 (((x8.toNat) : Nat) : Int))) (fun _ _ hF => opConvU (k' := .u64) rfl rfl (by kernel_rfl) (by kernel_rfl) (hF.ev 0 rfl) (Nat.mod_eq_of_lt (by show _ < 18446744073709551616; omega))) rfl (fun _ _ => rfl) (kM [false, true, true, true, true] rfl rfl) (by decide) ?_
    refine pxV (v := (.int .u64 (((n * 256 + x8.toNat) : Nat) : Int))) (fun _ _ hF => opOrU (z := (n * 256 + x8.toNat)) rfl rfl (hF.ev 1 rfl) (hF.ev 0 rfl) (by show _ < 18446744073709551616; omega) (by show _ < 18446744073709551616; omega) (or_add (by omega))) rfl (fun _ _ => rfl) (kM [false, false, true, true, true] rfl rfl) (by decide) ?_
    refine pxV (v := (.int .u64 (((n * 256 + x8.toNat) : Nat) : Int))) (fun _ _ hF => opAssign rfl (hF.ev 0 rfl)) rfl (fun _ _ => rfl) (kM [false, true, true, true] rfl rfl) (by decide) ?_
    refine pxEnd ?_
    refine qxInN ?_
    refine qxThen ?_
    refine cxReg ?_
    refine pxV (v := (.int .i64 (((i + 1) : Nat) : Int))) (fun _ _ hF => opAdd rfl (hF.ev 1 rfl) rfl (wI (by omega) (by omega) (by omega))) rfl (fun _ _ => rfl) (kM [true, false, true, true] rfl rfl) (by decide) ?_
    refine pxV (v := (.int .i64 (((i + 1) : Nat) : Int))) (fun _ _ hF => opMove rfl (hF.ev 0 rfl)) rfl (fun _ _ => rfl) (kM [false, true, true, true] rfl rfl) (by decide) ?_
    refine pxEnd ?_
    exact qxRound (i + 1, n * 256 + x8.toNat) ⟨hH, (show (i + 1) ≤ l.length from (by omega)), (by rw [hn, beN_take hx9])⟩ (by omega) (slots_at [0, 2, 3, 1] rfl)
  · refine cxExit ?_
    refine qxThenE ?_
    refine qxThenE ?_
    refine qxInE ?_
    refine qxThen ?_
    refine cxSeq ?_
    refine cxReg ?_
    refine pxV (v := (.int .u64 (((n) : Nat) : Int))) (fun _ _ hF => opMove rfl (hF.ev 4 rfl)) rfl (fun _ _ => rfl) (kM [false, false, false, false, false] rfl rfl) (by decide) ?_
    refine pxV (v := (.int .u64 (((n) : Nat) : Int))) (fun _ _ hF => opAssign rfl (hF.ev 0 rfl)) rfl (fun _ _ => rfl) (kM [false] rfl rfl) (by decide) ?_
    refine pxEnd ?_
    refine qxThen ?_
    refine cxRet ?_
    refine qxRet1 0 rfl rfl ?_
    have he : n = beN l := by rw [hn, List.take_of_length_le (by omega)]
    exact ⟨by rw [he], HH.toBelow hH⟩

set_option maxHeartbeats 8000000 in
theorem number_r (A : Option Addr) (c : Nat) (l : List UInt8) (m : Nat) (hm : m = l.length) (h8 : m ≤ 8) : Pure Try.prog 31 #[(.slice A m c)] (fun w => Vu cByte w A m c l) (.int .u64 (beN l : Int)) := by
  refine pure_of (fn := Try.f31) Try.func31 rfl Try.ntmps31 (Nat.le_of_ble_eq_true rfl) rfl ?_
  intro w0 hH hR
  refine cxSeq ?_
  refine cxReg ?_
  refine pxV (v := (.int .u64 0)) (fun _ _ hF => opAssign rfl rfl) rfl (fun _ _ => rfl) (kA rfl) (by decide) ?_
  refine pxEnd ?_
  refine qxThen ?_
  refine cxSeq ?_
  refine cxReg ?_
  refine pxV (v := (.int .u64 0)) (fun _ _ hF => opAssign rfl rfl) rfl (fun _ _ => rfl) (kM [false, true] rfl rfl) (by decide) ?_
  refine pxEnd ?_
  refine qxThen ?_
  refine cxSeq ?_
  refine cxSeq ?_
  refine cxReg ?_
  refine pxV (v := (.slice A m c)) (fun _ _ hF => opMove rfl (hF.ev 1 rfl)) rfl (fun _ _ => rfl) (kA rfl) (by decide) ?_
  refine pxV (v := (.int .i64 (((m) : Nat) : Int))) (fun _ _ hF => opLen (e := 5) rfl (by kernel_rfl) (hF.ev 0 rfl)) rfl (fun _ _ => rfl) (kM [false, true, true] rfl rfl) (by decide) ?_
  refine pxV (v := (.int .i64 0)) (fun _ _ hF => opMove rfl rfl) rfl (fun _ _ => rfl) (kA rfl) (by decide) ?_
  refine pxEnd ?_
  refine qxThen ?_
  refine cxBlock ?_
  refine cxLoop (σ := Nat × Nat) (fun x => [(7, (.int .i64 (((x.1) : Nat) : Int))), (6, (.int .i64 (((m) : Nat) : Int))), (3, (.int .u64 (((x.2) : Nat) : Int))), (0, (.slice A m c))]) (fun x w => HH w0 [] [] w ∧ (x.1 ≤ l.length) ∧ (x.2 = beN (l.take x.1))) (fun x => l.length - x.1) (0, 0) ⟨hH, (Nat.zero_le _), rfl⟩ (slots_at [0, 1, 2, 3] rfl) ?_
  clear hH
  rintro ⟨i, n⟩ w ⟨hH, hi, hn⟩
  change CX _ _ _ _ [(7, (.int .i64 (((i) : Nat) : Int))), (6, (.int .i64 (((m) : Nat) : Int))), (3, (.int .u64 (((n) : Nat) : Int))), (0, (.slice A m c))] _
  replace hH : HH w0 [] [] w := hH
  replace hi : i ≤ l.length := hi
  replace hn : n = beN (l.take i) := hn
  refine cxSeq ?_
  refine cxReg ?_
  refine pxV (v := (.bool (decide (i < m)))) (fun _ _ hF => opLss rfl (hF.ev 0 rfl) (hF.ev 1 rfl) (dc (by omega))) rfl (fun _ _ => rfl) (kA rfl) (by decide) ?_
  refine pxEnd ?_
  refine qxThen ?_
  refine cxSeq ?_
  refine cxP 0 rfl rfl (fun hc1 => ?_) (fun hc1 => ?_)
  · refine cxSkip ?_
    refine qxThen ?_
    refine cxSeq ?_
    refine cxBlock ?_
    refine cxSeq ?_
    have hb : n < 72057594037927936 := hn ▸ beN_small (by omega) (by omega)
    refine cxReg ?_
    refine pxV (v := (.int .i64 (((i) : Nat) : Int))) (fun _ _ hF => opMove rfl (hF.ev 1 rfl)) rfl (fun _ _ => rfl) (kM [false, true, true, true, true] rfl rfl) (by decide) ?_
    refine pxV (v := (.int .i64 (((i) : Nat) : Int))) (fun _ _ hF => opAssign rfl (hF.ev 0 rfl)) rfl (fun _ _ => rfl) (kM [false, true, true, true, true] rfl rfl) (by decide) ?_
    refine pxEnd ?_
    refine qxThen ?_
    refine cxReg ?_
    refine pxV (v := (.int .u64 (((n) : Nat) : Int))) (fun _ _ hF => opMove rfl (hF.ev 3 rfl)) rfl (fun _ _ => rfl) (kM [true, true, true, false, true] rfl rfl) (by decide) ?_
    refine pxV (v := (.int .u64 (((n * 256) : Nat) : Int))) (fun _ _ hF => opShlU (n := 8) (z := (n * 256)) rfl rfl (hF.ev 0 rfl) rfl (leb rfl) (by show (n * 2 ^ 8) % 18446744073709551616 = _; omega)) rfl (fun _ _ => rfl) (kM [false, true, true, true, true] rfl rfl) (by decide) ?_
    refine pxV (v := (.slice A m c)) (fun _ _ hF => opMove rfl (hF.ev 4 rfl)) rfl (fun _ _ => rfl) (kA rfl) (by decide) ?_
    refine pxV (v := (.int .i64 (((i) : Nat) : Int))) (fun _ _ hF => opMove rfl (hF.ev 2 rfl)) rfl (fun _ _ => rfl) (kM [true, true, false, true, true, true] rfl rfl) (by decide) ?_
    have hi2 : i < m := by omega
    obtain ⟨b3, off4, rfl, hL5, hb6, hR7⟩ := hR.blk (by decide) (Off.nil _ _) (by omega)
    have := hR.cap
    have hj10 : i < l.length := by first | exact hi2 | (simp only [List.length_drop, List.length_take]; omega) | omega
    obtain ⟨x8, hx9⟩ := get_at l i hj10
    have hb11 := UInt8.toNat_lt x8
    refine pxV (v := (.pointer (some ⟨b3, off4 + i * 1, none⟩))) (fun _ _ hF => opIndex (i := i) (e := 5) (sz := 1) rfl (by kernel_rfl) (by kernel_rfl) (hF.ev 1 rfl) (hF.ev 0 rfl) rfl hi2) rfl (fun _ _ => rfl) (kM [false, false, true, true, true, true] rfl rfl) (by decide) ?_
    refine pxS (v := (.int .u8 (((x8.toNat) : Nat) : Int))) (fun w => HoldsL cByte w b3 off4 l) (hH.holdsL hL5 hb6 hR7) (fun _ _ hF hS => opLoadT (C := cByte) (y := x8) rfl (hF.ev 0 rfl) (by kernel_rfl) (hS i _ hx9) rfl) rfl (fun _ _ => rfl) (kM [false, true, true, true, true] rfl rfl) (by decide) ?_
    refine pxV (v := (.int .u64 (((x8.toNat) : Nat) : Int))) (fun _ _ hF => opConvU (k' := .u64) rfl rfl (by kernel_rfl) (by kernel_rfl) (hF.ev 0 rfl) (Nat.mod_eq_of_lt (by show _ < 18446744073709551616; omega))) rfl (fun _ _ => rfl) (kM [false, true, true, true, true] rfl rfl) (by decide) ?_
    refine pxV (v := (.int .u64 (((n * 256 + x8.toNat) : Nat) : Int))) (fun _ _ hF => opOrU (z := (n * 256 + x8.toNat)) rfl rfl (hF.ev 1 rfl) (hF.ev 0 rfl) (by show _ < 18446744073709551616; omega) (by show _ < 18446744073709551616; omega) (or_add (by omega))) rfl (fun _ _ => rfl) (kM [false, false, true, true, true] rfl rfl) (by decide) ?_
    refine pxV (v := (.int .u64 (((n * 256 + x8.toNat) : Nat) : Int))) (fun _ _ hF => opAssign rfl (hF.ev 0 rfl)) rfl (fun _ _ => rfl) (kM [false, true, true, true] rfl rfl) (by decide) ?_
    refine pxEnd ?_
    refine qxInN ?_
    refine qxThen ?_
    refine cxReg ?_
    refine pxV (v := (.int .i64 (((i + 1) : Nat) : Int))) (fun _ _ hF => opAdd rfl (hF.ev 1 rfl) rfl (wI (by omega) (by omega) (by omega))) rfl (fun _ _ => rfl) (kM [true, false, true, true] rfl rfl) (by decide) ?_
    refine pxV (v := (.int .i64 (((i + 1) : Nat) : Int))) (fun _ _ hF => opMove rfl (hF.ev 0 rfl)) rfl (fun _ _ => rfl) (kM [false, true, true, true] rfl rfl) (by decide) ?_
    refine pxEnd ?_
    exact qxRound (i + 1, n * 256 + x8.toNat) ⟨hH, (show (i + 1) ≤ l.length from (by omega)), (by rw [hn, beN_take hx9])⟩ (by omega) (slots_at [0, 2, 1, 3] rfl)
  · refine cxExit ?_
    refine qxThenE ?_
    refine qxThenE ?_
    refine qxInE ?_
    refine qxThen ?_
    refine cxSeq ?_
    refine cxReg ?_
    refine pxV (v := (.int .u64 (((n) : Nat) : Int))) (fun _ _ hF => opMove rfl (hF.ev 3 rfl)) rfl (fun _ _ => rfl) (kM [false, false, false, false, false] rfl rfl) (by decide) ?_
    refine pxV (v := (.int .u64 (((n) : Nat) : Int))) (fun _ _ hF => opAssign rfl (hF.ev 0 rfl)) rfl (fun _ _ => rfl) (kM [false] rfl rfl) (by decide) ?_
    refine pxEnd ?_
    refine qxThen ?_
    refine cxRet ?_
    refine qxRet1 0 rfl rfl ?_
    have he : n = beN l := by rw [hn, List.take_of_length_le (by omega)]
    exact ⟨by rw [he], HH.toBelow hH⟩

theorem split_step {l : List UInt8} {k m n i : Nat} (hi : i < m) (hk : k + m ≤ l.length) : (l.take k ++ ((beL m n).take i ++ l.drop (k + i))).set (k + i) (UInt8.ofNat (n / 2 ^ (8 * (m - 1 - i)))) = l.take k ++ ((beL m n).take (i + 1) ++ l.drop (k + (i + 1))) := by
  have hlk : (l.take k).length = k := by rw [List.length_take]; omega
  have hli : ((beL m n).take i).length = i := by rw [List.length_take, beL_len]; omega
  rw [List.set_append_right _ _ (by omega), hlk, Nat.add_sub_cancel_left, List.set_append_right _ _ (by omega), hli, Nat.sub_self, List.take_add_one, beL_get hi, List.append_assoc]
  congr 2
  rw [List.drop_eq_getElem_cons (by omega : k + i < l.length), List.set_cons_zero]
  rfl

set_option maxHeartbeats 8000000 in
theorem split_c (g cap k m cc n : Nat) (cur : Array Value) (l : List UInt8) (hB : Bk cByte cap cur l) (hk : k + m ≤ l.length) (h8 : m ≤ 8) : Does Try.prog 43 #[(.slice (some ⟨g, 0 + k * 1, none⟩) m cc), (.int .u64 (((n) : Nat) : Int))] [bl g 5 cur] (fun _ => True) (fun v E' => v = .tuple #[] ∧ ∃ cur' L, E' = [bl g 5 cur'] ∧ Bk cByte cap cur' L ∧ L = l.take k ++ (beL m n ++ l.drop (k + m)) ∧ L.length = l.length) := by
  refine does_of (fn := Try.f43) Try.func43 rfl Try.ntmps43 (Nat.le_of_ble_eq_true rfl) rfl ?_
  intro w0 hH hR
  refine cxSeq ?_
  refine cxReg ?_
  refine pxV (v := (.slice (some ⟨g, 0 + k * 1, none⟩) m cc)) (fun _ _ hF => opMove rfl (hF.ev 0 rfl)) rfl (fun _ _ => rfl) (kA rfl) (by decide) ?_
  refine pxV (v := (.int .i64 (((m) : Nat) : Int))) (fun _ _ hF => opLen (e := 5) rfl (by kernel_rfl) (hF.ev 0 rfl)) rfl (fun _ _ => rfl) (kM [false, true, true] rfl rfl) (by decide) ?_
  refine pxV (v := (.int .i64 0)) (fun _ _ hF => opMove rfl rfl) rfl (fun _ _ => rfl) (kA rfl) (by decide) ?_
  refine pxEnd ?_
  refine qxThen ?_
  refine cxBlock ?_
  refine cxLoop (σ := Nat × (List UInt8) × (Array Value)) (fun x => [(7, (.int .i64 (((x.1) : Nat) : Int))), (6, (.int .i64 (((m) : Nat) : Int))), (1, (.int .u64 (((n) : Nat) : Int))), (0, (.slice (some ⟨g, 0 + k * 1, none⟩) m cc))]) (fun x w => HH w0 (bks ([bl g 5 cur])) [[bl g 5 x.2.2]] w ∧ (x.1 ≤ m) ∧ (Bk cByte cap x.2.2 x.2.1) ∧ (x.2.1.length = l.length) ∧ (x.2.1 = l.take k ++ ((beL m n).take x.1 ++ l.drop (k + x.1)))) (fun x => m - x.1) (0, l, cur) ⟨hH, (Nat.zero_le _), hB, rfl, (by simp)⟩ (slots_at [0, 1, 3, 2] rfl) ?_
  clear hH
  rintro ⟨i, L, cur'⟩ w ⟨hH, hi, hB', hlen, hL⟩
  change CX _ _ _ _ [(7, (.int .i64 (((i) : Nat) : Int))), (6, (.int .i64 (((m) : Nat) : Int))), (1, (.int .u64 (((n) : Nat) : Int))), (0, (.slice (some ⟨g, 0 + k * 1, none⟩) m cc))] _
  replace hH : HH w0 (bks ([bl g 5 cur])) [[bl g 5 cur']] w := hH
  replace hi : i ≤ m := hi
  replace hB' : Bk cByte cap cur' L := hB'
  replace hlen : L.length = l.length := hlen
  replace hL : L = l.take k ++ ((beL m n).take i ++ l.drop (k + i)) := hL
  refine cxSeq ?_
  refine cxReg ?_
  refine pxV (v := (.bool (decide (i < m)))) (fun _ _ hF => opLss rfl (hF.ev 0 rfl) (hF.ev 1 rfl) (dc (by omega))) rfl (fun _ _ => rfl) (kA rfl) (by decide) ?_
  refine pxEnd ?_
  refine qxThen ?_
  refine cxSeq ?_
  refine cxP 0 rfl rfl (fun hc1 => ?_) (fun hc1 => ?_)
  · refine cxSkip ?_
    refine qxThen ?_
    refine cxSeq ?_
    refine cxBlock ?_
    refine cxSeq ?_
    refine cxReg ?_
    refine pxV (v := (.int .i64 (((i) : Nat) : Int))) (fun _ _ hF => opMove rfl (hF.ev 1 rfl)) rfl (fun _ _ => rfl) (kM [false, true, true, true, true] rfl rfl) (by decide) ?_
    refine pxV (v := (.int .i64 (((i) : Nat) : Int))) (fun _ _ hF => opAssign rfl (hF.ev 0 rfl)) rfl (fun _ _ => rfl) (kM [false, true, true, true, true] rfl rfl) (by decide) ?_
    refine pxEnd ?_
    refine qxThen ?_
    refine cxReg ?_
    refine pxV (v := (.slice (some ⟨g, 0 + k * 1, none⟩) m cc)) (fun _ _ hF => opMove rfl (hF.ev 4 rfl)) rfl (fun _ _ => rfl) (kA rfl) (by decide) ?_
    refine pxV (v := (.int .i64 (((i) : Nat) : Int))) (fun _ _ hF => opMove rfl (hF.ev 1 rfl)) rfl (fun _ _ => rfl) (kA rfl) (by decide) ?_
    refine pxV (v := (.int .u64 (((n) : Nat) : Int))) (fun _ _ hF => opMove rfl (hF.ev 5 rfl)) rfl (fun _ _ => rfl) (kA rfl) (by decide) ?_
    refine pxV (v := (.slice (some ⟨g, 0 + k * 1, none⟩) m cc)) (fun _ _ hF => opMove rfl (hF.ev 7 rfl)) rfl (fun _ _ => rfl) (kA rfl) (by decide) ?_
    refine pxV (v := (.int .i64 (((m) : Nat) : Int))) (fun _ _ hF => opLen (e := 5) rfl (by kernel_rfl) (hF.ev 0 rfl)) rfl (fun _ _ => rfl) (kM [false, true, true, true, true, true, true, true, true] rfl rfl) (by decide) ?_
    refine pxV (v := (.int .i64 (((m - 1) : Nat) : Int))) (fun _ _ hF => opSub rfl (hF.ev 0 rfl) rfl (wI (by omega) (by omega) (by omega))) rfl (fun _ _ => rfl) (kM [false, true, true, true, true, true, true, true, true] rfl rfl) (by decide) ?_
    refine pxV (v := (.int .i64 (((i) : Nat) : Int))) (fun _ _ hF => opMove rfl (hF.ev 4 rfl)) rfl (fun _ _ => rfl) (kM [true, true, true, true, false, true, true, true, true] rfl rfl) (by decide) ?_
    refine pxV (v := (.int .i64 (((m - 1 - i) : Nat) : Int))) (fun _ _ hF => opSub rfl (hF.ev 1 rfl) (hF.ev 0 rfl) (wI (by omega) (by omega) (by omega))) rfl (fun _ _ => rfl) (kM [false, false, true, true, true, true, true, true, true] rfl rfl) (by decide) ?_
    refine pxV (v := (.int .i64 (((8 * (m - 1 - i)) : Nat) : Int))) (fun _ _ hF => opMul rfl rfl (hF.ev 0 rfl) (wI (by omega) (by omega) (by omega))) rfl (fun _ _ => rfl) (kM [false, true, true, true, true, true, true, true] rfl rfl) (by decide) ?_
    refine pxV (v := (.int .u64 (((n / 2 ^ (8 * (m - 1 - i))) : Nat) : Int))) (fun _ _ hF => opShrU (n := 8 * (m - 1 - i)) (z := (n / 2 ^ (8 * (m - 1 - i)))) rfl (hF.ev 1 rfl) (hF.ev 0 rfl) (by show _ ≤ 64; omega) (rfl)) rfl (fun _ _ => rfl) (kM [false, false, true, true, true, true, true, true] rfl rfl) (by decide) ?_
    refine pxV (v := (.int .u8 ((((UInt8.ofNat (n / 2 ^ (8 * (m - 1 - i)))).toNat) : Nat) : Int))) (fun _ _ hF => opConvU (k' := .u8) rfl rfl (by kernel_rfl) (by kernel_rfl) (hF.ev 0 rfl) (UInt8.toNat_ofNat' (n := n / 2 ^ (8 * (m - 1 - i)))).symm) rfl (fun _ _ => rfl) (kM [false, true, true, true, true, true, true] rfl rfl) (by decide) ?_
    have hi2 : i < m := by omega
    have hj5 : i < ((L.take (k + m)).drop k).length := by first | exact hi2 | (simp only [List.length_drop, List.length_take]; omega) | omega
    obtain ⟨x3, hx4⟩ := get_at ((L.take (k + m)).drop k) i hj5
    have hb6 := UInt8.toNat_lt x3
    refine pxV (v := (.pointer (some ⟨g, 0 + k * 1 + i * 1, none⟩))) (fun _ _ hF => opIndex (i := i) (e := 5) (sz := 1) rfl (by kernel_rfl) (by kernel_rfl) (hF.ev 2 rfl) (hF.ev 1 rfl) rfl hi2) rfl (fun _ _ => rfl) (kM [true, false, false, true, true, true, true] rfl rfl) (by decide) ?_
    have hk10 : k + i < L.length := by omega
    obtain ⟨cur8, hcs9, hB7⟩ : ∃ cs, putL cur' (0 + k * 1 + i * 1) (cByte.enc (UInt8.ofNat (n / 2 ^ (8 * (m - 1 - i))))).toList = cs ∧ Bk cByte cap cs (L.set (k + i) (UInt8.ofNat (n / 2 ^ (8 * (m - 1 - i))))) := ⟨_, rfl, put_from hB' k i hk10 (UInt8.ofNat (n / 2 ^ (8 * (m - 1 - i))))⟩
    refine pxE0 0 hH rfl (fun _ hF => smStoreT (C := cByte) (z := (UInt8.ofNat (n / 2 ^ (8 * (m - 1 - i))))) rfl (hF.ev 0 rfl) (hF.ev 1 rfl) rfl (by kernel_rfl) (room_from hB' hk10) hcs9) trivial rfl (fun _ _ => rfl) ?_
    clear hH
    rintro _ _ w rfl hH
    replace hH : HH w0 (bks ([bl g 5 cur])) [[bl g 5 cur8]] w := hH
    refine pxEnd ?_
    refine qxInN ?_
    refine qxThen ?_
    refine cxReg ?_
    refine pxV (v := (.int .i64 (((i + 1) : Nat) : Int))) (fun _ _ hF => opAdd rfl (hF.ev 2 rfl) rfl (wI (by omega) (by omega) (by omega))) rfl (fun _ _ => rfl) (kM [false, false, false, true, true, true] rfl rfl) (by decide) ?_
    refine pxV (v := (.int .i64 (((i + 1) : Nat) : Int))) (fun _ _ hF => opMove rfl (hF.ev 0 rfl)) rfl (fun _ _ => rfl) (kM [false, true, true, true] rfl rfl) (by decide) ?_
    refine pxEnd ?_
    exact qxRound (i + 1, (L.set (k + i) (UInt8.ofNat (n / 2 ^ (8 * (m - 1 - i))))), cur8) ⟨hH, (show (i + 1) ≤ m from (by omega)), hB7, (by rw [List.length_set]; exact hlen), (show (L.set (k + i) (UInt8.ofNat (n / 2 ^ (8 * (m - 1 - i))))) = l.take k ++ ((beL m n).take (i + 1) ++ l.drop (k + (i + 1))) from (by rw [hL]; exact split_step (by omega) hk))⟩ (by omega) (slots_at [0, 1, 2, 3] rfl)
  · refine cxExit ?_
    refine qxThenE ?_
    refine qxThenE ?_
    refine qxInE ?_
    refine qxEnd0 rfl ?_
    have he : L = l.take k ++ (beL m n ++ l.drop (k + m)) := by rw [hL, show i = m by omega, List.take_of_length_le (l := beL m n) (i := m) (by rw [beL_len]; exact Nat.le_refl _)]
    exact ⟨_, _, rfl, ⟨rfl, _, L, rfl, hB', he, hlen⟩, hH.out1 [true] rfl⟩

theorem bytes_step {m n i : Nat} (hi : i < m) : (List.replicate (m - i) 0 ++ (beL m n).drop (m - i)).set (m - 1 - i) (UInt8.ofNat (n / 2 ^ (8 * i))) = List.replicate (m - (i + 1)) 0 ++ (beL m n).drop (m - (i + 1)) := by
  have e : m - i = (m - (i + 1)) + 1 := by omega
  rw [List.set_append_left _ _ (by rw [List.length_replicate]; omega), e, List.replicate_succ', List.set_append_right _ _ (by rw [List.length_replicate]; omega), List.length_replicate, show m - 1 - i - (m - (i + 1)) = 0 by omega, List.set_cons_zero, List.append_assoc]
  congr 1
  have hg := beL_get (k := m) (n := n) (j := m - (i + 1)) (by omega)
  rw [show m - 1 - (m - (i + 1)) = i by omega] at hg
  exact (drop_at hg).symm

set_option maxHeartbeats 8000000 in
theorem bytes_r (n m : Nat) (h8 : m ≤ 8) : Does Try.prog 33 #[(.int .u64 (((n) : Nat) : Int)), (.int .i64 (((m) : Nat) : Int))] [] (fun _ => True) (fun v E' => OwnT cByte 5 v (beL m n) E') := by
  refine does_of (fn := Try.f33) Try.func33 rfl Try.ntmps33 (Nat.le_of_ble_eq_true rfl) rfl ?_
  intro w0 hH hR
  replace hH : HH w0 [] [] w0 := hH.only [false]
  refine cxSeq ?_
  refine cxReg ?_
  refine pxV (v := (.slice none 0 0)) (fun _ _ hF => opAssign rfl rfl) rfl (fun _ _ => rfl) (kA rfl) (by decide) ?_
  refine pxEnd ?_
  refine qxThen ?_
  refine cxSeq ?_
  refine cxReg ?_
  refine pxV (v := (.int .i64 (((m) : Nat) : Int))) (fun _ _ hF => opMove rfl (hF.ev 2 rfl)) rfl (fun _ _ => rfl) (kM [false, true, true] rfl rfl) (by decide) ?_
  refine pxM hH (fun _ hF => smMake (e := 5) (n := m) (sz := 1) (by_ := 1) (z := (.int .u8 0)) (cs := madeCells (cByte.enc 0) (m * 1)) rfl (by kernel_rfl) (by kernel_rfl) (hF.ev 0 rfl) (hF.ev 0 rfl) rfl rfl (by omega) (by omega) rfl) trivial rfl (fun _ _ => rfl) (kM [false, true, true] rfl rfl) (by decide) ?_
  clear hH
  rintro _ _ w ⟨g1, rfl, rfl⟩ hH
  replace hH : HH w0 [] [[bl g1 5 (madeCells (cByte.enc 0) (m * 1))]] w := hH
  refine pxV (v := (.slice (some ⟨g1, 0, none⟩) m m)) (fun _ _ hF => opAssign rfl (hF.ev 0 rfl)) rfl (fun _ _ => rfl) (kM [false, true, true] rfl rfl) (by decide) ?_
  refine pxEnd ?_
  refine qxThen ?_
  refine cxSeq ?_
  refine cxSeq ?_
  refine cxReg ?_
  refine pxV (v := (.int .i64 (((m) : Nat) : Int))) (fun _ _ hF => opMove rfl (hF.ev 2 rfl)) rfl (fun _ _ => rfl) (kA rfl) (by decide) ?_
  refine pxV (v := (.int .i64 0)) (fun _ _ hF => opMove rfl rfl) rfl (fun _ _ => rfl) (kA rfl) (by decide) ?_
  refine pxEnd ?_
  refine qxThen ?_
  refine cxBlock ?_
  refine cxLoop (σ := Nat × (List UInt8) × (Array Value)) (fun x => [(10, (.int .i64 (((x.1) : Nat) : Int))), (9, (.int .i64 (((m) : Nat) : Int))), (5, (.slice (some ⟨g1, 0, none⟩) m m)), (1, (.int .i64 (((m) : Nat) : Int))), (0, (.int .u64 (((n) : Nat) : Int)))]) (fun x w => HH w0 [] [[bl g1 5 x.2.2]] w ∧ (x.1 ≤ m) ∧ (Bk cByte m x.2.2 x.2.1) ∧ (x.2.1.length = m) ∧ (x.2.1 = List.replicate (m - x.1) 0 ++ (beL m n).drop (m - x.1))) (fun x => m - x.1) (0, (List.replicate m 0), (madeCells (cByte.enc 0) (m * 1))) ⟨hH, (Nat.zero_le _), (Bk.make (C := cByte) 0 m (ltb rfl) (by unfold maxLen; omega)), List.length_replicate, (by rw [Nat.sub_zero, List.drop_eq_nil_of_le (by rw [beL_len]; exact Nat.le_refl _), List.append_nil])⟩ (slots_at [0, 1, 2, 4, 3] rfl) ?_
  clear hH
  rintro ⟨i, L, cur'⟩ w ⟨hH, hi, hB', hlen, hL⟩
  change CX _ _ _ _ [(10, (.int .i64 (((i) : Nat) : Int))), (9, (.int .i64 (((m) : Nat) : Int))), (5, (.slice (some ⟨g1, 0, none⟩) m m)), (1, (.int .i64 (((m) : Nat) : Int))), (0, (.int .u64 (((n) : Nat) : Int)))] _
  replace hH : HH w0 [] [[bl g1 5 cur']] w := hH
  replace hi : i ≤ m := hi
  replace hB' : Bk cByte m cur' L := hB'
  replace hlen : L.length = m := hlen
  replace hL : L = List.replicate (m - i) 0 ++ (beL m n).drop (m - i) := hL
  refine cxSeq ?_
  refine cxReg ?_
  refine pxV (v := (.bool (decide (i < m)))) (fun _ _ hF => opLss rfl (hF.ev 0 rfl) (hF.ev 1 rfl) (dc (by omega))) rfl (fun _ _ => rfl) (kA rfl) (by decide) ?_
  refine pxEnd ?_
  refine qxThen ?_
  refine cxSeq ?_
  refine cxP 0 rfl rfl (fun hc2 => ?_) (fun hc2 => ?_)
  · refine cxSkip ?_
    refine qxThen ?_
    refine cxSeq ?_
    refine cxBlock ?_
    refine cxSeq ?_
    refine cxReg ?_
    refine pxV (v := (.int .i64 (((i) : Nat) : Int))) (fun _ _ hF => opMove rfl (hF.ev 1 rfl)) rfl (fun _ _ => rfl) (kM [false, true, true, true, true, true] rfl rfl) (by decide) ?_
    refine pxV (v := (.int .i64 (((i) : Nat) : Int))) (fun _ _ hF => opAssign rfl (hF.ev 0 rfl)) rfl (fun _ _ => rfl) (kM [false, true, true, true, true, true] rfl rfl) (by decide) ?_
    refine pxEnd ?_
    refine qxThen ?_
    refine cxReg ?_
    refine pxV (v := (.slice (some ⟨g1, 0, none⟩) m m)) (fun _ _ hF => opMove rfl (hF.ev 3 rfl)) rfl (fun _ _ => rfl) (kA rfl) (by decide) ?_
    refine pxV (v := (.int .i64 (((m) : Nat) : Int))) (fun _ _ hF => opMove rfl (hF.ev 5 rfl)) rfl (fun _ _ => rfl) (kA rfl) (by decide) ?_
    refine pxV (v := (.int .i64 (((m - 1) : Nat) : Int))) (fun _ _ hF => opSub rfl (hF.ev 0 rfl) rfl (wI (by omega) (by omega) (by omega))) rfl (fun _ _ => rfl) (kM [false, true, true, true, true, true, true, true] rfl rfl) (by decide) ?_
    refine pxV (v := (.int .i64 (((i) : Nat) : Int))) (fun _ _ hF => opMove rfl (hF.ev 2 rfl)) rfl (fun _ _ => rfl) (kA rfl) (by decide) ?_
    refine pxV (v := (.int .i64 (((m - 1 - i) : Nat) : Int))) (fun _ _ hF => opSub rfl (hF.ev 1 rfl) (hF.ev 0 rfl) (wI (by omega) (by omega) (by omega))) rfl (fun _ _ => rfl) (kM [false, false, true, true, true, true, true, true, true] rfl rfl) (by decide) ?_
    refine pxV (v := (.int .u64 (((n) : Nat) : Int))) (fun _ _ hF => opMove rfl (hF.ev 7 rfl)) rfl (fun _ _ => rfl) (kA rfl) (by decide) ?_
    refine pxV (v := (.int .i64 (((i) : Nat) : Int))) (fun _ _ hF => opMove rfl (hF.ev 3 rfl)) rfl (fun _ _ => rfl) (kM [true, true, true, false, true, true, true, true, true] rfl rfl) (by decide) ?_
    refine pxV (v := (.int .i64 (((8 * i) : Nat) : Int))) (fun _ _ hF => opMul rfl rfl (hF.ev 0 rfl) (wI (by omega) (by omega) (by omega))) rfl (fun _ _ => rfl) (kM [false, true, true, true, true, true, true, true, true] rfl rfl) (by decide) ?_
    refine pxV (v := (.int .u64 (((n / 2 ^ (8 * i)) : Nat) : Int))) (fun _ _ hF => opShrU (n := 8 * i) (z := (n / 2 ^ (8 * i))) rfl (hF.ev 1 rfl) (hF.ev 0 rfl) (by show _ ≤ 64; omega) (rfl)) rfl (fun _ _ => rfl) (kM [false, false, true, true, true, true, true, true, true] rfl rfl) (by decide) ?_
    refine pxV (v := (.int .u8 ((((UInt8.ofNat (n / 2 ^ (8 * i))).toNat) : Nat) : Int))) (fun _ _ hF => opConvU (k' := .u8) rfl rfl (by kernel_rfl) (by kernel_rfl) (hF.ev 0 rfl) (UInt8.toNat_ofNat' (n := n / 2 ^ (8 * i))).symm) rfl (fun _ _ => rfl) (kM [false, true, true, true, true, true, true, true] rfl rfl) (by decide) ?_
    have hi3 : m - 1 - i < m := by omega
    have hj6 : m - 1 - i < L.length := by first | exact hi3 | (simp only [List.length_drop, List.length_take]; omega) | omega
    obtain ⟨x4, hx5⟩ := get_at L (m - 1 - i) hj6
    have hb7 := UInt8.toNat_lt x4
    refine pxV (v := (.pointer (some ⟨g1, 0 + (m - 1 - i) * 1, none⟩))) (fun _ _ hF => opIndex (i := m - 1 - i) (e := 5) (sz := 1) rfl (by kernel_rfl) (by kernel_rfl) (hF.ev 2 rfl) (hF.ev 1 rfl) rfl hi3) rfl (fun _ _ => rfl) (kM [true, false, false, true, true, true, true, true] rfl rfl) (by decide) ?_
    obtain ⟨cur9, hcs10, hB8⟩ : ∃ cs, putL cur' (0 + (m - 1 - i) * 1) (cByte.enc (UInt8.ofNat (n / 2 ^ (8 * i)))).toList = cs ∧ Bk cByte m cs (L.set (m - 1 - i) (UInt8.ofNat (n / 2 ^ (8 * i)))) := ⟨_, rfl, put_at hB' (m - 1 - i) hj6 (UInt8.ofNat (n / 2 ^ (8 * i)))⟩
    refine pxE0 0 hH rfl (fun _ hF => smStoreT (C := cByte) (z := (UInt8.ofNat (n / 2 ^ (8 * i)))) rfl (hF.ev 0 rfl) (hF.ev 1 rfl) rfl (by kernel_rfl) (room_at hB' hj6) hcs10) trivial rfl (fun _ _ => rfl) ?_
    clear hH
    rintro _ _ w rfl hH
    replace hH : HH w0 [] [[bl g1 5 cur9]] w := hH
    refine pxEnd ?_
    refine qxInN ?_
    refine qxThen ?_
    refine cxReg ?_
    refine pxV (v := (.int .i64 (((i + 1) : Nat) : Int))) (fun _ _ hF => opAdd rfl (hF.ev 2 rfl) rfl (wI (by omega) (by omega) (by omega))) rfl (fun _ _ => rfl) (kM [false, false, false, true, true, true, true] rfl rfl) (by decide) ?_
    refine pxV (v := (.int .i64 (((i + 1) : Nat) : Int))) (fun _ _ hF => opMove rfl (hF.ev 0 rfl)) rfl (fun _ _ => rfl) (kM [false, true, true, true, true] rfl rfl) (by decide) ?_
    refine pxEnd ?_
    exact qxRound (i + 1, (L.set (m - 1 - i) (UInt8.ofNat (n / 2 ^ (8 * i)))), cur9) ⟨hH, (show (i + 1) ≤ m from (by omega)), hB8, (by rw [List.length_set]; exact hlen), (show (L.set (m - 1 - i) (UInt8.ofNat (n / 2 ^ (8 * i)))) = List.replicate (m - (i + 1)) 0 ++ (beL m n).drop (m - (i + 1)) from (by rw [hL]; exact bytes_step (by omega)))⟩ (by omega) (slots_at [0, 1, 2, 3, 4] rfl)
  · refine cxExit ?_
    refine qxThenE ?_
    refine qxThenE ?_
    refine qxInE ?_
    refine qxThen ?_
    refine cxSeq ?_
    refine cxReg ?_
    refine pxV (v := (.slice (some ⟨g1, 0, none⟩) m m)) (fun _ _ hF => opMove rfl (hF.ev 3 rfl)) rfl (fun _ _ => rfl) (kM [false, false, false, false, false, false] rfl rfl) (by decide) ?_
    refine pxV (v := (.slice (some ⟨g1, 0, none⟩) m m)) (fun _ _ hF => opAssign rfl (hF.ev 0 rfl)) rfl (fun _ _ => rfl) (kM [false] rfl rfl) (by decide) ?_
    refine pxEnd ?_
    refine qxThen ?_
    refine cxRet ?_
    refine qxRet1 0 rfl rfl ?_
    have he : L = beL m n := by rw [hL, show m - i = 0 by omega]; rfl
    exact ⟨_, _, rfl, (he ▸ hB'.own 5 g1 hlen), hH.out1 [true] rfl⟩

theorem text_at {n s a : Nat} : ((((List.replicate 64 (0 : UInt8)).take 0 ++ (word ++ (List.replicate 64 0).drop (0 + word.length))).take 8 ++ (beL (16 - 8) n ++ ((List.replicate 64 0).take 0 ++ (word ++ (List.replicate 64 0).drop (0 + word.length))).drop (8 + (16 - 8)))).take 16 ++ (beL (20 - 16) s ++ (((List.replicate 64 0).take 0 ++ (word ++ (List.replicate 64 0).drop (0 + word.length))).take 8 ++ (beL (16 - 8) n ++ ((List.replicate 64 0).take 0 ++ (word ++ (List.replicate 64 0).drop (0 + word.length))).drop (8 + (16 - 8)))).drop (16 + (20 - 16)))).set 20 (UInt8.ofNat a) = hdL n s a := rfl

set_option maxHeartbeats 8000000 in
theorem text_c (i : Int) (n s a : Nat) : Does Try.prog 39 #[(.agg #[(.int .i64 (i)), (.int .u64 (((n) : Nat) : Int)), (.int .u64 (((s) : Nat) : Int)), (.int .i64 (((a) : Nat) : Int))])] [] (fun _ => True) (fun v E' => OwnT cByte 5 v (hdL n s a) E') := by
  refine does_of (fn := Try.f39) Try.func39 rfl Try.ntmps39 (Nat.le_of_ble_eq_true rfl) rfl ?_
  intro w0 hH hR
  replace hH : HH w0 [] [] w0 := hH.only [false]
  refine cxSeq ?_
  refine cxReg ?_
  refine pxM hH (fun _ hF => smBox rfl (hF.ev 0 rfl) rfl) trivial rfl (fun _ _ => rfl) (kM [false] rfl rfl) (by decide) ?_
  clear hH
  rintro _ _ w ⟨g1, rfl, rfl⟩ hH
  replace hH : HH w0 [] [[bl g1 59 #[(.int .i64 (i)), (.int .u64 (((n) : Nat) : Int)), (.int .u64 (((s) : Nat) : Int)), (.int .i64 (((a) : Nat) : Int))]]] w := hH
  refine pxV (v := (.slice none 0 0)) (fun _ _ hF => opAssign rfl rfl) rfl (fun _ _ => rfl) (kA rfl) (by decide) ?_
  refine pxEnd ?_
  refine qxThen ?_
  refine cxSeq ?_
  refine cxReg ?_
  refine pxM hH (fun _ hF => smMake (e := 5) (n := 64) (sz := 1) (by_ := 1) (z := (.int .u8 0)) (cs := madeCells (cByte.enc 0) (64 * 1)) rfl (by kernel_rfl) (by kernel_rfl) rfl rfl rfl rfl (by omega) (by omega) rfl) trivial rfl (fun _ _ => rfl) (kM [false, true] rfl rfl) (by decide) ?_
  clear hH
  rintro _ _ w ⟨g2, rfl, rfl⟩ hH
  replace hH : HH w0 [] [[bl g1 59 #[(.int .i64 (i)), (.int .u64 (((n) : Nat) : Int)), (.int .u64 (((s) : Nat) : Int)), (.int .i64 (((a) : Nat) : Int))]], [bl g2 5 (madeCells (cByte.enc 0) (64 * 1))]] w := hH
  refine pxV (v := (.slice (some ⟨g2, 0, none⟩) 64 64)) (fun _ _ hF => opAssign rfl (hF.ev 0 rfl)) rfl (fun _ _ => rfl) (kM [false, true] rfl rfl) (by decide) ?_
  refine pxEnd ?_
  refine qxThen ?_
  refine cxSeq ?_
  refine cxReg ?_
  refine pxV (v := (.slice (some ⟨g2, 0, none⟩) 64 64)) (fun _ _ hF => opMove rfl (hF.ev 0 rfl)) rfl (fun _ _ => rfl) (kA rfl) (by decide) ?_
  obtain ⟨cur4, hcs5, hB3⟩ : ∃ cs, putL (madeCells (cByte.enc 0) (64 * 1)) (0) (flat cByte ([118, 97, 117, 108, 116, 32, 49, 0])) = cs ∧ Bk cByte 64 cs ((List.replicate 64 0).take 0 ++ ([118, 97, 117, 108, 116, 32, 49, 0] ++ (List.replicate 64 0).drop (0 + ([118, 97, 117, 108, 116, 32, 49, 0]).length))) := ⟨_, rfl, (Bk.make (C := cByte) 0 64 (ltb rfl) (by unfold maxLen; omega)).copy 0 ([118, 97, 117, 108, 116, 32, 49, 0]) (by simp)⟩
  refine pxE 1 hH rfl (fun _ hF => smCopyS (l := [118, 97, 117, 108, 116, 32, 49, 0]) (e := 5) rfl (by kernel_rfl) (by kernel_rfl) (hF.ev 0 rfl) rfl (leb rfl) (by rw [size_madeCells]; exact leb rfl) hcs5) trivial rfl (fun _ _ => rfl) (kM [false, true, true] rfl rfl) (by decide) ?_
  clear hH
  rintro _ _ w ⟨rfl, rfl⟩ hH
  replace hH : HH w0 [] [[bl g1 59 #[(.int .i64 (i)), (.int .u64 (((n) : Nat) : Int)), (.int .u64 (((s) : Nat) : Int)), (.int .i64 (((a) : Nat) : Int))]], [bl g2 5 cur4]] w := hH
  refine pxEnd ?_
  refine qxThen ?_
  refine cxSeq ?_
  obtain ⟨L6, hL7, hl8, hB9⟩ : ∃ L, L = ((List.replicate 64 0).take 0 ++ ([118, 97, 117, 108, 116, 32, 49, 0] ++ (List.replicate 64 0).drop (0 + ([118, 97, 117, 108, 116, 32, 49, 0]).length))) ∧ L.length = 64 ∧ Bk cByte 64 cur4 L := ⟨_, rfl, rfl, hB3⟩
  refine cxRegX mixedOrders (by kernel_rfl) ?_
  replace hH := hH.drew
  refine rxV 0 rfl (by kernel_rfl) rfl (fun _ _ => rfl) (fun _ _ hF => opMove rfl (hF.ev 1 rfl)) (kM [false, true, true] rfl rfl) (by decide) (v := (.slice (some ⟨g2, 0, none⟩) 64 64)) ?_
  refine rxV 1 rfl (by kernel_rfl) rfl (fun _ _ => rfl) (fun _ _ hF => opCutLH (k := 8) (h := 16) (e := 5) (sz := 1) rfl (by kernel_rfl) (by kernel_rfl) (hF.ev 0 rfl) rfl rfl rfl rfl (by omega) (by omega)) (kM [false, true, true] rfl rfl) (by decide) (v := (.slice (cutA (some ⟨g2, 0, none⟩) 64 8 1) (16 - 8) (64 - 8))) ?_
  refine rxV 2 rfl (by kernel_rfl) rfl (fun _ _ => rfl) (fun _ _ hF => opField (off := 1) rfl (hF.ev 2 rfl) (by kernel_rfl)) (kA rfl) (by decide) (v := (.pointer (some ⟨g1, 1, none⟩))) ?_
  refine rxS (fun w => w.heap[g1]? = some (.cells #[(.int .i64 (i)), (.int .u64 (((n) : Nat) : Int)), (.int .u64 (((s) : Nat) : Int)), (.int .i64 (((a) : Nat) : Int))] 59 (0, 0))) 3 rfl (by kernel_rfl) rfl (fun _ _ => rfl) (hH.blk 0 rfl) (fun _ _ hF hS => opLoadK hS rfl (hF.ev 0 rfl) (by kernel_rfl) rfl) (kM [false, true, true, true] rfl rfl) (by decide) (v := (.int .u64 (((n) : Nat) : Int))) ?_
  refine rx1 4 (by kernel_rfl) ?_
  refine moE 1 rfl hH rfl (fun _ hF => Does.small (split_c g2 64 8 (16 - 8) (64 - 8) n cur4 L6 hB9 (by have := hl8; omega) (leb rfl)) (fun w => opCall rfl Try.func43 rfl rfl (Evs.cons (v := (.slice (cutA (some ⟨g2, 0, none⟩) 64 8 1) (16 - 8) (64 - 8))) (hF.ev 1 rfl) (Evs.cons (v := (.int .u64 (((n) : Nat) : Int))) (hF.ev 0 rfl) Evs.nil)) w)) trivial rfl (fun _ _ => rfl) (kM [false, false, true, true] rfl rfl) (by decide) (PendOk.go [] (by kernel_rfl) (PendOk.nil _ [])) ?_
  clear hH
  rintro _ _ w ⟨rfl, cur10, L11, rfl, hB12, hL13, hl14⟩ hH
  replace hH : HH w0 [] [[bl g1 59 #[(.int .i64 (i)), (.int .u64 (((n) : Nat) : Int)), (.int .u64 (((s) : Nat) : Int)), (.int .i64 (((a) : Nat) : Int))]], [bl g2 5 cur10]] w := hH
  refine ⟨(fun _ hs => by cases hs), ?_⟩
  refine rxEnd (by kernel_rfl) ?_
  refine qxThen ?_
  refine cxSeq ?_
  refine cxRegX mixedOrders (by kernel_rfl) ?_
  replace hH := hH.drew
  refine rxV 0 rfl (by kernel_rfl) rfl (fun _ _ => rfl) (fun _ _ hF => opMove rfl (hF.ev 1 rfl)) (kM [false, true, true] rfl rfl) (by decide) (v := (.slice (some ⟨g2, 0, none⟩) 64 64)) ?_
  refine rxV 1 rfl (by kernel_rfl) rfl (fun _ _ => rfl) (fun _ _ hF => opCutLH (k := 16) (h := 20) (e := 5) (sz := 1) rfl (by kernel_rfl) (by kernel_rfl) (hF.ev 0 rfl) rfl rfl rfl rfl (by omega) (by omega)) (kM [false, true, true] rfl rfl) (by decide) (v := (.slice (cutA (some ⟨g2, 0, none⟩) 64 16 1) (20 - 16) (64 - 16))) ?_
  refine rxV 2 rfl (by kernel_rfl) rfl (fun _ _ => rfl) (fun _ _ hF => opField (off := 2) rfl (hF.ev 2 rfl) (by kernel_rfl)) (kA rfl) (by decide) (v := (.pointer (some ⟨g1, 2, none⟩))) ?_
  refine rxS (fun w => w.heap[g1]? = some (.cells #[(.int .i64 (i)), (.int .u64 (((n) : Nat) : Int)), (.int .u64 (((s) : Nat) : Int)), (.int .i64 (((a) : Nat) : Int))] 59 (0, 0))) 3 rfl (by kernel_rfl) rfl (fun _ _ => rfl) (hH.blk 0 rfl) (fun _ _ hF hS => opLoadK hS rfl (hF.ev 0 rfl) (by kernel_rfl) rfl) (kM [false, true, true, true] rfl rfl) (by decide) (v := (.int .u64 (((s) : Nat) : Int))) ?_
  refine rx1 4 (by kernel_rfl) ?_
  refine moE 1 rfl hH rfl (fun _ hF => Does.small (split_c g2 64 16 (20 - 16) (64 - 16) s cur10 L11 hB12 (by have := hl14; omega) (leb rfl)) (fun w => opCall rfl Try.func43 rfl rfl (Evs.cons (v := (.slice (cutA (some ⟨g2, 0, none⟩) 64 16 1) (20 - 16) (64 - 16))) (hF.ev 1 rfl) (Evs.cons (v := (.int .u64 (((s) : Nat) : Int))) (hF.ev 0 rfl) Evs.nil)) w)) trivial rfl (fun _ _ => rfl) (kM [false, false, true, true] rfl rfl) (by decide) (PendOk.go [] (by kernel_rfl) (PendOk.nil _ [])) ?_
  clear hH
  rintro _ _ w ⟨rfl, cur15, L16, rfl, hB17, hL18, hl19⟩ hH
  replace hH : HH w0 [] [[bl g1 59 #[(.int .i64 (i)), (.int .u64 (((n) : Nat) : Int)), (.int .u64 (((s) : Nat) : Int)), (.int .i64 (((a) : Nat) : Int))]], [bl g2 5 cur15]] w := hH
  refine ⟨(fun _ hs => by cases hs), ?_⟩
  refine rxEnd (by kernel_rfl) ?_
  refine qxThen ?_
  refine cxSeq ?_
  refine cxReg ?_
  refine pxV (v := (.slice (some ⟨g2, 0, none⟩) 64 64)) (fun _ _ hF => opMove rfl (hF.ev 1 rfl)) rfl (fun _ _ => rfl) (kM [false, true, true] rfl rfl) (by decide) ?_
  refine pxV (v := (.pointer (some ⟨g1, 3, none⟩))) (fun _ _ hF => opField (off := 3) rfl (hF.ev 2 rfl) (by kernel_rfl)) rfl (fun _ _ => rfl) (kM [true, true, false] rfl rfl) (by decide) ?_
  refine pxS (v := (.int .i64 (((a) : Nat) : Int))) (fun w => w.heap[g1]? = some (.cells #[(.int .i64 (i)), (.int .u64 (((n) : Nat) : Int)), (.int .u64 (((s) : Nat) : Int)), (.int .i64 (((a) : Nat) : Int))] 59 (0, 0))) (hH.blk 0 rfl) (fun _ _ hF hS => opLoadK hS rfl (hF.ev 0 rfl) (by kernel_rfl) rfl) rfl (fun _ _ => rfl) (kM [false, true, true] rfl rfl) (by decide) ?_
  refine pxV (v := (.int .u8 ((((UInt8.ofNat a).toNat) : Nat) : Int))) (fun _ _ hF => opConvU (k' := .u8) rfl rfl (by kernel_rfl) (by kernel_rfl) (hF.ev 0 rfl) (UInt8.toNat_ofNat' (n := a)).symm) rfl (fun _ _ => rfl) (kM [false, true, true] rfl rfl) (by decide) ?_
  have hi20 : 20 < 64 := by omega
  have hj23 : 20 < L16.length := by omega
  obtain ⟨x21, hx22⟩ := get_at L16 20 hj23
  have hb24 := UInt8.toNat_lt x21
  refine pxV (v := (.pointer (some ⟨g2, 0 + 20 * 1, none⟩))) (fun _ _ hF => opIndex (i := 20) (e := 5) (sz := 1) rfl (by kernel_rfl) (by kernel_rfl) (hF.ev 1 rfl) rfl rfl hi20) rfl (fun _ _ => rfl) (kM [true, false, true] rfl rfl) (by decide) ?_
  obtain ⟨cur26, hcs27, hB25⟩ : ∃ cs, putL cur15 (0 + 20 * 1) (cByte.enc (UInt8.ofNat a)).toList = cs ∧ Bk cByte 64 cs (L16.set 20 (UInt8.ofNat a)) := ⟨_, rfl, put_at hB17 20 hj23 (UInt8.ofNat a)⟩
  refine pxE0 1 hH rfl (fun _ hF => smStoreT (C := cByte) (z := (UInt8.ofNat a)) rfl (hF.ev 0 rfl) (hF.ev 1 rfl) rfl (by kernel_rfl) (room_at hB17 hj23) hcs27) trivial rfl (fun _ _ => rfl) ?_
  clear hH
  rintro _ _ w rfl hH
  replace hH : HH w0 [] [[bl g1 59 #[(.int .i64 (i)), (.int .u64 (((n) : Nat) : Int)), (.int .u64 (((s) : Nat) : Int)), (.int .i64 (((a) : Nat) : Int))]], [bl g2 5 cur26]] w := hH
  refine pxEnd ?_
  refine qxThen ?_
  refine cxSeq ?_
  refine cxReg ?_
  refine pxV (v := (.slice (some ⟨g2, 0, none⟩) 64 64)) (fun _ _ hF => opMove rfl (hF.ev 2 rfl)) rfl (fun _ _ => rfl) (kM [false, false, false] rfl rfl) (by decide) ?_
  refine pxV (v := (.slice (some ⟨g2, 0, none⟩) 64 64)) (fun _ _ hF => opAssign rfl (hF.ev 0 rfl)) rfl (fun _ _ => rfl) (kM [false] rfl rfl) (by decide) ?_
  refine pxEnd ?_
  refine qxThen ?_
  refine cxRet ?_
  refine qxRet1 0 rfl rfl ?_
  have he : (L16.set 20 (UInt8.ofNat a)) = hdL n s a := by rw [hL18, hL13, hL7]; exact text_at
  exact ⟨_, _, rfl, (he ▸ hB25.own 5 g2 (by rw [List.length_set]; omega)), hH.out1 [false, true] rfl⟩

set_option maxHeartbeats 8000000 in
theorem next_c (V : Vt) (size : Nat) (hok : V.Ok) : Pure Try.prog 29 #[(.agg #[(.int .i64 (((V.sector) : Nat) : Int)), (.int .u64 (((V.number) : Nat) : Int)), (.int .u64 (((V.size) : Nat) : Int)), (.int .i64 (((V.area) : Nat) : Int))]), (.int .u64 (((size) : Nat) : Int))] (fun _ => True) (hdV (V.next size)) := by
  refine pure_of (fn := Try.f29) Try.func29 rfl Try.ntmps29 (Nat.le_of_ble_eq_true rfl) rfl ?_
  intro w0 hH hR
  have h1 := hok.sector; have h2 := hok.area; have h3 := hok.number
  refine cxSeq ?_
  refine cxReg ?_
  refine pxM hH (fun _ hF => smBox rfl (hF.ev 0 rfl) rfl) trivial rfl (fun _ _ => rfl) (kM [false, true] rfl rfl) (by decide) ?_
  clear hH
  rintro _ _ w ⟨g1, rfl, rfl⟩ hH
  replace hH : HH w0 [] [[bl g1 59 #[(.int .i64 (((V.sector) : Nat) : Int)), (.int .u64 (((V.number) : Nat) : Int)), (.int .u64 (((V.size) : Nat) : Int)), (.int .i64 (((V.area) : Nat) : Int))]]] w := hH
  refine pxM hH (fun _ hF => smAlloc (z := (.agg #[(.int .i64 0), (.int .u64 0), (.int .u64 0), (.int .i64 0)])) rfl (by kernel_rfl) rfl) trivial rfl (fun _ _ => rfl) (kA rfl) (by decide) ?_
  clear hH
  rintro _ _ w ⟨g2, rfl, rfl⟩ hH
  replace hH : HH w0 [] [[bl g1 59 #[(.int .i64 (((V.sector) : Nat) : Int)), (.int .u64 (((V.number) : Nat) : Int)), (.int .u64 (((V.size) : Nat) : Int)), (.int .i64 (((V.area) : Nat) : Int))]], [bl g2 59 #[(.int .i64 0), (.int .u64 0), (.int .u64 0), (.int .i64 0)]]] w := hH
  refine pxEnd ?_
  refine qxThen ?_
  refine cxSeq ?_
  refine cxReg ?_
  refine pxV (v := (.pointer (some ⟨g1, 0, none⟩))) (fun _ _ hF => opField (off := 0) rfl (hF.ev 1 rfl) (by kernel_rfl)) rfl (fun _ _ => rfl) (kA rfl) (by decide) ?_
  refine pxS (v := (.int .i64 (((V.sector) : Nat) : Int))) (fun w => w.heap[g1]? = some (.cells #[(.int .i64 (((V.sector) : Nat) : Int)), (.int .u64 (((V.number) : Nat) : Int)), (.int .u64 (((V.size) : Nat) : Int)), (.int .i64 (((V.area) : Nat) : Int))] 59 (0, 0))) (hH.blk 0 rfl) (fun _ _ hF hS => opLoadK hS rfl (hF.ev 0 rfl) (by kernel_rfl) rfl) rfl (fun _ _ => rfl) (kM [false, true, true, true] rfl rfl) (by decide) ?_
  refine pxV (v := (.int .i64 (((1 - V.sector) : Nat) : Int))) (fun _ _ hF => opSub rfl rfl (hF.ev 0 rfl) (wI (by omega) (by omega) (by omega))) rfl (fun _ _ => rfl) (kM [false, true, true, true] rfl rfl) (by decide) ?_
  refine pxV (v := (.pointer (some ⟨g1, 1, none⟩))) (fun _ _ hF => opField (off := 1) rfl (hF.ev 2 rfl) (by kernel_rfl)) rfl (fun _ _ => rfl) (kA rfl) (by decide) ?_
  refine pxS (v := (.int .u64 (((V.number) : Nat) : Int))) (fun w => w.heap[g1]? = some (.cells #[(.int .i64 (((V.sector) : Nat) : Int)), (.int .u64 (((V.number) : Nat) : Int)), (.int .u64 (((V.size) : Nat) : Int)), (.int .i64 (((V.area) : Nat) : Int))] 59 (0, 0))) (hH.blk 0 rfl) (fun _ _ hF hS => opLoadK hS rfl (hF.ev 0 rfl) (by kernel_rfl) rfl) rfl (fun _ _ => rfl) (kM [false, true, true, true, true] rfl rfl) (by decide) ?_
  refine pxV (v := (.int .u64 ((((V.number + 1) % 18446744073709551616) : Nat) : Int))) (fun _ _ hF => opAddU (m := V.number) (j := 1) (z := ((V.number + 1) % 18446744073709551616)) rfl rfl (hF.ev 0 rfl) rfl (rfl)) rfl (fun _ _ => rfl) (kM [false, true, true, true, true] rfl rfl) (by decide) ?_
  refine pxV (v := (.int .u64 (((size) : Nat) : Int))) (fun _ _ hF => opMove rfl (hF.ev 4 rfl)) rfl (fun _ _ => rfl) (kM [true, true, true, true, false] rfl rfl) (by decide) ?_
  refine pxV (v := (.pointer (some ⟨g1, 3, none⟩))) (fun _ _ hF => opField (off := 3) rfl (hF.ev 4 rfl) (by kernel_rfl)) rfl (fun _ _ => rfl) (kA rfl) (by decide) ?_
  refine pxS (v := (.int .i64 (((V.area) : Nat) : Int))) (fun w => w.heap[g1]? = some (.cells #[(.int .i64 (((V.sector) : Nat) : Int)), (.int .u64 (((V.number) : Nat) : Int)), (.int .u64 (((V.size) : Nat) : Int)), (.int .i64 (((V.area) : Nat) : Int))] 59 (0, 0))) (hH.blk 0 rfl) (fun _ _ hF hS => opLoadK hS rfl (hF.ev 0 rfl) (by kernel_rfl) rfl) rfl (fun _ _ => rfl) (kM [false, true, true, true, true, true] rfl rfl) (by decide) ?_
  refine pxV (v := (.int .i64 (((1 - V.area) : Nat) : Int))) (fun _ _ hF => opSub rfl rfl (hF.ev 0 rfl) (wI (by omega) (by omega) (by omega))) rfl (fun _ _ => rfl) (kM [false, true, true, true, true, true] rfl rfl) (by decide) ?_
  refine pxV (v := (.agg #[(.int .i64 (((1 - V.sector) : Nat) : Int)), (.int .u64 ((((V.number + 1) % 18446744073709551616) : Nat) : Int)), (.int .u64 (((size) : Nat) : Int)), (.int .i64 (((1 - V.area) : Nat) : Int))])) (fun _ _ hF => opBuildP (cells := #[(.int .i64 (((1 - V.sector) : Nat) : Int)), (.int .u64 ((((V.number + 1) % 18446744073709551616) : Nat) : Int)), (.int .u64 (((size) : Nat) : Int)), (.int .i64 (((1 - V.area) : Nat) : Int))]) rfl (EvP.cons (v := (.int .i64 (((1 - V.sector) : Nat) : Int))) (hF.ev 3 rfl) (EvP.cons (v := (.int .u64 ((((V.number + 1) % 18446744073709551616) : Nat) : Int))) (hF.ev 2 rfl) (EvP.cons (v := (.int .u64 (((size) : Nat) : Int))) (hF.ev 1 rfl) (EvP.cons (v := (.int .i64 (((1 - V.area) : Nat) : Int))) (hF.ev 0 rfl) EvP.nil)))) rfl _) rfl (fun _ _ => rfl) (kM [false, false, false, false, true, true] rfl rfl) (by decide) ?_
  refine pxM hH (fun _ hF => smAlloc (z := (.agg #[(.int .i64 0), (.int .u64 0), (.int .u64 0), (.int .i64 0)])) rfl (by kernel_rfl) rfl) trivial rfl (fun _ _ => rfl) (kA rfl) (by decide) ?_
  clear hH
  rintro _ _ w ⟨g3, rfl, rfl⟩ hH
  replace hH : HH w0 [] [[bl g1 59 #[(.int .i64 (((V.sector) : Nat) : Int)), (.int .u64 (((V.number) : Nat) : Int)), (.int .u64 (((V.size) : Nat) : Int)), (.int .i64 (((V.area) : Nat) : Int))]], [bl g2 59 #[(.int .i64 0), (.int .u64 0), (.int .u64 0), (.int .i64 0)]], [bl g3 59 #[(.int .i64 0), (.int .u64 0), (.int .u64 0), (.int .i64 0)]]] w := hH
  refine pxE0 2 hH rfl (fun _ hF => smStoreK (k := 4) rfl (hF.ev 0 rfl) (hF.ev 1 rfl) rfl (by kernel_rfl) (leb rfl) rfl rfl) trivial rfl (fun _ _ => rfl) ?_
  clear hH
  rintro _ _ w rfl hH
  replace hH : HH w0 [] [[bl g1 59 #[(.int .i64 (((V.sector) : Nat) : Int)), (.int .u64 (((V.number) : Nat) : Int)), (.int .u64 (((V.size) : Nat) : Int)), (.int .i64 (((V.area) : Nat) : Int))]], [bl g2 59 #[(.int .i64 0), (.int .u64 0), (.int .u64 0), (.int .i64 0)]], [bl g3 59 #[(.int .i64 (((1 - V.sector) : Nat) : Int)), (.int .u64 ((((V.number + 1) % 18446744073709551616) : Nat) : Int)), (.int .u64 (((size) : Nat) : Int)), (.int .i64 (((1 - V.area) : Nat) : Int))]]] w := hH
  refine pxEnd ?_
  refine qxThen ?_
  refine cxSeq ?_
  refine cxSeq ?_
  refine cxReg ?_
  refine pxV (v := (.pointer (some ⟨g1, 1, none⟩))) (fun _ _ hF => opField (off := 1) rfl (hF.ev 3 rfl) (by kernel_rfl)) rfl (fun _ _ => rfl) (kM [true, false, true, true] rfl rfl) (by decide) ?_
  refine pxS (v := (.int .u64 (((V.number) : Nat) : Int))) (fun w => w.heap[g1]? = some (.cells #[(.int .i64 (((V.sector) : Nat) : Int)), (.int .u64 (((V.number) : Nat) : Int)), (.int .u64 (((V.size) : Nat) : Int)), (.int .i64 (((V.area) : Nat) : Int))] 59 (0, 0))) (hH.blk 0 rfl) (fun _ _ hF hS => opLoadK hS rfl (hF.ev 0 rfl) (by kernel_rfl) rfl) rfl (fun _ _ => rfl) (kM [false, true, true, true] rfl rfl) (by decide) ?_
  refine pxV (v := (.bool (decide (V.number = 18446744073709551615)))) (fun _ _ hF => opEqI rfl (hF.ev 0 rfl) rfl (dc (by omega))) rfl (fun _ _ => rfl) (kM [false, true, true, true] rfl rfl) (by decide) ?_
  refine pxEnd ?_
  refine qxThen ?_
  refine cxP 0 rfl rfl (fun hc4 => ?_) (fun hc4 => ?_)
  · refine cxRegX mixedOrders (by kernel_rfl) ?_
    replace hH := hH.drew
    refine rxV 0 rfl (by kernel_rfl) rfl (fun _ _ => rfl) (fun _ _ hF => opField (off := 1) rfl (hF.ev 3 rfl) (by kernel_rfl)) (kM [false, true, true, false] rfl rfl) (by decide) (v := (.pointer (some ⟨g1, 1, none⟩))) ?_
    refine rxS (fun w => w.heap[g1]? = some (.cells #[(.int .i64 (((V.sector) : Nat) : Int)), (.int .u64 (((V.number) : Nat) : Int)), (.int .u64 (((V.size) : Nat) : Int)), (.int .i64 (((V.area) : Nat) : Int))] 59 (0, 0))) 1 rfl (by kernel_rfl) rfl (fun _ _ => rfl) (hH.blk 0 rfl) (fun _ _ hF hS => opLoadK hS rfl (hF.ev 0 rfl) (by kernel_rfl) rfl) (kM [false, true, true] rfl rfl) (by decide) (v := (.int .u64 (((V.number) : Nat) : Int))) ?_
    refine rxV 2 rfl (by kernel_rfl) rfl (fun _ _ => rfl) (fun _ _ hF => opField (off := 0) rfl (hF.ev 1 rfl) (by kernel_rfl)) (kA rfl) (by decide) (v := (.pointer (some ⟨g3, 0, none⟩))) ?_
    refine rx1 3 (by kernel_rfl) ?_
    refine moE0 2 rfl hH rfl (fun _ hF => smStore (v := (.int .i64 0)) rfl (hF.ev 0 rfl) rfl (by kernel_rfl) (ltb rfl) rfl rfl) trivial rfl (fun _ _ => rfl) (PendOk.keep (PendOk.nil _ [])) ?_
    clear hH
    rintro _ _ w rfl hH
    replace hH : HH w0 [] [[bl g1 59 #[(.int .i64 (((V.sector) : Nat) : Int)), (.int .u64 (((V.number) : Nat) : Int)), (.int .u64 (((V.size) : Nat) : Int)), (.int .i64 (((V.area) : Nat) : Int))]], [bl g2 59 #[(.int .i64 0), (.int .u64 0), (.int .u64 0), (.int .i64 0)]], [bl g3 59 #[(.int .i64 0), (.int .u64 ((((V.number + 1) % 18446744073709551616) : Nat) : Int)), (.int .u64 (((size) : Nat) : Int)), (.int .i64 (((1 - V.area) : Nat) : Int))]]] w := hH
    refine ⟨(by
      intro s hs
      simp only [List.mem_cons, List.not_mem_nil, or_false] at hs
      rcases hs with rfl
      · exact (hH.blk 0 rfl)
      ), ?_⟩
    refine rxV 4 rfl (by kernel_rfl) rfl (fun _ _ => rfl) (fun _ _ hF => opField (off := 1) rfl (hF.ev 2 rfl) (by kernel_rfl)) (kM [false, true, true, true] rfl rfl) (by decide) (v := (.pointer (some ⟨g3, 1, none⟩))) ?_
    refine rx1 5 (by kernel_rfl) ?_
    refine moE0 2 rfl hH rfl (fun _ hF => smStore (v := (.int .u64 (((V.number) : Nat) : Int))) rfl (hF.ev 0 rfl) (hF.ev 1 rfl) (by kernel_rfl) (ltb rfl) rfl rfl) trivial rfl (fun _ _ => rfl) (PendOk.go [] (by kernel_rfl) (PendOk.nil _ [])) ?_
    clear hH
    rintro _ _ w rfl hH
    replace hH : HH w0 [] [[bl g1 59 #[(.int .i64 (((V.sector) : Nat) : Int)), (.int .u64 (((V.number) : Nat) : Int)), (.int .u64 (((V.size) : Nat) : Int)), (.int .i64 (((V.area) : Nat) : Int))]], [bl g2 59 #[(.int .i64 0), (.int .u64 0), (.int .u64 0), (.int .i64 0)]], [bl g3 59 #[(.int .i64 0), (.int .u64 (((V.number) : Nat) : Int)), (.int .u64 (((size) : Nat) : Int)), (.int .i64 (((1 - V.area) : Nat) : Int))]]] w := hH
    refine ⟨(fun _ hs => by cases hs), ?_⟩
    refine rxEnd (by kernel_rfl) ?_
    refine qxThen ?_
    refine cxSeq ?_
    refine cxReg ?_
    refine pxS (v := (.agg #[(.int .i64 0), (.int .u64 (((V.number) : Nat) : Int)), (.int .u64 (((size) : Nat) : Int)), (.int .i64 (((1 - V.area) : Nat) : Int))])) (fun w => w.heap[g3]? = some (.cells #[(.int .i64 0), (.int .u64 (((V.number) : Nat) : Int)), (.int .u64 (((size) : Nat) : Int)), (.int .i64 (((1 - V.area) : Nat) : Int))] 59 (0, 0))) (hH.blk 2 rfl) (fun _ _ hF hS => opLoadKR (k := 4) hS rfl (hF.ev 2 rfl) (by kernel_rfl) rfl (by kernel_rfl) rfl) rfl (fun _ _ => rfl) (kM [false, false, false, true] rfl rfl) (by decide) ?_
    refine pxE0 1 hH rfl (fun _ hF => smStoreK (k := 4) rfl (hF.ev 1 rfl) (hF.ev 0 rfl) rfl (by kernel_rfl) (leb rfl) rfl rfl) trivial rfl (fun _ _ => rfl) ?_
    clear hH
    rintro _ _ w rfl hH
    replace hH : HH w0 [] [[bl g1 59 #[(.int .i64 (((V.sector) : Nat) : Int)), (.int .u64 (((V.number) : Nat) : Int)), (.int .u64 (((V.size) : Nat) : Int)), (.int .i64 (((V.area) : Nat) : Int))]], [bl g2 59 #[(.int .i64 0), (.int .u64 (((V.number) : Nat) : Int)), (.int .u64 (((size) : Nat) : Int)), (.int .i64 (((1 - V.area) : Nat) : Int))]], [bl g3 59 #[(.int .i64 0), (.int .u64 (((V.number) : Nat) : Int)), (.int .u64 (((size) : Nat) : Int)), (.int .i64 (((1 - V.area) : Nat) : Int))]]] w := hH
    refine pxEnd ?_
    refine qxThen ?_
    refine cxRet ?_
    refine qxRetC 1 (hH.blk 1 rfl) rfl rfl (by kernel_rfl) rfl (by kernel_rfl) ?_
    have he : V.next size = ⟨0, V.number, size, 1 - V.area⟩ := by unfold Vt.next; rw [if_pos hc4]
    exact ⟨by rw [he]; rfl, HH.toBelow hH⟩
  · refine cxSkip ?_
    refine qxThen ?_
    refine cxSeq ?_
    refine cxReg ?_
    refine pxS (v := (.agg #[(.int .i64 (((1 - V.sector) : Nat) : Int)), (.int .u64 ((((V.number + 1) % 18446744073709551616) : Nat) : Int)), (.int .u64 (((size) : Nat) : Int)), (.int .i64 (((1 - V.area) : Nat) : Int))])) (fun w => w.heap[g3]? = some (.cells #[(.int .i64 (((1 - V.sector) : Nat) : Int)), (.int .u64 ((((V.number + 1) % 18446744073709551616) : Nat) : Int)), (.int .u64 (((size) : Nat) : Int)), (.int .i64 (((1 - V.area) : Nat) : Int))] 59 (0, 0))) (hH.blk 2 rfl) (fun _ _ hF hS => opLoadKR (k := 4) hS rfl (hF.ev 1 rfl) (by kernel_rfl) rfl (by kernel_rfl) rfl) rfl (fun _ _ => rfl) (kM [false, false, true, false] rfl rfl) (by decide) ?_
    refine pxE0 1 hH rfl (fun _ hF => smStoreK (k := 4) rfl (hF.ev 1 rfl) (hF.ev 0 rfl) rfl (by kernel_rfl) (leb rfl) rfl rfl) trivial rfl (fun _ _ => rfl) ?_
    clear hH
    rintro _ _ w rfl hH
    replace hH : HH w0 [] [[bl g1 59 #[(.int .i64 (((V.sector) : Nat) : Int)), (.int .u64 (((V.number) : Nat) : Int)), (.int .u64 (((V.size) : Nat) : Int)), (.int .i64 (((V.area) : Nat) : Int))]], [bl g2 59 #[(.int .i64 (((1 - V.sector) : Nat) : Int)), (.int .u64 ((((V.number + 1) % 18446744073709551616) : Nat) : Int)), (.int .u64 (((size) : Nat) : Int)), (.int .i64 (((1 - V.area) : Nat) : Int))]], [bl g3 59 #[(.int .i64 (((1 - V.sector) : Nat) : Int)), (.int .u64 ((((V.number + 1) % 18446744073709551616) : Nat) : Int)), (.int .u64 (((size) : Nat) : Int)), (.int .i64 (((1 - V.area) : Nat) : Int))]]] w := hH
    refine pxEnd ?_
    refine qxThen ?_
    refine cxRet ?_
    refine qxRetC 1 (hH.blk 1 rfl) rfl rfl (by kernel_rfl) rfl (by kernel_rfl) ?_
    have he : V.next size = ⟨1 - V.sector, (V.number + 1) % 18446744073709551616, size, 1 - V.area⟩ := by unfold Vt.next; rw [if_neg hc4, Nat.mod_eq_of_lt (by omega)]
    exact ⟨by rw [he]; rfl, HH.toBelow hH⟩

set_option maxHeartbeats 8000000 in
theorem clone_c (A : Option Addr) (n c : Nat) (l : List UInt8) (hb : n ≤ 140737488355328) : Does Try.prog 28 #[(.slice A n c)] [] (fun w => Vu cByte w A n c l) (fun v E' => OwnT cByte 5 v l E') := by
  refine does_of (fn := Try.f28) Try.func28 rfl Try.ntmps28 (Nat.le_of_ble_eq_true rfl) rfl ?_
  intro w0 hH hR
  replace hH : HH w0 [] [] w0 := hH.only [false]
  have hlen := hR.len; have hcap := hR.cap
  refine cxSeq ?_
  refine cxReg ?_
  refine pxV (v := (.slice none 0 0)) (fun _ _ hF => opAssign rfl rfl) rfl (fun _ _ => rfl) (kA rfl) (by decide) ?_
  refine pxEnd ?_
  refine qxThen ?_
  refine cxSeq ?_
  refine cxSeq ?_
  refine cxReg ?_
  refine pxV (v := (.slice A n c)) (fun _ _ hF => opMove rfl (hF.ev 1 rfl)) rfl (fun _ _ => rfl) (kM [false, true] rfl rfl) (by decide) ?_
  refine pxV (v := (.bool (A.isNone))) (fun _ _ hF => opEqNilS (e := 5) rfl (by kernel_rfl) (hF.ev 0 rfl) rfl rfl) rfl (fun _ _ => rfl) (kM [false, true] rfl rfl) (by decide) ?_
  refine pxEnd ?_
  refine qxThen ?_
  refine cxB 0 rfl rfl (fun hc1 => ?_) (fun hc1 => ?_)
  · obtain rfl : A = none := by simpa using hc1
    have h0 := hR.nil rfl
    obtain rfl : l = [] := List.eq_nil_of_length_eq_zero (by omega)
    refine cxSeq ?_
    refine cxReg ?_
    refine pxV (v := (.slice none 0 0)) (fun _ _ hF => opAssign rfl rfl) rfl (fun _ _ => rfl) (kM [false, false] rfl rfl) (by decide) ?_
    refine pxEnd ?_
    refine qxThen ?_
    refine cxRet ?_
    refine qxThenR ?_
    refine qxRet1 0 rfl rfl ?_
    exact ⟨_, [], rfl, OwnT.nil _ _, HH.out1 (HH.pad hH 1) [true] rfl⟩
  · refine cxSkip ?_
    refine qxThen ?_
    refine cxSeq ?_
    refine cxReg ?_
    refine pxM hH (fun _ hF => smLit0 (e := 5) rfl (by kernel_rfl) (by kernel_rfl)) trivial rfl (fun _ _ => rfl) (kM [false, true] rfl rfl) (by decide) ?_
    clear hH
    rintro _ _ w ⟨g2, rfl, rfl⟩ hH
    replace hH : HH w0 [] [[bl g2 5 #[]]] w := hH
    refine pxV (v := (.slice A n c)) (fun _ _ hF => opMove rfl (hF.ev 1 rfl)) rfl (fun _ _ => rfl) (kM [true, false] rfl rfl) (by decide) ?_
    refine pxE 0 hH rfl (fun _ hF => smAppT (C := cByte) (l := []) (m := l) (e := 5) (z := (.int .u8 0)) (by_ := 1) rfl (by kernel_rfl) (by kernel_rfl) rfl (ltb rfl) (hF.ev 1 rfl) ((Bk.lit0 (C := cByte)).own 5 g2 rfl) (hF.ev 0 rfl) hlen (fun h => by subst h; cases hc1) (by rw [List.length_nil]; unfold maxLen; omega) (by rw [List.length_nil]; omega)) (hH.vu hR (by decide) (Off.nil _ _)) rfl (fun _ _ => rfl) (kM [false, false] rfl rfl) (by decide) ?_
    clear hH
    rintro v5 E6 w ⟨hO7, _⟩ hH
    replace hH : HH w0 [] [E6] w := hH
    replace hO7 : OwnT cByte 5 v5 l E6 := hO7
    obtain ⟨A3, c4, rfl⟩ := hO7.slice
    refine pxV (v := (.slice A3 l.length c4)) (fun _ _ hF => opAssign rfl (hF.ev 0 rfl)) rfl (fun _ _ => rfl) (kM [false] rfl rfl) (by decide) ?_
    refine pxEnd ?_
    refine qxThen ?_
    refine cxRet ?_
    refine qxRet1 0 rfl rfl ?_
    exact ⟨_, _, rfl, hO7, hH.out1 [true] rfl⟩

set_option maxHeartbeats 8000000 in
theorem equal_c (A A2 : Option Addr) (n c n2 c2 : Nat) (l l2 : List UInt8) : Pure Try.prog 41 #[(.slice A n c), (.slice A2 n2 c2)] (fun w => Vu cByte w A n c l ∧ Vu cByte w A2 n2 c2 l2) (.bool (decide (l = l2))) := by
  refine pure_of (fn := Try.f41) Try.func41 rfl Try.ntmps41 (Nat.le_of_ble_eq_true rfl) rfl ?_
  intro w0 hH hR
  refine cxSeq ?_
  refine cxReg ?_
  refine pxV (v := (.bool false)) (fun _ _ hF => opAssign rfl rfl) rfl (fun _ _ => rfl) (kA rfl) (by decide) ?_
  refine pxEnd ?_
  refine qxThen ?_
  refine cxSeq ?_
  refine cxReg ?_
  refine pxV (v := (.slice A n c)) (fun _ _ hF => opMove rfl (hF.ev 1 rfl)) rfl (fun _ _ => rfl) (kM [false, false, true] rfl rfl) (by decide) ?_
  refine pxS (v := (.string (strL l))) (fun w => Vu cByte w A n c l) (hH.vu hR.1 (by decide) (Off.nil _ _)) (fun _ _ hF hS => opStr (e := 5) rfl (by kernel_rfl) (by kernel_rfl) (by kernel_rfl) (hF.ev 0 rfl) hS) rfl (fun _ _ => rfl) (kM [false, true] rfl rfl) (by decide) ?_
  refine pxV (v := (.slice A2 n2 c2)) (fun _ _ hF => opMove rfl (hF.ev 1 rfl)) rfl (fun _ _ => rfl) (kM [true, false] rfl rfl) (by decide) ?_
  refine pxS (v := (.string (strL l2))) (fun w => Vu cByte w A2 n2 c2 l2) (hH.vu hR.2 (by decide) (Off.nil _ _)) (fun _ _ hF hS => opStr (e := 5) rfl (by kernel_rfl) (by kernel_rfl) (by kernel_rfl) (hF.ev 0 rfl) hS) rfl (fun _ _ => rfl) (kM [false, true] rfl rfl) (by decide) ?_
  refine pxV (v := (.bool (decide ((strL l) = (strL l2))))) (fun _ _ hF => opEqS rfl (hF.ev 1 rfl) (hF.ev 0 rfl) rfl) rfl (fun _ _ => rfl) (kM [false, false] rfl rfl) (by decide) ?_
  refine pxV (v := (.bool (decide ((strL l) = (strL l2))))) (fun _ _ hF => opAssign rfl (hF.ev 0 rfl)) rfl (fun _ _ => rfl) (kM [false] rfl rfl) (by decide) ?_
  refine pxEnd ?_
  refine qxThen ?_
  refine cxRet ?_
  refine qxRet1 0 rfl rfl ?_
  exact ⟨congrArg (fun b => Ending.returned (.bool b)) (dc strL_inj), HH.toBelow hH⟩

theorem numB_def (l : List UInt8) : numB l = beN ((l.take 16).drop 8) := rfl
theorem sizB_def (l : List UInt8) : sizB l = beN ((l.take 20).drop 16) := rfl
theorem arB_def {l : List UInt8} {x : UInt8} (h : l[20]? = some x) : arB l = x.toNat := by unfold arB; rw [getD_at h]

set_option maxHeartbeats 8000000 in
theorem parse_c (i : Nat) (A : Option Addr) (n c : Nat) (l : List UInt8) (room : Nat) (h64 : n = 64) : Pure Try.prog 37 #[(.int .i64 (((i) : Nat) : Int)), (.slice A n c), (.int .u64 (((room) : Nat) : Int))] (fun w => Vu cByte w A n c l) (.tuple #[hdV ⟨i, numB l, sizB l, arB l⟩, .bool (decide (okB room l))]) := by
  refine pure_of (fn := Try.f37) Try.func37 rfl Try.ntmps37 (Nat.le_of_ble_eq_true rfl) rfl ?_
  intro w0 hH hR
  have hlen := hR.len; have hcap := hR.cap
  refine cxSeq ?_
  refine cxReg ?_
  refine pxM hH (fun _ hF => smAlloc (z := (.agg #[(.int .i64 0), (.int .u64 0), (.int .u64 0), (.int .i64 0)])) rfl (by kernel_rfl) rfl) trivial rfl (fun _ _ => rfl) (kA rfl) (by decide) ?_
  clear hH
  rintro _ _ w ⟨g1, rfl, rfl⟩ hH
  replace hH : HH w0 [] [[bl g1 59 #[(.int .i64 0), (.int .u64 0), (.int .u64 0), (.int .i64 0)]]] w := hH
  refine pxV (v := (.bool false)) (fun _ _ hF => opAssign rfl rfl) rfl (fun _ _ => rfl) (kA rfl) (by decide) ?_
  refine pxEnd ?_
  refine qxThen ?_
  refine cxSeq ?_
  refine cxRegX mixedOrders (by kernel_rfl) ?_
  replace hH := hH.drew
  refine rxV 0 rfl (by kernel_rfl) rfl (fun _ _ => rfl) (fun _ _ hF => opMove rfl (hF.ev 2 rfl)) (kM [false, true, false, true, true] rfl rfl) (by decide) (v := (.int .i64 (((i) : Nat) : Int))) ?_
  refine rxV 1 rfl (by kernel_rfl) rfl (fun _ _ => rfl) (fun _ _ hF => opMove rfl (hF.ev 2 rfl)) (kA rfl) (by decide) (v := (.slice A n c)) ?_
  refine rxV 2 rfl (by kernel_rfl) rfl (fun _ _ => rfl) (fun _ _ hF => opCutLH (k := 8) (h := 16) (e := 5) (sz := 1) rfl (by kernel_rfl) (by kernel_rfl) (hF.ev 0 rfl) rfl rfl rfl rfl (by omega) (by omega)) (kM [false, true, true, true, true] rfl rfl) (by decide) (v := (.slice (cutA A c 8 1) (16 - 8) (c - 8))) ?_
  refine rxV 4 rfl (by kernel_rfl) rfl (fun _ _ => rfl) (fun _ _ hF => opMove rfl (hF.ev 3 rfl)) (kA rfl) (by decide) (v := (.slice A n c)) ?_
  refine rxV 5 rfl (by kernel_rfl) rfl (fun _ _ => rfl) (fun _ _ hF => opCutLH (k := 16) (h := 20) (e := 5) (sz := 1) rfl (by kernel_rfl) (by kernel_rfl) (hF.ev 0 rfl) rfl rfl rfl rfl (by omega) (by omega)) (kM [false, true, true, true, true, true] rfl rfl) (by decide) (v := (.slice (cutA A c 16 1) (20 - 16) (c - 16))) ?_
  refine rxV 7 rfl (by kernel_rfl) rfl (fun _ _ => rfl) (fun _ _ hF => opMove rfl (hF.ev 4 rfl)) (kA rfl) (by decide) (v := (.slice A n c)) ?_
  have hi2 : 20 < n := by omega
  obtain ⟨b3, off4, rfl, hL5, hb6, hR7⟩ := hR.blk (by decide) (Off.nil _ _) (by omega)
  have := hR.cap
  have hj10 : 20 < l.length := by first | exact hi2 | (simp only [List.length_drop, List.length_take]; omega) | omega
  obtain ⟨x8, hx9⟩ := get_at l 20 hj10
  have hb11 := UInt8.toNat_lt x8
  refine rxV 8 rfl (by kernel_rfl) rfl (fun _ _ => rfl) (fun _ _ hF => opIndex (i := 20) (e := 5) (sz := 1) rfl (by kernel_rfl) (by kernel_rfl) (hF.ev 0 rfl) rfl rfl hi2) (kM [false, true, true, true, true, true, true] rfl rfl) (by decide) (v := (.pointer (some ⟨b3, off4 + 20 * 1, none⟩))) ?_
  refine rxS (fun w => HoldsL cByte w b3 off4 l) 9 rfl (by kernel_rfl) rfl (fun _ _ => rfl) (hH.holdsL hL5 hb6 hR7) (fun _ _ hF hS => opLoadT (C := cByte) (y := x8) rfl (hF.ev 0 rfl) (by kernel_rfl) (hS 20 _ hx9) rfl) (kM [false, true, true, true, true, true, true] rfl rfl) (by decide) (v := (.int .u8 (((x8.toNat) : Nat) : Int))) ?_
  refine rxV 10 rfl (by kernel_rfl) rfl (fun _ _ => rfl) (fun _ _ hF => opConvI (k' := .i64) rfl (by kernel_rfl) (by kernel_rfl) (hF.ev 0 rfl) (wI rfl (by omega) (by omega))) (kM [false, true, true, true, true, true, true] rfl rfl) (by decide) (v := (.int .i64 (((x8.toNat) : Nat) : Int))) ?_
  refine rx2 3 12 (by kernel_rfl) ?_ ?_
  · refine moM rfl hH (fun _ hF => Does.small ((join_c (cutA (some ⟨b3, off4, none⟩) c 8 1) (c - 8) ((l.take 16).drop 8) (16 - 8) (by simp only [List.length_drop, List.length_take]; omega) (leb rfl)).does) (fun w => opCall rfl Try.func40 rfl rfl (Evs.cons (v := (.slice (cutA (some ⟨b3, off4, none⟩) c 8 1) (16 - 8) (c - 8))) (hF.ev 2 rfl) Evs.nil) w)) ((hH.vu hR (by decide) (Off.nil _ _)).cut (k := 8) (m := 16) (by omega) (by omega)) rfl (fun _ _ => rfl) (kM [true, true, false, true, true, true, true] rfl rfl) (by decide) (PendOk.keep (PendOk.nil _ [])) ?_
    clear hH
    rintro _ _ w ⟨rfl, rfl⟩ hH
    replace hH : HH w0 [] [[bl g1 59 #[(.int .i64 0), (.int .u64 0), (.int .u64 0), (.int .i64 0)]]] w := hH.unpad
    refine ⟨(by
      intro s hs
      simp only [List.mem_cons, List.not_mem_nil, or_false] at hs
      rcases hs with rfl
      · exact (hH.holdsL hL5 hb6 hR7)
      ), ?_⟩
    refine rx2 6 12 (by kernel_rfl) ?_ ?_
    · refine moM rfl hH (fun _ hF => Does.small ((join_c (cutA (some ⟨b3, off4, none⟩) c 16 1) (c - 16) ((l.take 20).drop 16) (20 - 16) (by simp only [List.length_drop, List.length_take]; omega) (leb rfl)).does) (fun w => opCall rfl Try.func40 rfl rfl (Evs.cons (v := (.slice (cutA (some ⟨b3, off4, none⟩) c 16 1) (20 - 16) (c - 16))) (hF.ev 2 rfl) Evs.nil) w)) ((hH.vu hR (by decide) (Off.nil _ _)).cut (k := 16) (m := 20) (by omega) (by omega)) rfl (fun _ _ => rfl) (kM [true, true, false, true, true, true, true] rfl rfl) (by decide) (PendOk.keep (PendOk.nil _ [])) ?_
      clear hH
      rintro _ _ w ⟨rfl, rfl⟩ hH
      replace hH : HH w0 [] [[bl g1 59 #[(.int .i64 0), (.int .u64 0), (.int .u64 0), (.int .i64 0)]]] w := hH.unpad
      refine ⟨(by
        intro s hs
        simp only [List.mem_cons, List.not_mem_nil, or_false] at hs
        rcases hs with rfl
        · exact (hH.holdsL hL5 hb6 hR7)
        ), ?_⟩
      refine rxV 11 rfl (by kernel_rfl) rfl (fun _ _ => rfl) (fun _ _ hF => opBuildP (cells := #[(.int .i64 (((i) : Nat) : Int)), (.int .u64 (((beN ((l.take 16).drop 8)) : Nat) : Int)), (.int .u64 (((beN ((l.take 20).drop 16)) : Nat) : Int)), (.int .i64 (((x8.toNat) : Nat) : Int))]) rfl (EvP.cons (v := (.int .i64 (((i) : Nat) : Int))) (hF.ev 3 rfl) (EvP.cons (v := (.int .u64 (((beN ((l.take 16).drop 8)) : Nat) : Int))) (hF.ev 1 rfl) (EvP.cons (v := (.int .u64 (((beN ((l.take 20).drop 16)) : Nat) : Int))) (hF.ev 0 rfl) (EvP.cons (v := (.int .i64 (((x8.toNat) : Nat) : Int))) (hF.ev 2 rfl) EvP.nil)))) rfl _) (kM [false, false, false, false, true, true, true] rfl rfl) (by decide) (v := (.agg #[(.int .i64 (((i) : Nat) : Int)), (.int .u64 (((beN ((l.take 16).drop 8)) : Nat) : Int)), (.int .u64 (((beN ((l.take 20).drop 16)) : Nat) : Int)), (.int .i64 (((x8.toNat) : Nat) : Int))])) ?_
      refine rx1 12 (by kernel_rfl) ?_
      refine moM rfl hH (fun _ hF => smAlloc (z := (.agg #[(.int .i64 0), (.int .u64 0), (.int .u64 0), (.int .i64 0)])) rfl (by kernel_rfl) rfl) trivial rfl (fun _ _ => rfl) (kA rfl) (by decide) (PendOk.keep (PendOk.nil _ [])) ?_
      clear hH
      rintro _ _ w ⟨g12, rfl, rfl⟩ hH
      replace hH : HH w0 [] [[bl g1 59 #[(.int .i64 0), (.int .u64 0), (.int .u64 0), (.int .i64 0)]], [bl g12 59 #[(.int .i64 0), (.int .u64 0), (.int .u64 0), (.int .i64 0)]]] w := hH
      refine ⟨(by
        intro s hs
        simp only [List.mem_cons, List.not_mem_nil, or_false] at hs
        rcases hs with rfl
        · exact (hH.holdsL hL5 hb6 hR7)
        ), ?_⟩
      refine rx1 13 (by kernel_rfl) ?_
      refine moE0 1 rfl hH rfl (fun _ hF => smStoreK (k := 4) rfl (hF.ev 0 rfl) (hF.ev 1 rfl) rfl (by kernel_rfl) (leb rfl) rfl rfl) trivial rfl (fun _ _ => rfl) (PendOk.go [] (by kernel_rfl) (PendOk.nil _ [])) ?_
      clear hH
      rintro _ _ w rfl hH
      replace hH : HH w0 [] [[bl g1 59 #[(.int .i64 0), (.int .u64 0), (.int .u64 0), (.int .i64 0)]], [bl g12 59 #[(.int .i64 (((i) : Nat) : Int)), (.int .u64 (((beN ((l.take 16).drop 8)) : Nat) : Int)), (.int .u64 (((beN ((l.take 20).drop 16)) : Nat) : Int)), (.int .i64 (((x8.toNat) : Nat) : Int))]]] w := hH
      refine ⟨(fun _ hs => by cases hs), ?_⟩
      refine rxEnd (by kernel_rfl) ?_
      refine qxThen ?_
      refine cxSeq ?_
      have hN := numB_lt l; have hZ := sizB_lt l; have hA0 := numB_def l; have hA1 := sizB_def l; have hA2 := arB_def hx9
      refine cxRegX mixedOrders (by kernel_rfl) ?_
      replace hH := hH.drew
      refine rxS (fun w => w.heap[g12]? = some (.cells #[(.int .i64 (((i) : Nat) : Int)), (.int .u64 (((beN ((l.take 16).drop 8)) : Nat) : Int)), (.int .u64 (((beN ((l.take 20).drop 16)) : Nat) : Int)), (.int .i64 (((x8.toNat) : Nat) : Int))] 59 (0, 0))) 0 rfl (by kernel_rfl) rfl (fun _ _ => rfl) (hH.blk 1 rfl) (fun _ _ hF hS => opLoadKR (k := 4) hS rfl (hF.ev 0 rfl) (by kernel_rfl) rfl (by kernel_rfl) rfl) (kM [true, false, true, true, true] rfl rfl) (by decide) (v := (.agg #[(.int .i64 (((i) : Nat) : Int)), (.int .u64 (((beN ((l.take 16).drop 8)) : Nat) : Int)), (.int .u64 (((beN ((l.take 20).drop 16)) : Nat) : Int)), (.int .i64 (((x8.toNat) : Nat) : Int))])) ?_
      refine rxV 1 rfl (by kernel_rfl) rfl (fun _ _ => rfl) (fun _ _ hF => opField (off := 1) rfl (hF.ev 1 rfl) (by kernel_rfl)) (kA rfl) (by decide) (v := (.pointer (some ⟨g12, 1, none⟩))) ?_
      refine rxS (fun w => w.heap[g12]? = some (.cells #[(.int .i64 (((i) : Nat) : Int)), (.int .u64 (((beN ((l.take 16).drop 8)) : Nat) : Int)), (.int .u64 (((beN ((l.take 20).drop 16)) : Nat) : Int)), (.int .i64 (((x8.toNat) : Nat) : Int))] 59 (0, 0))) 2 rfl (by kernel_rfl) rfl (fun _ _ => rfl) (hH.blk 1 rfl) (fun _ _ hF hS => opLoadK hS rfl (hF.ev 0 rfl) (by kernel_rfl) rfl) (kM [false, true, true, true, true, true] rfl rfl) (by decide) (v := (.int .u64 (((beN ((l.take 16).drop 8)) : Nat) : Int))) ?_
      refine rxV 3 rfl (by kernel_rfl) rfl (fun _ _ => rfl) (fun _ _ hF => opGtr rfl (hF.ev 0 rfl) rfl (dc (by omega))) (kM [false, true, true, true, true, true] rfl rfl) (by decide) (v := (.bool (decide (beN ((l.take 16).drop 8) > 0)))) ?_
      refine rxV 4 rfl (by kernel_rfl) rfl (fun _ _ => rfl) (fun _ _ hF => opMove rfl (hF.ev 0 rfl)) (kM [false, true, true, true, true, true] rfl rfl) (by decide) (v := (.bool (decide (beN ((l.take 16).drop 8) > 0)))) ?_
      refine rxSplitP 0 rfl (l1 := [(25, (.bool true)), (21, (.agg #[(.int .i64 (((i) : Nat) : Int)), (.int .u64 (((beN ((l.take 16).drop 8)) : Nat) : Int)), (.int .u64 (((beN ((l.take 20).drop 16)) : Nat) : Int)), (.int .i64 (((x8.toNat) : Nat) : Int))])), (8, (.pointer (some ⟨g12, 0, none⟩))), (6, (.pointer (some ⟨g1, 0, none⟩))), (1, (.slice (some ⟨b3, off4, none⟩) n c)), (2, (.int .u64 (((room) : Nat) : Int)))]) (l2 := [(25, (.bool false)), (21, (.agg #[(.int .i64 (((i) : Nat) : Int)), (.int .u64 (((beN ((l.take 16).drop 8)) : Nat) : Int)), (.int .u64 (((beN ((l.take 20).drop 16)) : Nat) : Int)), (.int .i64 (((x8.toNat) : Nat) : Int))])), (8, (.pointer (some ⟨g12, 0, none⟩))), (6, (.pointer (some ⟨g1, 0, none⟩))), (1, (.slice (some ⟨b3, off4, none⟩) n c)), (2, (.int .u64 (((room) : Nat) : Int)))]) rfl rfl (fun hg13 => ?_) (fun hg13 => ?_)
      · refine rxV 5 rfl (by kernel_rfl) rfl (gOn 0 rfl rfl rfl (by decide)) (fun _ _ hF => opField (off := 2) rfl (hF.ev 2 rfl) (by kernel_rfl)) (kA rfl) (by decide) (v := (.pointer (some ⟨g12, 2, none⟩))) ?_
        refine rxS (fun w => w.heap[g12]? = some (.cells #[(.int .i64 (((i) : Nat) : Int)), (.int .u64 (((beN ((l.take 16).drop 8)) : Nat) : Int)), (.int .u64 (((beN ((l.take 20).drop 16)) : Nat) : Int)), (.int .i64 (((x8.toNat) : Nat) : Int))] 59 (0, 0))) 6 rfl (by kernel_rfl) rfl (gOn 1 rfl rfl rfl (by decide)) (hH.blk 1 rfl) (fun _ _ hF hS => opLoadK hS rfl (hF.ev 0 rfl) (by kernel_rfl) rfl) (kM [false, true, true, true, true, true, true] rfl rfl) (by decide) (v := (.int .u64 (((beN ((l.take 20).drop 16)) : Nat) : Int))) ?_
        refine rxV 7 rfl (by kernel_rfl) rfl (gOn 1 rfl rfl rfl (by decide)) (fun _ _ hF => opMove rfl (hF.ev 6 rfl)) (kM [true, true, true, true, true, true, false] rfl rfl) (by decide) (v := (.int .u64 (((room) : Nat) : Int))) ?_
        refine rxV 8 rfl (by kernel_rfl) rfl (gOn 2 rfl rfl rfl (by decide)) (fun _ _ hF => opLeq rfl (hF.ev 1 rfl) (hF.ev 0 rfl) (dc (by omega))) (kM [false, false, true, true, true, true, true] rfl rfl) (by decide) (v := (.bool (decide (beN ((l.take 20).drop 16) ≤ room)))) ?_
        refine rxV 9 rfl (by kernel_rfl) rfl (fun _ _ => rfl) (fun _ _ hF => opPickT rfl (hF.ev 1 rfl) (hF.ev 0 rfl)) (kM [false, false, true, true, true, true] rfl rfl) (by decide) (v := (.bool (decide (beN ((l.take 20).drop 16) ≤ room)))) ?_
        refine rxV 10 rfl (by kernel_rfl) rfl (fun _ _ => rfl) (fun _ _ hF => opMove rfl (hF.ev 0 rfl)) (kM [false, true, true, true, true] rfl rfl) (by decide) (v := (.bool (decide (beN ((l.take 20).drop 16) ≤ room)))) ?_
        refine rxSplitP 0 rfl (l1 := [(31, (.bool true)), (21, (.agg #[(.int .i64 (((i) : Nat) : Int)), (.int .u64 (((beN ((l.take 16).drop 8)) : Nat) : Int)), (.int .u64 (((beN ((l.take 20).drop 16)) : Nat) : Int)), (.int .i64 (((x8.toNat) : Nat) : Int))])), (8, (.pointer (some ⟨g12, 0, none⟩))), (6, (.pointer (some ⟨g1, 0, none⟩))), (1, (.slice (some ⟨b3, off4, none⟩) n c))]) (l2 := [(31, (.bool false)), (21, (.agg #[(.int .i64 (((i) : Nat) : Int)), (.int .u64 (((beN ((l.take 16).drop 8)) : Nat) : Int)), (.int .u64 (((beN ((l.take 20).drop 16)) : Nat) : Int)), (.int .i64 (((x8.toNat) : Nat) : Int))])), (8, (.pointer (some ⟨g12, 0, none⟩))), (6, (.pointer (some ⟨g1, 0, none⟩))), (1, (.slice (some ⟨b3, off4, none⟩) n c))]) rfl rfl (fun hg14 => ?_) (fun hg14 => ?_)
        · refine rxV 11 rfl (by kernel_rfl) rfl (gOn 0 rfl rfl rfl (by decide)) (fun _ _ hF => opField (off := 3) rfl (hF.ev 2 rfl) (by kernel_rfl)) (kA rfl) (by decide) (v := (.pointer (some ⟨g12, 3, none⟩))) ?_
          refine rxS (fun w => w.heap[g12]? = some (.cells #[(.int .i64 (((i) : Nat) : Int)), (.int .u64 (((beN ((l.take 16).drop 8)) : Nat) : Int)), (.int .u64 (((beN ((l.take 20).drop 16)) : Nat) : Int)), (.int .i64 (((x8.toNat) : Nat) : Int))] 59 (0, 0))) 12 rfl (by kernel_rfl) rfl (gOn 1 rfl rfl rfl (by decide)) (hH.blk 1 rfl) (fun _ _ hF hS => opLoadK hS rfl (hF.ev 0 rfl) (by kernel_rfl) rfl) (kM [false, true, true, true, true, true] rfl rfl) (by decide) (v := (.int .i64 (((x8.toNat) : Nat) : Int))) ?_
          refine rxV 13 rfl (by kernel_rfl) rfl (gOn 1 rfl rfl rfl (by decide)) (fun _ _ hF => opLss rfl (hF.ev 0 rfl) rfl (dc (by omega))) (kM [false, true, true, true, true, true] rfl rfl) (by decide) (v := (.bool (decide (x8.toNat < 2)))) ?_
          refine rxV 14 rfl (by kernel_rfl) rfl (fun _ _ => rfl) (fun _ _ hF => opPickT rfl (hF.ev 1 rfl) (hF.ev 0 rfl)) (kM [false, false, true, true, true, true] rfl rfl) (by decide) (v := (.bool (decide (x8.toNat < 2)))) ?_
          refine rxV 15 rfl (by kernel_rfl) rfl (fun _ _ => rfl) (fun _ _ hF => opMove rfl (hF.ev 0 rfl)) (kM [false, true, true, true, true] rfl rfl) (by decide) (v := (.bool (decide (x8.toNat < 2)))) ?_
          refine rxSplitP 0 rfl (l1 := [(36, (.bool true)), (21, (.agg #[(.int .i64 (((i) : Nat) : Int)), (.int .u64 (((beN ((l.take 16).drop 8)) : Nat) : Int)), (.int .u64 (((beN ((l.take 20).drop 16)) : Nat) : Int)), (.int .i64 (((x8.toNat) : Nat) : Int))])), (8, (.pointer (some ⟨g12, 0, none⟩))), (6, (.pointer (some ⟨g1, 0, none⟩))), (1, (.slice (some ⟨b3, off4, none⟩) n c))]) (l2 := [(36, (.bool false)), (21, (.agg #[(.int .i64 (((i) : Nat) : Int)), (.int .u64 (((beN ((l.take 16).drop 8)) : Nat) : Int)), (.int .u64 (((beN ((l.take 20).drop 16)) : Nat) : Int)), (.int .i64 (((x8.toNat) : Nat) : Int))])), (8, (.pointer (some ⟨g12, 0, none⟩))), (6, (.pointer (some ⟨g1, 0, none⟩))), (1, (.slice (some ⟨b3, off4, none⟩) n c))]) rfl rfl (fun hg15 => ?_) (fun hg15 => ?_)
          · refine rxV 16 rfl (by kernel_rfl) rfl (gOn 0 rfl rfl rfl (by decide)) (fun _ _ hF => opMove rfl (hF.ev 4 rfl)) (kM [true, true, true, true, false] rfl rfl) (by decide) (v := (.slice (some ⟨b3, off4, none⟩) n c)) ?_
            refine rxS (fun w => w.heap[g12]? = some (.cells #[(.int .i64 (((i) : Nat) : Int)), (.int .u64 (((beN ((l.take 16).drop 8)) : Nat) : Int)), (.int .u64 (((beN ((l.take 20).drop 16)) : Nat) : Int)), (.int .i64 (((x8.toNat) : Nat) : Int))] 59 (0, 0))) 17 rfl (by kernel_rfl) rfl (gOn 1 rfl rfl rfl (by decide)) (hH.blk 1 rfl) (fun _ _ hF hS => opLoadKR (k := 4) hS rfl (hF.ev 3 rfl) (by kernel_rfl) rfl (by kernel_rfl) rfl) (kM [true, true, true, false, true] rfl rfl) (by decide) (v := (.agg #[(.int .i64 (((i) : Nat) : Int)), (.int .u64 (((beN ((l.take 16).drop 8)) : Nat) : Int)), (.int .u64 (((beN ((l.take 20).drop 16)) : Nat) : Int)), (.int .i64 (((x8.toNat) : Nat) : Int))])) ?_
            refine rx1 18 (by kernel_rfl) ?_
            refine moM rfl hH (fun _ hF => Does.small (text_c (((i) : Nat) : Int) (beN ((l.take 16).drop 8)) (beN ((l.take 20).drop 16)) x8.toNat) (fun w => opCall rfl Try.func39 rfl rfl (Evs.cons (v := (.agg #[(.int .i64 (((i) : Nat) : Int)), (.int .u64 (((beN ((l.take 16).drop 8)) : Nat) : Int)), (.int .u64 (((beN ((l.take 20).drop 16)) : Nat) : Int)), (.int .i64 (((x8.toNat) : Nat) : Int))])) (hF.ev 0 rfl) Evs.nil) w)) trivial rfl (gOn 2 rfl rfl rfl (by decide)) (kM [false, true, true, true, true] rfl rfl) (by decide) (PendOk.go [] (by kernel_rfl) (PendOk.go [15, 14, 13] (by kernel_rfl) (PendOk.go [15, 10, 9, 8] (by kernel_rfl) (PendOk.go [15, 10, 4, 3] (by kernel_rfl) (PendOk.keep (PendOk.nil _ [])))))) ?_
            clear hH
            rintro v20 E16 w hO17 hH
            replace hH : HH w0 [] [[bl g1 59 #[(.int .i64 0), (.int .u64 0), (.int .u64 0), (.int .i64 0)]], [bl g12 59 #[(.int .i64 (((i) : Nat) : Int)), (.int .u64 (((beN ((l.take 16).drop 8)) : Nat) : Int)), (.int .u64 (((beN ((l.take 20).drop 16)) : Nat) : Int)), (.int .i64 (((x8.toNat) : Nat) : Int))]], E16] w := hH
            obtain ⟨A18, c19, rfl⟩ := hO17.slice
            refine ⟨(by
              intro s hs
              simp only [List.mem_cons, List.not_mem_nil, or_false] at hs
              rcases hs with rfl
              · exact (hH.blk 1 rfl)
              ), ?_⟩
            refine rx1 19 (by kernel_rfl) ?_
            refine moM rfl hH (fun _ hF => Does.small ((equal_c (some ⟨b3, off4, none⟩) A18 n c ((hdL (beN ((l.take 16).drop 8)) (beN ((l.take 20).drop 16)) x8.toNat).length) c19 l (hdL (beN ((l.take 16).drop 8)) (beN ((l.take 20).drop 16)) x8.toNat)).does) (fun w => opCall rfl Try.func41 rfl rfl (Evs.cons (v := (.slice (some ⟨b3, off4, none⟩) n c)) (hF.ev 1 rfl) (Evs.cons (v := (.slice A18 ((hdL (beN ((l.take 16).drop 8)) (beN ((l.take 20).drop 16)) x8.toNat).length) c19)) (hF.ev 0 rfl) Evs.nil)) w)) ⟨(hH.vu hR (by decide) (Off.nil _ _)), (hO17.vuAt (hH.has 2 rfl))⟩ rfl (gOn 2 rfl rfl rfl (by decide)) (kM [false, false, true, true, true] rfl rfl) (by decide) (PendOk.keep (PendOk.nil _ [])) ?_
            clear hH
            rintro _ _ w ⟨rfl, rfl⟩ hH
            replace hH : HH w0 [] [[bl g1 59 #[(.int .i64 0), (.int .u64 0), (.int .u64 0), (.int .i64 0)]], [bl g12 59 #[(.int .i64 (((i) : Nat) : Int)), (.int .u64 (((beN ((l.take 16).drop 8)) : Nat) : Int)), (.int .u64 (((beN ((l.take 20).drop 16)) : Nat) : Int)), (.int .i64 (((x8.toNat) : Nat) : Int))]], E16] w := hH.unpad
            refine ⟨(by
              intro s hs
              simp only [List.mem_cons, List.not_mem_nil, or_false] at hs
              rcases hs with rfl
              · exact (hH.blk 1 rfl)
              ), ?_⟩
            refine rxV 20 rfl (by kernel_rfl) rfl (fun _ _ => rfl) (fun _ _ hF => opPickT rfl (hF.ev 1 rfl) (hF.ev 0 rfl)) (kM [false, false, true, true] rfl rfl) (by decide) (v := (.bool (decide (l = (hdL (beN ((l.take 16).drop 8)) (beN ((l.take 20).drop 16)) x8.toNat))))) ?_
            refine rx1 21 (by kernel_rfl) ?_
            refine moE0 0 rfl hH rfl (fun _ hF => smStoreK (k := 4) rfl (hF.ev 2 rfl) (hF.ev 1 rfl) rfl (by kernel_rfl) (leb rfl) rfl rfl) trivial rfl (fun _ _ => rfl) (PendOk.go [] (by kernel_rfl) (PendOk.nil _ [])) ?_
            clear hH
            rintro _ _ w rfl hH
            replace hH : HH w0 [] [[bl g1 59 #[(.int .i64 (((i) : Nat) : Int)), (.int .u64 (((beN ((l.take 16).drop 8)) : Nat) : Int)), (.int .u64 (((beN ((l.take 20).drop 16)) : Nat) : Int)), (.int .i64 (((x8.toNat) : Nat) : Int))]], [bl g12 59 #[(.int .i64 (((i) : Nat) : Int)), (.int .u64 (((beN ((l.take 16).drop 8)) : Nat) : Int)), (.int .u64 (((beN ((l.take 20).drop 16)) : Nat) : Int)), (.int .i64 (((x8.toNat) : Nat) : Int))]], E16] w := hH
            refine ⟨(fun _ hs => by cases hs), ?_⟩
            refine rxV 22 rfl (by kernel_rfl) rfl (fun _ _ => rfl) (fun _ _ hF => opAssign rfl (hF.ev 0 rfl)) (kM [false, false, true] rfl rfl) (by decide) (v := (.bool (decide (l = (hdL (beN ((l.take 16).drop 8)) (beN ((l.take 20).drop 16)) x8.toNat))))) ?_
            refine rxEnd (by kernel_rfl) ?_
            refine qxThen ?_
            refine cxRet ?_
            refine qxRetCT 1 0 (hH.blk 0 rfl) rfl rfl rfl (by kernel_rfl) rfl (by kernel_rfl) ?_
            have e1 := numB_def l; have e2 := sizB_def l; have e3 : arB l = _ := arB_def hx9
            have he : okB room l ↔ l = hdL (beN ((l.take 16).drop 8)) (beN ((l.take 20).drop 16)) x8.toNat := by
              unfold okB; rw [e1, e2, e3]; constructor
              · intro k; exact k.2.2.2
              · intro k; exact ⟨by omega, by omega, by omega, k⟩
            exact ⟨by rw [← dc he]; unfold hdV; rw [e1, e2, e3], HH.toBelow hH⟩
          · refine rxU 16 rfl (by kernel_rfl) rfl (gOff 0 rfl rfl rfl (by decide)) (kM [true, true, true, true, false] rfl rfl) (by decide) ?_
            refine rxU 17 rfl (by kernel_rfl) rfl (gOff 0 rfl rfl rfl (by decide)) (kM [true, true, false, true] rfl rfl) (by decide) ?_
            refine rxU 18 rfl (by kernel_rfl) rfl (gOff 0 rfl rfl rfl (by decide)) (kA rfl) (by decide) ?_
            refine rxU 19 rfl (by kernel_rfl) rfl (gOff 0 rfl rfl rfl (by decide)) (kA rfl) (by decide) ?_
            refine rxV 20 rfl (by kernel_rfl) rfl (fun _ _ => rfl) (fun _ _ hF => opPickF rfl (hF.ev 0 rfl) rfl) (kM [false, true, true] rfl rfl) (by decide) (v := (.bool false)) ?_
            refine rx1 21 (by kernel_rfl) ?_
            refine moE0 0 rfl hH rfl (fun _ hF => smStoreK (k := 4) rfl (hF.ev 2 rfl) (hF.ev 1 rfl) rfl (by kernel_rfl) (leb rfl) rfl rfl) trivial rfl (fun _ _ => rfl) (PendOk.go [] (by kernel_rfl) (PendOk.go [19] (by kernel_rfl) (PendOk.go [19, 18] (by kernel_rfl) (PendOk.go [19] (by kernel_rfl) (PendOk.go [19, 15, 14, 13] (by kernel_rfl) (PendOk.go [19, 15, 10, 9, 8] (by kernel_rfl) (PendOk.go [19, 15, 10, 4, 3] (by kernel_rfl) (PendOk.go [] (by kernel_rfl) (PendOk.nil _ []))))))))) ?_
            clear hH
            rintro _ _ w rfl hH
            replace hH : HH w0 [] [[bl g1 59 #[(.int .i64 (((i) : Nat) : Int)), (.int .u64 (((beN ((l.take 16).drop 8)) : Nat) : Int)), (.int .u64 (((beN ((l.take 20).drop 16)) : Nat) : Int)), (.int .i64 (((x8.toNat) : Nat) : Int))]], [bl g12 59 #[(.int .i64 (((i) : Nat) : Int)), (.int .u64 (((beN ((l.take 16).drop 8)) : Nat) : Int)), (.int .u64 (((beN ((l.take 20).drop 16)) : Nat) : Int)), (.int .i64 (((x8.toNat) : Nat) : Int))]]] w := hH
            refine ⟨(fun _ hs => by cases hs), ?_⟩
            refine rxV 22 rfl (by kernel_rfl) rfl (fun _ _ => rfl) (fun _ _ hF => opAssign rfl (hF.ev 0 rfl)) (kM [false, false, true] rfl rfl) (by decide) (v := (.bool false)) ?_
            refine rxEnd (by kernel_rfl) ?_
            refine qxThen ?_
            refine cxRet ?_
            refine qxRetCT 1 0 (hH.blk 0 rfl) rfl rfl rfl (by kernel_rfl) rfl (by kernel_rfl) ?_
            have e1 := numB_def l; have e2 := sizB_def l; have e3 : arB l = _ := arB_def hx9
            have he : ¬ okB room l := fun ⟨k1, k2, k3, k4⟩ => by rw [e1] at k1; rw [e2] at k2; rw [e3] at k3; omega
            exact ⟨by rw [decide_eq_false he]; unfold hdV; rw [e1, e2, e3], HH.toBelow hH⟩
        · refine rxU 11 rfl (by kernel_rfl) rfl (gOff 0 rfl rfl rfl (by decide)) (kA rfl) (by decide) ?_
          refine rxU 12 rfl (by kernel_rfl) rfl (gOff 0 rfl rfl rfl (by decide)) (kA rfl) (by decide) ?_
          refine rxU 13 rfl (by kernel_rfl) rfl (gOff 0 rfl rfl rfl (by decide)) (kA rfl) (by decide) ?_
          refine rxV 14 rfl (by kernel_rfl) rfl (fun _ _ => rfl) (fun _ _ hF => opPickF rfl (hF.ev 0 rfl) rfl) (kM [false, true, true, true, true] rfl rfl) (by decide) (v := (.bool false)) ?_
          refine rxV 15 rfl (by kernel_rfl) rfl (fun _ _ => rfl) (fun _ _ hF => opMove rfl (hF.ev 0 rfl)) (kM [false, true, true, true, true] rfl rfl) (by decide) (v := (.bool false)) ?_
          refine rxU 16 rfl (by kernel_rfl) rfl (gOff 0 rfl rfl rfl (by decide)) (kM [true, true, true, true, false] rfl rfl) (by decide) ?_
          refine rxU 17 rfl (by kernel_rfl) rfl (gOff 0 rfl rfl rfl (by decide)) (kM [true, true, false, true] rfl rfl) (by decide) ?_
          refine rxU 18 rfl (by kernel_rfl) rfl (gOff 0 rfl rfl rfl (by decide)) (kA rfl) (by decide) ?_
          refine rxU 19 rfl (by kernel_rfl) rfl (gOff 0 rfl rfl rfl (by decide)) (kA rfl) (by decide) ?_
          refine rxV 20 rfl (by kernel_rfl) rfl (fun _ _ => rfl) (fun _ _ hF => opPickF rfl (hF.ev 0 rfl) rfl) (kM [false, true, true] rfl rfl) (by decide) (v := (.bool false)) ?_
          refine rx1 21 (by kernel_rfl) ?_
          refine moE0 0 rfl hH rfl (fun _ hF => smStoreK (k := 4) rfl (hF.ev 2 rfl) (hF.ev 1 rfl) rfl (by kernel_rfl) (leb rfl) rfl rfl) trivial rfl (fun _ _ => rfl) (PendOk.go [] (by kernel_rfl) (PendOk.go [19] (by kernel_rfl) (PendOk.go [19, 18] (by kernel_rfl) (PendOk.go [19] (by kernel_rfl) (PendOk.go [19, 15, 14] (by kernel_rfl) (PendOk.go [19, 15, 14, 13] (by kernel_rfl) (PendOk.go [19, 15, 14, 13, 12] (by kernel_rfl) (PendOk.go [19, 15, 10, 9, 8] (by kernel_rfl) (PendOk.go [19, 15, 10, 4, 3] (by kernel_rfl) (PendOk.go [] (by kernel_rfl) (PendOk.nil _ []))))))))))) ?_
          clear hH
          rintro _ _ w rfl hH
          replace hH : HH w0 [] [[bl g1 59 #[(.int .i64 (((i) : Nat) : Int)), (.int .u64 (((beN ((l.take 16).drop 8)) : Nat) : Int)), (.int .u64 (((beN ((l.take 20).drop 16)) : Nat) : Int)), (.int .i64 (((x8.toNat) : Nat) : Int))]], [bl g12 59 #[(.int .i64 (((i) : Nat) : Int)), (.int .u64 (((beN ((l.take 16).drop 8)) : Nat) : Int)), (.int .u64 (((beN ((l.take 20).drop 16)) : Nat) : Int)), (.int .i64 (((x8.toNat) : Nat) : Int))]]] w := hH
          refine ⟨(fun _ hs => by cases hs), ?_⟩
          refine rxV 22 rfl (by kernel_rfl) rfl (fun _ _ => rfl) (fun _ _ hF => opAssign rfl (hF.ev 0 rfl)) (kM [false, false, true] rfl rfl) (by decide) (v := (.bool false)) ?_
          refine rxEnd (by kernel_rfl) ?_
          refine qxThen ?_
          refine cxRet ?_
          refine qxRetCT 1 0 (hH.blk 0 rfl) rfl rfl rfl (by kernel_rfl) rfl (by kernel_rfl) ?_
          have e1 := numB_def l; have e2 := sizB_def l; have e3 : arB l = _ := arB_def hx9
          have he : ¬ okB room l := fun ⟨k1, k2, k3, k4⟩ => by rw [e1] at k1; rw [e2] at k2; rw [e3] at k3; omega
          exact ⟨by rw [decide_eq_false he]; unfold hdV; rw [e1, e2, e3], HH.toBelow hH⟩
      · refine rxU 5 rfl (by kernel_rfl) rfl (gOff 0 rfl rfl rfl (by decide)) (kA rfl) (by decide) ?_
        refine rxU 6 rfl (by kernel_rfl) rfl (gOff 0 rfl rfl rfl (by decide)) (kA rfl) (by decide) ?_
        refine rxU 7 rfl (by kernel_rfl) rfl (gOff 0 rfl rfl rfl (by decide)) (kM [true, true, true, true, true, false] rfl rfl) (by decide) ?_
        refine rxU 8 rfl (by kernel_rfl) rfl (gOff 0 rfl rfl rfl (by decide)) (kA rfl) (by decide) ?_
        refine rxV 9 rfl (by kernel_rfl) rfl (fun _ _ => rfl) (fun _ _ hF => opPickF rfl (hF.ev 0 rfl) rfl) (kM [false, true, true, true, true] rfl rfl) (by decide) (v := (.bool false)) ?_
        refine rxV 10 rfl (by kernel_rfl) rfl (fun _ _ => rfl) (fun _ _ hF => opMove rfl (hF.ev 0 rfl)) (kM [false, true, true, true, true] rfl rfl) (by decide) (v := (.bool false)) ?_
        refine rxU 11 rfl (by kernel_rfl) rfl (gOff 0 rfl rfl rfl (by decide)) (kA rfl) (by decide) ?_
        refine rxU 12 rfl (by kernel_rfl) rfl (gOff 0 rfl rfl rfl (by decide)) (kA rfl) (by decide) ?_
        refine rxU 13 rfl (by kernel_rfl) rfl (gOff 0 rfl rfl rfl (by decide)) (kA rfl) (by decide) ?_
        refine rxV 14 rfl (by kernel_rfl) rfl (fun _ _ => rfl) (fun _ _ hF => opPickF rfl (hF.ev 0 rfl) rfl) (kM [false, true, true, true, true] rfl rfl) (by decide) (v := (.bool false)) ?_
        refine rxV 15 rfl (by kernel_rfl) rfl (fun _ _ => rfl) (fun _ _ hF => opMove rfl (hF.ev 0 rfl)) (kM [false, true, true, true, true] rfl rfl) (by decide) (v := (.bool false)) ?_
        refine rxU 16 rfl (by kernel_rfl) rfl (gOff 0 rfl rfl rfl (by decide)) (kM [true, true, true, true, false] rfl rfl) (by decide) ?_
        refine rxU 17 rfl (by kernel_rfl) rfl (gOff 0 rfl rfl rfl (by decide)) (kM [true, true, false, true] rfl rfl) (by decide) ?_
        refine rxU 18 rfl (by kernel_rfl) rfl (gOff 0 rfl rfl rfl (by decide)) (kA rfl) (by decide) ?_
        refine rxU 19 rfl (by kernel_rfl) rfl (gOff 0 rfl rfl rfl (by decide)) (kA rfl) (by decide) ?_
        refine rxV 20 rfl (by kernel_rfl) rfl (fun _ _ => rfl) (fun _ _ hF => opPickF rfl (hF.ev 0 rfl) rfl) (kM [false, true, true] rfl rfl) (by decide) (v := (.bool false)) ?_
        refine rx1 21 (by kernel_rfl) ?_
        refine moE0 0 rfl hH rfl (fun _ hF => smStoreK (k := 4) rfl (hF.ev 2 rfl) (hF.ev 1 rfl) rfl (by kernel_rfl) (leb rfl) rfl rfl) trivial rfl (fun _ _ => rfl) (PendOk.go [] (by kernel_rfl) (PendOk.go [19] (by kernel_rfl) (PendOk.go [19, 18] (by kernel_rfl) (PendOk.go [19] (by kernel_rfl) (PendOk.go [19, 15, 14] (by kernel_rfl) (PendOk.go [19, 15, 14, 13] (by kernel_rfl) (PendOk.go [19, 15, 14, 13, 12] (by kernel_rfl) (PendOk.go [19, 15, 10, 9] (by kernel_rfl) (PendOk.go [19, 15, 10, 9, 8] (by kernel_rfl) (PendOk.go [19, 15, 10, 9, 8] (by kernel_rfl) (PendOk.go [19, 15, 10, 9, 8, 6] (by kernel_rfl) (PendOk.go [19, 15, 10, 4, 3] (by kernel_rfl) (PendOk.go [] (by kernel_rfl) (PendOk.nil _ [])))))))))))))) ?_
        clear hH
        rintro _ _ w rfl hH
        replace hH : HH w0 [] [[bl g1 59 #[(.int .i64 (((i) : Nat) : Int)), (.int .u64 (((beN ((l.take 16).drop 8)) : Nat) : Int)), (.int .u64 (((beN ((l.take 20).drop 16)) : Nat) : Int)), (.int .i64 (((x8.toNat) : Nat) : Int))]], [bl g12 59 #[(.int .i64 (((i) : Nat) : Int)), (.int .u64 (((beN ((l.take 16).drop 8)) : Nat) : Int)), (.int .u64 (((beN ((l.take 20).drop 16)) : Nat) : Int)), (.int .i64 (((x8.toNat) : Nat) : Int))]]] w := hH
        refine ⟨(fun _ hs => by cases hs), ?_⟩
        refine rxV 22 rfl (by kernel_rfl) rfl (fun _ _ => rfl) (fun _ _ hF => opAssign rfl (hF.ev 0 rfl)) (kM [false, false, true] rfl rfl) (by decide) (v := (.bool false)) ?_
        refine rxEnd (by kernel_rfl) ?_
        refine qxThen ?_
        refine cxRet ?_
        refine qxRetCT 1 0 (hH.blk 0 rfl) rfl rfl rfl (by kernel_rfl) rfl (by kernel_rfl) ?_
        have e1 := numB_def l; have e2 := sizB_def l; have e3 : arB l = _ := arB_def hx9
        have he : ¬ okB room l := fun ⟨k1, k2, k3, k4⟩ => by rw [e1] at k1; rw [e2] at k2; rw [e3] at k3; omega
        exact ⟨by rw [decide_eq_false he]; unfold hdV; rw [e1, e2, e3], HH.toBelow hH⟩
    · refine moM rfl hH (fun _ hF => smAlloc (z := (.agg #[(.int .i64 0), (.int .u64 0), (.int .u64 0), (.int .i64 0)])) rfl (by kernel_rfl) rfl) trivial rfl (fun _ _ => rfl) (kA rfl) (by decide) (PendOk.keep (PendOk.nil _ [])) ?_
      clear hH
      rintro _ _ w ⟨g22, rfl, rfl⟩ hH
      replace hH : HH w0 [] [[bl g1 59 #[(.int .i64 0), (.int .u64 0), (.int .u64 0), (.int .i64 0)]], [bl g22 59 #[(.int .i64 0), (.int .u64 0), (.int .u64 0), (.int .i64 0)]]] w := hH
      refine ⟨(by
        intro s hs
        simp only [List.mem_cons, List.not_mem_nil, or_false] at hs
        rcases hs with rfl
        · exact (hH.holdsL hL5 hb6 hR7)
        ), ?_⟩
      refine rx1 6 (by kernel_rfl) ?_
      refine moM rfl hH (fun _ hF => Does.small ((join_c (cutA (some ⟨b3, off4, none⟩) c 16 1) (c - 16) ((l.take 20).drop 16) (20 - 16) (by simp only [List.length_drop, List.length_take]; omega) (leb rfl)).does) (fun w => opCall rfl Try.func40 rfl rfl (Evs.cons (v := (.slice (cutA (some ⟨b3, off4, none⟩) c 16 1) (20 - 16) (c - 16))) (hF.ev 3 rfl) Evs.nil) w)) ((hH.vu hR (by decide) (Off.nil _ _)).cut (k := 16) (m := 20) (by omega) (by omega)) rfl (fun _ _ => rfl) (kM [true, true, true, false, true, true, true, true] rfl rfl) (by decide) (PendOk.keep (PendOk.nil _ [])) ?_
      clear hH
      rintro _ _ w ⟨rfl, rfl⟩ hH
      replace hH : HH w0 [] [[bl g1 59 #[(.int .i64 0), (.int .u64 0), (.int .u64 0), (.int .i64 0)]], [bl g22 59 #[(.int .i64 0), (.int .u64 0), (.int .u64 0), (.int .i64 0)]]] w := hH.unpad
      refine ⟨(by
        intro s hs
        simp only [List.mem_cons, List.not_mem_nil, or_false] at hs
        rcases hs with rfl
        · exact (hH.holdsL hL5 hb6 hR7)
        ), ?_⟩
      refine rxV 11 rfl (by kernel_rfl) rfl (fun _ _ => rfl) (fun _ _ hF => opBuildP (cells := #[(.int .i64 (((i) : Nat) : Int)), (.int .u64 (((beN ((l.take 16).drop 8)) : Nat) : Int)), (.int .u64 (((beN ((l.take 20).drop 16)) : Nat) : Int)), (.int .i64 (((x8.toNat) : Nat) : Int))]) rfl (EvP.cons (v := (.int .i64 (((i) : Nat) : Int))) (hF.ev 4 rfl) (EvP.cons (v := (.int .u64 (((beN ((l.take 16).drop 8)) : Nat) : Int))) (hF.ev 2 rfl) (EvP.cons (v := (.int .u64 (((beN ((l.take 20).drop 16)) : Nat) : Int))) (hF.ev 0 rfl) (EvP.cons (v := (.int .i64 (((x8.toNat) : Nat) : Int))) (hF.ev 3 rfl) EvP.nil)))) rfl _) (kM [false, true, false, false, false, true, true, true] rfl rfl) (by decide) (v := (.agg #[(.int .i64 (((i) : Nat) : Int)), (.int .u64 (((beN ((l.take 16).drop 8)) : Nat) : Int)), (.int .u64 (((beN ((l.take 20).drop 16)) : Nat) : Int)), (.int .i64 (((x8.toNat) : Nat) : Int))])) ?_
      refine rx1 13 (by kernel_rfl) ?_
      refine moE0 1 rfl hH rfl (fun _ hF => smStoreK (k := 4) rfl (hF.ev 1 rfl) (hF.ev 0 rfl) rfl (by kernel_rfl) (leb rfl) rfl rfl) trivial rfl (fun _ _ => rfl) (PendOk.go [] (by kernel_rfl) (PendOk.nil _ [])) ?_
      clear hH
      rintro _ _ w rfl hH
      replace hH : HH w0 [] [[bl g1 59 #[(.int .i64 0), (.int .u64 0), (.int .u64 0), (.int .i64 0)]], [bl g22 59 #[(.int .i64 (((i) : Nat) : Int)), (.int .u64 (((beN ((l.take 16).drop 8)) : Nat) : Int)), (.int .u64 (((beN ((l.take 20).drop 16)) : Nat) : Int)), (.int .i64 (((x8.toNat) : Nat) : Int))]]] w := hH
      refine ⟨(fun _ hs => by cases hs), ?_⟩
      refine rxEnd (by kernel_rfl) ?_
      refine qxThen ?_
      refine cxSeq ?_
      have hN := numB_lt l; have hZ := sizB_lt l; have hA0 := numB_def l; have hA1 := sizB_def l; have hA2 := arB_def hx9
      refine cxRegX mixedOrders (by kernel_rfl) ?_
      replace hH := hH.drew
      refine rxS (fun w => w.heap[g22]? = some (.cells #[(.int .i64 (((i) : Nat) : Int)), (.int .u64 (((beN ((l.take 16).drop 8)) : Nat) : Int)), (.int .u64 (((beN ((l.take 20).drop 16)) : Nat) : Int)), (.int .i64 (((x8.toNat) : Nat) : Int))] 59 (0, 0))) 0 rfl (by kernel_rfl) rfl (fun _ _ => rfl) (hH.blk 1 rfl) (fun _ _ hF hS => opLoadKR (k := 4) hS rfl (hF.ev 1 rfl) (by kernel_rfl) rfl (by kernel_rfl) rfl) (kM [false, true, true, true, true] rfl rfl) (by decide) (v := (.agg #[(.int .i64 (((i) : Nat) : Int)), (.int .u64 (((beN ((l.take 16).drop 8)) : Nat) : Int)), (.int .u64 (((beN ((l.take 20).drop 16)) : Nat) : Int)), (.int .i64 (((x8.toNat) : Nat) : Int))])) ?_
      refine rxV 1 rfl (by kernel_rfl) rfl (fun _ _ => rfl) (fun _ _ hF => opField (off := 1) rfl (hF.ev 1 rfl) (by kernel_rfl)) (kA rfl) (by decide) (v := (.pointer (some ⟨g22, 1, none⟩))) ?_
      refine rxS (fun w => w.heap[g22]? = some (.cells #[(.int .i64 (((i) : Nat) : Int)), (.int .u64 (((beN ((l.take 16).drop 8)) : Nat) : Int)), (.int .u64 (((beN ((l.take 20).drop 16)) : Nat) : Int)), (.int .i64 (((x8.toNat) : Nat) : Int))] 59 (0, 0))) 2 rfl (by kernel_rfl) rfl (fun _ _ => rfl) (hH.blk 1 rfl) (fun _ _ hF hS => opLoadK hS rfl (hF.ev 0 rfl) (by kernel_rfl) rfl) (kM [false, true, true, true, true, true] rfl rfl) (by decide) (v := (.int .u64 (((beN ((l.take 16).drop 8)) : Nat) : Int))) ?_
      refine rxV 3 rfl (by kernel_rfl) rfl (fun _ _ => rfl) (fun _ _ hF => opGtr rfl (hF.ev 0 rfl) rfl (dc (by omega))) (kM [false, true, true, true, true, true] rfl rfl) (by decide) (v := (.bool (decide (beN ((l.take 16).drop 8) > 0)))) ?_
      refine rxV 4 rfl (by kernel_rfl) rfl (fun _ _ => rfl) (fun _ _ hF => opMove rfl (hF.ev 0 rfl)) (kM [false, true, true, true, true, true] rfl rfl) (by decide) (v := (.bool (decide (beN ((l.take 16).drop 8) > 0)))) ?_
      refine rxSplitP 0 rfl (l1 := [(25, (.bool true)), (21, (.agg #[(.int .i64 (((i) : Nat) : Int)), (.int .u64 (((beN ((l.take 16).drop 8)) : Nat) : Int)), (.int .u64 (((beN ((l.take 20).drop 16)) : Nat) : Int)), (.int .i64 (((x8.toNat) : Nat) : Int))])), (8, (.pointer (some ⟨g22, 0, none⟩))), (6, (.pointer (some ⟨g1, 0, none⟩))), (1, (.slice (some ⟨b3, off4, none⟩) n c)), (2, (.int .u64 (((room) : Nat) : Int)))]) (l2 := [(25, (.bool false)), (21, (.agg #[(.int .i64 (((i) : Nat) : Int)), (.int .u64 (((beN ((l.take 16).drop 8)) : Nat) : Int)), (.int .u64 (((beN ((l.take 20).drop 16)) : Nat) : Int)), (.int .i64 (((x8.toNat) : Nat) : Int))])), (8, (.pointer (some ⟨g22, 0, none⟩))), (6, (.pointer (some ⟨g1, 0, none⟩))), (1, (.slice (some ⟨b3, off4, none⟩) n c)), (2, (.int .u64 (((room) : Nat) : Int)))]) rfl rfl (fun hg23 => ?_) (fun hg23 => ?_)
      · refine rxV 5 rfl (by kernel_rfl) rfl (gOn 0 rfl rfl rfl (by decide)) (fun _ _ hF => opField (off := 2) rfl (hF.ev 2 rfl) (by kernel_rfl)) (kA rfl) (by decide) (v := (.pointer (some ⟨g22, 2, none⟩))) ?_
        refine rxS (fun w => w.heap[g22]? = some (.cells #[(.int .i64 (((i) : Nat) : Int)), (.int .u64 (((beN ((l.take 16).drop 8)) : Nat) : Int)), (.int .u64 (((beN ((l.take 20).drop 16)) : Nat) : Int)), (.int .i64 (((x8.toNat) : Nat) : Int))] 59 (0, 0))) 6 rfl (by kernel_rfl) rfl (gOn 1 rfl rfl rfl (by decide)) (hH.blk 1 rfl) (fun _ _ hF hS => opLoadK hS rfl (hF.ev 0 rfl) (by kernel_rfl) rfl) (kM [false, true, true, true, true, true, true] rfl rfl) (by decide) (v := (.int .u64 (((beN ((l.take 20).drop 16)) : Nat) : Int))) ?_
        refine rxV 7 rfl (by kernel_rfl) rfl (gOn 1 rfl rfl rfl (by decide)) (fun _ _ hF => opMove rfl (hF.ev 6 rfl)) (kM [true, true, true, true, true, true, false] rfl rfl) (by decide) (v := (.int .u64 (((room) : Nat) : Int))) ?_
        refine rxV 8 rfl (by kernel_rfl) rfl (gOn 2 rfl rfl rfl (by decide)) (fun _ _ hF => opLeq rfl (hF.ev 1 rfl) (hF.ev 0 rfl) (dc (by omega))) (kM [false, false, true, true, true, true, true] rfl rfl) (by decide) (v := (.bool (decide (beN ((l.take 20).drop 16) ≤ room)))) ?_
        refine rxV 9 rfl (by kernel_rfl) rfl (fun _ _ => rfl) (fun _ _ hF => opPickT rfl (hF.ev 1 rfl) (hF.ev 0 rfl)) (kM [false, false, true, true, true, true] rfl rfl) (by decide) (v := (.bool (decide (beN ((l.take 20).drop 16) ≤ room)))) ?_
        refine rxV 10 rfl (by kernel_rfl) rfl (fun _ _ => rfl) (fun _ _ hF => opMove rfl (hF.ev 0 rfl)) (kM [false, true, true, true, true] rfl rfl) (by decide) (v := (.bool (decide (beN ((l.take 20).drop 16) ≤ room)))) ?_
        refine rxSplitP 0 rfl (l1 := [(31, (.bool true)), (21, (.agg #[(.int .i64 (((i) : Nat) : Int)), (.int .u64 (((beN ((l.take 16).drop 8)) : Nat) : Int)), (.int .u64 (((beN ((l.take 20).drop 16)) : Nat) : Int)), (.int .i64 (((x8.toNat) : Nat) : Int))])), (8, (.pointer (some ⟨g22, 0, none⟩))), (6, (.pointer (some ⟨g1, 0, none⟩))), (1, (.slice (some ⟨b3, off4, none⟩) n c))]) (l2 := [(31, (.bool false)), (21, (.agg #[(.int .i64 (((i) : Nat) : Int)), (.int .u64 (((beN ((l.take 16).drop 8)) : Nat) : Int)), (.int .u64 (((beN ((l.take 20).drop 16)) : Nat) : Int)), (.int .i64 (((x8.toNat) : Nat) : Int))])), (8, (.pointer (some ⟨g22, 0, none⟩))), (6, (.pointer (some ⟨g1, 0, none⟩))), (1, (.slice (some ⟨b3, off4, none⟩) n c))]) rfl rfl (fun hg24 => ?_) (fun hg24 => ?_)
        · refine rxV 11 rfl (by kernel_rfl) rfl (gOn 0 rfl rfl rfl (by decide)) (fun _ _ hF => opField (off := 3) rfl (hF.ev 2 rfl) (by kernel_rfl)) (kA rfl) (by decide) (v := (.pointer (some ⟨g22, 3, none⟩))) ?_
          refine rxS (fun w => w.heap[g22]? = some (.cells #[(.int .i64 (((i) : Nat) : Int)), (.int .u64 (((beN ((l.take 16).drop 8)) : Nat) : Int)), (.int .u64 (((beN ((l.take 20).drop 16)) : Nat) : Int)), (.int .i64 (((x8.toNat) : Nat) : Int))] 59 (0, 0))) 12 rfl (by kernel_rfl) rfl (gOn 1 rfl rfl rfl (by decide)) (hH.blk 1 rfl) (fun _ _ hF hS => opLoadK hS rfl (hF.ev 0 rfl) (by kernel_rfl) rfl) (kM [false, true, true, true, true, true] rfl rfl) (by decide) (v := (.int .i64 (((x8.toNat) : Nat) : Int))) ?_
          refine rxV 13 rfl (by kernel_rfl) rfl (gOn 1 rfl rfl rfl (by decide)) (fun _ _ hF => opLss rfl (hF.ev 0 rfl) rfl (dc (by omega))) (kM [false, true, true, true, true, true] rfl rfl) (by decide) (v := (.bool (decide (x8.toNat < 2)))) ?_
          refine rxV 14 rfl (by kernel_rfl) rfl (fun _ _ => rfl) (fun _ _ hF => opPickT rfl (hF.ev 1 rfl) (hF.ev 0 rfl)) (kM [false, false, true, true, true, true] rfl rfl) (by decide) (v := (.bool (decide (x8.toNat < 2)))) ?_
          refine rxV 15 rfl (by kernel_rfl) rfl (fun _ _ => rfl) (fun _ _ hF => opMove rfl (hF.ev 0 rfl)) (kM [false, true, true, true, true] rfl rfl) (by decide) (v := (.bool (decide (x8.toNat < 2)))) ?_
          refine rxSplitP 0 rfl (l1 := [(36, (.bool true)), (21, (.agg #[(.int .i64 (((i) : Nat) : Int)), (.int .u64 (((beN ((l.take 16).drop 8)) : Nat) : Int)), (.int .u64 (((beN ((l.take 20).drop 16)) : Nat) : Int)), (.int .i64 (((x8.toNat) : Nat) : Int))])), (8, (.pointer (some ⟨g22, 0, none⟩))), (6, (.pointer (some ⟨g1, 0, none⟩))), (1, (.slice (some ⟨b3, off4, none⟩) n c))]) (l2 := [(36, (.bool false)), (21, (.agg #[(.int .i64 (((i) : Nat) : Int)), (.int .u64 (((beN ((l.take 16).drop 8)) : Nat) : Int)), (.int .u64 (((beN ((l.take 20).drop 16)) : Nat) : Int)), (.int .i64 (((x8.toNat) : Nat) : Int))])), (8, (.pointer (some ⟨g22, 0, none⟩))), (6, (.pointer (some ⟨g1, 0, none⟩))), (1, (.slice (some ⟨b3, off4, none⟩) n c))]) rfl rfl (fun hg25 => ?_) (fun hg25 => ?_)
          · refine rxV 16 rfl (by kernel_rfl) rfl (gOn 0 rfl rfl rfl (by decide)) (fun _ _ hF => opMove rfl (hF.ev 4 rfl)) (kM [true, true, true, true, false] rfl rfl) (by decide) (v := (.slice (some ⟨b3, off4, none⟩) n c)) ?_
            refine rxS (fun w => w.heap[g22]? = some (.cells #[(.int .i64 (((i) : Nat) : Int)), (.int .u64 (((beN ((l.take 16).drop 8)) : Nat) : Int)), (.int .u64 (((beN ((l.take 20).drop 16)) : Nat) : Int)), (.int .i64 (((x8.toNat) : Nat) : Int))] 59 (0, 0))) 17 rfl (by kernel_rfl) rfl (gOn 1 rfl rfl rfl (by decide)) (hH.blk 1 rfl) (fun _ _ hF hS => opLoadKR (k := 4) hS rfl (hF.ev 3 rfl) (by kernel_rfl) rfl (by kernel_rfl) rfl) (kM [true, true, true, false, true] rfl rfl) (by decide) (v := (.agg #[(.int .i64 (((i) : Nat) : Int)), (.int .u64 (((beN ((l.take 16).drop 8)) : Nat) : Int)), (.int .u64 (((beN ((l.take 20).drop 16)) : Nat) : Int)), (.int .i64 (((x8.toNat) : Nat) : Int))])) ?_
            refine rx1 18 (by kernel_rfl) ?_
            refine moM rfl hH (fun _ hF => Does.small (text_c (((i) : Nat) : Int) (beN ((l.take 16).drop 8)) (beN ((l.take 20).drop 16)) x8.toNat) (fun w => opCall rfl Try.func39 rfl rfl (Evs.cons (v := (.agg #[(.int .i64 (((i) : Nat) : Int)), (.int .u64 (((beN ((l.take 16).drop 8)) : Nat) : Int)), (.int .u64 (((beN ((l.take 20).drop 16)) : Nat) : Int)), (.int .i64 (((x8.toNat) : Nat) : Int))])) (hF.ev 0 rfl) Evs.nil) w)) trivial rfl (gOn 2 rfl rfl rfl (by decide)) (kM [false, true, true, true, true] rfl rfl) (by decide) (PendOk.go [] (by kernel_rfl) (PendOk.go [15, 14, 13] (by kernel_rfl) (PendOk.go [15, 10, 9, 8] (by kernel_rfl) (PendOk.go [15, 10, 4, 3] (by kernel_rfl) (PendOk.keep (PendOk.nil _ [])))))) ?_
            clear hH
            rintro v30 E26 w hO27 hH
            replace hH : HH w0 [] [[bl g1 59 #[(.int .i64 0), (.int .u64 0), (.int .u64 0), (.int .i64 0)]], [bl g22 59 #[(.int .i64 (((i) : Nat) : Int)), (.int .u64 (((beN ((l.take 16).drop 8)) : Nat) : Int)), (.int .u64 (((beN ((l.take 20).drop 16)) : Nat) : Int)), (.int .i64 (((x8.toNat) : Nat) : Int))]], E26] w := hH
            obtain ⟨A28, c29, rfl⟩ := hO27.slice
            refine ⟨(by
              intro s hs
              simp only [List.mem_cons, List.not_mem_nil, or_false] at hs
              rcases hs with rfl
              · exact (hH.blk 1 rfl)
              ), ?_⟩
            refine rx1 19 (by kernel_rfl) ?_
            refine moM rfl hH (fun _ hF => Does.small ((equal_c (some ⟨b3, off4, none⟩) A28 n c ((hdL (beN ((l.take 16).drop 8)) (beN ((l.take 20).drop 16)) x8.toNat).length) c29 l (hdL (beN ((l.take 16).drop 8)) (beN ((l.take 20).drop 16)) x8.toNat)).does) (fun w => opCall rfl Try.func41 rfl rfl (Evs.cons (v := (.slice (some ⟨b3, off4, none⟩) n c)) (hF.ev 1 rfl) (Evs.cons (v := (.slice A28 ((hdL (beN ((l.take 16).drop 8)) (beN ((l.take 20).drop 16)) x8.toNat).length) c29)) (hF.ev 0 rfl) Evs.nil)) w)) ⟨(hH.vu hR (by decide) (Off.nil _ _)), (hO27.vuAt (hH.has 2 rfl))⟩ rfl (gOn 2 rfl rfl rfl (by decide)) (kM [false, false, true, true, true] rfl rfl) (by decide) (PendOk.keep (PendOk.nil _ [])) ?_
            clear hH
            rintro _ _ w ⟨rfl, rfl⟩ hH
            replace hH : HH w0 [] [[bl g1 59 #[(.int .i64 0), (.int .u64 0), (.int .u64 0), (.int .i64 0)]], [bl g22 59 #[(.int .i64 (((i) : Nat) : Int)), (.int .u64 (((beN ((l.take 16).drop 8)) : Nat) : Int)), (.int .u64 (((beN ((l.take 20).drop 16)) : Nat) : Int)), (.int .i64 (((x8.toNat) : Nat) : Int))]], E26] w := hH.unpad
            refine ⟨(by
              intro s hs
              simp only [List.mem_cons, List.not_mem_nil, or_false] at hs
              rcases hs with rfl
              · exact (hH.blk 1 rfl)
              ), ?_⟩
            refine rxV 20 rfl (by kernel_rfl) rfl (fun _ _ => rfl) (fun _ _ hF => opPickT rfl (hF.ev 1 rfl) (hF.ev 0 rfl)) (kM [false, false, true, true] rfl rfl) (by decide) (v := (.bool (decide (l = (hdL (beN ((l.take 16).drop 8)) (beN ((l.take 20).drop 16)) x8.toNat))))) ?_
            refine rx1 21 (by kernel_rfl) ?_
            refine moE0 0 rfl hH rfl (fun _ hF => smStoreK (k := 4) rfl (hF.ev 2 rfl) (hF.ev 1 rfl) rfl (by kernel_rfl) (leb rfl) rfl rfl) trivial rfl (fun _ _ => rfl) (PendOk.go [] (by kernel_rfl) (PendOk.nil _ [])) ?_
            clear hH
            rintro _ _ w rfl hH
            replace hH : HH w0 [] [[bl g1 59 #[(.int .i64 (((i) : Nat) : Int)), (.int .u64 (((beN ((l.take 16).drop 8)) : Nat) : Int)), (.int .u64 (((beN ((l.take 20).drop 16)) : Nat) : Int)), (.int .i64 (((x8.toNat) : Nat) : Int))]], [bl g22 59 #[(.int .i64 (((i) : Nat) : Int)), (.int .u64 (((beN ((l.take 16).drop 8)) : Nat) : Int)), (.int .u64 (((beN ((l.take 20).drop 16)) : Nat) : Int)), (.int .i64 (((x8.toNat) : Nat) : Int))]], E26] w := hH
            refine ⟨(fun _ hs => by cases hs), ?_⟩
            refine rxV 22 rfl (by kernel_rfl) rfl (fun _ _ => rfl) (fun _ _ hF => opAssign rfl (hF.ev 0 rfl)) (kM [false, false, true] rfl rfl) (by decide) (v := (.bool (decide (l = (hdL (beN ((l.take 16).drop 8)) (beN ((l.take 20).drop 16)) x8.toNat))))) ?_
            refine rxEnd (by kernel_rfl) ?_
            refine qxThen ?_
            refine cxRet ?_
            refine qxRetCT 1 0 (hH.blk 0 rfl) rfl rfl rfl (by kernel_rfl) rfl (by kernel_rfl) ?_
            have e1 := numB_def l; have e2 := sizB_def l; have e3 : arB l = _ := arB_def hx9
            have he : okB room l ↔ l = hdL (beN ((l.take 16).drop 8)) (beN ((l.take 20).drop 16)) x8.toNat := by
              unfold okB; rw [e1, e2, e3]; constructor
              · intro k; exact k.2.2.2
              · intro k; exact ⟨by omega, by omega, by omega, k⟩
            exact ⟨by rw [← dc he]; unfold hdV; rw [e1, e2, e3], HH.toBelow hH⟩
          · refine rxU 16 rfl (by kernel_rfl) rfl (gOff 0 rfl rfl rfl (by decide)) (kM [true, true, true, true, false] rfl rfl) (by decide) ?_
            refine rxU 17 rfl (by kernel_rfl) rfl (gOff 0 rfl rfl rfl (by decide)) (kM [true, true, false, true] rfl rfl) (by decide) ?_
            refine rxU 18 rfl (by kernel_rfl) rfl (gOff 0 rfl rfl rfl (by decide)) (kA rfl) (by decide) ?_
            refine rxU 19 rfl (by kernel_rfl) rfl (gOff 0 rfl rfl rfl (by decide)) (kA rfl) (by decide) ?_
            refine rxV 20 rfl (by kernel_rfl) rfl (fun _ _ => rfl) (fun _ _ hF => opPickF rfl (hF.ev 0 rfl) rfl) (kM [false, true, true] rfl rfl) (by decide) (v := (.bool false)) ?_
            refine rx1 21 (by kernel_rfl) ?_
            refine moE0 0 rfl hH rfl (fun _ hF => smStoreK (k := 4) rfl (hF.ev 2 rfl) (hF.ev 1 rfl) rfl (by kernel_rfl) (leb rfl) rfl rfl) trivial rfl (fun _ _ => rfl) (PendOk.go [] (by kernel_rfl) (PendOk.go [19] (by kernel_rfl) (PendOk.go [19, 18] (by kernel_rfl) (PendOk.go [19] (by kernel_rfl) (PendOk.go [19, 15, 14, 13] (by kernel_rfl) (PendOk.go [19, 15, 10, 9, 8] (by kernel_rfl) (PendOk.go [19, 15, 10, 4, 3] (by kernel_rfl) (PendOk.go [] (by kernel_rfl) (PendOk.nil _ []))))))))) ?_
            clear hH
            rintro _ _ w rfl hH
            replace hH : HH w0 [] [[bl g1 59 #[(.int .i64 (((i) : Nat) : Int)), (.int .u64 (((beN ((l.take 16).drop 8)) : Nat) : Int)), (.int .u64 (((beN ((l.take 20).drop 16)) : Nat) : Int)), (.int .i64 (((x8.toNat) : Nat) : Int))]], [bl g22 59 #[(.int .i64 (((i) : Nat) : Int)), (.int .u64 (((beN ((l.take 16).drop 8)) : Nat) : Int)), (.int .u64 (((beN ((l.take 20).drop 16)) : Nat) : Int)), (.int .i64 (((x8.toNat) : Nat) : Int))]]] w := hH
            refine ⟨(fun _ hs => by cases hs), ?_⟩
            refine rxV 22 rfl (by kernel_rfl) rfl (fun _ _ => rfl) (fun _ _ hF => opAssign rfl (hF.ev 0 rfl)) (kM [false, false, true] rfl rfl) (by decide) (v := (.bool false)) ?_
            refine rxEnd (by kernel_rfl) ?_
            refine qxThen ?_
            refine cxRet ?_
            refine qxRetCT 1 0 (hH.blk 0 rfl) rfl rfl rfl (by kernel_rfl) rfl (by kernel_rfl) ?_
            have e1 := numB_def l; have e2 := sizB_def l; have e3 : arB l = _ := arB_def hx9
            have he : ¬ okB room l := fun ⟨k1, k2, k3, k4⟩ => by rw [e1] at k1; rw [e2] at k2; rw [e3] at k3; omega
            exact ⟨by rw [decide_eq_false he]; unfold hdV; rw [e1, e2, e3], HH.toBelow hH⟩
        · refine rxU 11 rfl (by kernel_rfl) rfl (gOff 0 rfl rfl rfl (by decide)) (kA rfl) (by decide) ?_
          refine rxU 12 rfl (by kernel_rfl) rfl (gOff 0 rfl rfl rfl (by decide)) (kA rfl) (by decide) ?_
          refine rxU 13 rfl (by kernel_rfl) rfl (gOff 0 rfl rfl rfl (by decide)) (kA rfl) (by decide) ?_
          refine rxV 14 rfl (by kernel_rfl) rfl (fun _ _ => rfl) (fun _ _ hF => opPickF rfl (hF.ev 0 rfl) rfl) (kM [false, true, true, true, true] rfl rfl) (by decide) (v := (.bool false)) ?_
          refine rxV 15 rfl (by kernel_rfl) rfl (fun _ _ => rfl) (fun _ _ hF => opMove rfl (hF.ev 0 rfl)) (kM [false, true, true, true, true] rfl rfl) (by decide) (v := (.bool false)) ?_
          refine rxU 16 rfl (by kernel_rfl) rfl (gOff 0 rfl rfl rfl (by decide)) (kM [true, true, true, true, false] rfl rfl) (by decide) ?_
          refine rxU 17 rfl (by kernel_rfl) rfl (gOff 0 rfl rfl rfl (by decide)) (kM [true, true, false, true] rfl rfl) (by decide) ?_
          refine rxU 18 rfl (by kernel_rfl) rfl (gOff 0 rfl rfl rfl (by decide)) (kA rfl) (by decide) ?_
          refine rxU 19 rfl (by kernel_rfl) rfl (gOff 0 rfl rfl rfl (by decide)) (kA rfl) (by decide) ?_
          refine rxV 20 rfl (by kernel_rfl) rfl (fun _ _ => rfl) (fun _ _ hF => opPickF rfl (hF.ev 0 rfl) rfl) (kM [false, true, true] rfl rfl) (by decide) (v := (.bool false)) ?_
          refine rx1 21 (by kernel_rfl) ?_
          refine moE0 0 rfl hH rfl (fun _ hF => smStoreK (k := 4) rfl (hF.ev 2 rfl) (hF.ev 1 rfl) rfl (by kernel_rfl) (leb rfl) rfl rfl) trivial rfl (fun _ _ => rfl) (PendOk.go [] (by kernel_rfl) (PendOk.go [19] (by kernel_rfl) (PendOk.go [19, 18] (by kernel_rfl) (PendOk.go [19] (by kernel_rfl) (PendOk.go [19, 15, 14] (by kernel_rfl) (PendOk.go [19, 15, 14, 13] (by kernel_rfl) (PendOk.go [19, 15, 14, 13, 12] (by kernel_rfl) (PendOk.go [19, 15, 10, 9, 8] (by kernel_rfl) (PendOk.go [19, 15, 10, 4, 3] (by kernel_rfl) (PendOk.go [] (by kernel_rfl) (PendOk.nil _ []))))))))))) ?_
          clear hH
          rintro _ _ w rfl hH
          replace hH : HH w0 [] [[bl g1 59 #[(.int .i64 (((i) : Nat) : Int)), (.int .u64 (((beN ((l.take 16).drop 8)) : Nat) : Int)), (.int .u64 (((beN ((l.take 20).drop 16)) : Nat) : Int)), (.int .i64 (((x8.toNat) : Nat) : Int))]], [bl g22 59 #[(.int .i64 (((i) : Nat) : Int)), (.int .u64 (((beN ((l.take 16).drop 8)) : Nat) : Int)), (.int .u64 (((beN ((l.take 20).drop 16)) : Nat) : Int)), (.int .i64 (((x8.toNat) : Nat) : Int))]]] w := hH
          refine ⟨(fun _ hs => by cases hs), ?_⟩
          refine rxV 22 rfl (by kernel_rfl) rfl (fun _ _ => rfl) (fun _ _ hF => opAssign rfl (hF.ev 0 rfl)) (kM [false, false, true] rfl rfl) (by decide) (v := (.bool false)) ?_
          refine rxEnd (by kernel_rfl) ?_
          refine qxThen ?_
          refine cxRet ?_
          refine qxRetCT 1 0 (hH.blk 0 rfl) rfl rfl rfl (by kernel_rfl) rfl (by kernel_rfl) ?_
          have e1 := numB_def l; have e2 := sizB_def l; have e3 : arB l = _ := arB_def hx9
          have he : ¬ okB room l := fun ⟨k1, k2, k3, k4⟩ => by rw [e1] at k1; rw [e2] at k2; rw [e3] at k3; omega
          exact ⟨by rw [decide_eq_false he]; unfold hdV; rw [e1, e2, e3], HH.toBelow hH⟩
      · refine rxU 5 rfl (by kernel_rfl) rfl (gOff 0 rfl rfl rfl (by decide)) (kA rfl) (by decide) ?_
        refine rxU 6 rfl (by kernel_rfl) rfl (gOff 0 rfl rfl rfl (by decide)) (kA rfl) (by decide) ?_
        refine rxU 7 rfl (by kernel_rfl) rfl (gOff 0 rfl rfl rfl (by decide)) (kM [true, true, true, true, true, false] rfl rfl) (by decide) ?_
        refine rxU 8 rfl (by kernel_rfl) rfl (gOff 0 rfl rfl rfl (by decide)) (kA rfl) (by decide) ?_
        refine rxV 9 rfl (by kernel_rfl) rfl (fun _ _ => rfl) (fun _ _ hF => opPickF rfl (hF.ev 0 rfl) rfl) (kM [false, true, true, true, true] rfl rfl) (by decide) (v := (.bool false)) ?_
        refine rxV 10 rfl (by kernel_rfl) rfl (fun _ _ => rfl) (fun _ _ hF => opMove rfl (hF.ev 0 rfl)) (kM [false, true, true, true, true] rfl rfl) (by decide) (v := (.bool false)) ?_
        refine rxU 11 rfl (by kernel_rfl) rfl (gOff 0 rfl rfl rfl (by decide)) (kA rfl) (by decide) ?_
        refine rxU 12 rfl (by kernel_rfl) rfl (gOff 0 rfl rfl rfl (by decide)) (kA rfl) (by decide) ?_
        refine rxU 13 rfl (by kernel_rfl) rfl (gOff 0 rfl rfl rfl (by decide)) (kA rfl) (by decide) ?_
        refine rxV 14 rfl (by kernel_rfl) rfl (fun _ _ => rfl) (fun _ _ hF => opPickF rfl (hF.ev 0 rfl) rfl) (kM [false, true, true, true, true] rfl rfl) (by decide) (v := (.bool false)) ?_
        refine rxV 15 rfl (by kernel_rfl) rfl (fun _ _ => rfl) (fun _ _ hF => opMove rfl (hF.ev 0 rfl)) (kM [false, true, true, true, true] rfl rfl) (by decide) (v := (.bool false)) ?_
        refine rxU 16 rfl (by kernel_rfl) rfl (gOff 0 rfl rfl rfl (by decide)) (kM [true, true, true, true, false] rfl rfl) (by decide) ?_
        refine rxU 17 rfl (by kernel_rfl) rfl (gOff 0 rfl rfl rfl (by decide)) (kM [true, true, false, true] rfl rfl) (by decide) ?_
        refine rxU 18 rfl (by kernel_rfl) rfl (gOff 0 rfl rfl rfl (by decide)) (kA rfl) (by decide) ?_
        refine rxU 19 rfl (by kernel_rfl) rfl (gOff 0 rfl rfl rfl (by decide)) (kA rfl) (by decide) ?_
        refine rxV 20 rfl (by kernel_rfl) rfl (fun _ _ => rfl) (fun _ _ hF => opPickF rfl (hF.ev 0 rfl) rfl) (kM [false, true, true] rfl rfl) (by decide) (v := (.bool false)) ?_
        refine rx1 21 (by kernel_rfl) ?_
        refine moE0 0 rfl hH rfl (fun _ hF => smStoreK (k := 4) rfl (hF.ev 2 rfl) (hF.ev 1 rfl) rfl (by kernel_rfl) (leb rfl) rfl rfl) trivial rfl (fun _ _ => rfl) (PendOk.go [] (by kernel_rfl) (PendOk.go [19] (by kernel_rfl) (PendOk.go [19, 18] (by kernel_rfl) (PendOk.go [19] (by kernel_rfl) (PendOk.go [19, 15, 14] (by kernel_rfl) (PendOk.go [19, 15, 14, 13] (by kernel_rfl) (PendOk.go [19, 15, 14, 13, 12] (by kernel_rfl) (PendOk.go [19, 15, 10, 9] (by kernel_rfl) (PendOk.go [19, 15, 10, 9, 8] (by kernel_rfl) (PendOk.go [19, 15, 10, 9, 8] (by kernel_rfl) (PendOk.go [19, 15, 10, 9, 8, 6] (by kernel_rfl) (PendOk.go [19, 15, 10, 4, 3] (by kernel_rfl) (PendOk.go [] (by kernel_rfl) (PendOk.nil _ [])))))))))))))) ?_
        clear hH
        rintro _ _ w rfl hH
        replace hH : HH w0 [] [[bl g1 59 #[(.int .i64 (((i) : Nat) : Int)), (.int .u64 (((beN ((l.take 16).drop 8)) : Nat) : Int)), (.int .u64 (((beN ((l.take 20).drop 16)) : Nat) : Int)), (.int .i64 (((x8.toNat) : Nat) : Int))]], [bl g22 59 #[(.int .i64 (((i) : Nat) : Int)), (.int .u64 (((beN ((l.take 16).drop 8)) : Nat) : Int)), (.int .u64 (((beN ((l.take 20).drop 16)) : Nat) : Int)), (.int .i64 (((x8.toNat) : Nat) : Int))]]] w := hH
        refine ⟨(fun _ hs => by cases hs), ?_⟩
        refine rxV 22 rfl (by kernel_rfl) rfl (fun _ _ => rfl) (fun _ _ hF => opAssign rfl (hF.ev 0 rfl)) (kM [false, false, true] rfl rfl) (by decide) (v := (.bool false)) ?_
        refine rxEnd (by kernel_rfl) ?_
        refine qxThen ?_
        refine cxRet ?_
        refine qxRetCT 1 0 (hH.blk 0 rfl) rfl rfl rfl (by kernel_rfl) rfl (by kernel_rfl) ?_
        have e1 := numB_def l; have e2 := sizB_def l; have e3 : arB l = _ := arB_def hx9
        have he : ¬ okB room l := fun ⟨k1, k2, k3, k4⟩ => by rw [e1] at k1; rw [e2] at k2; rw [e3] at k3; omega
        exact ⟨by rw [decide_eq_false he]; unfold hdV; rw [e1, e2, e3], HH.toBelow hH⟩
  · refine moM rfl hH (fun _ hF => smAlloc (z := (.agg #[(.int .i64 0), (.int .u64 0), (.int .u64 0), (.int .i64 0)])) rfl (by kernel_rfl) rfl) trivial rfl (fun _ _ => rfl) (kA rfl) (by decide) (PendOk.keep (PendOk.nil _ [])) ?_
    clear hH
    rintro _ _ w ⟨g32, rfl, rfl⟩ hH
    replace hH : HH w0 [] [[bl g1 59 #[(.int .i64 0), (.int .u64 0), (.int .u64 0), (.int .i64 0)]], [bl g32 59 #[(.int .i64 0), (.int .u64 0), (.int .u64 0), (.int .i64 0)]]] w := hH
    refine ⟨(by
      intro s hs
      simp only [List.mem_cons, List.not_mem_nil, or_false] at hs
      rcases hs with rfl
      · exact (hH.holdsL hL5 hb6 hR7)
      ), ?_⟩
    refine rx1 3 (by kernel_rfl) ?_
    refine moM rfl hH (fun _ hF => Does.small ((join_c (cutA (some ⟨b3, off4, none⟩) c 8 1) (c - 8) ((l.take 16).drop 8) (16 - 8) (by simp only [List.length_drop, List.length_take]; omega) (leb rfl)).does) (fun w => opCall rfl Try.func40 rfl rfl (Evs.cons (v := (.slice (cutA (some ⟨b3, off4, none⟩) c 8 1) (16 - 8) (c - 8))) (hF.ev 3 rfl) Evs.nil) w)) ((hH.vu hR (by decide) (Off.nil _ _)).cut (k := 8) (m := 16) (by omega) (by omega)) rfl (fun _ _ => rfl) (kM [true, true, true, false, true, true, true, true] rfl rfl) (by decide) (PendOk.keep (PendOk.nil _ [])) ?_
    clear hH
    rintro _ _ w ⟨rfl, rfl⟩ hH
    replace hH : HH w0 [] [[bl g1 59 #[(.int .i64 0), (.int .u64 0), (.int .u64 0), (.int .i64 0)]], [bl g32 59 #[(.int .i64 0), (.int .u64 0), (.int .u64 0), (.int .i64 0)]]] w := hH.unpad
    refine ⟨(by
      intro s hs
      simp only [List.mem_cons, List.not_mem_nil, or_false] at hs
      rcases hs with rfl
      · exact (hH.holdsL hL5 hb6 hR7)
      ), ?_⟩
    refine rx1 6 (by kernel_rfl) ?_
    refine moM rfl hH (fun _ hF => Does.small ((join_c (cutA (some ⟨b3, off4, none⟩) c 16 1) (c - 16) ((l.take 20).drop 16) (20 - 16) (by simp only [List.length_drop, List.length_take]; omega) (leb rfl)).does) (fun w => opCall rfl Try.func40 rfl rfl (Evs.cons (v := (.slice (cutA (some ⟨b3, off4, none⟩) c 16 1) (20 - 16) (c - 16))) (hF.ev 3 rfl) Evs.nil) w)) ((hH.vu hR (by decide) (Off.nil _ _)).cut (k := 16) (m := 20) (by omega) (by omega)) rfl (fun _ _ => rfl) (kM [true, true, true, false, true, true, true, true] rfl rfl) (by decide) (PendOk.keep (PendOk.nil _ [])) ?_
    clear hH
    rintro _ _ w ⟨rfl, rfl⟩ hH
    replace hH : HH w0 [] [[bl g1 59 #[(.int .i64 0), (.int .u64 0), (.int .u64 0), (.int .i64 0)]], [bl g32 59 #[(.int .i64 0), (.int .u64 0), (.int .u64 0), (.int .i64 0)]]] w := hH.unpad
    refine ⟨(by
      intro s hs
      simp only [List.mem_cons, List.not_mem_nil, or_false] at hs
      rcases hs with rfl
      · exact (hH.holdsL hL5 hb6 hR7)
      ), ?_⟩
    refine rxV 11 rfl (by kernel_rfl) rfl (fun _ _ => rfl) (fun _ _ hF => opBuildP (cells := #[(.int .i64 (((i) : Nat) : Int)), (.int .u64 (((beN ((l.take 16).drop 8)) : Nat) : Int)), (.int .u64 (((beN ((l.take 20).drop 16)) : Nat) : Int)), (.int .i64 (((x8.toNat) : Nat) : Int))]) rfl (EvP.cons (v := (.int .i64 (((i) : Nat) : Int))) (hF.ev 4 rfl) (EvP.cons (v := (.int .u64 (((beN ((l.take 16).drop 8)) : Nat) : Int))) (hF.ev 1 rfl) (EvP.cons (v := (.int .u64 (((beN ((l.take 20).drop 16)) : Nat) : Int))) (hF.ev 0 rfl) (EvP.cons (v := (.int .i64 (((x8.toNat) : Nat) : Int))) (hF.ev 3 rfl) EvP.nil)))) rfl _) (kM [false, false, true, false, false, true, true, true] rfl rfl) (by decide) (v := (.agg #[(.int .i64 (((i) : Nat) : Int)), (.int .u64 (((beN ((l.take 16).drop 8)) : Nat) : Int)), (.int .u64 (((beN ((l.take 20).drop 16)) : Nat) : Int)), (.int .i64 (((x8.toNat) : Nat) : Int))])) ?_
    refine rx1 13 (by kernel_rfl) ?_
    refine moE0 1 rfl hH rfl (fun _ hF => smStoreK (k := 4) rfl (hF.ev 1 rfl) (hF.ev 0 rfl) rfl (by kernel_rfl) (leb rfl) rfl rfl) trivial rfl (fun _ _ => rfl) (PendOk.go [] (by kernel_rfl) (PendOk.nil _ [])) ?_
    clear hH
    rintro _ _ w rfl hH
    replace hH : HH w0 [] [[bl g1 59 #[(.int .i64 0), (.int .u64 0), (.int .u64 0), (.int .i64 0)]], [bl g32 59 #[(.int .i64 (((i) : Nat) : Int)), (.int .u64 (((beN ((l.take 16).drop 8)) : Nat) : Int)), (.int .u64 (((beN ((l.take 20).drop 16)) : Nat) : Int)), (.int .i64 (((x8.toNat) : Nat) : Int))]]] w := hH
    refine ⟨(fun _ hs => by cases hs), ?_⟩
    refine rxEnd (by kernel_rfl) ?_
    refine qxThen ?_
    refine cxSeq ?_
    have hN := numB_lt l; have hZ := sizB_lt l; have hA0 := numB_def l; have hA1 := sizB_def l; have hA2 := arB_def hx9
    refine cxRegX mixedOrders (by kernel_rfl) ?_
    replace hH := hH.drew
    refine rxS (fun w => w.heap[g32]? = some (.cells #[(.int .i64 (((i) : Nat) : Int)), (.int .u64 (((beN ((l.take 16).drop 8)) : Nat) : Int)), (.int .u64 (((beN ((l.take 20).drop 16)) : Nat) : Int)), (.int .i64 (((x8.toNat) : Nat) : Int))] 59 (0, 0))) 0 rfl (by kernel_rfl) rfl (fun _ _ => rfl) (hH.blk 1 rfl) (fun _ _ hF hS => opLoadKR (k := 4) hS rfl (hF.ev 1 rfl) (by kernel_rfl) rfl (by kernel_rfl) rfl) (kM [false, true, true, true, true] rfl rfl) (by decide) (v := (.agg #[(.int .i64 (((i) : Nat) : Int)), (.int .u64 (((beN ((l.take 16).drop 8)) : Nat) : Int)), (.int .u64 (((beN ((l.take 20).drop 16)) : Nat) : Int)), (.int .i64 (((x8.toNat) : Nat) : Int))])) ?_
    refine rxV 1 rfl (by kernel_rfl) rfl (fun _ _ => rfl) (fun _ _ hF => opField (off := 1) rfl (hF.ev 1 rfl) (by kernel_rfl)) (kA rfl) (by decide) (v := (.pointer (some ⟨g32, 1, none⟩))) ?_
    refine rxS (fun w => w.heap[g32]? = some (.cells #[(.int .i64 (((i) : Nat) : Int)), (.int .u64 (((beN ((l.take 16).drop 8)) : Nat) : Int)), (.int .u64 (((beN ((l.take 20).drop 16)) : Nat) : Int)), (.int .i64 (((x8.toNat) : Nat) : Int))] 59 (0, 0))) 2 rfl (by kernel_rfl) rfl (fun _ _ => rfl) (hH.blk 1 rfl) (fun _ _ hF hS => opLoadK hS rfl (hF.ev 0 rfl) (by kernel_rfl) rfl) (kM [false, true, true, true, true, true] rfl rfl) (by decide) (v := (.int .u64 (((beN ((l.take 16).drop 8)) : Nat) : Int))) ?_
    refine rxV 3 rfl (by kernel_rfl) rfl (fun _ _ => rfl) (fun _ _ hF => opGtr rfl (hF.ev 0 rfl) rfl (dc (by omega))) (kM [false, true, true, true, true, true] rfl rfl) (by decide) (v := (.bool (decide (beN ((l.take 16).drop 8) > 0)))) ?_
    refine rxV 4 rfl (by kernel_rfl) rfl (fun _ _ => rfl) (fun _ _ hF => opMove rfl (hF.ev 0 rfl)) (kM [false, true, true, true, true, true] rfl rfl) (by decide) (v := (.bool (decide (beN ((l.take 16).drop 8) > 0)))) ?_
    refine rxSplitP 0 rfl (l1 := [(25, (.bool true)), (21, (.agg #[(.int .i64 (((i) : Nat) : Int)), (.int .u64 (((beN ((l.take 16).drop 8)) : Nat) : Int)), (.int .u64 (((beN ((l.take 20).drop 16)) : Nat) : Int)), (.int .i64 (((x8.toNat) : Nat) : Int))])), (8, (.pointer (some ⟨g32, 0, none⟩))), (6, (.pointer (some ⟨g1, 0, none⟩))), (1, (.slice (some ⟨b3, off4, none⟩) n c)), (2, (.int .u64 (((room) : Nat) : Int)))]) (l2 := [(25, (.bool false)), (21, (.agg #[(.int .i64 (((i) : Nat) : Int)), (.int .u64 (((beN ((l.take 16).drop 8)) : Nat) : Int)), (.int .u64 (((beN ((l.take 20).drop 16)) : Nat) : Int)), (.int .i64 (((x8.toNat) : Nat) : Int))])), (8, (.pointer (some ⟨g32, 0, none⟩))), (6, (.pointer (some ⟨g1, 0, none⟩))), (1, (.slice (some ⟨b3, off4, none⟩) n c)), (2, (.int .u64 (((room) : Nat) : Int)))]) rfl rfl (fun hg33 => ?_) (fun hg33 => ?_)
    · refine rxV 5 rfl (by kernel_rfl) rfl (gOn 0 rfl rfl rfl (by decide)) (fun _ _ hF => opField (off := 2) rfl (hF.ev 2 rfl) (by kernel_rfl)) (kA rfl) (by decide) (v := (.pointer (some ⟨g32, 2, none⟩))) ?_
      refine rxS (fun w => w.heap[g32]? = some (.cells #[(.int .i64 (((i) : Nat) : Int)), (.int .u64 (((beN ((l.take 16).drop 8)) : Nat) : Int)), (.int .u64 (((beN ((l.take 20).drop 16)) : Nat) : Int)), (.int .i64 (((x8.toNat) : Nat) : Int))] 59 (0, 0))) 6 rfl (by kernel_rfl) rfl (gOn 1 rfl rfl rfl (by decide)) (hH.blk 1 rfl) (fun _ _ hF hS => opLoadK hS rfl (hF.ev 0 rfl) (by kernel_rfl) rfl) (kM [false, true, true, true, true, true, true] rfl rfl) (by decide) (v := (.int .u64 (((beN ((l.take 20).drop 16)) : Nat) : Int))) ?_
      refine rxV 7 rfl (by kernel_rfl) rfl (gOn 1 rfl rfl rfl (by decide)) (fun _ _ hF => opMove rfl (hF.ev 6 rfl)) (kM [true, true, true, true, true, true, false] rfl rfl) (by decide) (v := (.int .u64 (((room) : Nat) : Int))) ?_
      refine rxV 8 rfl (by kernel_rfl) rfl (gOn 2 rfl rfl rfl (by decide)) (fun _ _ hF => opLeq rfl (hF.ev 1 rfl) (hF.ev 0 rfl) (dc (by omega))) (kM [false, false, true, true, true, true, true] rfl rfl) (by decide) (v := (.bool (decide (beN ((l.take 20).drop 16) ≤ room)))) ?_
      refine rxV 9 rfl (by kernel_rfl) rfl (fun _ _ => rfl) (fun _ _ hF => opPickT rfl (hF.ev 1 rfl) (hF.ev 0 rfl)) (kM [false, false, true, true, true, true] rfl rfl) (by decide) (v := (.bool (decide (beN ((l.take 20).drop 16) ≤ room)))) ?_
      refine rxV 10 rfl (by kernel_rfl) rfl (fun _ _ => rfl) (fun _ _ hF => opMove rfl (hF.ev 0 rfl)) (kM [false, true, true, true, true] rfl rfl) (by decide) (v := (.bool (decide (beN ((l.take 20).drop 16) ≤ room)))) ?_
      refine rxSplitP 0 rfl (l1 := [(31, (.bool true)), (21, (.agg #[(.int .i64 (((i) : Nat) : Int)), (.int .u64 (((beN ((l.take 16).drop 8)) : Nat) : Int)), (.int .u64 (((beN ((l.take 20).drop 16)) : Nat) : Int)), (.int .i64 (((x8.toNat) : Nat) : Int))])), (8, (.pointer (some ⟨g32, 0, none⟩))), (6, (.pointer (some ⟨g1, 0, none⟩))), (1, (.slice (some ⟨b3, off4, none⟩) n c))]) (l2 := [(31, (.bool false)), (21, (.agg #[(.int .i64 (((i) : Nat) : Int)), (.int .u64 (((beN ((l.take 16).drop 8)) : Nat) : Int)), (.int .u64 (((beN ((l.take 20).drop 16)) : Nat) : Int)), (.int .i64 (((x8.toNat) : Nat) : Int))])), (8, (.pointer (some ⟨g32, 0, none⟩))), (6, (.pointer (some ⟨g1, 0, none⟩))), (1, (.slice (some ⟨b3, off4, none⟩) n c))]) rfl rfl (fun hg34 => ?_) (fun hg34 => ?_)
      · refine rxV 11 rfl (by kernel_rfl) rfl (gOn 0 rfl rfl rfl (by decide)) (fun _ _ hF => opField (off := 3) rfl (hF.ev 2 rfl) (by kernel_rfl)) (kA rfl) (by decide) (v := (.pointer (some ⟨g32, 3, none⟩))) ?_
        refine rxS (fun w => w.heap[g32]? = some (.cells #[(.int .i64 (((i) : Nat) : Int)), (.int .u64 (((beN ((l.take 16).drop 8)) : Nat) : Int)), (.int .u64 (((beN ((l.take 20).drop 16)) : Nat) : Int)), (.int .i64 (((x8.toNat) : Nat) : Int))] 59 (0, 0))) 12 rfl (by kernel_rfl) rfl (gOn 1 rfl rfl rfl (by decide)) (hH.blk 1 rfl) (fun _ _ hF hS => opLoadK hS rfl (hF.ev 0 rfl) (by kernel_rfl) rfl) (kM [false, true, true, true, true, true] rfl rfl) (by decide) (v := (.int .i64 (((x8.toNat) : Nat) : Int))) ?_
        refine rxV 13 rfl (by kernel_rfl) rfl (gOn 1 rfl rfl rfl (by decide)) (fun _ _ hF => opLss rfl (hF.ev 0 rfl) rfl (dc (by omega))) (kM [false, true, true, true, true, true] rfl rfl) (by decide) (v := (.bool (decide (x8.toNat < 2)))) ?_
        refine rxV 14 rfl (by kernel_rfl) rfl (fun _ _ => rfl) (fun _ _ hF => opPickT rfl (hF.ev 1 rfl) (hF.ev 0 rfl)) (kM [false, false, true, true, true, true] rfl rfl) (by decide) (v := (.bool (decide (x8.toNat < 2)))) ?_
        refine rxV 15 rfl (by kernel_rfl) rfl (fun _ _ => rfl) (fun _ _ hF => opMove rfl (hF.ev 0 rfl)) (kM [false, true, true, true, true] rfl rfl) (by decide) (v := (.bool (decide (x8.toNat < 2)))) ?_
        refine rxSplitP 0 rfl (l1 := [(36, (.bool true)), (21, (.agg #[(.int .i64 (((i) : Nat) : Int)), (.int .u64 (((beN ((l.take 16).drop 8)) : Nat) : Int)), (.int .u64 (((beN ((l.take 20).drop 16)) : Nat) : Int)), (.int .i64 (((x8.toNat) : Nat) : Int))])), (8, (.pointer (some ⟨g32, 0, none⟩))), (6, (.pointer (some ⟨g1, 0, none⟩))), (1, (.slice (some ⟨b3, off4, none⟩) n c))]) (l2 := [(36, (.bool false)), (21, (.agg #[(.int .i64 (((i) : Nat) : Int)), (.int .u64 (((beN ((l.take 16).drop 8)) : Nat) : Int)), (.int .u64 (((beN ((l.take 20).drop 16)) : Nat) : Int)), (.int .i64 (((x8.toNat) : Nat) : Int))])), (8, (.pointer (some ⟨g32, 0, none⟩))), (6, (.pointer (some ⟨g1, 0, none⟩))), (1, (.slice (some ⟨b3, off4, none⟩) n c))]) rfl rfl (fun hg35 => ?_) (fun hg35 => ?_)
        · refine rxV 16 rfl (by kernel_rfl) rfl (gOn 0 rfl rfl rfl (by decide)) (fun _ _ hF => opMove rfl (hF.ev 4 rfl)) (kM [true, true, true, true, false] rfl rfl) (by decide) (v := (.slice (some ⟨b3, off4, none⟩) n c)) ?_
          refine rxS (fun w => w.heap[g32]? = some (.cells #[(.int .i64 (((i) : Nat) : Int)), (.int .u64 (((beN ((l.take 16).drop 8)) : Nat) : Int)), (.int .u64 (((beN ((l.take 20).drop 16)) : Nat) : Int)), (.int .i64 (((x8.toNat) : Nat) : Int))] 59 (0, 0))) 17 rfl (by kernel_rfl) rfl (gOn 1 rfl rfl rfl (by decide)) (hH.blk 1 rfl) (fun _ _ hF hS => opLoadKR (k := 4) hS rfl (hF.ev 3 rfl) (by kernel_rfl) rfl (by kernel_rfl) rfl) (kM [true, true, true, false, true] rfl rfl) (by decide) (v := (.agg #[(.int .i64 (((i) : Nat) : Int)), (.int .u64 (((beN ((l.take 16).drop 8)) : Nat) : Int)), (.int .u64 (((beN ((l.take 20).drop 16)) : Nat) : Int)), (.int .i64 (((x8.toNat) : Nat) : Int))])) ?_
          refine rx1 18 (by kernel_rfl) ?_
          refine moM rfl hH (fun _ hF => Does.small (text_c (((i) : Nat) : Int) (beN ((l.take 16).drop 8)) (beN ((l.take 20).drop 16)) x8.toNat) (fun w => opCall rfl Try.func39 rfl rfl (Evs.cons (v := (.agg #[(.int .i64 (((i) : Nat) : Int)), (.int .u64 (((beN ((l.take 16).drop 8)) : Nat) : Int)), (.int .u64 (((beN ((l.take 20).drop 16)) : Nat) : Int)), (.int .i64 (((x8.toNat) : Nat) : Int))])) (hF.ev 0 rfl) Evs.nil) w)) trivial rfl (gOn 2 rfl rfl rfl (by decide)) (kM [false, true, true, true, true] rfl rfl) (by decide) (PendOk.go [] (by kernel_rfl) (PendOk.go [15, 14, 13] (by kernel_rfl) (PendOk.go [15, 10, 9, 8] (by kernel_rfl) (PendOk.go [15, 10, 4, 3] (by kernel_rfl) (PendOk.keep (PendOk.nil _ [])))))) ?_
          clear hH
          rintro v40 E36 w hO37 hH
          replace hH : HH w0 [] [[bl g1 59 #[(.int .i64 0), (.int .u64 0), (.int .u64 0), (.int .i64 0)]], [bl g32 59 #[(.int .i64 (((i) : Nat) : Int)), (.int .u64 (((beN ((l.take 16).drop 8)) : Nat) : Int)), (.int .u64 (((beN ((l.take 20).drop 16)) : Nat) : Int)), (.int .i64 (((x8.toNat) : Nat) : Int))]], E36] w := hH
          obtain ⟨A38, c39, rfl⟩ := hO37.slice
          refine ⟨(by
            intro s hs
            simp only [List.mem_cons, List.not_mem_nil, or_false] at hs
            rcases hs with rfl
            · exact (hH.blk 1 rfl)
            ), ?_⟩
          refine rx1 19 (by kernel_rfl) ?_
          refine moM rfl hH (fun _ hF => Does.small ((equal_c (some ⟨b3, off4, none⟩) A38 n c ((hdL (beN ((l.take 16).drop 8)) (beN ((l.take 20).drop 16)) x8.toNat).length) c39 l (hdL (beN ((l.take 16).drop 8)) (beN ((l.take 20).drop 16)) x8.toNat)).does) (fun w => opCall rfl Try.func41 rfl rfl (Evs.cons (v := (.slice (some ⟨b3, off4, none⟩) n c)) (hF.ev 1 rfl) (Evs.cons (v := (.slice A38 ((hdL (beN ((l.take 16).drop 8)) (beN ((l.take 20).drop 16)) x8.toNat).length) c39)) (hF.ev 0 rfl) Evs.nil)) w)) ⟨(hH.vu hR (by decide) (Off.nil _ _)), (hO37.vuAt (hH.has 2 rfl))⟩ rfl (gOn 2 rfl rfl rfl (by decide)) (kM [false, false, true, true, true] rfl rfl) (by decide) (PendOk.keep (PendOk.nil _ [])) ?_
          clear hH
          rintro _ _ w ⟨rfl, rfl⟩ hH
          replace hH : HH w0 [] [[bl g1 59 #[(.int .i64 0), (.int .u64 0), (.int .u64 0), (.int .i64 0)]], [bl g32 59 #[(.int .i64 (((i) : Nat) : Int)), (.int .u64 (((beN ((l.take 16).drop 8)) : Nat) : Int)), (.int .u64 (((beN ((l.take 20).drop 16)) : Nat) : Int)), (.int .i64 (((x8.toNat) : Nat) : Int))]], E36] w := hH.unpad
          refine ⟨(by
            intro s hs
            simp only [List.mem_cons, List.not_mem_nil, or_false] at hs
            rcases hs with rfl
            · exact (hH.blk 1 rfl)
            ), ?_⟩
          refine rxV 20 rfl (by kernel_rfl) rfl (fun _ _ => rfl) (fun _ _ hF => opPickT rfl (hF.ev 1 rfl) (hF.ev 0 rfl)) (kM [false, false, true, true] rfl rfl) (by decide) (v := (.bool (decide (l = (hdL (beN ((l.take 16).drop 8)) (beN ((l.take 20).drop 16)) x8.toNat))))) ?_
          refine rx1 21 (by kernel_rfl) ?_
          refine moE0 0 rfl hH rfl (fun _ hF => smStoreK (k := 4) rfl (hF.ev 2 rfl) (hF.ev 1 rfl) rfl (by kernel_rfl) (leb rfl) rfl rfl) trivial rfl (fun _ _ => rfl) (PendOk.go [] (by kernel_rfl) (PendOk.nil _ [])) ?_
          clear hH
          rintro _ _ w rfl hH
          replace hH : HH w0 [] [[bl g1 59 #[(.int .i64 (((i) : Nat) : Int)), (.int .u64 (((beN ((l.take 16).drop 8)) : Nat) : Int)), (.int .u64 (((beN ((l.take 20).drop 16)) : Nat) : Int)), (.int .i64 (((x8.toNat) : Nat) : Int))]], [bl g32 59 #[(.int .i64 (((i) : Nat) : Int)), (.int .u64 (((beN ((l.take 16).drop 8)) : Nat) : Int)), (.int .u64 (((beN ((l.take 20).drop 16)) : Nat) : Int)), (.int .i64 (((x8.toNat) : Nat) : Int))]], E36] w := hH
          refine ⟨(fun _ hs => by cases hs), ?_⟩
          refine rxV 22 rfl (by kernel_rfl) rfl (fun _ _ => rfl) (fun _ _ hF => opAssign rfl (hF.ev 0 rfl)) (kM [false, false, true] rfl rfl) (by decide) (v := (.bool (decide (l = (hdL (beN ((l.take 16).drop 8)) (beN ((l.take 20).drop 16)) x8.toNat))))) ?_
          refine rxEnd (by kernel_rfl) ?_
          refine qxThen ?_
          refine cxRet ?_
          refine qxRetCT 1 0 (hH.blk 0 rfl) rfl rfl rfl (by kernel_rfl) rfl (by kernel_rfl) ?_
          have e1 := numB_def l; have e2 := sizB_def l; have e3 : arB l = _ := arB_def hx9
          have he : okB room l ↔ l = hdL (beN ((l.take 16).drop 8)) (beN ((l.take 20).drop 16)) x8.toNat := by
            unfold okB; rw [e1, e2, e3]; constructor
            · intro k; exact k.2.2.2
            · intro k; exact ⟨by omega, by omega, by omega, k⟩
          exact ⟨by rw [← dc he]; unfold hdV; rw [e1, e2, e3], HH.toBelow hH⟩
        · refine rxU 16 rfl (by kernel_rfl) rfl (gOff 0 rfl rfl rfl (by decide)) (kM [true, true, true, true, false] rfl rfl) (by decide) ?_
          refine rxU 17 rfl (by kernel_rfl) rfl (gOff 0 rfl rfl rfl (by decide)) (kM [true, true, false, true] rfl rfl) (by decide) ?_
          refine rxU 18 rfl (by kernel_rfl) rfl (gOff 0 rfl rfl rfl (by decide)) (kA rfl) (by decide) ?_
          refine rxU 19 rfl (by kernel_rfl) rfl (gOff 0 rfl rfl rfl (by decide)) (kA rfl) (by decide) ?_
          refine rxV 20 rfl (by kernel_rfl) rfl (fun _ _ => rfl) (fun _ _ hF => opPickF rfl (hF.ev 0 rfl) rfl) (kM [false, true, true] rfl rfl) (by decide) (v := (.bool false)) ?_
          refine rx1 21 (by kernel_rfl) ?_
          refine moE0 0 rfl hH rfl (fun _ hF => smStoreK (k := 4) rfl (hF.ev 2 rfl) (hF.ev 1 rfl) rfl (by kernel_rfl) (leb rfl) rfl rfl) trivial rfl (fun _ _ => rfl) (PendOk.go [] (by kernel_rfl) (PendOk.go [19] (by kernel_rfl) (PendOk.go [19, 18] (by kernel_rfl) (PendOk.go [19] (by kernel_rfl) (PendOk.go [19, 15, 14, 13] (by kernel_rfl) (PendOk.go [19, 15, 10, 9, 8] (by kernel_rfl) (PendOk.go [19, 15, 10, 4, 3] (by kernel_rfl) (PendOk.go [] (by kernel_rfl) (PendOk.nil _ []))))))))) ?_
          clear hH
          rintro _ _ w rfl hH
          replace hH : HH w0 [] [[bl g1 59 #[(.int .i64 (((i) : Nat) : Int)), (.int .u64 (((beN ((l.take 16).drop 8)) : Nat) : Int)), (.int .u64 (((beN ((l.take 20).drop 16)) : Nat) : Int)), (.int .i64 (((x8.toNat) : Nat) : Int))]], [bl g32 59 #[(.int .i64 (((i) : Nat) : Int)), (.int .u64 (((beN ((l.take 16).drop 8)) : Nat) : Int)), (.int .u64 (((beN ((l.take 20).drop 16)) : Nat) : Int)), (.int .i64 (((x8.toNat) : Nat) : Int))]]] w := hH
          refine ⟨(fun _ hs => by cases hs), ?_⟩
          refine rxV 22 rfl (by kernel_rfl) rfl (fun _ _ => rfl) (fun _ _ hF => opAssign rfl (hF.ev 0 rfl)) (kM [false, false, true] rfl rfl) (by decide) (v := (.bool false)) ?_
          refine rxEnd (by kernel_rfl) ?_
          refine qxThen ?_
          refine cxRet ?_
          refine qxRetCT 1 0 (hH.blk 0 rfl) rfl rfl rfl (by kernel_rfl) rfl (by kernel_rfl) ?_
          have e1 := numB_def l; have e2 := sizB_def l; have e3 : arB l = _ := arB_def hx9
          have he : ¬ okB room l := fun ⟨k1, k2, k3, k4⟩ => by rw [e1] at k1; rw [e2] at k2; rw [e3] at k3; omega
          exact ⟨by rw [decide_eq_false he]; unfold hdV; rw [e1, e2, e3], HH.toBelow hH⟩
      · refine rxU 11 rfl (by kernel_rfl) rfl (gOff 0 rfl rfl rfl (by decide)) (kA rfl) (by decide) ?_
        refine rxU 12 rfl (by kernel_rfl) rfl (gOff 0 rfl rfl rfl (by decide)) (kA rfl) (by decide) ?_
        refine rxU 13 rfl (by kernel_rfl) rfl (gOff 0 rfl rfl rfl (by decide)) (kA rfl) (by decide) ?_
        refine rxV 14 rfl (by kernel_rfl) rfl (fun _ _ => rfl) (fun _ _ hF => opPickF rfl (hF.ev 0 rfl) rfl) (kM [false, true, true, true, true] rfl rfl) (by decide) (v := (.bool false)) ?_
        refine rxV 15 rfl (by kernel_rfl) rfl (fun _ _ => rfl) (fun _ _ hF => opMove rfl (hF.ev 0 rfl)) (kM [false, true, true, true, true] rfl rfl) (by decide) (v := (.bool false)) ?_
        refine rxU 16 rfl (by kernel_rfl) rfl (gOff 0 rfl rfl rfl (by decide)) (kM [true, true, true, true, false] rfl rfl) (by decide) ?_
        refine rxU 17 rfl (by kernel_rfl) rfl (gOff 0 rfl rfl rfl (by decide)) (kM [true, true, false, true] rfl rfl) (by decide) ?_
        refine rxU 18 rfl (by kernel_rfl) rfl (gOff 0 rfl rfl rfl (by decide)) (kA rfl) (by decide) ?_
        refine rxU 19 rfl (by kernel_rfl) rfl (gOff 0 rfl rfl rfl (by decide)) (kA rfl) (by decide) ?_
        refine rxV 20 rfl (by kernel_rfl) rfl (fun _ _ => rfl) (fun _ _ hF => opPickF rfl (hF.ev 0 rfl) rfl) (kM [false, true, true] rfl rfl) (by decide) (v := (.bool false)) ?_
        refine rx1 21 (by kernel_rfl) ?_
        refine moE0 0 rfl hH rfl (fun _ hF => smStoreK (k := 4) rfl (hF.ev 2 rfl) (hF.ev 1 rfl) rfl (by kernel_rfl) (leb rfl) rfl rfl) trivial rfl (fun _ _ => rfl) (PendOk.go [] (by kernel_rfl) (PendOk.go [19] (by kernel_rfl) (PendOk.go [19, 18] (by kernel_rfl) (PendOk.go [19] (by kernel_rfl) (PendOk.go [19, 15, 14] (by kernel_rfl) (PendOk.go [19, 15, 14, 13] (by kernel_rfl) (PendOk.go [19, 15, 14, 13, 12] (by kernel_rfl) (PendOk.go [19, 15, 10, 9, 8] (by kernel_rfl) (PendOk.go [19, 15, 10, 4, 3] (by kernel_rfl) (PendOk.go [] (by kernel_rfl) (PendOk.nil _ []))))))))))) ?_
        clear hH
        rintro _ _ w rfl hH
        replace hH : HH w0 [] [[bl g1 59 #[(.int .i64 (((i) : Nat) : Int)), (.int .u64 (((beN ((l.take 16).drop 8)) : Nat) : Int)), (.int .u64 (((beN ((l.take 20).drop 16)) : Nat) : Int)), (.int .i64 (((x8.toNat) : Nat) : Int))]], [bl g32 59 #[(.int .i64 (((i) : Nat) : Int)), (.int .u64 (((beN ((l.take 16).drop 8)) : Nat) : Int)), (.int .u64 (((beN ((l.take 20).drop 16)) : Nat) : Int)), (.int .i64 (((x8.toNat) : Nat) : Int))]]] w := hH
        refine ⟨(fun _ hs => by cases hs), ?_⟩
        refine rxV 22 rfl (by kernel_rfl) rfl (fun _ _ => rfl) (fun _ _ hF => opAssign rfl (hF.ev 0 rfl)) (kM [false, false, true] rfl rfl) (by decide) (v := (.bool false)) ?_
        refine rxEnd (by kernel_rfl) ?_
        refine qxThen ?_
        refine cxRet ?_
        refine qxRetCT 1 0 (hH.blk 0 rfl) rfl rfl rfl (by kernel_rfl) rfl (by kernel_rfl) ?_
        have e1 := numB_def l; have e2 := sizB_def l; have e3 : arB l = _ := arB_def hx9
        have he : ¬ okB room l := fun ⟨k1, k2, k3, k4⟩ => by rw [e1] at k1; rw [e2] at k2; rw [e3] at k3; omega
        exact ⟨by rw [decide_eq_false he]; unfold hdV; rw [e1, e2, e3], HH.toBelow hH⟩
    · refine rxU 5 rfl (by kernel_rfl) rfl (gOff 0 rfl rfl rfl (by decide)) (kA rfl) (by decide) ?_
      refine rxU 6 rfl (by kernel_rfl) rfl (gOff 0 rfl rfl rfl (by decide)) (kA rfl) (by decide) ?_
      refine rxU 7 rfl (by kernel_rfl) rfl (gOff 0 rfl rfl rfl (by decide)) (kM [true, true, true, true, true, false] rfl rfl) (by decide) ?_
      refine rxU 8 rfl (by kernel_rfl) rfl (gOff 0 rfl rfl rfl (by decide)) (kA rfl) (by decide) ?_
      refine rxV 9 rfl (by kernel_rfl) rfl (fun _ _ => rfl) (fun _ _ hF => opPickF rfl (hF.ev 0 rfl) rfl) (kM [false, true, true, true, true] rfl rfl) (by decide) (v := (.bool false)) ?_
      refine rxV 10 rfl (by kernel_rfl) rfl (fun _ _ => rfl) (fun _ _ hF => opMove rfl (hF.ev 0 rfl)) (kM [false, true, true, true, true] rfl rfl) (by decide) (v := (.bool false)) ?_
      refine rxU 11 rfl (by kernel_rfl) rfl (gOff 0 rfl rfl rfl (by decide)) (kA rfl) (by decide) ?_
      refine rxU 12 rfl (by kernel_rfl) rfl (gOff 0 rfl rfl rfl (by decide)) (kA rfl) (by decide) ?_
      refine rxU 13 rfl (by kernel_rfl) rfl (gOff 0 rfl rfl rfl (by decide)) (kA rfl) (by decide) ?_
      refine rxV 14 rfl (by kernel_rfl) rfl (fun _ _ => rfl) (fun _ _ hF => opPickF rfl (hF.ev 0 rfl) rfl) (kM [false, true, true, true, true] rfl rfl) (by decide) (v := (.bool false)) ?_
      refine rxV 15 rfl (by kernel_rfl) rfl (fun _ _ => rfl) (fun _ _ hF => opMove rfl (hF.ev 0 rfl)) (kM [false, true, true, true, true] rfl rfl) (by decide) (v := (.bool false)) ?_
      refine rxU 16 rfl (by kernel_rfl) rfl (gOff 0 rfl rfl rfl (by decide)) (kM [true, true, true, true, false] rfl rfl) (by decide) ?_
      refine rxU 17 rfl (by kernel_rfl) rfl (gOff 0 rfl rfl rfl (by decide)) (kM [true, true, false, true] rfl rfl) (by decide) ?_
      refine rxU 18 rfl (by kernel_rfl) rfl (gOff 0 rfl rfl rfl (by decide)) (kA rfl) (by decide) ?_
      refine rxU 19 rfl (by kernel_rfl) rfl (gOff 0 rfl rfl rfl (by decide)) (kA rfl) (by decide) ?_
      refine rxV 20 rfl (by kernel_rfl) rfl (fun _ _ => rfl) (fun _ _ hF => opPickF rfl (hF.ev 0 rfl) rfl) (kM [false, true, true] rfl rfl) (by decide) (v := (.bool false)) ?_
      refine rx1 21 (by kernel_rfl) ?_
      refine moE0 0 rfl hH rfl (fun _ hF => smStoreK (k := 4) rfl (hF.ev 2 rfl) (hF.ev 1 rfl) rfl (by kernel_rfl) (leb rfl) rfl rfl) trivial rfl (fun _ _ => rfl) (PendOk.go [] (by kernel_rfl) (PendOk.go [19] (by kernel_rfl) (PendOk.go [19, 18] (by kernel_rfl) (PendOk.go [19] (by kernel_rfl) (PendOk.go [19, 15, 14] (by kernel_rfl) (PendOk.go [19, 15, 14, 13] (by kernel_rfl) (PendOk.go [19, 15, 14, 13, 12] (by kernel_rfl) (PendOk.go [19, 15, 10, 9] (by kernel_rfl) (PendOk.go [19, 15, 10, 9, 8] (by kernel_rfl) (PendOk.go [19, 15, 10, 9, 8] (by kernel_rfl) (PendOk.go [19, 15, 10, 9, 8, 6] (by kernel_rfl) (PendOk.go [19, 15, 10, 4, 3] (by kernel_rfl) (PendOk.go [] (by kernel_rfl) (PendOk.nil _ [])))))))))))))) ?_
      clear hH
      rintro _ _ w rfl hH
      replace hH : HH w0 [] [[bl g1 59 #[(.int .i64 (((i) : Nat) : Int)), (.int .u64 (((beN ((l.take 16).drop 8)) : Nat) : Int)), (.int .u64 (((beN ((l.take 20).drop 16)) : Nat) : Int)), (.int .i64 (((x8.toNat) : Nat) : Int))]], [bl g32 59 #[(.int .i64 (((i) : Nat) : Int)), (.int .u64 (((beN ((l.take 16).drop 8)) : Nat) : Int)), (.int .u64 (((beN ((l.take 20).drop 16)) : Nat) : Int)), (.int .i64 (((x8.toNat) : Nat) : Int))]]] w := hH
      refine ⟨(fun _ hs => by cases hs), ?_⟩
      refine rxV 22 rfl (by kernel_rfl) rfl (fun _ _ => rfl) (fun _ _ hF => opAssign rfl (hF.ev 0 rfl)) (kM [false, false, true] rfl rfl) (by decide) (v := (.bool false)) ?_
      refine rxEnd (by kernel_rfl) ?_
      refine qxThen ?_
      refine cxRet ?_
      refine qxRetCT 1 0 (hH.blk 0 rfl) rfl rfl rfl (by kernel_rfl) rfl (by kernel_rfl) ?_
      have e1 := numB_def l; have e2 := sizB_def l; have e3 : arB l = _ := arB_def hx9
      have he : ¬ okB room l := fun ⟨k1, k2, k3, k4⟩ => by rw [e1] at k1; rw [e2] at k2; rw [e3] at k3; omega
      exact ⟨by rw [decide_eq_false he]; unfold hdV; rw [e1, e2, e3], HH.toBelow hH⟩

set_option maxHeartbeats 8000000 in
theorem latest_c (A : Option Addr) (n c : Nat) (b : List UInt8) (room : Nat) (hn : n = 128) : Pure Try.prog 25 #[(.slice A n c), (.int .u64 (((room) : Nat) : Int))] (fun w => Vu cByte w A n c b) (hdV (lastB room b 2)) := by
  refine pure_of (fn := Try.f25) Try.func25 rfl Try.ntmps25 (Nat.le_of_ble_eq_true rfl) rfl ?_
  intro w0 hH hR
  refine cxSeq ?_
  refine cxReg ?_
  refine pxM hH (fun _ hF => smAlloc (z := (.agg #[(.int .i64 0), (.int .u64 0), (.int .u64 0), (.int .i64 0)])) rfl (by kernel_rfl) rfl) trivial rfl (fun _ _ => rfl) (kA rfl) (by decide) ?_
  clear hH
  rintro _ _ w ⟨g1, rfl, rfl⟩ hH
  replace hH : HH w0 [] [[bl g1 59 #[(.int .i64 0), (.int .u64 0), (.int .u64 0), (.int .i64 0)]]] w := hH
  refine pxEnd ?_
  refine qxThen ?_
  refine cxSeq ?_
  refine cxReg ?_
  refine pxV (v := (.agg #[(.int .i64 1), (.int .u64 0), (.int .u64 0), (.int .i64 1)])) (fun _ _ hF => opBuildP (cells := #[(.int .i64 1), (.int .u64 0), (.int .u64 0), (.int .i64 1)]) rfl (EvP.cons (v := (.int .i64 1)) rfl (EvP.cons (v := (.int .i64 1)) rfl EvP.nil)) rfl _) rfl (fun _ _ => rfl) (kA rfl) (by decide) ?_
  refine pxM hH (fun _ hF => smAlloc (z := (.agg #[(.int .i64 0), (.int .u64 0), (.int .u64 0), (.int .i64 0)])) rfl (by kernel_rfl) rfl) trivial rfl (fun _ _ => rfl) (kA rfl) (by decide) ?_
  clear hH
  rintro _ _ w ⟨g2, rfl, rfl⟩ hH
  replace hH : HH w0 [] [[bl g1 59 #[(.int .i64 0), (.int .u64 0), (.int .u64 0), (.int .i64 0)]], [bl g2 59 #[(.int .i64 0), (.int .u64 0), (.int .u64 0), (.int .i64 0)]]] w := hH
  refine pxE0 1 hH rfl (fun _ hF => smStoreK (k := 4) rfl (hF.ev 0 rfl) (hF.ev 1 rfl) rfl (by kernel_rfl) (leb rfl) rfl rfl) trivial rfl (fun _ _ => rfl) ?_
  clear hH
  rintro _ _ w rfl hH
  replace hH : HH w0 [] [[bl g1 59 #[(.int .i64 0), (.int .u64 0), (.int .u64 0), (.int .i64 0)]], [bl g2 59 #[(.int .i64 1), (.int .u64 0), (.int .u64 0), (.int .i64 1)]]] w := hH
  refine pxEnd ?_
  refine qxThen ?_
  refine cxSeq ?_
  refine cxSeq ?_
  refine cxReg ?_
  refine pxV (v := (.int .i64 0)) (fun _ _ hF => opMove rfl rfl) rfl (fun _ _ => rfl) (kM [true, false, true, true, true] rfl rfl) (by decide) ?_
  refine pxEnd ?_
  refine qxThen ?_
  refine cxBlock ?_
  refine cxLoop (σ := Nat × Hd) (fun x => [(10, (.int .i64 (((x.1) : Nat) : Int))), (5, (.pointer (some ⟨g2, 0, none⟩))), (4, (.pointer (some ⟨g1, 0, none⟩))), (1, (.int .u64 (((room) : Nat) : Int))), (0, (.slice A n c))]) (fun x w => HH w0 [] [[bl g1 59 #[(.int .i64 0), (.int .u64 0), (.int .u64 0), (.int .i64 0)]], [bl g2 59 #[(.int .i64 (((x.2.sector) : Nat) : Int)), (.int .u64 (((x.2.number) : Nat) : Int)), (.int .u64 (((x.2.size) : Nat) : Int)), (.int .i64 (((x.2.area) : Nat) : Int))]]] w ∧ (x.1 ≤ 2) ∧ (x.2 = lastB room b x.1)) (fun x => 2 - x.1) (0, hd0) ⟨hH, (by omega), rfl⟩ (slots_at [0, 1, 2, 4, 3] rfl) ?_
  clear hH
  rintro ⟨i, h⟩ w ⟨hH, hi, hh⟩
  change CX _ _ _ _ [(10, (.int .i64 (((i) : Nat) : Int))), (5, (.pointer (some ⟨g2, 0, none⟩))), (4, (.pointer (some ⟨g1, 0, none⟩))), (1, (.int .u64 (((room) : Nat) : Int))), (0, (.slice A n c))] _
  replace hH : HH w0 [] [[bl g1 59 #[(.int .i64 0), (.int .u64 0), (.int .u64 0), (.int .i64 0)]], [bl g2 59 #[(.int .i64 (((h.sector) : Nat) : Int)), (.int .u64 (((h.number) : Nat) : Int)), (.int .u64 (((h.size) : Nat) : Int)), (.int .i64 (((h.area) : Nat) : Int))]]] w := hH
  replace hi : i ≤ 2 := hi
  replace hh : h = lastB room b i := hh
  refine cxSeq ?_
  refine cxReg ?_
  refine pxV (v := (.bool (decide (i < 2)))) (fun _ _ hF => opLss rfl (hF.ev 0 rfl) rfl (dc (by omega))) rfl (fun _ _ => rfl) (kA rfl) (by decide) ?_
  refine pxEnd ?_
  refine qxThen ?_
  refine cxSeq ?_
  refine cxP 0 rfl rfl (fun hc3 => ?_) (fun hc3 => ?_)
  · refine cxSkip ?_
    refine qxThen ?_
    refine cxSeq ?_
    refine cxBlock ?_
    refine cxSeq ?_
    refine cxReg ?_
    refine pxV (v := (.int .i64 (((i) : Nat) : Int))) (fun _ _ hF => opMove rfl (hF.ev 1 rfl)) rfl (fun _ _ => rfl) (kM [false, true, true, true, true, true] rfl rfl) (by decide) ?_
    refine pxV (v := (.int .i64 (((i) : Nat) : Int))) (fun _ _ hF => opAssign rfl (hF.ev 0 rfl)) rfl (fun _ _ => rfl) (kM [false, true, true, true, true, true] rfl rfl) (by decide) ?_
    refine pxEnd ?_
    refine qxThen ?_
    refine cxSeq ?_
    have hlen := hR.len; have hcap := hR.cap
    refine cxReg ?_
    refine pxV (v := (.int .i64 (((i) : Nat) : Int))) (fun _ _ hF => opMove rfl (hF.ev 0 rfl)) rfl (fun _ _ => rfl) (kA rfl) (by decide) ?_
    refine pxV (v := (.slice A n c)) (fun _ _ hF => opMove rfl (hF.ev 6 rfl)) rfl (fun _ _ => rfl) (kA rfl) (by decide) ?_
    refine pxV (v := (.int .i64 (((i) : Nat) : Int))) (fun _ _ hF => opMove rfl (hF.ev 2 rfl)) rfl (fun _ _ => rfl) (kA rfl) (by decide) ?_
    refine pxV (v := (.int .i64 (((i * 64) : Nat) : Int))) (fun _ _ hF => opMul rfl (hF.ev 0 rfl) rfl (wI (by omega) (by omega) (by omega))) rfl (fun _ _ => rfl) (kM [false, true, true, true, true, true, true, true, true] rfl rfl) (by decide) ?_
    refine pxV (v := (.int .i64 (((i) : Nat) : Int))) (fun _ _ hF => opMove rfl (hF.ev 3 rfl)) rfl (fun _ _ => rfl) (kM [true, true, true, false, true, true, true, true, true] rfl rfl) (by decide) ?_
    refine pxV (v := (.int .i64 (((i + 1) : Nat) : Int))) (fun _ _ hF => opAdd rfl (hF.ev 0 rfl) rfl (wI (by omega) (by omega) (by omega))) rfl (fun _ _ => rfl) (kM [false, true, true, true, true, true, true, true, true] rfl rfl) (by decide) ?_
    refine pxV (v := (.int .i64 ((((i + 1) * 64) : Nat) : Int))) (fun _ _ hF => opMul rfl (hF.ev 0 rfl) rfl (wI (by omega) (by omega) (by omega))) rfl (fun _ _ => rfl) (kM [false, true, true, true, true, true, true, true, true] rfl rfl) (by decide) ?_
    refine pxV (v := (.slice (cutA A c (i * 64) 1) (((i + 1) * 64) - (i * 64)) (c - (i * 64)))) (fun _ _ hF => opCutLH (k := i * 64) (h := (i + 1) * 64) (e := 5) (sz := 1) rfl (by kernel_rfl) (by kernel_rfl) (hF.ev 2 rfl) (hF.ev 1 rfl) (hF.ev 0 rfl) rfl rfl (by omega) (by omega)) rfl (fun _ _ => rfl) (kM [false, false, false, true, true, true, true, true, true] rfl rfl) (by decide) ?_
    refine pxV (v := (.int .u64 (((room) : Nat) : Int))) (fun _ _ hF => opMove rfl (hF.ev 5 rfl)) rfl (fun _ _ => rfl) (kA rfl) (by decide) ?_
    refine pxM hH (fun _ hF => Does.small ((parse_c i (cutA A c (i * 64) 1) (((i + 1) * 64) - (i * 64)) (c - (i * 64)) ((b.take ((i + 1) * 64)).drop (i * 64)) room (by omega)).does) (fun w => opCall rfl Try.func37 rfl rfl (Evs.cons (v := (.int .i64 (((i) : Nat) : Int))) (hF.ev 2 rfl) (Evs.cons (v := (.slice (cutA A c (i * 64) 1) (((i + 1) * 64) - (i * 64)) (c - (i * 64)))) (hF.ev 1 rfl) (Evs.cons (v := (.int .u64 (((room) : Nat) : Int))) (hF.ev 0 rfl) Evs.nil))) w)) ((hH.vu hR (by decide) (Off.nil _ _)).cut (k := i * 64) (m := (i + 1) * 64) (by omega) (by omega)) rfl (fun _ _ => rfl) (kM [false, false, false, true, true, true, true, true] rfl rfl) (by decide) ?_
    clear hH
    rintro _ _ w ⟨rfl, rfl⟩ hH
    replace hH : HH w0 [] [[bl g1 59 #[(.int .i64 0), (.int .u64 0), (.int .u64 0), (.int .i64 0)]], [bl g2 59 #[(.int .i64 (((h.sector) : Nat) : Int)), (.int .u64 (((h.number) : Nat) : Int)), (.int .u64 (((h.size) : Nat) : Int)), (.int .i64 (((h.area) : Nat) : Int))]]] w := hH.unpad
    refine pxV (v := (.tuple #[(.agg #[(.int .i64 (((i) : Nat) : Int)), (.int .u64 (((numB ((b.take ((i + 1) * 64)).drop (i * 64))) : Nat) : Int)), (.int .u64 (((sizB ((b.take ((i + 1) * 64)).drop (i * 64))) : Nat) : Int)), (.int .i64 (((arB ((b.take ((i + 1) * 64)).drop (i * 64))) : Nat) : Int))]), (.bool (decide (okB room ((b.take ((i + 1) * 64)).drop (i * 64)))))])) (fun _ _ hF => opMove rfl (hF.ev 0 rfl)) rfl (fun _ _ => rfl) (kM [false, true, true, true, true, true] rfl rfl) (by decide) ?_
    refine pxV (v := (.agg #[(.int .i64 (((i) : Nat) : Int)), (.int .u64 (((numB ((b.take ((i + 1) * 64)).drop (i * 64))) : Nat) : Int)), (.int .u64 (((sizB ((b.take ((i + 1) * 64)).drop (i * 64))) : Nat) : Int)), (.int .i64 (((arB ((b.take ((i + 1) * 64)).drop (i * 64))) : Nat) : Int))])) (fun _ _ hF => opExtract rfl (hF.ev 0 rfl) rfl) rfl (fun _ _ => rfl) (kA rfl) (by decide) ?_
    refine pxV (v := (.bool (decide (okB room ((b.take ((i + 1) * 64)).drop (i * 64)))))) (fun _ _ hF => opExtract rfl (hF.ev 1 rfl) rfl) rfl (fun _ _ => rfl) (kM [true, false, true, true, true, true, true] rfl rfl) (by decide) ?_
    refine pxM hH (fun _ hF => smAlloc (z := (.agg #[(.int .i64 0), (.int .u64 0), (.int .u64 0), (.int .i64 0)])) rfl (by kernel_rfl) rfl) trivial rfl (fun _ _ => rfl) (kA rfl) (by decide) ?_
    clear hH
    rintro _ _ w ⟨g4, rfl, rfl⟩ hH
    replace hH : HH w0 [] [[bl g1 59 #[(.int .i64 0), (.int .u64 0), (.int .u64 0), (.int .i64 0)]], [bl g2 59 #[(.int .i64 (((h.sector) : Nat) : Int)), (.int .u64 (((h.number) : Nat) : Int)), (.int .u64 (((h.size) : Nat) : Int)), (.int .i64 (((h.area) : Nat) : Int))]], [bl g4 59 #[(.int .i64 0), (.int .u64 0), (.int .u64 0), (.int .i64 0)]]] w := hH
    refine pxE0 2 hH rfl (fun _ hF => smStoreK (k := 4) rfl (hF.ev 0 rfl) (hF.ev 2 rfl) rfl (by kernel_rfl) (leb rfl) rfl rfl) trivial rfl (fun _ _ => rfl) ?_
    clear hH
    rintro _ _ w rfl hH
    replace hH : HH w0 [] [[bl g1 59 #[(.int .i64 0), (.int .u64 0), (.int .u64 0), (.int .i64 0)]], [bl g2 59 #[(.int .i64 (((h.sector) : Nat) : Int)), (.int .u64 (((h.number) : Nat) : Int)), (.int .u64 (((h.size) : Nat) : Int)), (.int .i64 (((h.area) : Nat) : Int))]], [bl g4 59 #[(.int .i64 (((i) : Nat) : Int)), (.int .u64 (((numB ((b.take ((i + 1) * 64)).drop (i * 64))) : Nat) : Int)), (.int .u64 (((sizB ((b.take ((i + 1) * 64)).drop (i * 64))) : Nat) : Int)), (.int .i64 (((arB ((b.take ((i + 1) * 64)).drop (i * 64))) : Nat) : Int))]]] w := hH
    refine pxV (v := (.bool (decide (okB room ((b.take ((i + 1) * 64)).drop (i * 64)))))) (fun _ _ hF => opAssign rfl (hF.ev 1 rfl)) rfl (fun _ _ => rfl) (kM [true, false, false, true, true, true, true, true] rfl rfl) (by decide) ?_
    refine pxEnd ?_
    refine qxThen ?_
    refine cxSeq ?_
    refine cxReg ?_
    refine pxV (v := (.bool (decide (okB room ((b.take ((i + 1) * 64)).drop (i * 64)))))) (fun _ _ hF => opMove rfl (hF.ev 0 rfl)) rfl (fun _ _ => rfl) (kM [false, true, true, true, true, true, true] rfl rfl) (by decide) ?_
    refine pxV (v := (.bool (decide (okB room ((b.take ((i + 1) * 64)).drop (i * 64)))))) (fun _ _ hF => opMove rfl (hF.ev 0 rfl)) rfl (fun _ _ => rfl) (kM [false, true, true, true, true, true, true] rfl rfl) (by decide) ?_
    refine pxSplitP 0 rfl (l1 := [(27, (.bool true)), (7, (.pointer (some ⟨g4, 0, none⟩))), (10, (.int .i64 (((i) : Nat) : Int))), (5, (.pointer (some ⟨g2, 0, none⟩))), (4, (.pointer (some ⟨g1, 0, none⟩))), (1, (.int .u64 (((room) : Nat) : Int))), (0, (.slice A n c))]) (l2 := [(27, (.bool false)), (7, (.pointer (some ⟨g4, 0, none⟩))), (10, (.int .i64 (((i) : Nat) : Int))), (5, (.pointer (some ⟨g2, 0, none⟩))), (4, (.pointer (some ⟨g1, 0, none⟩))), (1, (.int .u64 (((room) : Nat) : Int))), (0, (.slice A n c))]) rfl rfl (fun hg5 => ?_) (fun hg5 => ?_)
    · refine pxV (v := (.pointer (some ⟨g4, 1, none⟩))) (fun _ _ hF => opField (off := 1) rfl (hF.ev 1 rfl) (by kernel_rfl)) rfl (gOn 0 rfl rfl rfl (by decide)) (kA rfl) (by decide) ?_
      refine pxS (v := (.int .u64 (((numB ((b.take ((i + 1) * 64)).drop (i * 64))) : Nat) : Int))) (fun w => w.heap[g4]? = some (.cells #[(.int .i64 (((i) : Nat) : Int)), (.int .u64 (((numB ((b.take ((i + 1) * 64)).drop (i * 64))) : Nat) : Int)), (.int .u64 (((sizB ((b.take ((i + 1) * 64)).drop (i * 64))) : Nat) : Int)), (.int .i64 (((arB ((b.take ((i + 1) * 64)).drop (i * 64))) : Nat) : Int))] 59 (0, 0))) (hH.blk 2 rfl) (fun _ _ hF hS => opLoadK hS rfl (hF.ev 0 rfl) (by kernel_rfl) rfl) rfl (gOn 1 rfl rfl rfl (by decide)) (kM [false, true, true, true, true, true, true, true] rfl rfl) (by decide) ?_
      refine pxV (v := (.pointer (some ⟨g2, 1, none⟩))) (fun _ _ hF => opField (off := 1) rfl (hF.ev 4 rfl) (by kernel_rfl)) rfl (gOn 1 rfl rfl rfl (by decide)) (kA rfl) (by decide) ?_
      refine pxS (v := (.int .u64 (((h.number) : Nat) : Int))) (fun w => w.heap[g2]? = some (.cells #[(.int .i64 (((h.sector) : Nat) : Int)), (.int .u64 (((h.number) : Nat) : Int)), (.int .u64 (((h.size) : Nat) : Int)), (.int .i64 (((h.area) : Nat) : Int))] 59 (0, 0))) (hH.blk 1 rfl) (fun _ _ hF hS => opLoadK hS rfl (hF.ev 0 rfl) (by kernel_rfl) rfl) rfl (gOn 2 rfl rfl rfl (by decide)) (kM [false, true, true, true, true, true, true, true, true] rfl rfl) (by decide) ?_
      refine pxV (v := (.bool (decide (numB ((b.take ((i + 1) * 64)).drop (i * 64)) > h.number)))) (fun _ _ hF => opGtr rfl (hF.ev 1 rfl) (hF.ev 0 rfl) (dc (by omega))) rfl (gOn 2 rfl rfl rfl (by decide)) (kM [false, false, true, true, true, true, true, true, true] rfl rfl) (by decide) ?_
      refine pxV (v := (.bool (decide (numB ((b.take ((i + 1) * 64)).drop (i * 64)) > h.number)))) (fun _ _ hF => opPickT rfl (hF.ev 1 rfl) (hF.ev 0 rfl)) rfl (fun _ _ => rfl) (kM [false, false, true, true, true, true, true, true] rfl rfl) (by decide) ?_
      refine pxEnd ?_
      refine qxThen ?_
      refine cxP 0 rfl rfl (fun hc6 => ?_) (fun hc6 => ?_)
      · refine cxReg ?_
        refine pxS (v := (.agg #[(.int .i64 (((i) : Nat) : Int)), (.int .u64 (((numB ((b.take ((i + 1) * 64)).drop (i * 64))) : Nat) : Int)), (.int .u64 (((sizB ((b.take ((i + 1) * 64)).drop (i * 64))) : Nat) : Int)), (.int .i64 (((arB ((b.take ((i + 1) * 64)).drop (i * 64))) : Nat) : Int))])) (fun w => w.heap[g4]? = some (.cells #[(.int .i64 (((i) : Nat) : Int)), (.int .u64 (((numB ((b.take ((i + 1) * 64)).drop (i * 64))) : Nat) : Int)), (.int .u64 (((sizB ((b.take ((i + 1) * 64)).drop (i * 64))) : Nat) : Int)), (.int .i64 (((arB ((b.take ((i + 1) * 64)).drop (i * 64))) : Nat) : Int))] 59 (0, 0))) (hH.blk 2 rfl) (fun _ _ hF hS => opLoadKR (k := 4) hS rfl (hF.ev 1 rfl) (by kernel_rfl) rfl (by kernel_rfl) rfl) rfl (fun _ _ => rfl) (kM [false, false, true, true, true, true, true] rfl rfl) (by decide) ?_
        refine pxE0 1 hH rfl (fun _ hF => smStoreK (k := 4) rfl (hF.ev 2 rfl) (hF.ev 0 rfl) rfl (by kernel_rfl) (leb rfl) rfl rfl) trivial rfl (fun _ _ => rfl) ?_
        clear hH
        rintro _ _ w rfl hH
        replace hH : HH w0 [] [[bl g1 59 #[(.int .i64 0), (.int .u64 0), (.int .u64 0), (.int .i64 0)]], [bl g2 59 #[(.int .i64 (((i) : Nat) : Int)), (.int .u64 (((numB ((b.take ((i + 1) * 64)).drop (i * 64))) : Nat) : Int)), (.int .u64 (((sizB ((b.take ((i + 1) * 64)).drop (i * 64))) : Nat) : Int)), (.int .i64 (((arB ((b.take ((i + 1) * 64)).drop (i * 64))) : Nat) : Int))]], [bl g4 59 #[(.int .i64 (((i) : Nat) : Int)), (.int .u64 (((numB ((b.take ((i + 1) * 64)).drop (i * 64))) : Nat) : Int)), (.int .u64 (((sizB ((b.take ((i + 1) * 64)).drop (i * 64))) : Nat) : Int)), (.int .i64 (((arB ((b.take ((i + 1) * 64)).drop (i * 64))) : Nat) : Int))]]] w := hH
        refine pxEnd ?_
        refine qxInN ?_
        refine qxThen ?_
        refine cxReg ?_
        refine pxV (v := (.int .i64 (((i + 1) : Nat) : Int))) (fun _ _ hF => opAdd rfl (hF.ev 1 rfl) rfl (wI (by omega) (by omega) (by omega))) rfl (fun _ _ => rfl) (kM [false, false, true, true, true, true] rfl rfl) (by decide) ?_
        refine pxV (v := (.int .i64 (((i + 1) : Nat) : Int))) (fun _ _ hF => opMove rfl (hF.ev 0 rfl)) rfl (fun _ _ => rfl) (kM [false, true, true, true, true] rfl rfl) (by decide) ?_
        refine pxEnd ?_
        replace hH : HH w0 [] [[bl g1 59 #[(.int .i64 0), (.int .u64 0), (.int .u64 0), (.int .i64 0)]], [bl g2 59 #[(.int .i64 (((i) : Nat) : Int)), (.int .u64 (((numB ((b.take ((i + 1) * 64)).drop (i * 64))) : Nat) : Int)), (.int .u64 (((sizB ((b.take ((i + 1) * 64)).drop (i * 64))) : Nat) : Int)), (.int .i64 (((arB ((b.take ((i + 1) * 64)).drop (i * 64))) : Nat) : Int))]]] w := hH.only [true, true, false]
        exact qxRound (i + 1, ⟨i, numB ((b.take ((i + 1) * 64)).drop (i * 64)), sizB ((b.take ((i + 1) * 64)).drop (i * 64)), arB ((b.take ((i + 1) * 64)).drop (i * 64))⟩) ⟨hH, (show (i + 1) ≤ 2 from (by omega)), (by show _ = stepH room i ((b.take ((i + 1) * 64)).drop (i * 64)) (lastB room b i); unfold stepH; rw [if_pos ⟨hg5, by rw [← hh]; exact hc6⟩])⟩ (by omega) (slots_at [0, 1, 2, 3, 4] rfl)
      · refine cxSkip ?_
        refine qxInN ?_
        refine qxThen ?_
        refine cxReg ?_
        refine pxV (v := (.int .i64 (((i + 1) : Nat) : Int))) (fun _ _ hF => opAdd rfl (hF.ev 2 rfl) rfl (wI (by omega) (by omega) (by omega))) rfl (fun _ _ => rfl) (kM [false, false, false, true, true, true, true] rfl rfl) (by decide) ?_
        refine pxV (v := (.int .i64 (((i + 1) : Nat) : Int))) (fun _ _ hF => opMove rfl (hF.ev 0 rfl)) rfl (fun _ _ => rfl) (kM [false, true, true, true, true] rfl rfl) (by decide) ?_
        refine pxEnd ?_
        replace hH : HH w0 [] [[bl g1 59 #[(.int .i64 0), (.int .u64 0), (.int .u64 0), (.int .i64 0)]], [bl g2 59 #[(.int .i64 (((h.sector) : Nat) : Int)), (.int .u64 (((h.number) : Nat) : Int)), (.int .u64 (((h.size) : Nat) : Int)), (.int .i64 (((h.area) : Nat) : Int))]]] w := hH.only [true, true, false]
        exact qxRound (i + 1, h) ⟨hH, (show (i + 1) ≤ 2 from (by omega)), (by rw [hh]; show _ = stepH room i ((b.take ((i + 1) * 64)).drop (i * 64)) (lastB room b i); unfold stepH; rw [if_neg (fun k => hc6 (by rw [hh]; exact k.2))])⟩ (by omega) (slots_at [0, 1, 2, 3, 4] rfl)
    · refine pxU rfl (gOff 0 rfl rfl rfl (by decide)) (kA rfl) (by decide) ?_
      refine pxU rfl (gOff 0 rfl rfl rfl (by decide)) (kA rfl) (by decide) ?_
      refine pxU rfl (gOff 0 rfl rfl rfl (by decide)) (kA rfl) (by decide) ?_
      refine pxU rfl (gOff 0 rfl rfl rfl (by decide)) (kA rfl) (by decide) ?_
      refine pxU rfl (gOff 0 rfl rfl rfl (by decide)) (kA rfl) (by decide) ?_
      refine pxV (v := (.bool false)) (fun _ _ hF => opPickF rfl (hF.ev 0 rfl) rfl) rfl (fun _ _ => rfl) (kM [false, true, true, true, true, true, true] rfl rfl) (by decide) ?_
      refine pxEnd ?_
      refine qxThen ?_
      refine cxF 0 rfl rfl ?_
      refine cxSkip ?_
      refine qxInN ?_
      refine qxThen ?_
      refine cxReg ?_
      refine pxV (v := (.int .i64 (((i + 1) : Nat) : Int))) (fun _ _ hF => opAdd rfl (hF.ev 2 rfl) rfl (wI (by omega) (by omega) (by omega))) rfl (fun _ _ => rfl) (kM [false, false, false, true, true, true, true] rfl rfl) (by decide) ?_
      refine pxV (v := (.int .i64 (((i + 1) : Nat) : Int))) (fun _ _ hF => opMove rfl (hF.ev 0 rfl)) rfl (fun _ _ => rfl) (kM [false, true, true, true, true] rfl rfl) (by decide) ?_
      refine pxEnd ?_
      replace hH : HH w0 [] [[bl g1 59 #[(.int .i64 0), (.int .u64 0), (.int .u64 0), (.int .i64 0)]], [bl g2 59 #[(.int .i64 (((h.sector) : Nat) : Int)), (.int .u64 (((h.number) : Nat) : Int)), (.int .u64 (((h.size) : Nat) : Int)), (.int .i64 (((h.area) : Nat) : Int))]]] w := hH.only [true, true, false]
      exact qxRound (i + 1, h) ⟨hH, (show (i + 1) ≤ 2 from (by omega)), (by rw [hh]; show _ = stepH room i ((b.take ((i + 1) * 64)).drop (i * 64)) (lastB room b i); unfold stepH; rw [if_neg (fun k => hg5 k.1)])⟩ (by omega) (slots_at [0, 1, 2, 3, 4] rfl)
  · refine cxExit ?_
    refine qxThenE ?_
    refine qxThenE ?_
    refine qxInE ?_
    refine qxThen ?_
    refine cxSeq ?_
    refine cxReg ?_
    refine pxS (v := (.agg #[(.int .i64 (((h.sector) : Nat) : Int)), (.int .u64 (((h.number) : Nat) : Int)), (.int .u64 (((h.size) : Nat) : Int)), (.int .i64 (((h.area) : Nat) : Int))])) (fun w => w.heap[g2]? = some (.cells #[(.int .i64 (((h.sector) : Nat) : Int)), (.int .u64 (((h.number) : Nat) : Int)), (.int .u64 (((h.size) : Nat) : Int)), (.int .i64 (((h.area) : Nat) : Int))] 59 (0, 0))) (hH.blk 1 rfl) (fun _ _ hF hS => opLoadKR (k := 4) hS rfl (hF.ev 2 rfl) (by kernel_rfl) rfl (by kernel_rfl) rfl) rfl (fun _ _ => rfl) (kM [false, false, false, true, false, false] rfl rfl) (by decide) ?_
    refine pxE0 0 hH rfl (fun _ hF => smStoreK (k := 4) rfl (hF.ev 1 rfl) (hF.ev 0 rfl) rfl (by kernel_rfl) (leb rfl) rfl rfl) trivial rfl (fun _ _ => rfl) ?_
    clear hH
    rintro _ _ w rfl hH
    replace hH : HH w0 [] [[bl g1 59 #[(.int .i64 (((h.sector) : Nat) : Int)), (.int .u64 (((h.number) : Nat) : Int)), (.int .u64 (((h.size) : Nat) : Int)), (.int .i64 (((h.area) : Nat) : Int))]], [bl g2 59 #[(.int .i64 (((h.sector) : Nat) : Int)), (.int .u64 (((h.number) : Nat) : Int)), (.int .u64 (((h.size) : Nat) : Int)), (.int .i64 (((h.area) : Nat) : Int))]]] w := hH
    refine pxEnd ?_
    refine qxThen ?_
    refine cxRet ?_
    refine qxRetC 1 (hH.blk 0 rfl) rfl rfl (by kernel_rfl) rfl (by kernel_rfl) ?_
    obtain rfl : i = 2 := by omega
    exact ⟨by rw [hh]; rfl, HH.toBelow hH⟩

/-- A vault's block. -/
abbrev VtBlk (g : Nat) (V : Vt) (A : Option Addr) (c : Nat) (w : World) : Prop := w.heap[g]? = some (.cells #[.pointer (some ⟨V.gd, 0, none⟩), .int .i64 (V.half : Int), .int .i64 (V.sector : Int), .int .u64 (V.number : Int), .int .u64 (V.size : Int), .int .i64 (V.area : Int), .slice A V.kept.length c, .bool V.over] 61 (0, 0))

set_option maxHeartbeats 8000000 in
theorem room_c (g : Nat) (V : Vt) (A : Option Addr) (c : Nat) (hh : V.half ≤ 1999) : Pure Try.prog 11 #[(.pointer (some ⟨g, 0, none⟩))] (VtBlk g V A c) (.int .i64 ((V.half * 64 : Nat) : Int)) := by
  refine pure_of (fn := Try.f11) Try.func11 rfl Try.ntmps11 (Nat.le_of_ble_eq_true rfl) rfl ?_
  intro w0 hH hR
  refine cxSeq ?_
  refine cxReg ?_
  refine pxV (v := (.int .i64 0)) (fun _ _ hF => opAssign rfl rfl) rfl (fun _ _ => rfl) (kA rfl) (by decide) ?_
  refine pxEnd ?_
  refine qxThen ?_
  refine cxSeq ?_
  refine cxSeq ?_
  refine cxReg ?_
  refine pxV (v := (.pointer (some ⟨g, 0, none⟩))) (fun _ _ hF => opMove rfl (hF.ev 1 rfl)) rfl (fun _ _ => rfl) (kM [false, true] rfl rfl) (by decide) ?_
  refine pxV (v := (.bool false)) (fun _ _ hF => opEqNil (e := 61) rfl (by kernel_rfl) (hF.ev 0 rfl) rfl rfl) rfl (fun _ _ => rfl) (kM [false, true] rfl rfl) (by decide) ?_
  refine pxEnd ?_
  refine qxThen ?_
  refine cxF 0 rfl rfl ?_
  refine cxSkip ?_
  refine qxThen ?_
  refine cxSeq ?_
  refine cxReg ?_
  refine pxV (v := (.pointer (some ⟨g, 0, none⟩))) (fun _ _ hF => opMove rfl (hF.ev 1 rfl)) rfl (fun _ _ => rfl) (kM [false, false] rfl rfl) (by decide) ?_
  refine pxV (v := (.pointer (some ⟨g, 0, none⟩))) (fun _ _ hF => opNilCheck rfl (hF.ev 0 rfl)) rfl (fun _ _ => rfl) (kM [false] rfl rfl) (by decide) ?_
  refine pxV (v := (.pointer (some ⟨g, 1, none⟩))) (fun _ _ hF => opField (off := 1) rfl (hF.ev 0 rfl) (by kernel_rfl)) rfl (fun _ _ => rfl) (kM [false] rfl rfl) (by decide) ?_
  refine pxS (v := (.int .i64 (((V.half) : Nat) : Int))) (fun w => w.heap[g]? = some (.cells #[(.pointer (some ⟨V.gd, 0, none⟩)), (.int .i64 (((V.half) : Nat) : Int)), (.int .i64 (((V.sector) : Nat) : Int)), (.int .u64 (((V.number) : Nat) : Int)), (.int .u64 (((V.size) : Nat) : Int)), (.int .i64 (((V.area) : Nat) : Int)), (.slice A V.kept.length c), (.bool (V.over))] 61 (0, 0))) (hH.oldBlk hR List.not_mem_nil) (fun _ _ hF hS => opLoadK hS rfl (hF.ev 0 rfl) (by kernel_rfl) rfl) rfl (fun _ _ => rfl) (kM [false] rfl rfl) (by decide) ?_
  refine pxV (v := (.int .i64 (((V.half * 64) : Nat) : Int))) (fun _ _ hF => opMul rfl (hF.ev 0 rfl) rfl (wI (by omega) (by omega) (by omega))) rfl (fun _ _ => rfl) (kM [false] rfl rfl) (by decide) ?_
  refine pxV (v := (.int .i64 (((V.half * 64) : Nat) : Int))) (fun _ _ hF => opAssign rfl (hF.ev 0 rfl)) rfl (fun _ _ => rfl) (kM [false] rfl rfl) (by decide) ?_
  refine pxEnd ?_
  refine qxThen ?_
  refine cxRet ?_
  refine qxRet1 0 rfl rfl ?_
  exact ⟨rfl, HH.toBelow hH⟩

set_option maxHeartbeats 8000000 in
theorem number_c (g : Nat) (V : Vt) (A : Option Addr) (c : Nat) : Pure Try.prog 13 #[(.pointer (some ⟨g, 0, none⟩))] (VtBlk g V A c) (.int .u64 (V.number : Int)) := by
  refine pure_of (fn := Try.f13) Try.func13 rfl Try.ntmps13 (Nat.le_of_ble_eq_true rfl) rfl ?_
  intro w0 hH hR
  refine cxSeq ?_
  refine cxReg ?_
  refine pxV (v := (.int .u64 0)) (fun _ _ hF => opAssign rfl rfl) rfl (fun _ _ => rfl) (kA rfl) (by decide) ?_
  refine pxEnd ?_
  refine qxThen ?_
  refine cxSeq ?_
  refine cxSeq ?_
  refine cxReg ?_
  refine pxV (v := (.pointer (some ⟨g, 0, none⟩))) (fun _ _ hF => opMove rfl (hF.ev 1 rfl)) rfl (fun _ _ => rfl) (kM [false, true] rfl rfl) (by decide) ?_
  refine pxV (v := (.bool false)) (fun _ _ hF => opEqNil (e := 61) rfl (by kernel_rfl) (hF.ev 0 rfl) rfl rfl) rfl (fun _ _ => rfl) (kM [false, true] rfl rfl) (by decide) ?_
  refine pxEnd ?_
  refine qxThen ?_
  refine cxF 0 rfl rfl ?_
  refine cxSkip ?_
  refine qxThen ?_
  refine cxSeq ?_
  refine cxReg ?_
  refine pxV (v := (.pointer (some ⟨g, 0, none⟩))) (fun _ _ hF => opMove rfl (hF.ev 1 rfl)) rfl (fun _ _ => rfl) (kM [false, false] rfl rfl) (by decide) ?_
  refine pxV (v := (.pointer (some ⟨g, 0, none⟩))) (fun _ _ hF => opNilCheck rfl (hF.ev 0 rfl)) rfl (fun _ _ => rfl) (kM [false] rfl rfl) (by decide) ?_
  refine pxV (v := (.pointer (some ⟨g, 2, none⟩))) (fun _ _ hF => opField (off := 2) rfl (hF.ev 0 rfl) (by kernel_rfl)) rfl (fun _ _ => rfl) (kM [false] rfl rfl) (by decide) ?_
  refine pxV (v := (.pointer (some ⟨g, 3, none⟩))) (fun _ _ hF => opField (off := 1) rfl (hF.ev 0 rfl) (by kernel_rfl)) rfl (fun _ _ => rfl) (kM [false] rfl rfl) (by decide) ?_
  refine pxS (v := (.int .u64 (((V.number) : Nat) : Int))) (fun w => w.heap[g]? = some (.cells #[(.pointer (some ⟨V.gd, 0, none⟩)), (.int .i64 (((V.half) : Nat) : Int)), (.int .i64 (((V.sector) : Nat) : Int)), (.int .u64 (((V.number) : Nat) : Int)), (.int .u64 (((V.size) : Nat) : Int)), (.int .i64 (((V.area) : Nat) : Int)), (.slice A V.kept.length c), (.bool (V.over))] 61 (0, 0))) (hH.oldBlk hR List.not_mem_nil) (fun _ _ hF hS => opLoadK hS rfl (hF.ev 0 rfl) (by kernel_rfl) rfl) rfl (fun _ _ => rfl) (kM [false] rfl rfl) (by decide) ?_
  refine pxV (v := (.int .u64 (((V.number) : Nat) : Int))) (fun _ _ hF => opAssign rfl (hF.ev 0 rfl)) rfl (fun _ _ => rfl) (kM [false] rfl rfl) (by decide) ?_
  refine pxEnd ?_
  refine qxThen ?_
  refine cxRet ?_
  refine qxRet1 0 rfl rfl ?_
  exact ⟨rfl, HH.toBelow hH⟩

set_option maxHeartbeats 8000000 in
theorem over_c (g : Nat) (V : Vt) (A : Option Addr) (c : Nat) : Pure Try.prog 17 #[(.pointer (some ⟨g, 0, none⟩))] (VtBlk g V A c) (.bool V.over) := by
  refine pure_of (fn := Try.f17) Try.func17 rfl Try.ntmps17 (Nat.le_of_ble_eq_true rfl) rfl ?_
  intro w0 hH hR
  refine cxSeq ?_
  refine cxReg ?_
  refine pxV (v := (.bool false)) (fun _ _ hF => opAssign rfl rfl) rfl (fun _ _ => rfl) (kA rfl) (by decide) ?_
  refine pxEnd ?_
  refine qxThen ?_
  refine cxSeq ?_
  refine cxReg ?_
  refine pxV (v := (.pointer (some ⟨g, 0, none⟩))) (fun _ _ hF => opMove rfl (hF.ev 1 rfl)) rfl (fun _ _ => rfl) (kM [false, true] rfl rfl) (by decide) ?_
  refine pxV (v := (.bool true)) (fun _ _ hF => opNeNil (e := 61) rfl (by kernel_rfl) (hF.ev 0 rfl) rfl rfl) rfl (fun _ _ => rfl) (kM [false, true] rfl rfl) (by decide) ?_
  refine pxV (v := (.bool true)) (fun _ _ hF => opMove rfl (hF.ev 0 rfl)) rfl (fun _ _ => rfl) (kM [false, true] rfl rfl) (by decide) ?_
  refine pxV (v := (.pointer (some ⟨g, 0, none⟩))) (fun _ _ hF => opMove rfl (hF.ev 1 rfl)) rfl (gOn 0 rfl rfl rfl (by decide)) (kM [true, false] rfl rfl) (by decide) ?_
  refine pxV (v := (.pointer (some ⟨g, 0, none⟩))) (fun _ _ hF => opNilCheck rfl (hF.ev 0 rfl)) rfl (gOn 1 rfl rfl rfl (by decide)) (kM [false, true] rfl rfl) (by decide) ?_
  refine pxV (v := (.pointer (some ⟨g, 7, none⟩))) (fun _ _ hF => opField (off := 7) rfl (hF.ev 0 rfl) (by kernel_rfl)) rfl (gOn 1 rfl rfl rfl (by decide)) (kM [false, true] rfl rfl) (by decide) ?_
  refine pxS (v := (.bool (V.over))) (fun w => w.heap[g]? = some (.cells #[(.pointer (some ⟨V.gd, 0, none⟩)), (.int .i64 (((V.half) : Nat) : Int)), (.int .i64 (((V.sector) : Nat) : Int)), (.int .u64 (((V.number) : Nat) : Int)), (.int .u64 (((V.size) : Nat) : Int)), (.int .i64 (((V.area) : Nat) : Int)), (.slice A V.kept.length c), (.bool (V.over))] 61 (0, 0))) (hH.oldBlk hR List.not_mem_nil) (fun _ _ hF hS => opLoadK hS rfl (hF.ev 0 rfl) (by kernel_rfl) rfl) rfl (gOn 1 rfl rfl rfl (by decide)) (kM [false, true] rfl rfl) (by decide) ?_
  refine pxV (v := (.bool (V.over))) (fun _ _ hF => opPickT rfl (hF.ev 1 rfl) (hF.ev 0 rfl)) rfl (fun _ _ => rfl) (kM [false, false] rfl rfl) (by decide) ?_
  refine pxV (v := (.bool (V.over))) (fun _ _ hF => opAssign rfl (hF.ev 0 rfl)) rfl (fun _ _ => rfl) (kM [false] rfl rfl) (by decide) ?_
  refine pxEnd ?_
  refine qxThen ?_
  refine cxRet ?_
  refine qxRet1 0 rfl rfl ?_
  exact ⟨rfl, HH.toBelow hH⟩

theorem startA_le {half a : Nat} (hh : half ≤ 1999) (ha : a ≤ 1) : startA half a ≤ 2001 := by
  unfold startA
  have := Nat.mul_le_mul ha hh
  omega

set_option maxHeartbeats 8000000 in
theorem start_c (g : Nat) (V : Vt) (A : Option Addr) (c : Nat) (a : Nat) (hh : V.half ≤ 1999) (ha : a ≤ 1) : Pure Try.prog 26 #[(.pointer (some ⟨g, 0, none⟩)), (.int .i64 (((a) : Nat) : Int))] (VtBlk g V A c) (.int .i64 (startA V.half a : Int)) := by
  refine pure_of (fn := Try.f26) Try.func26 rfl Try.ntmps26 (Nat.le_of_ble_eq_true rfl) rfl ?_
  intro w0 hH hR
  refine cxSeq ?_
  refine cxReg ?_
  refine pxV (v := (.int .i64 0)) (fun _ _ hF => opAssign rfl rfl) rfl (fun _ _ => rfl) (kA rfl) (by decide) ?_
  refine pxEnd ?_
  refine qxThen ?_
  refine cxSeq ?_
  have hs := startA_le hh ha
  have hm : a * V.half ≤ 1999 := by have := Nat.mul_le_mul ha hh; omega
  refine cxReg ?_
  refine pxV (v := (.int .i64 (((a) : Nat) : Int))) (fun _ _ hF => opMove rfl (hF.ev 2 rfl)) rfl (fun _ _ => rfl) (kM [false, true, false] rfl rfl) (by decide) ?_
  refine pxV (v := (.pointer (some ⟨g, 0, none⟩))) (fun _ _ hF => opMove rfl (hF.ev 1 rfl)) rfl (fun _ _ => rfl) (kM [true, false] rfl rfl) (by decide) ?_
  refine pxV (v := (.pointer (some ⟨g, 0, none⟩))) (fun _ _ hF => opNilCheck rfl (hF.ev 0 rfl)) rfl (fun _ _ => rfl) (kM [false, true] rfl rfl) (by decide) ?_
  refine pxV (v := (.pointer (some ⟨g, 1, none⟩))) (fun _ _ hF => opField (off := 1) rfl (hF.ev 0 rfl) (by kernel_rfl)) rfl (fun _ _ => rfl) (kM [false, true] rfl rfl) (by decide) ?_
  refine pxS (v := (.int .i64 (((V.half) : Nat) : Int))) (fun w => w.heap[g]? = some (.cells #[(.pointer (some ⟨V.gd, 0, none⟩)), (.int .i64 (((V.half) : Nat) : Int)), (.int .i64 (((V.sector) : Nat) : Int)), (.int .u64 (((V.number) : Nat) : Int)), (.int .u64 (((V.size) : Nat) : Int)), (.int .i64 (((V.area) : Nat) : Int)), (.slice A V.kept.length c), (.bool (V.over))] 61 (0, 0))) (hH.oldBlk hR List.not_mem_nil) (fun _ _ hF hS => opLoadK hS rfl (hF.ev 0 rfl) (by kernel_rfl) rfl) rfl (fun _ _ => rfl) (kM [false, true] rfl rfl) (by decide) ?_
  refine pxV (v := (.int .i64 (((a * V.half) : Nat) : Int))) (fun _ _ hF => opMul rfl (hF.ev 1 rfl) (hF.ev 0 rfl) (wI rfl (by omega) (by omega))) rfl (fun _ _ => rfl) (kM [false, false] rfl rfl) (by decide) ?_
  refine pxV (v := (.int .i64 (((startA V.half a) : Nat) : Int))) (fun _ _ hF => opAdd rfl rfl (hF.ev 0 rfl) (wI rfl (by omega) (by omega))) rfl (fun _ _ => rfl) (kM [false] rfl rfl) (by decide) ?_
  refine pxV (v := (.int .i64 (((startA V.half a) : Nat) : Int))) (fun _ _ hF => opAssign rfl (hF.ev 0 rfl)) rfl (fun _ _ => rfl) (kM [false] rfl rfl) (by decide) ?_
  refine pxEnd ?_
  refine qxThen ?_
  refine cxRet ?_
  refine qxRet1 0 rfl rfl ?_
  exact ⟨rfl, HH.toBelow hH⟩

set_option maxHeartbeats 8000000 in
theorem load_c (g : Nat) (V : Vt) (A : Option Addr) (c : Nat) (hk : V.kept.length ≤ 140737488355328) : Does Try.prog 12 #[(.pointer (some ⟨g, 0, none⟩))] [] (fun w => VtBlk g V A c w ∧ Vu cByte w A V.kept.length c V.kept) (fun v E' => OwnT cByte 5 v V.kept E') := by
  refine does_of (fn := Try.f12) Try.func12 rfl Try.ntmps12 (Nat.le_of_ble_eq_true rfl) rfl ?_
  intro w0 hH hR
  replace hH : HH w0 [] [] w0 := hH.only [false]
  refine cxSeq ?_
  refine cxReg ?_
  refine pxV (v := (.slice none 0 0)) (fun _ _ hF => opAssign rfl rfl) rfl (fun _ _ => rfl) (kA rfl) (by decide) ?_
  refine pxEnd ?_
  refine qxThen ?_
  refine cxSeq ?_
  refine cxSeq ?_
  refine cxReg ?_
  refine pxV (v := (.pointer (some ⟨g, 0, none⟩))) (fun _ _ hF => opMove rfl (hF.ev 1 rfl)) rfl (fun _ _ => rfl) (kM [false, true] rfl rfl) (by decide) ?_
  refine pxV (v := (.bool false)) (fun _ _ hF => opEqNil (e := 61) rfl (by kernel_rfl) (hF.ev 0 rfl) rfl rfl) rfl (fun _ _ => rfl) (kM [false, true] rfl rfl) (by decide) ?_
  refine pxEnd ?_
  refine qxThen ?_
  refine cxF 0 rfl rfl ?_
  refine cxSkip ?_
  refine qxThen ?_
  refine cxSeq ?_
  refine cxReg ?_
  refine pxV (v := (.pointer (some ⟨g, 0, none⟩))) (fun _ _ hF => opMove rfl (hF.ev 1 rfl)) rfl (fun _ _ => rfl) (kM [false, false] rfl rfl) (by decide) ?_
  refine pxV (v := (.pointer (some ⟨g, 0, none⟩))) (fun _ _ hF => opNilCheck rfl (hF.ev 0 rfl)) rfl (fun _ _ => rfl) (kM [false] rfl rfl) (by decide) ?_
  refine pxV (v := (.pointer (some ⟨g, 6, none⟩))) (fun _ _ hF => opField (off := 6) rfl (hF.ev 0 rfl) (by kernel_rfl)) rfl (fun _ _ => rfl) (kM [false] rfl rfl) (by decide) ?_
  refine pxS (v := (.slice A V.kept.length c)) (fun w => w.heap[g]? = some (.cells #[(.pointer (some ⟨V.gd, 0, none⟩)), (.int .i64 (((V.half) : Nat) : Int)), (.int .i64 (((V.sector) : Nat) : Int)), (.int .u64 (((V.number) : Nat) : Int)), (.int .u64 (((V.size) : Nat) : Int)), (.int .i64 (((V.area) : Nat) : Int)), (.slice A V.kept.length c), (.bool (V.over))] 61 (0, 0))) (hH.oldBlk hR.1 List.not_mem_nil) (fun _ _ hF hS => opLoadK hS rfl (hF.ev 0 rfl) (by kernel_rfl) rfl) rfl (fun _ _ => rfl) (kM [false] rfl rfl) (by decide) ?_
  refine pxM hH (fun _ hF => Does.small (clone_c A V.kept.length c V.kept hk) (fun w => opCall rfl Try.func28 rfl rfl (Evs.cons (v := (.slice A V.kept.length c)) (hF.ev 0 rfl) Evs.nil) w)) (hH.vu hR.2 (by decide) (Off.nil _ _)) rfl (fun _ _ => rfl) (kM [false] rfl rfl) (by decide) ?_
  clear hH
  rintro v5 E1 w hO2 hH
  replace hH : HH w0 [] [E1] w := hH
  obtain ⟨A3, c4, rfl⟩ := hO2.slice
  refine pxV (v := (.slice A3 V.kept.length c4)) (fun _ _ hF => opAssign rfl (hF.ev 0 rfl)) rfl (fun _ _ => rfl) (kM [false] rfl rfl) (by decide) ?_
  refine pxEnd ?_
  refine qxThen ?_
  refine cxRet ?_
  refine qxRet1 0 rfl rfl ?_
  exact ⟨_, _, rfl, hO2, hH.out1 [true] rfl⟩

set_option maxHeartbeats 8000000 in
theorem room_n  : Pure Try.prog 11 #[(.pointer none)] (fun _ => True) (.int .i64 0) := by
  refine pure_of (fn := Try.f11) Try.func11 rfl Try.ntmps11 (Nat.le_of_ble_eq_true rfl) rfl ?_
  intro w0 hH hR
  refine cxSeq ?_
  refine cxReg ?_
  refine pxV (v := (.int .i64 0)) (fun _ _ hF => opAssign rfl rfl) rfl (fun _ _ => rfl) (kA rfl) (by decide) ?_
  refine pxEnd ?_
  refine qxThen ?_
  refine cxSeq ?_
  refine cxSeq ?_
  refine cxReg ?_
  refine pxV (v := (.pointer none)) (fun _ _ hF => opMove rfl (hF.ev 1 rfl)) rfl (fun _ _ => rfl) (kM [false, true] rfl rfl) (by decide) ?_
  refine pxV (v := (.bool true)) (fun _ _ hF => opEqNil (e := 61) rfl (by kernel_rfl) (hF.ev 0 rfl) rfl rfl) rfl (fun _ _ => rfl) (kM [false, true] rfl rfl) (by decide) ?_
  refine pxEnd ?_
  refine qxThen ?_
  refine cxT 0 rfl rfl ?_
  refine cxSeq ?_
  refine cxReg ?_
  refine pxV (v := (.int .i64 0)) (fun _ _ hF => opAssign rfl rfl) rfl (fun _ _ => rfl) (kM [false, false] rfl rfl) (by decide) ?_
  refine pxEnd ?_
  refine qxThen ?_
  refine cxRet ?_
  refine qxThenR ?_
  refine qxRet1 0 rfl rfl ?_
  exact ⟨rfl, HH.toBelow hH⟩

set_option maxHeartbeats 8000000 in
theorem number_n  : Pure Try.prog 13 #[(.pointer none)] (fun _ => True) (.int .u64 0) := by
  refine pure_of (fn := Try.f13) Try.func13 rfl Try.ntmps13 (Nat.le_of_ble_eq_true rfl) rfl ?_
  intro w0 hH hR
  refine cxSeq ?_
  refine cxReg ?_
  refine pxV (v := (.int .u64 0)) (fun _ _ hF => opAssign rfl rfl) rfl (fun _ _ => rfl) (kA rfl) (by decide) ?_
  refine pxEnd ?_
  refine qxThen ?_
  refine cxSeq ?_
  refine cxSeq ?_
  refine cxReg ?_
  refine pxV (v := (.pointer none)) (fun _ _ hF => opMove rfl (hF.ev 1 rfl)) rfl (fun _ _ => rfl) (kM [false, true] rfl rfl) (by decide) ?_
  refine pxV (v := (.bool true)) (fun _ _ hF => opEqNil (e := 61) rfl (by kernel_rfl) (hF.ev 0 rfl) rfl rfl) rfl (fun _ _ => rfl) (kM [false, true] rfl rfl) (by decide) ?_
  refine pxEnd ?_
  refine qxThen ?_
  refine cxT 0 rfl rfl ?_
  refine cxSeq ?_
  refine cxReg ?_
  refine pxV (v := (.int .u64 0)) (fun _ _ hF => opAssign rfl rfl) rfl (fun _ _ => rfl) (kM [false, false] rfl rfl) (by decide) ?_
  refine pxEnd ?_
  refine qxThen ?_
  refine cxRet ?_
  refine qxThenR ?_
  refine qxRet1 0 rfl rfl ?_
  exact ⟨rfl, HH.toBelow hH⟩

set_option maxHeartbeats 8000000 in
theorem over_n  : Pure Try.prog 17 #[(.pointer none)] (fun _ => True) (.bool false) := by
  refine pure_of (fn := Try.f17) Try.func17 rfl Try.ntmps17 (Nat.le_of_ble_eq_true rfl) rfl ?_
  intro w0 hH hR
  refine cxSeq ?_
  refine cxReg ?_
  refine pxV (v := (.bool false)) (fun _ _ hF => opAssign rfl rfl) rfl (fun _ _ => rfl) (kA rfl) (by decide) ?_
  refine pxEnd ?_
  refine qxThen ?_
  refine cxSeq ?_
  refine cxReg ?_
  refine pxV (v := (.pointer none)) (fun _ _ hF => opMove rfl (hF.ev 1 rfl)) rfl (fun _ _ => rfl) (kM [false, true] rfl rfl) (by decide) ?_
  refine pxV (v := (.bool false)) (fun _ _ hF => opNeNil (e := 61) rfl (by kernel_rfl) (hF.ev 0 rfl) rfl rfl) rfl (fun _ _ => rfl) (kM [false, true] rfl rfl) (by decide) ?_
  refine pxV (v := (.bool false)) (fun _ _ hF => opMove rfl (hF.ev 0 rfl)) rfl (fun _ _ => rfl) (kM [false, true] rfl rfl) (by decide) ?_
  refine pxU rfl (gOff 0 rfl rfl rfl (by decide)) (kM [true, false] rfl rfl) (by decide) ?_
  refine pxU rfl (gOff 0 rfl rfl rfl (by decide)) (kA rfl) (by decide) ?_
  refine pxU rfl (gOff 0 rfl rfl rfl (by decide)) (kA rfl) (by decide) ?_
  refine pxU rfl (gOff 0 rfl rfl rfl (by decide)) (kA rfl) (by decide) ?_
  refine pxV (v := (.bool false)) (fun _ _ hF => opPickF rfl (hF.ev 0 rfl) rfl) rfl (fun _ _ => rfl) (kM [false] rfl rfl) (by decide) ?_
  refine pxV (v := (.bool false)) (fun _ _ hF => opAssign rfl (hF.ev 0 rfl)) rfl (fun _ _ => rfl) (kM [false] rfl rfl) (by decide) ?_
  refine pxEnd ?_
  refine qxThen ?_
  refine cxRet ?_
  refine qxRet1 0 rfl rfl ?_
  exact ⟨rfl, HH.toBelow hH⟩

set_option maxHeartbeats 8000000 in
theorem load_n  : Pure Try.prog 12 #[(.pointer none)] (fun _ => True) (.slice none 0 0) := by
  refine pure_of (fn := Try.f12) Try.func12 rfl Try.ntmps12 (Nat.le_of_ble_eq_true rfl) rfl ?_
  intro w0 hH hR
  refine cxSeq ?_
  refine cxReg ?_
  refine pxV (v := (.slice none 0 0)) (fun _ _ hF => opAssign rfl rfl) rfl (fun _ _ => rfl) (kA rfl) (by decide) ?_
  refine pxEnd ?_
  refine qxThen ?_
  refine cxSeq ?_
  refine cxSeq ?_
  refine cxReg ?_
  refine pxV (v := (.pointer none)) (fun _ _ hF => opMove rfl (hF.ev 1 rfl)) rfl (fun _ _ => rfl) (kM [false, true] rfl rfl) (by decide) ?_
  refine pxV (v := (.bool true)) (fun _ _ hF => opEqNil (e := 61) rfl (by kernel_rfl) (hF.ev 0 rfl) rfl rfl) rfl (fun _ _ => rfl) (kM [false, true] rfl rfl) (by decide) ?_
  refine pxEnd ?_
  refine qxThen ?_
  refine cxT 0 rfl rfl ?_
  refine cxSeq ?_
  refine cxReg ?_
  refine pxV (v := (.slice none 0 0)) (fun _ _ hF => opAssign rfl rfl) rfl (fun _ _ => rfl) (kM [false, false] rfl rfl) (by decide) ?_
  refine pxEnd ?_
  refine qxThen ?_
  refine cxRet ?_
  refine qxThenR ?_
  refine qxRet1 0 rfl rfl ?_
  exact ⟨rfl, HH.toBelow hH⟩

set_option maxHeartbeats 8000000 in
theorem keep_n (A : Option Addr) (n c : Nat) : Pure Try.prog 14 #[(.pointer none), (.slice A n c)] (fun _ => True) (.int .i64 1) := by
  refine pure_of (fn := Try.f14) Try.func14 rfl Try.ntmps14 (Nat.le_of_ble_eq_true rfl) rfl ?_
  intro w0 hH hR
  refine cxSeq ?_
  refine cxReg ?_
  refine pxV (v := (.int .i64 0)) (fun _ _ hF => opAssign rfl rfl) rfl (fun _ _ => rfl) (kA rfl) (by decide) ?_
  refine pxEnd ?_
  refine qxThen ?_
  refine cxSeq ?_
  refine cxSeq ?_
  refine cxReg ?_
  refine pxV (v := (.pointer none)) (fun _ _ hF => opMove rfl (hF.ev 1 rfl)) rfl (fun _ _ => rfl) (kM [false, true, true] rfl rfl) (by decide) ?_
  refine pxV (v := (.bool true)) (fun _ _ hF => opEqNil (e := 61) rfl (by kernel_rfl) (hF.ev 0 rfl) rfl rfl) rfl (fun _ _ => rfl) (kM [false, true, true] rfl rfl) (by decide) ?_
  refine pxV (v := (.bool true)) (fun _ _ hF => opMove rfl (hF.ev 0 rfl)) rfl (fun _ _ => rfl) (kM [false, true, true] rfl rfl) (by decide) ?_
  refine pxU rfl (gOff 0 rfl rfl rfl (by decide)) (kA rfl) (by decide) ?_
  refine pxU rfl (gOff 0 rfl rfl rfl (by decide)) (kA rfl) (by decide) ?_
  refine pxU rfl (gOff 0 rfl rfl rfl (by decide)) (kA rfl) (by decide) ?_
  refine pxU rfl (gOff 0 rfl rfl rfl (by decide)) (kA rfl) (by decide) ?_
  refine pxU rfl (gOff 0 rfl rfl rfl (by decide)) (kA rfl) (by decide) ?_
  refine pxV (v := (.bool true)) (fun _ _ hF => opPickT rfl (hF.ev 0 rfl) rfl) rfl (fun _ _ => rfl) (kM [false, true, true] rfl rfl) (by decide) ?_
  refine pxEnd ?_
  refine qxThen ?_
  refine cxT 0 rfl rfl ?_
  refine cxSeq ?_
  refine cxReg ?_
  refine pxV (v := (.int .i64 1)) (fun _ _ hF => opAssign rfl rfl) rfl (fun _ _ => rfl) (kM [false, false, false] rfl rfl) (by decide) ?_
  refine pxEnd ?_
  refine qxThen ?_
  refine cxRet ?_
  refine qxThenR ?_
  refine qxRet1 0 rfl rfl ?_
  exact ⟨rfl, HH.toBelow hH⟩
end Go.Proofs.Ytglplhbhpaegeaa
