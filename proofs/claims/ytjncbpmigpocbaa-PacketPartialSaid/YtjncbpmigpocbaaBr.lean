/- The document's numbers in bytes (mkbr.py writes this text). -/
import Derived.Test.YtjncbpmigpocbaaBw
import Derived.Test.YtjncbpmigpocbaaProg
namespace Go.Proofs.Ytjncbpmigpocbaa
open Go Go.RowKit
set_option maxRecDepth 100000

set_option maxHeartbeats 8000000 in
theorem number_r (A : Option Addr) (c : Nat) (l : List UInt8) (m : Nat) (hm : m = l.length) (h8 : m ≤ 8) : Pure Try.prog 26 #[(.slice A m c)] (fun w => Vu cByte w A m c l) (.int .u64 (beN l : Int)) := by
  refine pure_of (fn := Try.f26) Try.func26 rfl Try.ntmps26 (Nat.le_of_ble_eq_true rfl) rfl ?_
  intro w0 hH hR
  have hlen := hR.len
  refine cxSeq ?_
  refine cxReg ?_
  refine pxV (v := (.int .u64 0)) (fun _ _ hF => opAssign rfl rfl) rfl (fun _ _ => rfl) (kA rfl) (by decide) ?_
  refine pxEnd ?_
  refine qxThen ?_
  refine cxSeq ?_
  refine cxReg ?_
  refine pxV (v := (.int .u64 0)) (fun _ _ hF => opAssign rfl rfl) rfl (fun _ _ => rfl) (kM [false, true] rfl rfl) (by decide) ?_
  refine pxEnd ?_
  refine qxThen ?_
  refine cxSeq ?_
  refine cxSeq ?_
  refine cxReg ?_
  refine pxV (v := (.slice A m c)) (fun _ _ hF => opMove rfl (hF.ev 1 rfl)) rfl (fun _ _ => rfl) (kA rfl) (by decide) ?_
  refine pxV (v := (.int .i64 (((m) : Nat) : Int))) (fun _ _ hF => opLen (e := 5) rfl (by kernel_rfl) (hF.ev 0 rfl)) rfl (fun _ _ => rfl) (kM [false, true, true] rfl rfl) (by decide) ?_
  refine pxV (v := (.int .i64 0)) (fun _ _ hF => opMove rfl rfl) rfl (fun _ _ => rfl) (kA rfl) (by decide) ?_
  refine pxEnd ?_
  refine qxThen ?_
  refine cxBlock ?_
  refine cxLoop (σ := Nat × Nat) (fun x => [(7, (.int .i64 (((x.1) : Nat) : Int))), (6, (.int .i64 (((m) : Nat) : Int))), (3, (.int .u64 (((x.2) : Nat) : Int))), (0, (.slice A m c))]) (fun x w => HH w0 [] [] w ∧ (x.1 ≤ l.length) ∧ (x.2 = beN (l.take x.1))) (fun x => l.length - x.1) (0, 0) ⟨hH, (Nat.zero_le _), rfl⟩ (slots_at [0, 1, 2, 3] rfl) ?_
  clear hH
  rintro ⟨i, n⟩ w ⟨hH, hi, hn⟩
  change CX _ _ _ _ [(7, (.int .i64 (((i) : Nat) : Int))), (6, (.int .i64 (((m) : Nat) : Int))), (3, (.int .u64 (((n) : Nat) : Int))), (0, (.slice A m c))] _
  replace hH : HH w0 [] [] w := hH
  replace hi : i ≤ l.length := hi
  replace hn : n = beN (l.take i) := hn
  refine cxSeq ?_
  refine cxReg ?_
  refine pxV (v := (.bool (decide (i < m)))) (fun _ _ hF => opLss rfl (hF.ev 0 rfl) (hF.ev 1 rfl) (dc (by omega))) rfl (fun _ _ => rfl) (kA rfl) (by decide) ?_
  refine pxEnd ?_
  refine qxThen ?_
  refine cxSeq ?_
  refine cxP 0 rfl rfl (fun hc1 => ?_) (fun hc1 => ?_)
  · refine cxSkip ?_
    refine qxThen ?_
    refine cxSeq ?_
    refine cxBlock ?_
    refine cxSeq ?_
    have hb : n < 72057594037927936 := hn ▸ beN_small (by omega) (by omega)
    refine cxReg ?_
    refine pxV (v := (.int .i64 (((i) : Nat) : Int))) (fun _ _ hF => opMove rfl (hF.ev 1 rfl)) rfl (fun _ _ => rfl) (kM [false, true, true, true, true] rfl rfl) (by decide) ?_
    refine pxV (v := (.int .i64 (((i) : Nat) : Int))) (fun _ _ hF => opAssign rfl (hF.ev 0 rfl)) rfl (fun _ _ => rfl) (kM [false, true, true, true, true] rfl rfl) (by decide) ?_
    refine pxEnd ?_
    refine qxThen ?_
    refine cxReg ?_
    refine pxV (v := (.int .u64 (((n) : Nat) : Int))) (fun _ _ hF => opMove rfl (hF.ev 3 rfl)) rfl (fun _ _ => rfl) (kM [true, true, true, false, true] rfl rfl) (by decide) ?_
    refine pxV (v := (.int .u64 (((n * 256) : Nat) : Int))) (fun _ _ hF => opShlU (n := 8) (z := (n * 256)) rfl rfl (hF.ev 0 rfl) rfl (leb rfl) (by show (n * 2 ^ 8) % 18446744073709551616 = _; omega)) rfl (fun _ _ => rfl) (kM [false, true, true, true, true] rfl rfl) (by decide) ?_
    refine pxV (v := (.slice A m c)) (fun _ _ hF => opMove rfl (hF.ev 4 rfl)) rfl (fun _ _ => rfl) (kA rfl) (by decide) ?_
    refine pxV (v := (.int .i64 (((i) : Nat) : Int))) (fun _ _ hF => opMove rfl (hF.ev 2 rfl)) rfl (fun _ _ => rfl) (kM [true, true, false, true, true, true] rfl rfl) (by decide) ?_
    have hi2 : i < m := by omega
    obtain ⟨b3, off4, rfl, hL5, hb6, hR7⟩ := hR.blk (by decide) (Off.nil _ _) (by omega)
    have := hR.cap
    have hj10 : i < l.length := by first | exact hi2 | (simp only [List.length_drop, List.length_take]; omega) | omega
    obtain ⟨x8, hx9⟩ := get_at l i hj10
    have hb11 := UInt8.toNat_lt x8
    refine pxV (v := (.pointer (some ⟨b3, off4 + i * 1, none⟩))) (fun _ _ hF => opIndex (i := i) (e := 5) (sz := 1) rfl (by kernel_rfl) (by kernel_rfl) (hF.ev 1 rfl) (hF.ev 0 rfl) rfl hi2) rfl (fun _ _ => rfl) (kM [false, false, true, true, true, true] rfl rfl) (by decide) ?_
    refine pxS (v := (.int .u8 (((x8.toNat) : Nat) : Int))) (fun w => HoldsL cByte w b3 off4 l) (hH.holdsL hL5 hb6 hR7) (fun _ _ hF hS => opLoadT (C := cByte) (y := x8) rfl (hF.ev 0 rfl) (by kernel_rfl) (hS i _ hx9) rfl) rfl (fun _ _ => rfl) (kM [false, true, true, true, true] rfl rfl) (by decide) ?_
    refine pxV (v := (.int .u64 (((x8.toNat) : Nat) : Int))) (fun _ _ hF => opConvU (k' := .u64) rfl rfl (by kernel_rfl) (by kernel_rfl) (hF.ev 0 rfl) (Nat.mod_eq_of_lt (by show _ < 18446744073709551616; omega))) rfl (fun _ _ => rfl) (kM [false, true, true, true, true] rfl rfl) (by decide) ?_
    refine pxV (v := (.int .u64 (((n * 256 + x8.toNat) : Nat) : Int))) (fun _ _ hF => opOrU (m := n * 256) (j := x8.toNat) (z := (n * 256 + x8.toNat)) rfl rfl (hF.ev 1 rfl) (hF.ev 0 rfl) (by show _ < 18446744073709551616; omega) (by show _ < 18446744073709551616; omega) (or_add (by omega))) rfl (fun _ _ => rfl) (kM [false, false, true, true, true] rfl rfl) (by decide) ?_
    refine pxV (v := (.int .u64 (((n * 256 + x8.toNat) : Nat) : Int))) (fun _ _ hF => opAssign rfl (hF.ev 0 rfl)) rfl (fun _ _ => rfl) (kM [false, true, true, true] rfl rfl) (by decide) ?_
    refine pxEnd ?_
    refine qxInN ?_
    refine qxThen ?_
    refine cxReg ?_
    refine pxV (v := (.int .i64 (((i + 1) : Nat) : Int))) (fun _ _ hF => opAdd rfl (hF.ev 1 rfl) rfl (wI (by omega) (by omega) (by omega))) rfl (fun _ _ => rfl) (kM [true, false, true, true] rfl rfl) (by decide) ?_
    refine pxV (v := (.int .i64 (((i + 1) : Nat) : Int))) (fun _ _ hF => opMove rfl (hF.ev 0 rfl)) rfl (fun _ _ => rfl) (kM [false, true, true, true] rfl rfl) (by decide) ?_
    refine pxEnd ?_
    exact qxRound (i + 1, n * 256 + x8.toNat) ⟨hH, (show (i + 1) ≤ l.length from (by omega)), (by rw [hn, beN_take hx9])⟩ (by omega) (slots_at [0, 2, 1, 3] rfl)
  · refine cxExit ?_
    refine qxThenE ?_
    refine qxThenE ?_
    refine qxInE ?_
    refine qxThen ?_
    refine cxSeq ?_
    refine cxReg ?_
    refine pxV (v := (.int .u64 (((n) : Nat) : Int))) (fun _ _ hF => opMove rfl (hF.ev 3 rfl)) rfl (fun _ _ => rfl) (kM [false, false, false, false, false] rfl rfl) (by decide) ?_
    refine pxV (v := (.int .u64 (((n) : Nat) : Int))) (fun _ _ hF => opAssign rfl (hF.ev 0 rfl)) rfl (fun _ _ => rfl) (kM [false] rfl rfl) (by decide) ?_
    refine pxEnd ?_
    refine qxThen ?_
    refine cxRet ?_
    refine qxRet1 0 rfl rfl ?_
    have he : n = beN l := by rw [hn, List.take_of_length_le (by omega)]
    exact ⟨by rw [he], HH.toBelow hH⟩

set_option maxHeartbeats 8000000 in
theorem bytes_r (n m : Nat) (h8 : m ≤ 8) : Does Try.prog 19 #[(.int .u64 (((n) : Nat) : Int)), (.int .i64 (((m) : Nat) : Int))] [] (fun _ => True) (fun v E' => OwnT cByte 5 v (beL m n) E') := by
  refine does_of (fn := Try.f19) Try.func19 rfl Try.ntmps19 (Nat.le_of_ble_eq_true rfl) rfl ?_
  intro w0 hH hR
  replace hH : HH w0 [] [] w0 := hH.only [false]
  refine cxSeq ?_
  refine cxReg ?_
  refine pxV (v := (.slice none 0 0)) (fun _ _ hF => opAssign rfl rfl) rfl (fun _ _ => rfl) (kA rfl) (by decide) ?_
  refine pxEnd ?_
  refine qxThen ?_
  refine cxSeq ?_
  refine cxReg ?_
  refine pxV (v := (.int .i64 (((m) : Nat) : Int))) (fun _ _ hF => opMove rfl (hF.ev 2 rfl)) rfl (fun _ _ => rfl) (kM [false, true, true] rfl rfl) (by decide) ?_
  refine pxM hH (fun _ hF => smMake (e := 5) (n := m) (sz := 1) (by_ := 1) (z := (.int .u8 0)) (cs := madeCells (cByte.enc 0) (m * 1)) rfl (by kernel_rfl) (by kernel_rfl) (hF.ev 0 rfl) (hF.ev 0 rfl) rfl rfl (by omega) (by omega) rfl) trivial rfl (fun _ _ => rfl) (kM [false, true, true] rfl rfl) (by decide) ?_
  clear hH
  rintro _ _ w ⟨g1, rfl, rfl⟩ hH
  replace hH : HH w0 [] [[bl g1 5 (madeCells (cByte.enc 0) (m * 1))]] w := hH
  refine pxV (v := (.slice (some ⟨g1, 0, none⟩) m m)) (fun _ _ hF => opAssign rfl (hF.ev 0 rfl)) rfl (fun _ _ => rfl) (kM [false, true, true] rfl rfl) (by decide) ?_
  refine pxEnd ?_
  refine qxThen ?_
  refine cxSeq ?_
  refine cxSeq ?_
  refine cxReg ?_
  refine pxV (v := (.int .i64 (((m) : Nat) : Int))) (fun _ _ hF => opMove rfl (hF.ev 2 rfl)) rfl (fun _ _ => rfl) (kA rfl) (by decide) ?_
  refine pxV (v := (.int .i64 0)) (fun _ _ hF => opMove rfl rfl) rfl (fun _ _ => rfl) (kA rfl) (by decide) ?_
  refine pxEnd ?_
  refine qxThen ?_
  refine cxBlock ?_
  refine cxLoop (σ := Nat × (List UInt8) × (Array Value)) (fun x => [(10, (.int .i64 (((x.1) : Nat) : Int))), (9, (.int .i64 (((m) : Nat) : Int))), (5, (.slice (some ⟨g1, 0, none⟩) m m)), (1, (.int .i64 (((m) : Nat) : Int))), (0, (.int .u64 (((n) : Nat) : Int)))]) (fun x w => HH w0 [] [[bl g1 5 x.2.2]] w ∧ (x.1 ≤ m) ∧ (Bk cByte m x.2.2 x.2.1) ∧ (x.2.1.length = m) ∧ (x.2.1 = List.replicate (m - x.1) 0 ++ (beL m n).drop (m - x.1))) (fun x => m - x.1) (0, (List.replicate m 0), (madeCells (cByte.enc 0) (m * 1))) ⟨hH, (Nat.zero_le _), (Bk.make (C := cByte) 0 m (ltb rfl) (by unfold maxLen; omega)), List.length_replicate, (by rw [Nat.sub_zero, List.drop_eq_nil_of_le (by rw [beL_len]; exact Nat.le_refl _), List.append_nil])⟩ (slots_at [0, 1, 2, 4, 3] rfl) ?_
  clear hH
  rintro ⟨i, L, cur'⟩ w ⟨hH, hi, hB', hlen, hL⟩
  change CX _ _ _ _ [(10, (.int .i64 (((i) : Nat) : Int))), (9, (.int .i64 (((m) : Nat) : Int))), (5, (.slice (some ⟨g1, 0, none⟩) m m)), (1, (.int .i64 (((m) : Nat) : Int))), (0, (.int .u64 (((n) : Nat) : Int)))] _
  replace hH : HH w0 [] [[bl g1 5 cur']] w := hH
  replace hi : i ≤ m := hi
  replace hB' : Bk cByte m cur' L := hB'
  replace hlen : L.length = m := hlen
  replace hL : L = List.replicate (m - i) 0 ++ (beL m n).drop (m - i) := hL
  refine cxSeq ?_
  refine cxReg ?_
  refine pxV (v := (.bool (decide (i < m)))) (fun _ _ hF => opLss rfl (hF.ev 0 rfl) (hF.ev 1 rfl) (dc (by omega))) rfl (fun _ _ => rfl) (kA rfl) (by decide) ?_
  refine pxEnd ?_
  refine qxThen ?_
  refine cxSeq ?_
  refine cxP 0 rfl rfl (fun hc2 => ?_) (fun hc2 => ?_)
  · refine cxSkip ?_
    refine qxThen ?_
    refine cxSeq ?_
    refine cxBlock ?_
    refine cxSeq ?_
    refine cxReg ?_
    refine pxV (v := (.int .i64 (((i) : Nat) : Int))) (fun _ _ hF => opMove rfl (hF.ev 1 rfl)) rfl (fun _ _ => rfl) (kM [false, true, true, true, true, true] rfl rfl) (by decide) ?_
    refine pxV (v := (.int .i64 (((i) : Nat) : Int))) (fun _ _ hF => opAssign rfl (hF.ev 0 rfl)) rfl (fun _ _ => rfl) (kM [false, true, true, true, true, true] rfl rfl) (by decide) ?_
    refine pxEnd ?_
    refine qxThen ?_
    refine cxReg ?_
    refine pxV (v := (.slice (some ⟨g1, 0, none⟩) m m)) (fun _ _ hF => opMove rfl (hF.ev 3 rfl)) rfl (fun _ _ => rfl) (kA rfl) (by decide) ?_
    refine pxV (v := (.int .i64 (((m) : Nat) : Int))) (fun _ _ hF => opMove rfl (hF.ev 5 rfl)) rfl (fun _ _ => rfl) (kA rfl) (by decide) ?_
    refine pxV (v := (.int .i64 (((m - 1) : Nat) : Int))) (fun _ _ hF => opSub rfl (hF.ev 0 rfl) rfl (wI (by omega) (by omega) (by omega))) rfl (fun _ _ => rfl) (kM [false, true, true, true, true, true, true, true] rfl rfl) (by decide) ?_
    refine pxV (v := (.int .i64 (((i) : Nat) : Int))) (fun _ _ hF => opMove rfl (hF.ev 2 rfl)) rfl (fun _ _ => rfl) (kA rfl) (by decide) ?_
    refine pxV (v := (.int .i64 (((m - 1 - i) : Nat) : Int))) (fun _ _ hF => opSub rfl (hF.ev 1 rfl) (hF.ev 0 rfl) (wI (by omega) (by omega) (by omega))) rfl (fun _ _ => rfl) (kM [false, false, true, true, true, true, true, true, true] rfl rfl) (by decide) ?_
    refine pxV (v := (.int .u64 (((n) : Nat) : Int))) (fun _ _ hF => opMove rfl (hF.ev 7 rfl)) rfl (fun _ _ => rfl) (kA rfl) (by decide) ?_
    refine pxV (v := (.int .i64 (((i) : Nat) : Int))) (fun _ _ hF => opMove rfl (hF.ev 3 rfl)) rfl (fun _ _ => rfl) (kM [true, true, true, false, true, true, true, true, true] rfl rfl) (by decide) ?_
    refine pxV (v := (.int .i64 (((8 * i) : Nat) : Int))) (fun _ _ hF => opMul rfl rfl (hF.ev 0 rfl) (wI (by omega) (by omega) (by omega))) rfl (fun _ _ => rfl) (kM [false, true, true, true, true, true, true, true, true] rfl rfl) (by decide) ?_
    refine pxV (v := (.int .u64 (((n / 2 ^ (8 * i)) : Nat) : Int))) (fun _ _ hF => opShrU (n := 8 * i) (z := (n / 2 ^ (8 * i))) rfl (hF.ev 1 rfl) (hF.ev 0 rfl) (by show _ ≤ 64; omega) (rfl)) rfl (fun _ _ => rfl) (kM [false, false, true, true, true, true, true, true, true] rfl rfl) (by decide) ?_
    refine pxV (v := (.int .u8 ((((UInt8.ofNat (n / 2 ^ (8 * i))).toNat) : Nat) : Int))) (fun _ _ hF => opConvU (k' := .u8) rfl rfl (by kernel_rfl) (by kernel_rfl) (hF.ev 0 rfl) (UInt8.toNat_ofNat' (n := n / 2 ^ (8 * i))).symm) rfl (fun _ _ => rfl) (kM [false, true, true, true, true, true, true, true] rfl rfl) (by decide) ?_
    have hi3 : m - 1 - i < m := by omega
    have hj6 : m - 1 - i < L.length := by first | exact hi3 | (simp only [List.length_drop, List.length_take]; omega) | omega
    obtain ⟨x4, hx5⟩ := get_at L (m - 1 - i) hj6
    have hb7 := UInt8.toNat_lt x4
    refine pxV (v := (.pointer (some ⟨g1, 0 + (m - 1 - i) * 1, none⟩))) (fun _ _ hF => opIndex (i := m - 1 - i) (e := 5) (sz := 1) rfl (by kernel_rfl) (by kernel_rfl) (hF.ev 2 rfl) (hF.ev 1 rfl) rfl hi3) rfl (fun _ _ => rfl) (kM [true, false, false, true, true, true, true, true] rfl rfl) (by decide) ?_
    obtain ⟨cur9, hcs10, hB8⟩ : ∃ cs, putL cur' (0 + (m - 1 - i) * 1) (cByte.enc (UInt8.ofNat (n / 2 ^ (8 * i)))).toList = cs ∧ Bk cByte m cs (L.set (m - 1 - i) (UInt8.ofNat (n / 2 ^ (8 * i)))) := ⟨_, rfl, put_at hB' (m - 1 - i) hj6 (UInt8.ofNat (n / 2 ^ (8 * i)))⟩
    refine pxE0 0 hH rfl (fun _ hF => smStoreT (C := cByte) (z := (UInt8.ofNat (n / 2 ^ (8 * i)))) rfl (hF.ev 0 rfl) (hF.ev 1 rfl) rfl (by kernel_rfl) (room_at hB' hj6) hcs10) trivial rfl (fun _ _ => rfl) ?_
    clear hH
    rintro _ _ w rfl hH
    replace hH : HH w0 [] [[bl g1 5 cur9]] w := hH
    refine pxEnd ?_
    refine qxInN ?_
    refine qxThen ?_
    refine cxReg ?_
    refine pxV (v := (.int .i64 (((i + 1) : Nat) : Int))) (fun _ _ hF => opAdd rfl (hF.ev 2 rfl) rfl (wI (by omega) (by omega) (by omega))) rfl (fun _ _ => rfl) (kM [false, false, false, true, true, true, true] rfl rfl) (by decide) ?_
    refine pxV (v := (.int .i64 (((i + 1) : Nat) : Int))) (fun _ _ hF => opMove rfl (hF.ev 0 rfl)) rfl (fun _ _ => rfl) (kM [false, true, true, true, true] rfl rfl) (by decide) ?_
    refine pxEnd ?_
    exact qxRound (i + 1, (L.set (m - 1 - i) (UInt8.ofNat (n / 2 ^ (8 * i)))), cur9) ⟨hH, (show (i + 1) ≤ m from (by omega)), hB8, (by rw [List.length_set]; exact hlen), (show (L.set (m - 1 - i) (UInt8.ofNat (n / 2 ^ (8 * i)))) = List.replicate (m - (i + 1)) 0 ++ (beL m n).drop (m - (i + 1)) from (by rw [hL]; exact bytes_step (by omega)))⟩ (by omega) (slots_at [0, 1, 2, 3, 4] rfl)
  · refine cxExit ?_
    refine qxThenE ?_
    refine qxThenE ?_
    refine qxInE ?_
    refine qxThen ?_
    refine cxSeq ?_
    refine cxReg ?_
    refine pxV (v := (.slice (some ⟨g1, 0, none⟩) m m)) (fun _ _ hF => opMove rfl (hF.ev 3 rfl)) rfl (fun _ _ => rfl) (kM [false, false, false, false, false, false] rfl rfl) (by decide) ?_
    refine pxV (v := (.slice (some ⟨g1, 0, none⟩) m m)) (fun _ _ hF => opAssign rfl (hF.ev 0 rfl)) rfl (fun _ _ => rfl) (kM [false] rfl rfl) (by decide) ?_
    refine pxEnd ?_
    refine qxThen ?_
    refine cxRet ?_
    refine qxRet1 0 rfl rfl ?_
    have he : L = beL m n := by rw [hL, show m - i = 0 by omega]; rfl
    exact ⟨_, _, rfl, (he ▸ hB'.own 5 g1 hlen), hH.out1 [true] rfl⟩
end Go.Proofs.Ytjncbpmigpocbaa
