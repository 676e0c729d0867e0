/- The program's running hash (mkspc.py writes this text). -/
import Derived.Test.YticflflbogdljaaDoorSpB
namespace Go.Proofs.YticflflbogdljaaDoor
open Go Go.RowKit
set_option maxRecDepth 100000

/-- A hash that has taken l. -/
def HaAt (g : Nat) (l : List UInt8) (E : Hl) : Prop := ∃ s r, E = [bl g 53 (cHa.enc (s, r, l.length))] ∧ HaS s r l.length fun j => l.getD j 0

set_option maxHeartbeats 8000000 in
theorem padding_c (n L : Nat) (hL : L = 64 * nb32 n - n) (hn : n ≤ 1152921504606846976) : Does Tryd.prog 23 #[(.int .u64 (((n) : Nat) : Int)), (.int .i64 64), (.int .i64 8)] [] (fun _ => True) (fun v E' => OwnT cByte 5 v (pdL n) E') := by
  refine does_of (fn := Tryd.f23) Tryd.func23 rfl Tryd.ntmps23 (Nat.le_of_ble_eq_true rfl) rfl ?_
  intro w0 hH hR
  replace hH : HH w0 [] [] w0 := hH.only [false]
  have hL2 : L = 64 - (n + 8) % 64 + 8 := by rw [hL]; unfold nb32; omega
  refine cxSeq ?_
  refine cxReg ?_
  refine pxV (v := (.slice none 0 0)) (fun _ _ hF => opAssign rfl rfl) rfl (fun _ _ => rfl) (kA rfl) (by decide) ?_
  refine pxEnd ?_
  refine qxThen ?_
  refine cxSeq ?_
  refine cxReg ?_
  refine pxV (v := (.int .i64 64)) (fun _ _ hF => opMove rfl (hF.ev 2 rfl)) rfl (fun _ _ => rfl) (kM [false, true, true, true] rfl rfl) (by decide) ?_
  refine pxV (v := (.int .u64 (((n) : Nat) : Int))) (fun _ _ hF => opMove rfl (hF.ev 1 rfl)) rfl (fun _ _ => rfl) (kA rfl) (by decide) ?_
  refine pxV (v := (.int .i64 8)) (fun _ _ hF => opMove rfl (hF.ev 4 rfl)) rfl (fun _ _ => rfl) (kA rfl) (by decide) ?_
  refine pxV (v := (.int .u64 8)) (fun _ _ hF => opConvU (k' := .u64) (m := 8) rfl rfl (by kernel_rfl) (by kernel_rfl) (hF.ev 0 rfl) (Nat.mod_eq_of_lt (by show _ < 18446744073709551616; omega))) rfl (fun _ _ => rfl) (kM [false, true, true, true, true, true] rfl rfl) (by decide) ?_
  refine pxV (v := (.int .u64 (((n + 8) : Nat) : Int))) (fun _ _ hF => opAddU (m := n) (j := 8) (z := (n + 8)) rfl rfl (hF.ev 1 rfl) (hF.ev 0 rfl) (Nat.mod_eq_of_lt (by show _ < 18446744073709551616; omega))) rfl (fun _ _ => rfl) (kM [false, false, true, true, true, true] rfl rfl) (by decide) ?_
  refine pxV (v := (.int .i64 64)) (fun _ _ hF => opMove rfl (hF.ev 3 rfl)) rfl (fun _ _ => rfl) (kM [true, true, true, false, true] rfl rfl) (by decide) ?_
  refine pxV (v := (.int .u64 64)) (fun _ _ hF => opConvU (k' := .u64) (m := 64) rfl rfl (by kernel_rfl) (by kernel_rfl) (hF.ev 0 rfl) (Nat.mod_eq_of_lt (by show _ < 18446744073709551616; omega))) rfl (fun _ _ => rfl) (kM [false, true, true, true, true] rfl rfl) (by decide) ?_
  refine pxV (v := (.int .u64 ((((n + 8) % 64) : Nat) : Int))) (fun _ _ hF => opRem (z := (((n + 8) % 64 : Nat) : Int)) rfl (hF.ev 1 rfl) (hF.ev 0 rfl) (by omega) remN) rfl (fun _ _ => rfl) (kM [false, false, true, true, true] rfl rfl) (by decide) ?_
  refine pxV (v := (.int .i64 ((((n + 8) % 64) : Nat) : Int))) (fun _ _ hF => opConvI (k' := .i64) rfl (by kernel_rfl) (by kernel_rfl) (hF.ev 0 rfl) (wI rfl (by omega) (by omega))) rfl (fun _ _ => rfl) (kM [false, true, true, true] rfl rfl) (by decide) ?_
  refine pxV (v := (.int .i64 (((64 - (n + 8) % 64) : Nat) : Int))) (fun _ _ hF => opSub rfl (hF.ev 1 rfl) (hF.ev 0 rfl) (wI (by omega) (by omega) (by omega))) rfl (fun _ _ => rfl) (kM [false, false, true, true] rfl rfl) (by decide) ?_
  refine pxV (v := (.int .i64 (((64 - (n + 8) % 64) : Nat) : Int))) (fun _ _ hF => opAssign rfl (hF.ev 0 rfl)) rfl (fun _ _ => rfl) (kM [false, true, true] rfl rfl) (by decide) ?_
  refine pxEnd ?_
  refine qxThen ?_
  refine cxSeq ?_
  refine cxReg ?_
  refine pxV (v := (.int .i64 (((64 - (n + 8) % 64) : Nat) : Int))) (fun _ _ hF => opMove rfl (hF.ev 0 rfl)) rfl (fun _ _ => rfl) (kM [false, true, true] rfl rfl) (by decide) ?_
  refine pxV (v := (.int .i64 8)) (fun _ _ hF => opMove rfl (hF.ev 2 rfl)) rfl (fun _ _ => rfl) (kM [true, true, false] rfl rfl) (by decide) ?_
  refine pxV (v := (.int .i64 (((L) : Nat) : Int))) (fun _ _ hF => opAdd rfl (hF.ev 1 rfl) (hF.ev 0 rfl) (wI (by omega) (by omega) (by omega))) rfl (fun _ _ => rfl) (kM [false, false, true] rfl rfl) (by decide) ?_
  refine pxM hH (fun _ hF => smMake (e := 5) (n := L) (sz := 1) (by_ := 1) (z := (.int .u8 0)) (cs := madeCells (cByte.enc (0 : UInt8)) (L * 1)) rfl (by kernel_rfl) (by kernel_rfl) (hF.ev 0 rfl) (hF.ev 0 rfl) rfl rfl (by omega) (by omega) rfl) trivial rfl (fun _ _ => rfl) (kM [false, true] rfl rfl) (by decide) ?_
  clear hH
  rintro _ _ w ⟨g1, rfl, rfl⟩ hH
  replace hH : HH w0 [] [[bl g1 5 (madeCells (cByte.enc (0 : UInt8)) (L * 1))]] w := hH
  refine pxV (v := (.slice (some ⟨g1, 0, none⟩) L L)) (fun _ _ hF => opAssign rfl (hF.ev 0 rfl)) rfl (fun _ _ => rfl) (kM [false, true] rfl rfl) (by decide) ?_
  refine pxEnd ?_
  refine qxThen ?_
  refine cxSeq ?_
  refine cxReg ?_
  refine pxV (v := (.slice (some ⟨g1, 0, none⟩) L L)) (fun _ _ hF => opMove rfl (hF.ev 0 rfl)) rfl (fun _ _ => rfl) (kA rfl) (by decide) ?_
  have hi2 : 0 < L := by omega
  have hj5 : 0 < (List.replicate L (0 : UInt8)).length := by rw [List.length_replicate]; omega
  obtain ⟨x3, hx4⟩ := get_at (List.replicate L (0 : UInt8)) 0 hj5
  have hb6 := UInt8.toNat_lt x3
  refine pxV (v := (.pointer (some ⟨g1, 0 + 0 * 1, none⟩))) (fun _ _ hF => opIndex (i := 0) (e := 5) (sz := 1) rfl (by kernel_rfl) (by kernel_rfl) (hF.ev 0 rfl) rfl rfl hi2) rfl (fun _ _ => rfl) (kM [false, true, true] rfl rfl) (by decide) ?_
  obtain ⟨cur8, hcs9, hB7⟩ : ∃ cs, putL (madeCells (cByte.enc (0 : UInt8)) (L * 1)) (0 + 0 * 1) (cByte.enc 128).toList = cs ∧ Bk cByte L cs ((List.replicate L (0 : UInt8)).set 0 128) := ⟨_, rfl, put_at (Bk.make (C := cByte) (0 : UInt8) L (ltb rfl) (by unfold maxLen; omega)) 0 hj5 128⟩
  refine pxE0 0 hH rfl (fun _ hF => smStoreT (C := cByte) (z := 128) rfl (hF.ev 0 rfl) rfl rfl (by kernel_rfl) (room_at (Bk.make (C := cByte) (0 : UInt8) L (ltb rfl) (by unfold maxLen; omega)) hj5) hcs9) trivial rfl (fun _ _ => rfl) ?_
  clear hH
  rintro _ _ w rfl hH
  replace hH : HH w0 [] [[bl g1 5 cur8]] w := hH
  refine pxEnd ?_
  refine qxThen ?_
  refine cxSeq ?_
  refine cxReg ?_
  refine pxV (v := (.int .u64 (((n) : Nat) : Int))) (fun _ _ hF => opMove rfl (hF.ev 2 rfl)) rfl (fun _ _ => rfl) (kM [false, true, false] rfl rfl) (by decide) ?_
  refine pxV (v := (.int .u64 (((n * 8) : Nat) : Int))) (fun _ _ hF => opMulU (m := n) (j := 8) (z := (n * 8)) rfl rfl (hF.ev 0 rfl) rfl (Nat.mod_eq_of_lt (by show _ < 18446744073709551616; omega))) rfl (fun _ _ => rfl) (kM [false, true] rfl rfl) (by decide) ?_
  refine pxV (v := (.int .u64 (((n * 8) : Nat) : Int))) (fun _ _ hF => opAssign rfl (hF.ev 0 rfl)) rfl (fun _ _ => rfl) (kM [false, true] rfl rfl) (by decide) ?_
  refine pxEnd ?_
  refine qxThen ?_
  refine cxSeq ?_
  refine cxSeq ?_
  refine cxReg ?_
  refine pxV (v := (.int .i64 0)) (fun _ _ hF => opMove rfl rfl) rfl (fun _ _ => rfl) (kA rfl) (by decide) ?_
  refine pxEnd ?_
  refine qxThen ?_
  refine cxBlock ?_
  refine cxLoop (σ := Nat × (Array Value)) (fun x => [(29, (.int .i64 (((x.1) : Nat) : Int))), (9, (.int .u64 (((n * 8) : Nat) : Int))), (8, (.slice (some ⟨g1, 0, none⟩) L L))]) (fun x w => HH w0 [] [[bl g1 5 x.2]] w ∧ (x.1 ≤ 8) ∧ (Bk cByte L x.2 (lst L (pm32 L n x.1)))) (fun x => 8 - x.1) (0, cur8) ⟨hH, (Nat.zero_le _), (pm_begin (show 0 < L by omega) ▸ hB7)⟩ (slots_at [0, 1, 2] rfl) ?_
  clear hH
  rintro ⟨m, cur'⟩ w ⟨hH, hm, hB'⟩
  change CX _ _ _ _ [(29, (.int .i64 (((m) : Nat) : Int))), (9, (.int .u64 (((n * 8) : Nat) : Int))), (8, (.slice (some ⟨g1, 0, none⟩) L L))] _
  replace hH : HH w0 [] [[bl g1 5 cur']] w := hH
  replace hm : m ≤ 8 := hm
  replace hB' : Bk cByte L cur' (lst L (pm32 L n m)) := hB'
  refine cxSeq ?_
  refine cxReg ?_
  refine pxV (v := (.bool (decide (m < 8)))) (fun _ _ hF => opLss rfl (hF.ev 0 rfl) rfl (dc (by omega))) rfl (fun _ _ => rfl) (kA rfl) (by decide) ?_
  refine pxEnd ?_
  refine qxThen ?_
  refine cxSeq ?_
  refine cxP 0 rfl rfl (fun hc10 => ?_) (fun hc10 => ?_)
  · refine cxSkip ?_
    refine qxThen ?_
    refine cxSeq ?_
    refine cxBlock ?_
    refine cxSeq ?_
    refine cxReg ?_
    refine pxV (v := (.int .i64 (((m) : Nat) : Int))) (fun _ _ hF => opMove rfl (hF.ev 1 rfl)) rfl (fun _ _ => rfl) (kM [false, true, true, true] rfl rfl) (by decide) ?_
    refine pxV (v := (.int .i64 (((m) : Nat) : Int))) (fun _ _ hF => opAssign rfl (hF.ev 0 rfl)) rfl (fun _ _ => rfl) (kM [false, true, true, true] rfl rfl) (by decide) ?_
    refine pxEnd ?_
    refine qxThen ?_
    refine cxReg ?_
    refine pxV (v := (.slice (some ⟨g1, 0, none⟩) L L)) (fun _ _ hF => opMove rfl (hF.ev 3 rfl)) rfl (fun _ _ => rfl) (kA rfl) (by decide) ?_
    refine pxV (v := (.slice (some ⟨g1, 0, none⟩) L L)) (fun _ _ hF => opMove rfl (hF.ev 4 rfl)) rfl (fun _ _ => rfl) (kA rfl) (by decide) ?_
    refine pxV (v := (.int .i64 (((L) : Nat) : Int))) (fun _ _ hF => opLen (e := 5) rfl (by kernel_rfl) (hF.ev 0 rfl)) rfl (fun _ _ => rfl) (kM [false, true, true, true, true, true] rfl rfl) (by decide) ?_
    refine pxV (v := (.int .i64 (((L - 1) : Nat) : Int))) (fun _ _ hF => opSub rfl (hF.ev 0 rfl) rfl (wI (by omega) (by omega) (by omega))) rfl (fun _ _ => rfl) (kM [false, true, true, true, true, true] rfl rfl) (by decide) ?_
    refine pxV (v := (.int .i64 (((m) : Nat) : Int))) (fun _ _ hF => opMove rfl (hF.ev 2 rfl)) rfl (fun _ _ => rfl) (kA rfl) (by decide) ?_
    refine pxV (v := (.int .i64 (((L - 1 - m) : Nat) : Int))) (fun _ _ hF => opSub rfl (hF.ev 1 rfl) (hF.ev 0 rfl) (wI (by omega) (by omega) (by omega))) rfl (fun _ _ => rfl) (kM [false, false, true, true, true, true, true] rfl rfl) (by decide) ?_
    refine pxV (v := (.int .u64 (((n * 8) : Nat) : Int))) (fun _ _ hF => opMove rfl (hF.ev 4 rfl)) rfl (fun _ _ => rfl) (kA rfl) (by decide) ?_
    refine pxV (v := (.int .i64 (((m) : Nat) : Int))) (fun _ _ hF => opMove rfl (hF.ev 3 rfl)) rfl (fun _ _ => rfl) (kM [true, true, true, false, true, true, true] rfl rfl) (by decide) ?_
    refine pxV (v := (.int .i64 (((8 * m) : Nat) : Int))) (fun _ _ hF => opMul rfl rfl (hF.ev 0 rfl) (wI (by omega) (by omega) (by omega))) rfl (fun _ _ => rfl) (kM [false, true, true, true, true, true, true] rfl rfl) (by decide) ?_
    refine pxV (v := (.int .u64 ((((n * 8) / 2 ^ (8 * m)) : Nat) : Int))) (fun _ _ hF => opShrU (n := 8 * m) (z := ((n * 8) / 2 ^ (8 * m))) rfl (hF.ev 1 rfl) (hF.ev 0 rfl) (by show _ ≤ 64; omega) (rfl)) rfl (fun _ _ => rfl) (kM [false, false, true, true, true, true, true] rfl rfl) (by decide) ?_
    refine pxV (v := (.int .u8 ((((UInt8.ofNat ((n * 8) / 2 ^ (8 * m))).toNat) : Nat) : Int))) (fun _ _ hF => opConvU (k' := .u8) rfl rfl (by kernel_rfl) (by kernel_rfl) (hF.ev 0 rfl) (UInt8.toNat_ofNat' (n := (n * 8) / 2 ^ (8 * m))).symm) rfl (fun _ _ => rfl) (kM [false, true, true, true, true, true] rfl rfl) (by decide) ?_
    have hi11 : L - 1 - m < L := by omega
    have hj14 : L - 1 - m < (lst L (pm32 L n m)).length := by rw [lst_len]; omega
    obtain ⟨x12, hx13⟩ := get_at (lst L (pm32 L n m)) (L - 1 - m) hj14
    have hb15 := UInt8.toNat_lt x12
    refine pxV (v := (.pointer (some ⟨g1, 0 + (L - 1 - m) * 1, none⟩))) (fun _ _ hF => opIndex (i := L - 1 - m) (e := 5) (sz := 1) rfl (by kernel_rfl) (by kernel_rfl) (hF.ev 2 rfl) (hF.ev 1 rfl) rfl hi11) rfl (fun _ _ => rfl) (kM [true, false, false, true, true, true] rfl rfl) (by decide) ?_
    obtain ⟨cur17, hcs18, hB16⟩ : ∃ cs, putL cur' (0 + (L - 1 - m) * 1) (cByte.enc (UInt8.ofNat ((n * 8) / 2 ^ (8 * m)))).toList = cs ∧ Bk cByte L cs ((lst L (pm32 L n m)).set (L - 1 - m) (UInt8.ofNat ((n * 8) / 2 ^ (8 * m)))) := ⟨_, rfl, put_at hB' (L - 1 - m) hj14 (UInt8.ofNat ((n * 8) / 2 ^ (8 * m)))⟩
    refine pxE0 0 hH rfl (fun _ hF => smStoreT (C := cByte) (z := (UInt8.ofNat ((n * 8) / 2 ^ (8 * m)))) rfl (hF.ev 0 rfl) (hF.ev 1 rfl) rfl (by kernel_rfl) (room_at hB' hj14) hcs18) trivial rfl (fun _ _ => rfl) ?_
    clear hH
    rintro _ _ w rfl hH
    replace hH : HH w0 [] [[bl g1 5 cur17]] w := hH
    refine pxEnd ?_
    refine qxInN ?_
    refine qxThen ?_
    refine cxReg ?_
    refine pxV (v := (.int .i64 (((m + 1) : Nat) : Int))) (fun _ _ hF => opAdd rfl (hF.ev 2 rfl) rfl (wI (by omega) (by omega) (by omega))) rfl (fun _ _ => rfl) (kM [false, false, false, true, true] rfl rfl) (by decide) ?_
    refine pxV (v := (.int .i64 (((m + 1) : Nat) : Int))) (fun _ _ hF => opMove rfl (hF.ev 0 rfl)) rfl (fun _ _ => rfl) (kM [false, true, true] rfl rfl) (by decide) ?_
    refine pxEnd ?_
    exact qxRound (m + 1, cur17) ⟨hH, (show (m + 1) ≤ 8 from (by omega)), (show Bk cByte L cur17 (lst L (pm32 L n (m + 1))) from (pm_step (show m < L by omega) ▸ hB16))⟩ (by omega) (slots_at [0, 1, 2] rfl)
  · refine cxExit ?_
    refine qxThenE ?_
    refine qxThenE ?_
    refine qxInE ?_
    refine qxThen ?_
    refine cxSeq ?_
    refine cxReg ?_
    refine pxV (v := (.slice (some ⟨g1, 0, none⟩) L L)) (fun _ _ hF => opMove rfl (hF.ev 3 rfl)) rfl (fun _ _ => rfl) (kM [false, false, false, false] rfl rfl) (by decide) ?_
    refine pxV (v := (.slice (some ⟨g1, 0, none⟩) L L)) (fun _ _ hF => opAssign rfl (hF.ev 0 rfl)) rfl (fun _ _ => rfl) (kM [false] rfl rfl) (by decide) ?_
    refine pxEnd ?_
    refine qxThen ?_
    refine cxRet ?_
    refine qxRet1 0 rfl rfl ?_
    obtain rfl : m = 8 := by omega
    have he : lst L (pm32 L n 8) = pdL n := by rw [hL]; rfl
    exact ⟨_, _, rfl, (he ▸ hB'.own 5 g1 (lst_len _ _)), hH.out1 [true] rfl⟩

set_option maxHeartbeats 8000000 in
theorem write_in (g k : Nat) (s : Nat → UInt32) (r F : Nat → UInt8) (A : Option Addr) (n c : Nat) (m : List UInt8) (hS : HaS s r k F) (hF : ∀ j x, m[j]? = some x → F (k + j) = x) (hb : k + n ≤ 1152921504606846976) : Does Tryd.prog 17 #[(.pointer (some ⟨g, 0, none⟩)), (.slice A n c)] [bl g 53 (cHa.enc (s, r, k))] (fun w => w.heap[1]? = some (.cells ((cWs 64).enc K32) 46 (0, 0)) ∧ Vu cByte w A n c m ∧ Off A n [g]) (fun v E' => v = .tuple #[] ∧ ∃ s' r', E' = [bl g 53 (cHa.enc (s', r', k + n))] ∧ HaS s' r' (k + n) F) := by
  refine does_of (fn := Tryd.f17) Tryd.func17 rfl Tryd.ntmps17 (Nat.le_of_ble_eq_true rfl) rfl ?_
  intro w0 hH hR
  replace hH : HH w0 [g] [[bl g 53 (cHa.enc (s, r, k))]] w0 := hH
  have hng := ne_ty hR.1 (hH.blk 0 rfl) rfl
  refine cxSeq ?_
  refine cxSeq ?_
  refine cxReg ?_
  refine pxV (v := (.pointer (some ⟨g, 0, none⟩))) (fun _ _ hF => opMove rfl (hF.ev 0 rfl)) rfl (fun _ _ => rfl) (kA rfl) (by decide) ?_
  refine pxV (v := (.bool false)) (fun _ _ hF => opEqNil (e := 53) rfl (by kernel_rfl) (hF.ev 0 rfl) rfl rfl) rfl (fun _ _ => rfl) (kM [false, true, true] rfl rfl) (by decide) ?_
  refine pxEnd ?_
  refine qxThen ?_
  refine cxF 0 rfl rfl ?_
  refine cxSkip ?_
  refine qxThen ?_
  refine cxBlock ?_
  refine cxLoop (σ := (Option Addr) × Nat × Nat × (List UInt8) × (Nat → UInt32) × (Nat → UInt8) × Nat) (fun x => [(1, (.slice x.1 x.2.1 x.2.2.1)), (0, (.pointer (some ⟨g, 0, none⟩)))]) (fun x w => HH w0 [g] [[bl g 53 (cHa.enc (x.2.2.2.2.1, x.2.2.2.2.2.1, x.2.2.2.2.2.2))]] w ∧ (Vu cByte w0 x.1 x.2.1 x.2.2.1 x.2.2.2.1) ∧ (Off x.1 x.2.1 [g]) ∧ (HaS x.2.2.2.2.1 x.2.2.2.2.2.1 x.2.2.2.2.2.2 F) ∧ (∀ j z, x.2.2.2.1[j]? = some z → F (x.2.2.2.2.2.2 + j) = z) ∧ (x.2.2.2.2.2.2 + x.2.1 = k + n)) (fun x => x.2.1) (A, n, c, m, s, r, k) ⟨hH, hR.2.1, hR.2.2, hS, hF, rfl⟩ (slots_at [2, 1] rfl) ?_
  clear hH
  rintro ⟨A1, n1, c1, m1, s1, r1, k1⟩ w ⟨hH, hV, hO, hS1, hF1, hk⟩
  change CX _ _ _ _ [(1, (.slice A1 n1 c1)), (0, (.pointer (some ⟨g, 0, none⟩)))] _
  replace hH : HH w0 [g] [[bl g 53 (cHa.enc (s1, r1, k1))]] w := hH
  replace hV : Vu cByte w0 A1 n1 c1 m1 := hV
  replace hO : Off A1 n1 [g] := hO
  replace hS1 : HaS s1 r1 k1 F := hS1
  replace hF1 : ∀ j z, m1[j]? = some z → F (k1 + j) = z := hF1
  replace hk : k1 + n1 = k + n := hk
  refine cxSeq ?_
  refine cxSeq ?_
  refine cxReg ?_
  refine pxV (v := (.slice A1 n1 c1)) (fun _ _ hF => opMove rfl (hF.ev 0 rfl)) rfl (fun _ _ => rfl) (kA rfl) (by decide) ?_
  refine pxV (v := (.int .i64 (((n1) : Nat) : Int))) (fun _ _ hF => opLen (e := 5) rfl (by kernel_rfl) (hF.ev 0 rfl)) rfl (fun _ _ => rfl) (kM [false, true, true] rfl rfl) (by decide) ?_
  refine pxV (v := (.bool (decide (n1 > 0)))) (fun _ _ hF => opGtr rfl (hF.ev 0 rfl) rfl (dc (by omega))) rfl (fun _ _ => rfl) (kM [false, true, true] rfl rfl) (by decide) ?_
  refine pxEnd ?_
  refine qxThen ?_
  refine cxP 0 rfl rfl (fun hc1 => ?_) (fun hc1 => ?_)
  · refine cxSkip ?_
    refine qxThen ?_
    refine cxBlock ?_
    refine cxSeq ?_
    have hlen1 := hV.len
    obtain ⟨kk, hkk⟩ : ∃ kk, kk = min n1 (64 - k1 % 64) := ⟨_, rfl⟩
    refine cxRegX mixedOrders (by kernel_rfl) ?_
    replace hH := hH.drew
    refine rxV 0 rfl (by kernel_rfl) rfl (fun _ _ => rfl) (fun _ _ hF => opMove rfl (hF.ev 2 rfl)) (kM [false, true, true] rfl rfl) (by decide) (v := (.pointer (some ⟨g, 0, none⟩))) ?_
    refine rxV 1 rfl (by kernel_rfl) rfl (fun _ _ => rfl) (fun _ _ hF => opNilCheck rfl (hF.ev 0 rfl)) (kM [false, true, true] rfl rfl) (by decide) (v := (.pointer (some ⟨g, 0, none⟩))) ?_
    refine rxV 2 rfl (by kernel_rfl) rfl (fun _ _ => rfl) (fun _ _ hF => opField (off := 8) rfl (hF.ev 0 rfl) (by kernel_rfl)) (kM [false, true, true] rfl rfl) (by decide) (v := (.pointer (some ⟨g, 8, none⟩))) ?_
    refine rxV 3 rfl (by kernel_rfl) rfl (fun _ _ => rfl) (fun _ _ hF => opMove rfl (hF.ev 2 rfl)) (kA rfl) (by decide) (v := (.pointer (some ⟨g, 0, none⟩))) ?_
    refine rxV 4 rfl (by kernel_rfl) rfl (fun _ _ => rfl) (fun _ _ hF => opNilCheck rfl (hF.ev 0 rfl)) (kM [false, true, true, true] rfl rfl) (by decide) (v := (.pointer (some ⟨g, 0, none⟩))) ?_
    refine rxV 5 rfl (by kernel_rfl) rfl (fun _ _ => rfl) (fun _ _ hF => opField (off := 72) rfl (hF.ev 0 rfl) (by kernel_rfl)) (kM [false, true, true, true] rfl rfl) (by decide) (v := (.pointer (some ⟨g, 72, none⟩))) ?_
    refine rxS (fun w => w.heap[g]? = some (.cells (cHa.enc (s1, r1, k1)) 53 (0, 0))) 6 rfl (by kernel_rfl) rfl (fun _ _ => rfl) (hH.blk 0 rfl) (fun _ _ hF hS => opLoadT (C := (cNat .u64)) (y := k1) rfl (hF.ev 0 rfl) (by kernel_rfl) ((holds_blk0 hS).snd).snd rfl) (kM [false, true, true, true] rfl rfl) (by decide) (v := (.int .u64 (((k1) : Nat) : Int))) ?_
    refine rxV 7 rfl (by kernel_rfl) rfl (fun _ _ => rfl) (fun _ _ hF => opRem (z := ((k1 % 64 : Nat) : Int)) rfl (hF.ev 0 rfl) rfl (by omega) remN) (kM [false, true, true, true] rfl rfl) (by decide) (v := (.int .u64 (((k1 % 64) : Nat) : Int))) ?_
    refine rxV 8 rfl (by kernel_rfl) rfl (fun _ _ => rfl) (fun _ _ hF => opSliceAL (m := 64) (l := k1 % 64) (e := 5) (sz := 1) rfl (by kernel_rfl) (by kernel_rfl) (hF.ev 1 rfl) (hF.ev 0 rfl) rfl (by omega)) (kM [false, false, true, true] rfl rfl) (by decide) (v := (.slice (some ⟨g, 8 + k1 % 64 * 1, none⟩) (64 - k1 % 64) (64 - k1 % 64))) ?_
    refine rxV 9 rfl (by kernel_rfl) rfl (fun _ _ => rfl) (fun _ _ hF => opMove rfl (hF.ev 1 rfl)) (kA rfl) (by decide) (v := (.slice A1 n1 c1)) ?_
    refine rx1 10 (by kernel_rfl) ?_
    refine moE 0 rfl hH rfl (fun _ hF => smCopyK (C := cByte) (m := m1) (e := 5) kk hkk.symm rfl (by kernel_rfl) (by kernel_rfl) (ltb rfl) (hF.ev 1 rfl) (hF.ev 0 rfl) hlen1 (by rw [Cod.size]; show 8 + k1 % 64 * 1 + kk * 1 ≤ 73; omega) (put_snd (put_fst (arr_ov r1 (k1 % 64 * 1) (m1.take kk)) (by rw [flat_len, List.length_take]; show k1 % 64 * 1 + min kk m1.length * 1 ≤ 64; omega)) rfl)) (hH.vu hV (by decide) hO) rfl (fun _ _ => rfl) (kM [false, false, true, true] rfl rfl) (by decide) (PendOk.go [8, 7] (by kernel_rfl) (PendOk.nil _ [])) ?_
    clear hH
    rintro _ _ w ⟨rfl, rfl⟩ hH
    replace hH : HH w0 [g] [[bl g 53 (cHa.enc (s1, ovF r1 (k1 % 64 * 1) (m1.take kk), k1))]] w := hH
    refine ⟨(fun _ hs => by cases hs), ?_⟩
    refine rxV 11 rfl (by kernel_rfl) rfl (fun _ _ => rfl) (fun _ _ hF => opAssign rfl (hF.ev 0 rfl)) (kM [false, true, true] rfl rfl) (by decide) (v := (.int .i64 (((kk) : Nat) : Int))) ?_
    refine rxEnd (by kernel_rfl) ?_
    refine qxThen ?_
    refine cxSeq ?_
    refine cxReg ?_
    refine pxV (v := (.pointer (some ⟨g, 0, none⟩))) (fun _ _ hF => opMove rfl (hF.ev 2 rfl)) rfl (fun _ _ => rfl) (kA rfl) (by decide) ?_
    refine pxV (v := (.pointer (some ⟨g, 0, none⟩))) (fun _ _ hF => opNilCheck rfl (hF.ev 0 rfl)) rfl (fun _ _ => rfl) (kA rfl) (by decide) ?_
    refine pxV (v := (.pointer (some ⟨g, 72, none⟩))) (fun _ _ hF => opField (off := 72) rfl (hF.ev 0 rfl) (by kernel_rfl)) rfl (fun _ _ => rfl) (kM [false, true, true, true, true] rfl rfl) (by decide) ?_
    refine pxS (v := (.int .u64 (((k1) : Nat) : Int))) (fun w => w.heap[g]? = some (.cells (cHa.enc (s1, ovF r1 (k1 % 64 * 1) (m1.take kk), k1)) 53 (0, 0))) (hH.blk 0 rfl) (fun _ _ hF hS => opLoadT (C := (cNat .u64)) (y := k1) rfl (hF.ev 0 rfl) (by kernel_rfl) ((holds_blk0 hS).snd).snd rfl) rfl (fun _ _ => rfl) (kM [false, true, true, true, true] rfl rfl) (by decide) ?_
    refine pxV (v := (.int .i64 (((kk) : Nat) : Int))) (fun _ _ hF => opMove rfl (hF.ev 2 rfl)) rfl (fun _ _ => rfl) (kA rfl) (by decide) ?_
    refine pxV (v := (.int .u64 (((kk) : Nat) : Int))) (fun _ _ hF => opConvU (k' := .u64) (m := kk) rfl rfl (by kernel_rfl) (by kernel_rfl) (hF.ev 0 rfl) (Nat.mod_eq_of_lt (by show _ < 18446744073709551616; omega))) rfl (fun _ _ => rfl) (kM [false, true, true, true, true, true] rfl rfl) (by decide) ?_
    refine pxV (v := (.int .u64 (((k1 + kk) : Nat) : Int))) (fun _ _ hF => opAddU (m := k1) (j := kk) (z := (k1 + kk)) rfl rfl (hF.ev 1 rfl) (hF.ev 0 rfl) (Nat.mod_eq_of_lt (by show _ < 18446744073709551616; omega))) rfl (fun _ _ => rfl) (kM [false, false, true, true, true, true] rfl rfl) (by decide) ?_
    refine pxV (v := (.pointer (some ⟨g, 0, none⟩))) (fun _ _ hF => opNilCheck rfl (hF.ev 1 rfl)) rfl (fun _ _ => rfl) (kM [true, false, true, true, true] rfl rfl) (by decide) ?_
    refine pxV (v := (.pointer (some ⟨g, 72, none⟩))) (fun _ _ hF => opField (off := 72) rfl (hF.ev 0 rfl) (by kernel_rfl)) rfl (fun _ _ => rfl) (kM [false, true, true, true, true] rfl rfl) (by decide) ?_
    refine pxE0 0 hH rfl (fun _ hF => smStoreT (C := (cNat .u64)) (z := k1 + kk) rfl (hF.ev 0 rfl) (hF.ev 1 rfl) rfl (by kernel_rfl) (by rw [Cod.size]; exact leb rfl) (put_snd (put_snd (put_whole (cNat .u64) _ _) rfl) rfl)) trivial rfl (fun _ _ => rfl) ?_
    clear hH
    rintro _ _ w rfl hH
    replace hH : HH w0 [g] [[bl g 53 (cHa.enc (s1, ovF r1 (k1 % 64 * 1) (m1.take kk), k1 + kk))]] w := hH
    refine pxEnd ?_
    refine qxThen ?_
    refine cxSeq ?_
    refine cxReg ?_
    refine pxV (v := (.slice A1 n1 c1)) (fun _ _ hF => opMove rfl (hF.ev 3 rfl)) rfl (fun _ _ => rfl) (kM [false, false, true, false, true] rfl rfl) (by decide) ?_
    refine pxV (v := (.int .i64 (((kk) : Nat) : Int))) (fun _ _ hF => opMove rfl (hF.ev 1 rfl)) rfl (fun _ _ => rfl) (kM [true, false, true] rfl rfl) (by decide) ?_
    refine pxV (v := (.slice (cutA A1 c1 kk 1) (n1 - kk) (c1 - kk))) (fun _ _ hF => opCutL (k := kk) (e := 5) (sz := 1) rfl (by kernel_rfl) (by kernel_rfl) (hF.ev 1 rfl) (hF.ev 0 rfl) rfl (by omega)) rfl (fun _ _ => rfl) (kM [false, false, true] rfl rfl) (by decide) ?_
    refine pxV (v := (.slice (cutA A1 c1 kk 1) (n1 - kk) (c1 - kk))) (fun _ _ hF => opAssign rfl (hF.ev 0 rfl)) rfl (fun _ _ => rfl) (kM [false, true] rfl rfl) (by decide) ?_
    refine pxEnd ?_
    refine qxThen ?_
    refine cxSeq ?_
    refine cxReg ?_
    refine pxV (v := (.pointer (some ⟨g, 0, none⟩))) (fun _ _ hF => opMove rfl (hF.ev 1 rfl)) rfl (fun _ _ => rfl) (kA rfl) (by decide) ?_
    refine pxV (v := (.pointer (some ⟨g, 0, none⟩))) (fun _ _ hF => opNilCheck rfl (hF.ev 0 rfl)) rfl (fun _ _ => rfl) (kM [false, true, true] rfl rfl) (by decide) ?_
    refine pxV (v := (.pointer (some ⟨g, 72, none⟩))) (fun _ _ hF => opField (off := 72) rfl (hF.ev 0 rfl) (by kernel_rfl)) rfl (fun _ _ => rfl) (kM [false, true, true] rfl rfl) (by decide) ?_
    refine pxS (v := (.int .u64 (((k1 + kk) : Nat) : Int))) (fun w => w.heap[g]? = some (.cells (cHa.enc (s1, ovF r1 (k1 % 64 * 1) (m1.take kk), k1 + kk)) 53 (0, 0))) (hH.blk 0 rfl) (fun _ _ hF hS => opLoadT (C := (cNat .u64)) (y := k1 + kk) rfl (hF.ev 0 rfl) (by kernel_rfl) ((holds_blk0 hS).snd).snd rfl) rfl (fun _ _ => rfl) (kM [false, true, true] rfl rfl) (by decide) ?_
    refine pxV (v := (.int .u64 ((((k1 + kk) % 64) : Nat) : Int))) (fun _ _ hF => opRem (z := (((k1 + kk) % 64 : Nat) : Int)) rfl (hF.ev 0 rfl) rfl (by omega) remN) rfl (fun _ _ => rfl) (kM [false, true, true] rfl rfl) (by decide) ?_
    refine pxV (v := (.bool (decide ((k1 + kk) % 64 = 0)))) (fun _ _ hF => opEqI rfl (hF.ev 0 rfl) rfl (dc (by omega))) rfl (fun _ _ => rfl) (kM [false, true, true] rfl rfl) (by decide) ?_
    refine pxEnd ?_
    refine qxThen ?_
    refine cxP 0 rfl rfl (fun hc2 => ?_) (fun hc2 => ?_)
    · refine cxRegX mixedOrders (by kernel_rfl) ?_
      replace hH := hH.drew
      refine rxV 0 rfl (by kernel_rfl) rfl (fun _ _ => rfl) (fun _ _ hF => opMove rfl (hF.ev 2 rfl)) (kM [false, true, true] rfl rfl) (by decide) (v := (.pointer (some ⟨g, 0, none⟩))) ?_
      refine rxV 1 rfl (by kernel_rfl) rfl (fun _ _ => rfl) (fun _ _ hF => opMove rfl (hF.ev 2 rfl)) (kA rfl) (by decide) (v := (.pointer (some ⟨g, 0, none⟩))) ?_
      refine rxV 2 rfl (by kernel_rfl) rfl (fun _ _ => rfl) (fun _ _ hF => opNilCheck rfl (hF.ev 0 rfl)) (kM [false, true, true, true] rfl rfl) (by decide) (v := (.pointer (some ⟨g, 0, none⟩))) ?_
      refine rxV 3 rfl (by kernel_rfl) rfl (fun _ _ => rfl) (fun _ _ hF => opField (off := 0) rfl (hF.ev 0 rfl) (by kernel_rfl)) (kM [false, true, true, true] rfl rfl) (by decide) (v := (.pointer (some ⟨g, 0, none⟩))) ?_
      refine rxS (fun w => w.heap[g]? = some (.cells (cHa.enc (s1, ovF r1 (k1 % 64 * 1) (m1.take kk), k1 + kk)) 53 (0, 0))) 4 rfl (by kernel_rfl) rfl (fun _ _ => rfl) (hH.blk 0 rfl) (fun _ _ hF hS => opLoadT (C := (cWs 8)) (y := s1) rfl (hF.ev 0 rfl) (by kernel_rfl) (holds_blk0 hS).fst rfl) (kM [false, true, true, true] rfl rfl) (by decide) (v := ((cWs 8).val s1)) ?_
      refine rxV 5 rfl (by kernel_rfl) rfl (fun _ _ => rfl) (fun _ _ hF => opMove rfl (hF.ev 3 rfl)) (kA rfl) (by decide) (v := (.pointer (some ⟨g, 0, none⟩))) ?_
      refine rxV 6 rfl (by kernel_rfl) rfl (fun _ _ => rfl) (fun _ _ hF => opNilCheck rfl (hF.ev 0 rfl)) (kM [false, true, true, true, true] rfl rfl) (by decide) (v := (.pointer (some ⟨g, 0, none⟩))) ?_
      refine rxV 7 rfl (by kernel_rfl) rfl (fun _ _ => rfl) (fun _ _ hF => opField (off := 8) rfl (hF.ev 0 rfl) (by kernel_rfl)) (kM [false, true, true, true, true] rfl rfl) (by decide) (v := (.pointer (some ⟨g, 8, none⟩))) ?_
      refine rxS (fun w => w.heap[g]? = some (.cells (cHa.enc (s1, ovF r1 (k1 % 64 * 1) (m1.take kk), k1 + kk)) 53 (0, 0))) 8 rfl (by kernel_rfl) rfl (fun _ _ => rfl) (hH.blk 0 rfl) (fun _ _ hF hS => opLoadT (C := (cArr 64)) (y := ovF r1 (k1 % 64 * 1) (m1.take kk)) rfl (hF.ev 0 rfl) (by kernel_rfl) ((holds_blk0 hS).snd).fst rfl) (kM [false, true, true, true, true] rfl rfl) (by decide) (v := ((cArr 64).val (ovF r1 (k1 % 64 * 1) (m1.take kk)))) ?_
      refine rx1 9 (by kernel_rfl) ?_
      refine moM rfl hH (fun _ hF => Does.small ((take_c s1 (ovF r1 (k1 % 64 * 1) (m1.take kk))).does) (fun w => opCall rfl Tryd.func22 rfl rfl (Evs.cons (v := ((cWs 8).val s1)) (hF.ev 1 rfl) (Evs.cons (v := ((cArr 64).val (ovF r1 (k1 % 64 * 1) (m1.take kk)))) (hF.ev 0 rfl) Evs.nil)) w)) (hH.oldBlk hR.1 hng) rfl (fun _ _ => rfl) (kM [false, false, true, true, true] rfl rfl) (by decide) (PendOk.go [] (by kernel_rfl) (PendOk.go [] (by kernel_rfl) (PendOk.nil _ []))) ?_
      clear hH
      rintro _ _ w ⟨rfl, rfl⟩ hH
      replace hH : HH w0 [g] [[bl g 53 (cHa.enc (s1, ovF r1 (k1 % 64 * 1) (m1.take kk), k1 + kk))]] w := hH.unpad
      refine ⟨(fun _ hs => by cases hs), ?_⟩
      refine rxV 10 rfl (by kernel_rfl) rfl (fun _ _ => rfl) (fun _ _ hF => opNilCheck rfl (hF.ev 1 rfl)) (kM [true, false, true, true] rfl rfl) (by decide) (v := (.pointer (some ⟨g, 0, none⟩))) ?_
      refine rxV 11 rfl (by kernel_rfl) rfl (fun _ _ => rfl) (fun _ _ hF => opField (off := 0) rfl (hF.ev 0 rfl) (by kernel_rfl)) (kM [false, true, true, true] rfl rfl) (by decide) (v := (.pointer (some ⟨g, 0, none⟩))) ?_
      refine rx1 12 (by kernel_rfl) ?_
      refine moE0 0 rfl hH rfl (fun _ hF => smStoreT (C := (cWs 8)) (z := (comp32 (ovF r1 (k1 % 64 * 1) (m1.take kk)) s1)) rfl (hF.ev 0 rfl) (hF.ev 1 rfl) rfl (by kernel_rfl) (by rw [Cod.size]; exact leb rfl) (put_fst (put_whole (cWs 8) _ _) (by rw [Array.length_toList, Cod.size]; exact leb rfl))) trivial rfl (fun _ _ => rfl) (PendOk.nil _ []) ?_
      clear hH
      rintro _ _ w rfl hH
      replace hH : HH w0 [g] [[bl g 53 (cHa.enc ((comp32 (ovF r1 (k1 % 64 * 1) (m1.take kk)) s1), ovF r1 (k1 % 64 * 1) (m1.take kk), k1 + kk))]] w := hH
      refine ⟨(fun _ hs => by cases hs), ?_⟩
      refine rxEnd (by kernel_rfl) ?_
      refine qxInN ?_
      exact qxRound ((cutA A1 c1 kk 1), (n1 - kk), (c1 - kk), (m1.drop kk), (comp32 (ovF r1 (k1 % 64 * 1) (m1.take kk)) s1), (ovF r1 (k1 % 64 * 1) (m1.take kk)), (k1 + kk)) ⟨hH, (show Vu cByte w0 (cutA A1 c1 kk 1) (n1 - kk) (c1 - kk) (m1.drop kk) from (hV.from (show kk ≤ n1 by omega))), (show Off (cutA A1 c1 kk 1) (n1 - kk) [g] from (hO.cut hV _ (fun _ => by omega))), (show HaS (comp32 (ovF r1 (k1 % 64 * 1) (m1.take kk)) s1) (ovF r1 (k1 % 64 * 1) (m1.take kk)) (k1 + kk) F from (hS1.full hF1 (by omega) (by omega))), (fun j x hx => by rw [Nat.add_assoc]; exact hF1 _ _ (by rw [List.getElem?_drop] at hx; exact hx)), (show (k1 + kk) + (n1 - kk) = k + n from (by omega))⟩ (show n1 - kk < n1 by omega) (slots_at [2, 3] rfl)
    · refine cxSkip ?_
      refine qxInN ?_
      exact qxRound ((cutA A1 c1 kk 1), (n1 - kk), (c1 - kk), (m1.drop kk), s1, (ovF r1 (k1 % 64 * 1) (m1.take kk)), (k1 + kk)) ⟨hH, (show Vu cByte w0 (cutA A1 c1 kk 1) (n1 - kk) (c1 - kk) (m1.drop kk) from (hV.from (show kk ≤ n1 by omega))), (show Off (cutA A1 c1 kk 1) (n1 - kk) [g] from (hO.cut hV _ (fun _ => by omega))), (show HaS s1 (ovF r1 (k1 % 64 * 1) (m1.take kk)) (k1 + kk) F from (hS1.part hF1 (by omega) (by omega))), (fun j x hx => by rw [Nat.add_assoc]; exact hF1 _ _ (by rw [List.getElem?_drop] at hx; exact hx)), (show (k1 + kk) + (n1 - kk) = k + n from (by omega))⟩ (show n1 - kk < n1 by omega) (slots_at [1, 2] rfl)
  · refine cxExit ?_
    refine qxThenE ?_
    refine qxThenE ?_
    refine qxInE ?_
    refine qxEnd0 rfl ?_
    obtain rfl : k1 = k + n := by omega
    exact ⟨_, _, rfl, ⟨rfl, s1, r1, rfl, hS1⟩, hH.out1 [true] rfl⟩

set_option maxHeartbeats 8000000 in
theorem new_c  : Does Tryd.prog 16 #[] [] (fun w => w.heap[0]? = some (.cells ((cWs 8).enc H32) 45 (0, 0))) (fun v E' => ∃ g, v = ptrV g ∧ HaAt g [] E') := by
  refine does_of (fn := Tryd.f16) Tryd.func16 rfl Tryd.ntmps16 (Nat.le_of_ble_eq_true rfl) rfl ?_
  intro w0 hH hR
  replace hH : HH w0 [] [] w0 := hH.only [false]
  refine cxSeq ?_
  refine cxReg ?_
  refine pxV (v := (.pointer none)) (fun _ _ hF => opAssign rfl rfl) rfl (fun _ _ => rfl) (kA rfl) (by decide) ?_
  refine pxEnd ?_
  refine qxThen ?_
  refine cxSeq ?_
  refine cxReg ?_
  refine pxS (v := ((cWs 8).val H32)) (fun w => w.heap[0]? = some (.cells ((cWs 8).enc H32) 45 (0, 0))) (hH.oldBlk hR (by simp)) (fun _ _ hF hS => opLoadT (C := (cWs 8)) (y := H32) rfl rfl (by kernel_rfl) (holds_blk0 hS) rfl) rfl (fun _ _ => rfl) (kM [false] rfl rfl) (by decide) ?_
  refine pxV (v := (cHa.val (H32, fun _ => 0, 0))) (fun _ _ hF => opBuildP (cells := cHa.enc (H32, fun _ => 0, 0)) (vals := [(0, ((cWs 8).val H32))]) rfl (EvP.cons (hF.ev 0 rfl) EvP.nil) (by kernel_rfl) _) rfl (fun _ _ => rfl) (kM [false] rfl rfl) (by decide) ?_
  refine pxM hH (fun _ hF => smBox rfl (hF.ev 0 rfl) rfl) trivial rfl (fun _ _ => rfl) (kM [false] rfl rfl) (by decide) ?_
  clear hH
  rintro _ _ w ⟨g1, rfl, rfl⟩ hH
  replace hH : HH w0 [] [[bl g1 53 (cHa.enc (H32, fun _ => 0, 0))]] w := hH
  refine pxV (v := (.pointer (some ⟨g1, 0, none⟩))) (fun _ _ hF => opAssign rfl (hF.ev 0 rfl)) rfl (fun _ _ => rfl) (kM [false] rfl rfl) (by decide) ?_
  refine pxEnd ?_
  refine qxThen ?_
  refine cxRet ?_
  refine qxRet1 0 rfl rfl ?_
  exact ⟨_, _, rfl, ⟨_, rfl, H32, fun _ => 0, rfl, fun _ _ => rfl, fun _ h => absurd h (Nat.not_lt_zero _)⟩, hH.out1 [true] rfl⟩

set_option maxHeartbeats 8000000 in
theorem sum_in (g k : Nat) (s : Nat → UInt32) (r f : Nat → UInt8) (hS : HaS s r k f) (hk : k ≤ 1000000000000000000) : Pure Tryd.prog 18 #[(.pointer (some ⟨g, 0, none⟩))] (fun w => w.heap[1]? = some (.cells ((cWs 64).enc K32) 46 (0, 0)) ∧ w.heap[g]? = some (.cells (cHa.enc (s, r, k)) 53 (0, 0))) ((cArr 32).val (sum32 k f)) := by
  refine pure_of (fn := Tryd.f18) Tryd.func18 rfl Tryd.ntmps18 (Nat.le_of_ble_eq_true rfl) rfl ?_
  intro w0 hH hR
  refine cxSeq ?_
  refine cxReg ?_
  refine pxM hH (fun _ hF => smAlloc (cs := (cArr 32).enc (fun _ => 0)) (z := ((cArr 32).val (fun _ => 0))) rfl (by kernel_rfl) rfl) trivial rfl (fun _ _ => rfl) (kA rfl) (by decide) ?_
  clear hH
  rintro _ _ w ⟨g1, rfl, rfl⟩ hH
  replace hH : HH w0 [] [[bl g1 34 ((cArr 32).enc (fun _ => 0))]] w := hH
  refine pxEnd ?_
  refine qxThen ?_
  refine cxSeq ?_
  refine cxSeq ?_
  refine cxReg ?_
  refine pxV (v := (.pointer (some ⟨g, 0, none⟩))) (fun _ _ hF => opMove rfl (hF.ev 1 rfl)) rfl (fun _ _ => rfl) (kA rfl) (by decide) ?_
  refine pxV (v := (.bool false)) (fun _ _ hF => opEqNil (e := 53) rfl (by kernel_rfl) (hF.ev 0 rfl) rfl rfl) rfl (fun _ _ => rfl) (kM [false, true, true] rfl rfl) (by decide) ?_
  refine pxEnd ?_
  refine qxThen ?_
  refine cxF 0 rfl rfl ?_
  refine cxSkip ?_
  refine qxThen ?_
  refine cxSeq ?_
  refine cxReg ?_
  refine pxV (v := (.pointer (some ⟨g, 0, none⟩))) (fun _ _ hF => opMove rfl (hF.ev 2 rfl)) rfl (fun _ _ => rfl) (kM [false, true, true] rfl rfl) (by decide) ?_
  refine pxV (v := (.pointer (some ⟨g, 0, none⟩))) (fun _ _ hF => opNilCheck rfl (hF.ev 0 rfl)) rfl (fun _ _ => rfl) (kM [false, true, true] rfl rfl) (by decide) ?_
  refine pxS (v := (cHa.val (s, r, k))) (fun w => w.heap[g]? = some (.cells (cHa.enc (s, r, k)) 53 (0, 0))) (hH.oldBlk hR.2 (by simp)) (fun _ _ hF hS => opLoadT (C := cHa) (y := (s, r, k)) rfl (hF.ev 0 rfl) (by kernel_rfl) (holds_blk0 hS) rfl) rfl (fun _ _ => rfl) (kM [false, true, true] rfl rfl) (by decide) ?_
  refine pxM hH (fun _ hF => smAlloc (cs := cHa.enc (fun _ => 0, fun _ => 0, 0)) (z := (cHa.val (fun _ => 0, fun _ => 0, 0))) rfl (by kernel_rfl) rfl) trivial rfl (fun _ _ => rfl) (kA rfl) (by decide) ?_
  clear hH
  rintro _ _ w ⟨g2, rfl, rfl⟩ hH
  replace hH : HH w0 [] [[bl g1 34 ((cArr 32).enc (fun _ => 0))], [bl g2 53 (cHa.enc (fun _ => 0, fun _ => 0, 0))]] w := hH
  refine pxE0 1 hH rfl (fun _ hF => smStoreT (C := cHa) (z := (s, r, k)) rfl (hF.ev 0 rfl) (hF.ev 1 rfl) rfl (by kernel_rfl) (by rw [Cod.size]; exact Nat.le_refl _) (put_whole cHa _ _)) trivial rfl (fun _ _ => rfl) ?_
  clear hH
  rintro _ _ w rfl hH
  replace hH : HH w0 [] [[bl g1 34 ((cArr 32).enc (fun _ => 0))], [bl g2 53 (cHa.enc (s, r, k))]] w := hH
  refine pxEnd ?_
  refine qxThen ?_
  refine cxSeq ?_
  refine cxReg ?_
  refine pxV (v := (.pointer (some ⟨g, 0, none⟩))) (fun _ _ hF => opMove rfl (hF.ev 3 rfl)) rfl (fun _ _ => rfl) (kM [true, false, true, false] rfl rfl) (by decide) ?_
  refine pxV (v := (.pointer (some ⟨g, 0, none⟩))) (fun _ _ hF => opNilCheck rfl (hF.ev 0 rfl)) rfl (fun _ _ => rfl) (kM [false, true, true] rfl rfl) (by decide) ?_
  refine pxV (v := (.pointer (some ⟨g, 72, none⟩))) (fun _ _ hF => opField (off := 72) rfl (hF.ev 0 rfl) (by kernel_rfl)) rfl (fun _ _ => rfl) (kM [false, true, true] rfl rfl) (by decide) ?_
  refine pxS (v := (.int .u64 (((k) : Nat) : Int))) (fun w => w.heap[g]? = some (.cells (cHa.enc (s, r, k)) 53 (0, 0))) (hH.oldBlk hR.2 (by simp)) (fun _ _ hF hS => opLoadT (C := (cNat .u64)) (y := k) rfl (hF.ev 0 rfl) (by kernel_rfl) ((holds_blk0 hS).snd).snd rfl) rfl (fun _ _ => rfl) (kM [false, true, true] rfl rfl) (by decide) ?_
  refine pxM hH (fun _ hF => Does.small ((padding_c k _ rfl (by omega))) (fun w => opCall rfl Tryd.func23 rfl rfl (Evs.cons (v := (.int .u64 (((k) : Nat) : Int))) (hF.ev 0 rfl) (Evs.cons (v := (.int .i64 64)) rfl (Evs.cons (v := (.int .i64 8)) rfl Evs.nil))) w)) trivial rfl (fun _ _ => rfl) (kM [false, true, true] rfl rfl) (by decide) ?_
  clear hH
  rintro v7 E3 w hO4 hH
  replace hH : HH w0 [] [[bl g1 34 ((cArr 32).enc (fun _ => 0))], [bl g2 53 (cHa.enc (s, r, k))], E3] w := hH
  obtain ⟨A5, c6, rfl⟩ := hO4.slice
  refine pxE 1 hH rfl (fun _ hF => Does.small (write_in g2 k s r (pad32 k f) A5 _ c6 (pdL k) (hS.congr fun j hj => pad32_low k f j hj) (pdL_at f) (by rw [pdL_len]; have := nb32_ge k; omega)) (fun w => opCall rfl Tryd.func17 rfl rfl (Evs.cons (v := (.pointer (some ⟨g2, 0, none⟩))) (hF.ev 1 rfl) (Evs.cons (v := (.slice A5 ((pdL k).length) c6)) (hF.ev 0 rfl) Evs.nil)) w)) ⟨hH.oldBlk hR.1 (by simp), (hO4.vuAt (hH.has 2 rfl)), (hH.off3 1 2 rfl rfl rfl hO4)⟩ rfl (fun _ _ => rfl) (kM [false, true, true] rfl rfl) (by decide) ?_
  clear hH
  rintro _ _ w ⟨rfl, s29, r210, rfl, hS211⟩ hH
  replace hH : HH w0 [] [[bl g1 34 ((cArr 32).enc (fun _ => 0))], [bl g2 53 (cHa.enc (s29, r210, k + (pdL k).length))], E3] w := hH
  refine pxEnd ?_
  refine qxThen ?_
  refine cxSeq ?_
  refine cxReg ?_
  refine pxV (v := (.pointer (some ⟨g2, 0, none⟩))) (fun _ _ hF => opField (off := 0) rfl (hF.ev 1 rfl) (by kernel_rfl)) rfl (fun _ _ => rfl) (kM [false, false, true] rfl rfl) (by decide) ?_
  refine pxS (v := ((cWs 8).val s29)) (fun w => w.heap[g2]? = some (.cells (cHa.enc (s29, r210, k + (pdL k).length)) 53 (0, 0))) (hH.blk 1 rfl) (fun _ _ hF hS => opLoadT (C := (cWs 8)) (y := s29) rfl (hF.ev 0 rfl) (by kernel_rfl) (holds_blk0 hS).fst rfl) rfl (fun _ _ => rfl) (kM [false, true] rfl rfl) (by decide) ?_
  refine pxM hH (fun _ hF => Does.small ((bytes_c s29).does) (fun w => opCall rfl Tryd.func24 rfl rfl (Evs.cons (v := ((cWs 8).val s29)) (hF.ev 0 rfl) Evs.nil) w)) trivial rfl (fun _ _ => rfl) (kM [false, true] rfl rfl) (by decide) ?_
  clear hH
  rintro _ _ w ⟨rfl, rfl⟩ hH
  replace hH : HH w0 [] [[bl g1 34 ((cArr 32).enc (fun _ => 0))], [bl g2 53 (cHa.enc (s29, r210, k + (pdL k).length))], E3] w := hH.unpad
  refine pxE0 0 hH rfl (fun _ hF => smStoreT (C := (cArr 32)) (z := (out32 s29)) rfl (hF.ev 1 rfl) (hF.ev 0 rfl) rfl (by kernel_rfl) (by rw [Cod.size]; exact Nat.le_refl _) (put_whole (cArr 32) _ _)) trivial rfl (fun _ _ => rfl) ?_
  clear hH
  rintro _ _ w rfl hH
  replace hH : HH w0 [] [[bl g1 34 ((cArr 32).enc (out32 s29))], [bl g2 53 (cHa.enc (s29, r210, k + (pdL k).length))], E3] w := hH
  refine pxEnd ?_
  refine qxThen ?_
  refine cxRet ?_
  refine qxRetC 1 (hH.blk 0 rfl) rfl rfl (by kernel_rfl) (Cod.size _ _) (by kernel_rfl) ?_
  have hS3 := hS211
  rw [pdL_len, show k + (64 * nb32 k - k) = 64 * nb32 k by have := nb32_ge k; omega] at hS3
  exact ⟨ret_arr (ha_end hS3), HH.toBelow hH⟩

/-! ### By lists -/
theorem write_c (g : Nat) (l m : List UInt8) (E : Hl) (hE : HaAt g l E) (A : Option Addr) (n c : Nat) (hb : l.length + m.length ≤ 1000000000000000000) : Does Tryd.prog 17 #[ptrV g, .slice A n c] E (fun w => w.heap[1]? = some (.cells ((cWs 64).enc K32) 46 (0, 0)) ∧ Vu cByte w A n c m ∧ Off A n [g]) (fun v E' => v = .tuple #[] ∧ HaAt g (l ++ m) E') := by
  obtain ⟨s, r, rfl, hS⟩ := hE
  intro w hw hR
  have hn := hR.2.1.len
  subst hn
  refine (write_in g l.length s r (fun j => (l ++ m).getD j 0) A m.length c m (hS.congr fun j hj => ?_) (fun j x hx => ?_) (by omega) w hw hR).mono ?_
  · rw [List.getD_eq_getElem?_getD, List.getD_eq_getElem?_getD, List.getElem?_append_left hj]
  · rw [List.getD_eq_getElem?_getD, List.getElem?_append_right (by omega), Nat.add_sub_cancel_left, hx]; rfl
  · rintro e w' ⟨v, E', he, ⟨h1, s', r', h2, h3⟩, h4⟩
    refine ⟨v, E', he, ⟨h1, s', r', ?_, ?_⟩, h4⟩
    · rw [h2, List.length_append]
    · rw [List.length_append]; exact h3
theorem sum_c (g : Nat) (l : List UInt8) (E : Hl) (hE : HaAt g l E) (hb : l.length ≤ 1000000000000000000) : Does Tryd.prog 18 #[ptrV g] E (fun w => w.heap[1]? = some (.cells ((cWs 64).enc K32) 46 (0, 0))) (fun v E' => v = (cArr 32).val (sha l) ∧ E = E') := by
  obtain ⟨s, r, rfl, hS⟩ := hE
  intro w hw hR
  have hblk := hw.blk _ (List.mem_singleton.2 rfl)
  refine (sum_in g l.length s r (fun j => l.getD j 0) hS hb w ⟨hR, hblk⟩).mono ?_
  rintro e w' ⟨he, hB⟩
  refine ⟨_, _, he, ⟨rfl, rfl⟩, ?_⟩
  have h0 := hw.start
  exact (HH.below h0 hB).hold
end Go.Proofs.YticflflbogdljaaDoor
