/- filled, DiskTorn (mkdt.py writes this text). -/
import Derived.Test.YtnalkphocllhbaaDkT
namespace Go.Proofs.Ytnalkphocllhbaa
open Go Go.RowKit
set_option maxRecDepth 100000

theorem fill_step {L : List UInt8} {i n : Nat} {c : UInt8} (h : L = List.replicate i c ++ List.replicate (n - i) 0) (hi : i < n) : L.set i c = List.replicate (i + 1) c ++ List.replicate (n - (i + 1)) 0 := by
  subst h
  apply List.ext_getElem?
  intro j
  by_cases hj : j = i
  · subst hj
    rw [List.getElem?_set_self (by simp; omega), List.getElem?_append_left (by simp), List.getElem?_replicate, if_pos (by omega)]
  · rw [List.getElem?_set_ne (Ne.symm hj)]
    by_cases h1 : j < i
    · rw [List.getElem?_append_left (by simpa using h1), List.getElem?_append_left (by simp; omega), List.getElem?_replicate, List.getElem?_replicate, if_pos h1, if_pos (by omega)]
    · rw [List.getElem?_append_right (by simp; omega), List.getElem?_append_right (by simp; omega), List.getElem?_replicate, List.getElem?_replicate, List.length_replicate, List.length_replicate]
      by_cases h2 : j < n
      · rw [if_pos (by omega), if_pos (by omega)]
      · rw [if_neg (by omega), if_neg (by omega)]

set_option maxHeartbeats 8000000 in
theorem filled_c (c : UInt8) (n : Nat) (hn : n ≤ 4000) : Does Try.prog 14 #[(.int .u8 (((c.toNat) : Nat) : Int)), (.int .i64 (((n) : Nat) : Int))] [] (fun _ => True) (fun v E' => OwnT cByte 5 v (fil n c) E') := by
  refine does_of (fn := Try.f14) Try.func14 rfl Try.ntmps14 (Nat.le_of_ble_eq_true rfl) rfl ?_
  intro w0 hH hR
  replace hH : HH w0 [] [] w0 := hH.only [false]
  refine cxSeq ?_
  refine cxReg ?_
  refine pxV (v := (.slice none 0 0)) (fun _ _ hF => opAssign rfl rfl) rfl (fun _ _ => rfl) (kA rfl) (by decide) ?_
  refine pxEnd ?_
  refine qxThen ?_
  refine cxSeq ?_
  refine cxReg ?_
  refine pxV (v := (.int .i64 (((n) : Nat) : Int))) (fun _ _ hF => opMove rfl (hF.ev 2 rfl)) rfl (fun _ _ => rfl) (kM [false, true, false] rfl rfl) (by decide) ?_
  refine pxV (v := (.int .i64 (((64 * n) : Nat) : Int))) (fun _ _ hF => opMul rfl rfl (hF.ev 0 rfl) (wI (by omega) (by omega) (by omega))) rfl (fun _ _ => rfl) (kM [false, true] rfl rfl) (by decide) ?_
  refine pxM hH (fun _ hF => smMake (e := 5) (n := 64 * n) (sz := 1) (by_ := 1) (z := (.int .u8 0)) (cs := madeCells (cByte.enc 0) ((64 * n) * 1)) rfl (by kernel_rfl) (by kernel_rfl) (hF.ev 0 rfl) (hF.ev 0 rfl) rfl rfl (by omega) (by omega) rfl) trivial rfl (fun _ _ => rfl) (kM [false, true] rfl rfl) (by decide) ?_
  clear hH
  rintro _ _ w ⟨g1, rfl, rfl⟩ hH
  replace hH : HH w0 [] [[bl g1 5 (madeCells (cByte.enc 0) ((64 * n) * 1))]] w := hH
  refine pxV (v := (.slice (some ⟨g1, 0, none⟩) (64 * n) (64 * n))) (fun _ _ hF => opAssign rfl (hF.ev 0 rfl)) rfl (fun _ _ => rfl) (kM [false, true] rfl rfl) (by decide) ?_
  refine pxEnd ?_
  refine qxThen ?_
  refine cxSeq ?_
  refine cxSeq ?_
  refine cxReg ?_
  refine pxV (v := (.slice (some ⟨g1, 0, none⟩) (64 * n) (64 * n))) (fun _ _ hF => opMove rfl (hF.ev 0 rfl)) rfl (fun _ _ => rfl) (kA rfl) (by decide) ?_
  refine pxV (v := (.int .i64 (((64 * n) : Nat) : Int))) (fun _ _ hF => opLen (e := 5) rfl (by kernel_rfl) (hF.ev 0 rfl)) rfl (fun _ _ => rfl) (kM [false, true, true] rfl rfl) (by decide) ?_
  refine pxV (v := (.int .i64 0)) (fun _ _ hF => opMove rfl rfl) rfl (fun _ _ => rfl) (kA rfl) (by decide) ?_
  refine pxEnd ?_
  refine qxThen ?_
  refine cxBlock ?_
  refine cxLoop (σ := Nat × (List UInt8) × (Array Value)) (fun x => [(12, (.int .i64 (((x.1) : Nat) : Int))), (11, (.int .i64 (((64 * n) : Nat) : Int))), (5, (.slice (some ⟨g1, 0, none⟩) (64 * n) (64 * n))), (0, (.int .u8 (((c.toNat) : Nat) : Int)))]) (fun x w => HH w0 [] [[bl g1 5 x.2.2]] w ∧ (x.1 ≤ 64 * n) ∧ (Bk cByte (64 * n) x.2.2 x.2.1) ∧ (x.2.1.length = 64 * n) ∧ (x.2.1 = List.replicate x.1 c ++ List.replicate (64 * n - x.1) 0)) (fun x => 64 * n - x.1) (0, (List.replicate (64 * n) 0), (madeCells (cByte.enc 0) ((64 * n) * 1))) ⟨hH, (Nat.zero_le _), (Bk.make (C := cByte) 0 (64 * n) (ltb rfl) (by unfold maxLen; omega)), List.length_replicate, (by simp)⟩ (slots_at [0, 1, 2, 3] rfl) ?_
  clear hH
  rintro ⟨i, L, cur'⟩ w ⟨hH, hi, hB', hl, hL⟩
  change CX _ _ _ _ [(12, (.int .i64 (((i) : Nat) : Int))), (11, (.int .i64 (((64 * n) : Nat) : Int))), (5, (.slice (some ⟨g1, 0, none⟩) (64 * n) (64 * n))), (0, (.int .u8 (((c.toNat) : Nat) : Int)))] _
  replace hH : HH w0 [] [[bl g1 5 cur']] w := hH
  replace hi : i ≤ 64 * n := hi
  replace hB' : Bk cByte (64 * n) cur' L := hB'
  replace hl : L.length = 64 * n := hl
  replace hL : L = List.replicate i c ++ List.replicate (64 * n - i) 0 := hL
  refine cxSeq ?_
  refine cxReg ?_
  refine pxV (v := (.bool (decide (i < 64 * n)))) (fun _ _ hF => opLss rfl (hF.ev 0 rfl) (hF.ev 1 rfl) (dc (by omega))) rfl (fun _ _ => rfl) (kA rfl) (by decide) ?_
  refine pxEnd ?_
  refine qxThen ?_
  refine cxSeq ?_
  refine cxP 0 rfl rfl (fun hc2 => ?_) (fun hc2 => ?_)
  · refine cxSkip ?_
    refine qxThen ?_
    refine cxSeq ?_
    refine cxBlock ?_
    refine cxSeq ?_
    refine cxReg ?_
    refine pxV (v := (.int .i64 (((i) : Nat) : Int))) (fun _ _ hF => opMove rfl (hF.ev 1 rfl)) rfl (fun _ _ => rfl) (kM [false, true, true, true, true] rfl rfl) (by decide) ?_
    refine pxV (v := (.int .i64 (((i) : Nat) : Int))) (fun _ _ hF => opAssign rfl (hF.ev 0 rfl)) rfl (fun _ _ => rfl) (kM [false, true, true, true, true] rfl rfl) (by decide) ?_
    refine pxEnd ?_
    refine qxThen ?_
    refine cxReg ?_
    refine pxV (v := (.slice (some ⟨g1, 0, none⟩) (64 * n) (64 * n))) (fun _ _ hF => opMove rfl (hF.ev 3 rfl)) rfl (fun _ _ => rfl) (kA rfl) (by decide) ?_
    refine pxV (v := (.int .i64 (((i) : Nat) : Int))) (fun _ _ hF => opMove rfl (hF.ev 1 rfl)) rfl (fun _ _ => rfl) (kM [true, false, true, true, true, true] rfl rfl) (by decide) ?_
    refine pxV (v := (.int .u8 (((c.toNat) : Nat) : Int))) (fun _ _ hF => opMove rfl (hF.ev 5 rfl)) rfl (fun _ _ => rfl) (kA rfl) (by decide) ?_
    have hi3 : i < 64 * n := by omega
    have hj6 : i < L.length := by first | exact hi3 | (simp only [List.length_drop, List.length_take]; omega) | omega
    obtain ⟨x4, hx5⟩ := get_at L i hj6
    refine pxV (v := (.pointer (some ⟨g1, 0 + i * 1, none⟩))) (fun _ _ hF => opIndex (i := i) (e := 5) (sz := 1) rfl (by kernel_rfl) (by kernel_rfl) (hF.ev 2 rfl) (hF.ev 1 rfl) rfl hi3) rfl (fun _ _ => rfl) (kM [true, false, false, true, true, true, true] rfl rfl) (by decide) ?_
    obtain ⟨cur8, hcs9, hB7⟩ : ∃ cs, putL cur' (0 + i * 1) (cByte.enc c).toList = cs ∧ Bk cByte (64 * n) cs (L.set i c) := ⟨_, rfl, put_at hB' i hj6 c⟩
    refine pxE0 0 hH rfl (fun _ hF => smStoreT (C := cByte) (z := c) rfl (hF.ev 0 rfl) (hF.ev 1 rfl) rfl (by kernel_rfl) (room_at hB' hj6) hcs9) trivial rfl (fun _ _ => rfl) ?_
    clear hH
    rintro _ _ w rfl hH
    replace hH : HH w0 [] [[bl g1 5 cur8]] w := hH
    refine pxEnd ?_
    refine qxInN ?_
    refine qxThen ?_
    refine cxReg ?_
    refine pxV (v := (.int .i64 (((i + 1) : Nat) : Int))) (fun _ _ hF => opAdd rfl (hF.ev 2 rfl) rfl (wI (by omega) (by omega) (by omega))) rfl (fun _ _ => rfl) (kM [false, false, false, true, true, true] rfl rfl) (by decide) ?_
    refine pxV (v := (.int .i64 (((i + 1) : Nat) : Int))) (fun _ _ hF => opMove rfl (hF.ev 0 rfl)) rfl (fun _ _ => rfl) (kM [false, true, true, true] rfl rfl) (by decide) ?_
    refine pxEnd ?_
    exact qxRound (i + 1, (L.set i c), cur8) ⟨hH, (by omega), hB7, (by rw [List.length_set]; exact hl), (fill_step hL (by omega))⟩ (by omega) (slots_at [0, 1, 2, 3] rfl)
  · refine cxExit ?_
    refine qxThenE ?_
    refine qxThenE ?_
    refine qxInE ?_
    refine qxThen ?_
    refine cxSeq ?_
    refine cxReg ?_
    refine pxV (v := (.slice (some ⟨g1, 0, none⟩) (64 * n) (64 * n))) (fun _ _ hF => opMove rfl (hF.ev 3 rfl)) rfl (fun _ _ => rfl) (kM [false, false, false, false, false] rfl rfl) (by decide) ?_
    refine pxV (v := (.slice (some ⟨g1, 0, none⟩) (64 * n) (64 * n))) (fun _ _ hF => opAssign rfl (hF.ev 0 rfl)) rfl (fun _ _ => rfl) (kM [false] rfl rfl) (by decide) ?_
    refine pxEnd ?_
    refine qxThen ?_
    refine cxRet ?_
    refine qxRet1 0 rfl rfl ?_
    have hf : L = fil n c := by rw [hL, show 64 * n - i = 0 by omega, show i = 64 * n by omega, List.replicate_zero, List.append_nil]
    exact ⟨_, _, rfl, (hf ▸ hB'.own 5 g1 hl), hH.out1 [true] rfl⟩

set_option maxHeartbeats 8000000 in
theorem torn_c (first second n : UInt8) (keep : List Bool) (A : Option Addr) (c : Nat) (k : Nat) (hk : 1 + ((n.toNat % 20 : Nat) : Int) = (k : Int)) : Pure Try.prog 4 #[(.int .u8 (((first.toNat) : Nat) : Int)), (.int .u8 (((second.toNat) : Nat) : Int)), (.int .u8 (((n.toNat) : Nat) : Int)), (.slice A keep.length c)] (fun w => Vu cBool w A keep.length c keep) (.bool true) := by
  refine pure_of (fn := Try.f4) Try.func4 rfl Try.ntmps4 (Nat.le_of_ble_eq_true rfl) rfl ?_
  intro w0 hH hR
  refine cxSeq ?_
  refine cxReg ?_
  refine pxV (v := (.bool false)) (fun _ _ hF => opAssign rfl rfl) rfl (fun _ _ => rfl) (kA rfl) (by decide) ?_
  refine pxEnd ?_
  refine qxThen ?_
  refine cxSeq ?_
  refine cxSeq ?_
  refine cxReg ?_
  refine pxM hH (fun _ hF => Does.small ((awake_c ).does) (fun w => opCall rfl Try.func7 rfl rfl Evs.nil w)) trivial rfl (fun _ _ => rfl) (kM [false, true, true, true, true] rfl rfl) (by decide) ?_
  clear hH
  rintro _ _ w ⟨rfl, rfl⟩ hH
  replace hH : HH w0 [] [] w := hH.unpad
  refine pxV (v := (.bool false)) (fun _ _ hF => opNot rfl (hF.ev 0 rfl) rfl) rfl (fun _ _ => rfl) (kM [false, true, true, true, true] rfl rfl) (by decide) ?_
  refine pxV (v := (.bool false)) (fun _ _ hF => opMove rfl (hF.ev 0 rfl)) rfl (fun _ _ => rfl) (kM [false, true, true, true, true] rfl rfl) (by decide) ?_
  refine pxV (v := (.slice A keep.length c)) (fun _ _ hF => opMove rfl (hF.ev 4 rfl)) rfl (gOn 0 rfl rfl rfl (by decide)) (kA rfl) (by decide) ?_
  refine pxV (v := (.int .i64 (((keep.length) : Nat) : Int))) (fun _ _ hF => opLen (e := 4) rfl (by kernel_rfl) (hF.ev 0 rfl)) rfl (gOn 1 rfl rfl rfl (by decide)) (kM [false, true, true, true, true, true] rfl rfl) (by decide) ?_
  refine pxV (v := (.bool (decide (keep.length > 300)))) (fun _ _ hF => opGtr rfl (hF.ev 0 rfl) rfl (dc (by omega))) rfl (gOn 1 rfl rfl rfl (by decide)) (kM [false, true, true, true, true, true] rfl rfl) (by decide) ?_
  refine pxV (v := (.bool (decide (keep.length > 300)))) (fun _ _ hF => opPickF rfl (hF.ev 1 rfl) (hF.ev 0 rfl)) rfl (fun _ _ => rfl) (kM [false, false, true, true, true, true] rfl rfl) (by decide) ?_
  refine pxEnd ?_
  refine qxThen ?_
  refine cxP 0 rfl rfl (fun hc1 => ?_) (fun hc1 => ?_)
  · refine cxSeq ?_
    refine cxReg ?_
    refine pxM hH (fun _ hF => Does.small ((awake_c ).does) (fun w => opCall rfl Try.func7 rfl rfl Evs.nil w)) trivial rfl (fun _ _ => rfl) (kM [false, false, false, false, false] rfl rfl) (by decide) ?_
    clear hH
    rintro _ _ w ⟨rfl, rfl⟩ hH
    replace hH : HH w0 [] [] w := hH.unpad
    refine pxV (v := (.bool true)) (fun _ _ hF => opAssign rfl (hF.ev 0 rfl)) rfl (fun _ _ => rfl) (kM [false] rfl rfl) (by decide) ?_
    refine pxEnd ?_
    refine qxThen ?_
    refine cxRet ?_
    refine qxThenR ?_
    refine qxRet1 0 rfl rfl ?_
    exact ⟨rfl, HH.toBelow hH⟩
  · refine cxSkip ?_
    refine qxThen ?_
    refine cxSeq ?_
    refine cxReg ?_
    refine pxV (v := (.int .u8 (((n.toNat) : Nat) : Int))) (fun _ _ hF => opMove rfl (hF.ev 3 rfl)) rfl (fun _ _ => rfl) (kM [false, true, true, false, true] rfl rfl) (by decide) ?_
    refine pxV (v := (.int .u8 (((n.toNat % 20) : Nat) : Int))) (fun _ _ hF => opRem (z := ((n.toNat % 20 : Nat) : Int)) rfl (hF.ev 0 rfl) rfl (by omega) remN) rfl (fun _ _ => rfl) (kM [false, true, true, true] rfl rfl) (by decide) ?_
    refine pxV (v := (.int .i64 (((n.toNat % 20) : Nat) : Int))) (fun _ _ hF => opConvI (k' := .i64) rfl (by kernel_rfl) (by kernel_rfl) (hF.ev 0 rfl) (wI rfl (by omega) (by omega))) rfl (fun _ _ => rfl) (kM [false, true, true, true] rfl rfl) (by decide) ?_
    refine pxV (v := (.int .i64 (((k) : Nat) : Int))) (fun _ _ hF => opAdd rfl rfl (hF.ev 0 rfl) (wI hk (by omega) (by omega))) rfl (fun _ _ => rfl) (kM [false, true, true, true] rfl rfl) (by decide) ?_
    refine pxV (v := (.int .i64 (((k) : Nat) : Int))) (fun _ _ hF => opAssign rfl (hF.ev 0 rfl)) rfl (fun _ _ => rfl) (kM [false, true, true, true] rfl rfl) (by decide) ?_
    refine pxEnd ?_
    refine qxThen ?_
    refine cxSeq ?_
    refine cxReg ?_
    refine pxV (v := (.int .i64 (((k) : Nat) : Int))) (fun _ _ hF => opMove rfl (hF.ev 0 rfl)) rfl (fun _ _ => rfl) (kA rfl) (by decide) ?_
    refine pxM hH (fun _ hF => Does.small (new_c ((k : Nat) : Int) k (by omega) (by omega)) (fun w => opCall rfl Try.func9 rfl rfl (Evs.cons (v := (.int .i64 (((k) : Nat) : Int))) (hF.ev 0 rfl) Evs.nil) w)) trivial rfl (fun _ _ => rfl) (kM [false, true, true, true, true] rfl rfl) (by decide) ?_
    clear hH
    rintro _ E3 w ⟨g2, rfl, hD4⟩ hH
    replace hH : HH w0 [] [E3] w := hH
    refine pxV (v := (.pointer (some ⟨g2, 0, none⟩))) (fun _ _ hF => opAssign rfl (hF.ev 0 rfl)) rfl (fun _ _ => rfl) (kM [false, true, true, true, true] rfl rfl) (by decide) ?_
    refine pxEnd ?_
    refine qxThen ?_
    refine cxSeq ?_
    refine cxSeq ?_
    refine cxReg ?_
    refine pxV (v := (.pointer (some ⟨g2, 0, none⟩))) (fun _ _ hF => opMove rfl (hF.ev 0 rfl)) rfl (fun _ _ => rfl) (kA rfl) (by decide) ?_
    refine pxV (v := (.int .u8 (((first.toNat) : Nat) : Int))) (fun _ _ hF => opMove rfl (hF.ev 3 rfl)) rfl (fun _ _ => rfl) (kA rfl) (by decide) ?_
    refine pxV (v := (.int .i64 (((k) : Nat) : Int))) (fun _ _ hF => opMove rfl (hF.ev 3 rfl)) rfl (fun _ _ => rfl) (kA rfl) (by decide) ?_
    refine pxM hH (fun _ hF => Does.small (filled_c first k (by omega)) (fun w => opCall rfl Try.func14 rfl rfl (Evs.cons (v := (.int .u8 (((first.toNat) : Nat) : Int))) (hF.ev 1 rfl) (Evs.cons (v := (.int .i64 (((k) : Nat) : Int))) (hF.ev 0 rfl) Evs.nil)) w)) trivial rfl (fun _ _ => rfl) (kM [false, false, true, true, true, true, true, true] rfl rfl) (by decide) ?_
    clear hH
    rintro v9 E5 w hO6 hH
    replace hH : HH w0 [] [E3, E5] w := hH
    obtain ⟨A7, c8, rfl⟩ := hO6.slice
    refine pxE 0 hH rfl (fun _ hF => Does.small (write_c g2 (Dk.new k) E3 hD4 0 (fil k first) (by decide) (by decide) A7 c8 (hH.off3 0 1 rfl rfl rfl hO6) (by rw [fil_len]; omega) (Nat.zero_le _) (by rw [new_len]; omega)) (fun w => opCall rfl Try.func13 rfl rfl (Evs.cons (v := (.pointer (some ⟨g2, 0, none⟩))) (hF.ev 1 rfl) (Evs.cons (v := (.int .i64 0)) rfl (Evs.cons (v := (.slice A7 ((fil k first).length) c8)) (hF.ev 0 rfl) Evs.nil))) w)) (hO6.vuAt (hH.has 1 rfl)) rfl (fun _ _ => rfl) (kM [false, false, true, true, true, true, true] rfl rfl) (by decide) ?_
    clear hH
    rintro _ E11 w ⟨rfl, hD12⟩ hH
    replace hH : HH w0 [] [E11, E5] w := hH
    refine pxV (v := (.bool false)) (fun _ _ hF => opNeI rfl (hF.ev 0 rfl) rfl (decide_eq_false (by rw [(t1 k first).1]; simp))) rfl (fun _ _ => rfl) (kM [false, true, true, true, true, true] rfl rfl) (by decide) ?_
    refine pxV (v := (.bool false)) (fun _ _ hF => opMove rfl (hF.ev 0 rfl)) rfl (fun _ _ => rfl) (kM [false, true, true, true, true, true] rfl rfl) (by decide) ?_
    refine pxV (v := (.pointer (some ⟨g2, 0, none⟩))) (fun _ _ hF => opMove rfl (hF.ev 1 rfl)) rfl (gOn 0 rfl rfl rfl (by decide)) (kA rfl) (by decide) ?_
    refine pxE 0 hH rfl (fun _ hF => Does.small (sync_c g2 (T1 k first) E11 hD12 (by rw [(t1 k first).2]; show (en _ _).length ≤ _; rw [en_len, secs_len, fil_div]; omega)) (fun w => opCall rfl Try.func15 rfl rfl (Evs.cons (v := (.pointer (some ⟨g2, 0, none⟩))) (hF.ev 0 rfl) Evs.nil) w)) trivial rfl (gOn 1 rfl rfl rfl (by decide)) (kM [false, true, true, true, true, true, true] rfl rfl) (by decide) ?_
    clear hH
    rintro _ E13 w ⟨rfl, hD14⟩ hH
    replace hH : HH w0 [] [E13, E5] w := hH
    refine pxV (v := (.bool false)) (fun _ _ hF => opNeI rfl (hF.ev 0 rfl) rfl (decide_eq_false (by rw [(t2 k first).1]; simp))) rfl (gOn 1 rfl rfl rfl (by decide)) (kM [false, true, true, true, true, true, true] rfl rfl) (by decide) ?_
    refine pxV (v := (.bool false)) (fun _ _ hF => opPickF rfl (hF.ev 1 rfl) (hF.ev 0 rfl)) rfl (fun _ _ => rfl) (kM [false, false, true, true, true, true, true] rfl rfl) (by decide) ?_
    refine pxV (v := (.bool false)) (fun _ _ hF => opMove rfl (hF.ev 0 rfl)) rfl (fun _ _ => rfl) (kM [false, true, true, true, true, true] rfl rfl) (by decide) ?_
    refine pxV (v := (.pointer (some ⟨g2, 0, none⟩))) (fun _ _ hF => opMove rfl (hF.ev 1 rfl)) rfl (gOn 0 rfl rfl rfl (by decide)) (kA rfl) (by decide) ?_
    refine pxV (v := (.int .u8 (((second.toNat) : Nat) : Int))) (fun _ _ hF => opMove rfl (hF.ev 5 rfl)) rfl (gOn 1 rfl rfl rfl (by decide)) (kA rfl) (by decide) ?_
    refine pxV (v := (.int .i64 (((k) : Nat) : Int))) (fun _ _ hF => opMove rfl (hF.ev 4 rfl)) rfl (gOn 2 rfl rfl rfl (by decide)) (kA rfl) (by decide) ?_
    refine pxM hH (fun _ hF => Does.small (filled_c second k (by omega)) (fun w => opCall rfl Try.func14 rfl rfl (Evs.cons (v := (.int .u8 (((second.toNat) : Nat) : Int))) (hF.ev 1 rfl) (Evs.cons (v := (.int .i64 (((k) : Nat) : Int))) (hF.ev 0 rfl) Evs.nil)) w)) trivial rfl (gOn 3 rfl rfl rfl (by decide)) (kM [false, false, true, true, true, true, true, true, true] rfl rfl) (by decide) ?_
    clear hH
    rintro v19 E15 w hO16 hH
    replace hH : HH w0 [] [E13, E5, E15] w := hH
    obtain ⟨A17, c18, rfl⟩ := hO16.slice
    refine pxE 0 hH rfl (fun _ hF => Does.small (write_c g2 (T2 k first) E13 hD14 0 (fil k second) (by decide) (by decide) A17 c18 (hH.off3 0 2 rfl rfl rfl hO16) (by rw [fil_len]; omega) (by rw [(t2 k first).2]; exact Nat.zero_le _) (by rw [(t2_len k first).1]; omega)) (fun w => opCall rfl Try.func13 rfl rfl (Evs.cons (v := (.pointer (some ⟨g2, 0, none⟩))) (hF.ev 1 rfl) (Evs.cons (v := (.int .i64 0)) rfl (Evs.cons (v := (.slice A17 ((fil k second).length) c18)) (hF.ev 0 rfl) Evs.nil))) w)) (hO16.vuAt (hH.has 2 rfl)) rfl (gOn 2 rfl rfl rfl (by decide)) (kM [false, false, true, true, true, true, true, true] rfl rfl) (by decide) ?_
    clear hH
    rintro _ E21 w ⟨rfl, hD22⟩ hH
    replace hH : HH w0 [] [E21, E5, E15] w := hH
    refine pxV (v := (.bool false)) (fun _ _ hF => opNeI rfl (hF.ev 0 rfl) rfl (decide_eq_false (by rw [(t3 k first second).1]; simp))) rfl (gOn 1 rfl rfl rfl (by decide)) (kM [false, true, true, true, true, true, true] rfl rfl) (by decide) ?_
    refine pxV (v := (.bool false)) (fun _ _ hF => opPickF rfl (hF.ev 1 rfl) (hF.ev 0 rfl)) rfl (fun _ _ => rfl) (kM [false, false, true, true, true, true, true] rfl rfl) (by decide) ?_
    refine pxEnd ?_
    refine qxThen ?_
    refine cxF 0 rfl rfl ?_
    refine cxSkip ?_
    refine qxThen ?_
    refine cxSeq ?_
    refine cxReg ?_
    refine pxV (v := (.pointer (some ⟨g2, 0, none⟩))) (fun _ _ hF => opMove rfl (hF.ev 1 rfl)) rfl (fun _ _ => rfl) (kM [false, true, true, true, true, true] rfl rfl) (by decide) ?_
    refine pxV (v := (.slice A keep.length c)) (fun _ _ hF => opMove rfl (hF.ev 5 rfl)) rfl (fun _ _ => rfl) (kA rfl) (by decide) ?_
    refine pxE 0 hH rfl (fun _ hF => Does.small (crash_c g2 (T3 k first second) E21 hD22 keep A c (hH.off 0 rfl hR (by decide) (Off.nil _ _)) (by rw [(t3 k first second).2.2.1, en_len, secs_len, fil_div]; omega)) (fun w => opCall rfl Try.func16 rfl rfl (Evs.cons (v := (.pointer (some ⟨g2, 0, none⟩))) (hF.ev 1 rfl) (Evs.cons (v := (.slice A keep.length c)) (hF.ev 0 rfl) Evs.nil)) w)) (hH.vu hR (by decide) (Off.nil _ _)) rfl (fun _ _ => rfl) (kM [false, false, true, true, true, true, true] rfl rfl) (by decide) ?_
    clear hH
    rintro _ E23 w ⟨rfl, hD24⟩ hH
    replace hH : HH w0 [] [E23, E5, E15] w := hH
    refine pxEnd ?_
    refine qxThen ?_
    refine cxSeq ?_
    refine cxReg ?_
    refine pxV (v := (.pointer (some ⟨g2, 0, none⟩))) (fun _ _ hF => opMove rfl (hF.ev 1 rfl)) rfl (fun _ _ => rfl) (kM [false, true, true, true, true, true] rfl rfl) (by decide) ?_
    refine pxV (v := (.int .i64 (((k) : Nat) : Int))) (fun _ _ hF => opMove rfl (hF.ev 2 rfl)) rfl (fun _ _ => rfl) (kA rfl) (by decide) ?_
    refine pxE 0 hH rfl (fun _ hF => Does.small (read_c g2 (T4 k first second keep) E23 hD24 0 (((k) : Nat) : Int) (by omega) (by omega) hD24.ok.sz) (fun w => opCall rfl Try.func17 rfl rfl (Evs.cons (v := (.pointer (some ⟨g2, 0, none⟩))) (hF.ev 1 rfl) (Evs.cons (v := (.int .i64 0)) rfl (Evs.cons (v := (.int .i64 (((k) : Nat) : Int))) (hF.ev 0 rfl) Evs.nil))) w)) trivial rfl (fun _ _ => rfl) (kM [false, false, true, true, true, true, true] rfl rfl) (by decide) ?_
    clear hH
    rintro _ _ w ⟨s25, E26, E27, rfl, rfl, hD28, hO29⟩ hH
    replace hH : HH w0 [] [([E27, E26] : List Hl).flatten, E5, E15] w := hH
    obtain ⟨A30, c31, rfl⟩ := hO29.slice
    replace hH : HH w0 [] [E27, E26, E5, E15] w := hH.cast (by simp)
    refine pxV (v := (.tuple #[(.slice A30 (((T4 k first second keep).reads 0 (((k) : Nat) : Int)).2.length) c31), (.int .i64 (((((T4 k first second keep).reads 0 (((k) : Nat) : Int)).1) : Nat) : Int))])) (fun _ _ hF => opMove rfl (hF.ev 0 rfl)) rfl (fun _ _ => rfl) (kM [false, true, true, true, true, true] rfl rfl) (by decide) ?_
    refine pxV (v := (.slice A30 (((T4 k first second keep).reads 0 (((k) : Nat) : Int)).2.length) c31)) (fun _ _ hF => opExtract rfl (hF.ev 0 rfl) rfl) rfl (fun _ _ => rfl) (kA rfl) (by decide) ?_
    refine pxV (v := (.int .i64 (((((T4 k first second keep).reads 0 (((k) : Nat) : Int)).1) : Nat) : Int))) (fun _ _ hF => opExtract rfl (hF.ev 1 rfl) rfl) rfl (fun _ _ => rfl) (kM [true, false, true, true, true, true, true] rfl rfl) (by decide) ?_
    refine pxV (v := (.slice A30 (((T4 k first second keep).reads 0 (((k) : Nat) : Int)).2.length) c31)) (fun _ _ hF => opAssign rfl (hF.ev 1 rfl)) rfl (fun _ _ => rfl) (kM [true, false, true, true, true, true, true] rfl rfl) (by decide) ?_
    refine pxV (v := (.int .i64 (((((T4 k first second keep).reads 0 (((k) : Nat) : Int)).1) : Nat) : Int))) (fun _ _ hF => opAssign rfl (hF.ev 1 rfl)) rfl (fun _ _ => rfl) (kM [true, false, true, true, true, true, true] rfl rfl) (by decide) ?_
    refine pxEnd ?_
    refine qxThen ?_
    refine cxSeq ?_
    refine cxSeq ?_
    refine cxReg ?_
    refine pxV (v := (.int .i64 (((((T4 k first second keep).reads 0 (((k) : Nat) : Int)).1) : Nat) : Int))) (fun _ _ hF => opMove rfl (hF.ev 0 rfl)) rfl (fun _ _ => rfl) (kM [false, true, true, true, true, true, true] rfl rfl) (by decide) ?_
    refine pxV (v := (.bool false)) (fun _ _ hF => opNeI rfl (hF.ev 0 rfl) rfl (decide_eq_false (by rw [t4_reads]; simp))) rfl (fun _ _ => rfl) (kM [false, true, true, true, true, true, true] rfl rfl) (by decide) ?_
    refine pxV (v := (.bool false)) (fun _ _ hF => opMove rfl (hF.ev 0 rfl)) rfl (fun _ _ => rfl) (kM [false, true, true, true, true, true, true] rfl rfl) (by decide) ?_
    refine pxV (v := (.pointer (some ⟨g2, 0, none⟩))) (fun _ _ hF => opMove rfl (hF.ev 2 rfl)) rfl (gOn 0 rfl rfl rfl (by decide)) (kM [true, true, false, true, true, true, true] rfl rfl) (by decide) ?_
    refine pxE 0 hH rfl (fun _ hF => Does.small (unsynced_c g2 (T4 k first second keep) E27 hD28 ) (fun w => opCall rfl Try.func18 rfl rfl (Evs.cons (v := (.pointer (some ⟨g2, 0, none⟩))) (hF.ev 0 rfl) Evs.nil) w)) trivial rfl (gOn 1 rfl rfl rfl (by decide)) (kM [false, true, true, true, true, true, true] rfl rfl) (by decide) ?_
    clear hH
    rintro _ E32 w ⟨rfl, hD33⟩ hH
    replace hH : HH w0 [] [E32, E26, E5, E15] w := hH
    refine pxV (v := (.bool false)) (fun _ _ hF => opNeI rfl (hF.ev 0 rfl) rfl (decide_eq_false (by simp [T4, Dk.crash, Dk.settle]))) rfl (gOn 1 rfl rfl rfl (by decide)) (kM [false, true, true, true, true, true, true] rfl rfl) (by decide) ?_
    refine pxV (v := (.bool false)) (fun _ _ hF => opPickF rfl (hF.ev 1 rfl) (hF.ev 0 rfl)) rfl (fun _ _ => rfl) (kM [false, false, true, true, true, true, true] rfl rfl) (by decide) ?_
    refine pxEnd ?_
    refine qxThen ?_
    refine cxF 0 rfl rfl ?_
    refine cxSkip ?_
    refine qxThen ?_
    refine cxSeq ?_
    refine cxSeq ?_
    refine cxReg ?_
    refine pxV (v := (.int .i64 (((k) : Nat) : Int))) (fun _ _ hF => opMove rfl (hF.ev 2 rfl)) rfl (fun _ _ => rfl) (kM [false, true, false, true, true, true] rfl rfl) (by decide) ?_
    refine pxV (v := (.int .i64 0)) (fun _ _ hF => opMove rfl rfl) rfl (fun _ _ => rfl) (kA rfl) (by decide) ?_
    refine pxEnd ?_
    refine qxThen ?_
    refine cxBlock ?_
    refine cxLoop (σ := Nat) (fun x => [(65, (.int .i64 (((x) : Nat) : Int))), (64, (.int .i64 (((k) : Nat) : Int))), (11, (.slice A30 (((T4 k first second keep).reads 0 (((k) : Nat) : Int)).2.length) c31)), (3, (.slice A keep.length c)), (1, (.int .u8 (((second.toNat) : Nat) : Int))), (0, (.int .u8 (((first.toNat) : Nat) : Int)))]) (fun x w => HH w0 [] [E32, E26, E5, E15] w ∧ (x ≤ k)) (fun x => k - x) 0 ⟨hH, (Nat.zero_le _)⟩ (slots_at [0, 1, 2, 5, 4, 3] rfl) ?_
    clear hH
    rintro i w ⟨hH, hi⟩
    change CX _ _ _ _ [(65, (.int .i64 (((i) : Nat) : Int))), (64, (.int .i64 (((k) : Nat) : Int))), (11, (.slice A30 (((T4 k first second keep).reads 0 (((k) : Nat) : Int)).2.length) c31)), (3, (.slice A keep.length c)), (1, (.int .u8 (((second.toNat) : Nat) : Int))), (0, (.int .u8 (((first.toNat) : Nat) : Int)))] _
    replace hH : HH w0 [] [E32, E26, E5, E15] w := hH
    replace hi : i ≤ k := hi
    refine cxSeq ?_
    refine cxReg ?_
    refine pxV (v := (.bool (decide (i < k)))) (fun _ _ hF => opLss rfl (hF.ev 0 rfl) (hF.ev 1 rfl) (dc (by omega))) rfl (fun _ _ => rfl) (kA rfl) (by decide) ?_
    refine pxEnd ?_
    refine qxThen ?_
    refine cxSeq ?_
    refine cxP 0 rfl rfl (fun hc34 => ?_) (fun hc34 => ?_)
    · refine cxSkip ?_
      refine qxThen ?_
      refine cxSeq ?_
      refine cxBlock ?_
      refine cxSeq ?_
      refine cxReg ?_
      refine pxV (v := (.int .i64 (((i) : Nat) : Int))) (fun _ _ hF => opMove rfl (hF.ev 1 rfl)) rfl (fun _ _ => rfl) (kM [false, true, true, true, true, true, true] rfl rfl) (by decide) ?_
      refine pxV (v := (.int .i64 (((i) : Nat) : Int))) (fun _ _ hF => opAssign rfl (hF.ev 0 rfl)) rfl (fun _ _ => rfl) (kM [false, true, true, true, true, true, true] rfl rfl) (by decide) ?_
      refine pxEnd ?_
      refine qxThen ?_
      refine cxSeq ?_
      refine cxReg ?_
      refine pxV (v := (.int .u8 (((first.toNat) : Nat) : Int))) (fun _ _ hF => opMove rfl (hF.ev 6 rfl)) rfl (fun _ _ => rfl) (kA rfl) (by decide) ?_
      refine pxV (v := (.int .u8 (((first.toNat) : Nat) : Int))) (fun _ _ hF => opAssign rfl (hF.ev 0 rfl)) rfl (fun _ _ => rfl) (kM [false, true, true, true, true, true, true, true] rfl rfl) (by decide) ?_
      refine pxEnd ?_
      refine qxThen ?_
      refine cxSeq ?_
      refine cxSeq ?_
      refine cxReg ?_
      refine pxV (v := (.slice A keep.length c)) (fun _ _ hF => opMove rfl (hF.ev 5 rfl)) rfl (fun _ _ => rfl) (kA rfl) (by decide) ?_
      refine pxV (v := (.int .i64 (((keep.length) : Nat) : Int))) (fun _ _ hF => opLen (e := 4) rfl (by kernel_rfl) (hF.ev 0 rfl)) rfl (fun _ _ => rfl) (kM [false, true, true, true, true, true, true, true, true] rfl rfl) (by decide) ?_
      refine pxV (v := (.bool (decide (keep.length > 0)))) (fun _ _ hF => opGtr rfl (hF.ev 0 rfl) rfl (dc (by omega))) rfl (fun _ _ => rfl) (kM [false, true, true, true, true, true, true, true, true] rfl rfl) (by decide) ?_
      refine pxV (v := (.bool (decide (keep.length > 0)))) (fun _ _ hF => opMove rfl (hF.ev 0 rfl)) rfl (fun _ _ => rfl) (kM [false, true, true, true, true, true, true, true, true] rfl rfl) (by decide) ?_
      refine pxSplitP 0 rfl (l1 := [(72, (.bool true)), (14, (.int .u8 (((first.toNat) : Nat) : Int))), (13, (.int .i64 (((i) : Nat) : Int))), (65, (.int .i64 (((i) : Nat) : Int))), (64, (.int .i64 (((k) : Nat) : Int))), (11, (.slice A30 (((T4 k first second keep).reads 0 (((k) : Nat) : Int)).2.length) c31)), (3, (.slice A keep.length c)), (1, (.int .u8 (((second.toNat) : Nat) : Int))), (0, (.int .u8 (((first.toNat) : Nat) : Int)))]) (l2 := [(72, (.bool false)), (14, (.int .u8 (((first.toNat) : Nat) : Int))), (13, (.int .i64 (((i) : Nat) : Int))), (65, (.int .i64 (((i) : Nat) : Int))), (64, (.int .i64 (((k) : Nat) : Int))), (11, (.slice A30 (((T4 k first second keep).reads 0 (((k) : Nat) : Int)).2.length) c31)), (3, (.slice A keep.length c)), (1, (.int .u8 (((second.toNat) : Nat) : Int))), (0, (.int .u8 (((first.toNat) : Nat) : Int)))]) rfl rfl (fun hg35 => ?_) (fun hg35 => ?_)
      · refine pxV (v := (.slice A keep.length c)) (fun _ _ hF => opMove rfl (hF.ev 6 rfl)) rfl (gOn 0 rfl rfl rfl (by decide)) (kA rfl) (by decide) ?_
        refine pxV (v := (.int .i64 (((i) : Nat) : Int))) (fun _ _ hF => opMove rfl (hF.ev 3 rfl)) rfl (gOn 1 rfl rfl rfl (by decide)) (kA rfl) (by decide) ?_
        refine pxV (v := (.slice A keep.length c)) (fun _ _ hF => opMove rfl (hF.ev 8 rfl)) rfl (gOn 2 rfl rfl rfl (by decide)) (kA rfl) (by decide) ?_
        refine pxV (v := (.int .i64 (((keep.length) : Nat) : Int))) (fun _ _ hF => opLen (e := 4) rfl (by kernel_rfl) (hF.ev 0 rfl)) rfl (gOn 3 rfl rfl rfl (by decide)) (kM [false, true, true, true, true, true, true, true, true, true, true, true] rfl rfl) (by decide) ?_
        refine pxV (v := (.int .i64 (((i % keep.length) : Nat) : Int))) (fun _ _ hF => opRem (z := ((i % keep.length : Nat) : Int)) rfl (hF.ev 1 rfl) (hF.ev 0 rfl) (by omega) remN) rfl (gOn 3 rfl rfl rfl (by decide)) (kM [false, false, true, true, true, true, true, true, true, true, true, true] rfl rfl) (by decide) ?_
        have hi36 : i % keep.length < keep.length := Nat.mod_lt _ (by omega)
        obtain ⟨b37, off38, rfl, hL39, hb40, hR41⟩ := hR.blk (by decide) (Off.nil _ _) (by omega)
        have := hR.cap
        have hj44 : i % keep.length < keep.length := by first | exact hi36 | (simp only [List.length_drop, List.length_take]; omega) | omega
        obtain ⟨x42, hx43⟩ := get_at keep (i % keep.length) hj44
        refine pxV (v := (.pointer (some ⟨b37, off38 + (i % keep.length) * 1, none⟩))) (fun _ _ hF => opIndex (i := i % keep.length) (e := 4) (sz := 1) rfl (by kernel_rfl) (by kernel_rfl) (hF.ev 1 rfl) (hF.ev 0 rfl) rfl hi36) rfl (gOn 2 rfl rfl rfl (by decide)) (kM [false, false, true, true, true, true, true, true, true, true, true] rfl rfl) (by decide) ?_
        refine pxS (v := (.bool (x42))) (fun w => HoldsL cBool w b37 off38 keep) (hH.holdsL hL39 hb40 hR41) (fun _ _ hF hS => opLoadT (C := cBool) (y := x42) rfl (hF.ev 0 rfl) (by kernel_rfl) (hS (i % keep.length) _ hx43) rfl) rfl (gOn 1 rfl rfl rfl (by decide)) (kM [false, true, true, true, true, true, true, true, true, true] rfl rfl) (by decide) ?_
        refine pxV (v := (.bool (x42))) (fun _ _ hF => opPickT rfl (hF.ev 1 rfl) (hF.ev 0 rfl)) rfl (fun _ _ => rfl) (kM [false, false, true, true, true, true, true, true, true, true] rfl rfl) (by decide) ?_
        refine pxEnd ?_
        refine qxThen ?_
        refine cxB 0 rfl rfl (fun hc45 => ?_) (fun hc45 => ?_)
        · refine cxReg ?_
          refine pxV (v := (.int .u8 (((second.toNat) : Nat) : Int))) (fun _ _ hF => opMove rfl (hF.ev 7 rfl)) rfl (fun _ _ => rfl) (kM [false, false, true, true, true, true, true, true, true] rfl rfl) (by decide) ?_
          refine pxV (v := (.int .u8 (((second.toNat) : Nat) : Int))) (fun _ _ hF => opAssign rfl (hF.ev 0 rfl)) rfl (fun _ _ => rfl) (kM [false, true, true, true, true, true, true, true] rfl rfl) (by decide) ?_
          refine pxEnd ?_
          refine qxThen ?_
          refine cxSeq ?_
          refine cxRegX mixedOrders (by kernel_rfl) ?_
          replace hH := hH.drew
          refine rxV 0 rfl (by kernel_rfl) rfl (fun _ _ => rfl) (fun _ _ hF => opMove rfl (hF.ev 4 rfl)) (kA rfl) (by decide) (v := (.slice A30 (((T4 k first second keep).reads 0 (((k) : Nat) : Int)).2.length) c31)) ?_
          refine rxV 1 rfl (by kernel_rfl) rfl (fun _ _ => rfl) (fun _ _ hF => opMove rfl (hF.ev 2 rfl)) (kA rfl) (by decide) (v := (.int .i64 (((i) : Nat) : Int))) ?_
          refine rxV 2 rfl (by kernel_rfl) rfl (fun _ _ => rfl) (fun _ _ hF => opMul rfl rfl (hF.ev 0 rfl) (wI (by omega) (by omega) (by omega))) (kM [false, true, true, true, true, true, true, true, true, true] rfl rfl) (by decide) (v := (.int .i64 (((64 * i) : Nat) : Int))) ?_
          refine rxV 3 rfl (by kernel_rfl) rfl (fun _ _ => rfl) (fun _ _ hF => opMove rfl (hF.ev 3 rfl)) (kM [true, true, true, false, true, true, true, true, true, true] rfl rfl) (by decide) (v := (.int .i64 (((i) : Nat) : Int))) ?_
          refine rxV 4 rfl (by kernel_rfl) rfl (fun _ _ => rfl) (fun _ _ hF => opMul rfl rfl (hF.ev 0 rfl) (wI (by omega) (by omega) (by omega))) (kM [false, true, true, true, true, true, true, true, true, true] rfl rfl) (by decide) (v := (.int .i64 (((64 * i) : Nat) : Int))) ?_
          refine rxV 5 rfl (by kernel_rfl) rfl (fun _ _ => rfl) (fun _ _ hF => opAdd rfl (hF.ev 0 rfl) rfl (wI (by omega) (by omega) (by omega))) (kM [false, true, true, true, true, true, true, true, true, true] rfl rfl) (by decide) (v := (.int .i64 ((((64 * i) + 64) : Nat) : Int))) ?_
          have hcap := hO29.capLe
          have hlen : ((T4 k first second keep).reads 0 ((k : Nat) : Int)).2.length = 64 * k := by rw [t4_reads]; show (unsec _).length = _; rw [unsec_len, t4_now]; omega
          refine rxV 6 rfl (by kernel_rfl) rfl (fun _ _ => rfl) (fun _ _ hF => opCutLH (k := 64 * i) (h := (64 * i) + 64) (e := 5) (sz := 1) rfl (by kernel_rfl) (by kernel_rfl) (hF.ev 2 rfl) (hF.ev 1 rfl) (hF.ev 0 rfl) rfl rfl (by omega) (by omega)) (kM [false, false, false, true, true, true, true, true, true, true] rfl rfl) (by decide) (v := (.slice (cutA A30 c31 (64 * i) 1) (((64 * i) + 64) - (64 * i)) (c31 - (64 * i)))) ?_
          refine rxS (fun w => Vu cByte w (cutA A30 c31 (64 * i) 1) (((64 * i) + 64) - (64 * i)) (c31 - (64 * i)) ((((T4 k first second keep).reads 0 (((k) : Nat) : Int)).2.take ((64 * i) + 64)).drop (64 * i))) 7 rfl (by kernel_rfl) rfl (fun _ _ => rfl) ((hO29.vuAt (hH.has 1 rfl)).cut (k := 64 * i) (m := (64 * i) + 64) (by omega) (by omega)) (fun _ _ hF hS => opStr (e := 5) rfl (by kernel_rfl) (by kernel_rfl) (by kernel_rfl) (hF.ev 0 rfl) hS) (kM [false, true, true, true, true, true, true, true] rfl rfl) (by decide) (v := (.string (strL ((((T4 k first second keep).reads 0 (((k) : Nat) : Int)).2.take ((64 * i) + 64)).drop (64 * i))))) ?_
          refine rxV 8 rfl (by kernel_rfl) rfl (fun _ _ => rfl) (fun _ _ hF => opMove rfl (hF.ev 1 rfl)) (kM [true, false, true, true, true, true, true, true] rfl rfl) (by decide) (v := (.int .u8 (((second.toNat) : Nat) : Int))) ?_
          refine rx1 9 (by kernel_rfl) ?_
          refine moM rfl hH (fun _ hF => Does.small (filled_c second 1 (by omega)) (fun w => opCall rfl Try.func14 rfl rfl (Evs.cons (v := (.int .u8 (((second.toNat) : Nat) : Int))) (hF.ev 0 rfl) (Evs.cons (v := (.int .i64 1)) rfl Evs.nil)) w)) trivial rfl (fun _ _ => rfl) (kM [false, true, true, true, true, true, true, true] rfl rfl) (by decide) (PendOk.keep (PendOk.nil _ [])) ?_
          clear hH
          rintro v50 E46 w hO47 hH
          replace hH : HH w0 [] [E32, E26, E5, E15, E46] w := hH
          obtain ⟨A48, c49, rfl⟩ := hO47.slice
          refine ⟨(by
            intro s hs
            simp only [List.mem_cons, List.not_mem_nil, or_false] at hs
            rcases hs with rfl
            · exact ((hO29.vuAt (hH.has 1 rfl)).cut (k := 64 * i) (m := (64 * i) + 64) (by omega) (by omega))
            ), ?_⟩
          refine rxS (fun w => Vu cByte w A48 ((fil 1 second).length) c49 (fil 1 second)) 10 rfl (by kernel_rfl) rfl (fun _ _ => rfl) (hO47.vuAt (hH.has 4 rfl)) (fun _ _ hF hS => opStr (e := 5) rfl (by kernel_rfl) (by kernel_rfl) (by kernel_rfl) (hF.ev 0 rfl) hS) (kM [false, true, true, true, true, true, true, true] rfl rfl) (by decide) (v := (.string (strL (fil 1 second)))) ?_
          refine rxV 11 rfl (by kernel_rfl) rfl (fun _ _ => rfl) (fun _ _ hF => opNeS rfl (hF.ev 1 rfl) (hF.ev 0 rfl) (decide_eq_false (fun h => h (congrArg strL (by rw [t4_reads]; show ((unsec (T4 k first second keep).now).take _).drop _ = _; rw [torn_at first second keep (by omega), getD_at hx43, hc45]; rfl))))) (kM [false, false, true, true, true, true, true, true] rfl rfl) (by decide) (v := (.bool false)) ?_
          refine rxEnd (by kernel_rfl) ?_
          refine qxThen ?_
          refine cxF 0 rfl rfl ?_
          refine cxSkip ?_
          refine qxInN ?_
          refine qxThen ?_
          refine cxReg ?_
          refine pxV (v := (.int .i64 (((i + 1) : Nat) : Int))) (fun _ _ hF => opAdd rfl (hF.ev 1 rfl) rfl (wI (by omega) (by omega) (by omega))) rfl (fun _ _ => rfl) (kM [false, false, true, true, true, true, true] rfl rfl) (by decide) ?_
          refine pxV (v := (.int .i64 (((i + 1) : Nat) : Int))) (fun _ _ hF => opMove rfl (hF.ev 0 rfl)) rfl (fun _ _ => rfl) (kM [false, true, true, true, true, true] rfl rfl) (by decide) ?_
          refine pxEnd ?_
          replace hH : HH w0 [] [E32, E26, E5, E15] w := hH.only [true, true, true, true, false]
          exact qxRound (i + 1) ⟨hH, (by omega)⟩ (by omega) (slots_at [0, 1, 2, 3, 4, 5] rfl)
        · refine cxSkip ?_
          refine qxThen ?_
          refine cxSeq ?_
          refine cxRegX mixedOrders (by kernel_rfl) ?_
          replace hH := hH.drew
          refine rxV 0 rfl (by kernel_rfl) rfl (fun _ _ => rfl) (fun _ _ hF => opMove rfl (hF.ev 5 rfl)) (kM [false, true, true, true, true, true, true, true, true] rfl rfl) (by decide) (v := (.slice A30 (((T4 k first second keep).reads 0 (((k) : Nat) : Int)).2.length) c31)) ?_
          refine rxV 1 rfl (by kernel_rfl) rfl (fun _ _ => rfl) (fun _ _ hF => opMove rfl (hF.ev 2 rfl)) (kA rfl) (by decide) (v := (.int .i64 (((i) : Nat) : Int))) ?_
          refine rxV 2 rfl (by kernel_rfl) rfl (fun _ _ => rfl) (fun _ _ hF => opMul rfl rfl (hF.ev 0 rfl) (wI (by omega) (by omega) (by omega))) (kM [false, true, true, true, true, true, true, true, true, true] rfl rfl) (by decide) (v := (.int .i64 (((64 * i) : Nat) : Int))) ?_
          refine rxV 3 rfl (by kernel_rfl) rfl (fun _ _ => rfl) (fun _ _ hF => opMove rfl (hF.ev 3 rfl)) (kM [true, true, true, false, true, true, true, true, true, true] rfl rfl) (by decide) (v := (.int .i64 (((i) : Nat) : Int))) ?_
          refine rxV 4 rfl (by kernel_rfl) rfl (fun _ _ => rfl) (fun _ _ hF => opMul rfl rfl (hF.ev 0 rfl) (wI (by omega) (by omega) (by omega))) (kM [false, true, true, true, true, true, true, true, true, true] rfl rfl) (by decide) (v := (.int .i64 (((64 * i) : Nat) : Int))) ?_
          refine rxV 5 rfl (by kernel_rfl) rfl (fun _ _ => rfl) (fun _ _ hF => opAdd rfl (hF.ev 0 rfl) rfl (wI (by omega) (by omega) (by omega))) (kM [false, true, true, true, true, true, true, true, true, true] rfl rfl) (by decide) (v := (.int .i64 ((((64 * i) + 64) : Nat) : Int))) ?_
          have hcap := hO29.capLe
          have hlen : ((T4 k first second keep).reads 0 ((k : Nat) : Int)).2.length = 64 * k := by rw [t4_reads]; show (unsec _).length = _; rw [unsec_len, t4_now]; omega
          refine rxV 6 rfl (by kernel_rfl) rfl (fun _ _ => rfl) (fun _ _ hF => opCutLH (k := 64 * i) (h := (64 * i) + 64) (e := 5) (sz := 1) rfl (by kernel_rfl) (by kernel_rfl) (hF.ev 2 rfl) (hF.ev 1 rfl) (hF.ev 0 rfl) rfl rfl (by omega) (by omega)) (kM [false, false, false, true, true, true, true, true, true, true] rfl rfl) (by decide) (v := (.slice (cutA A30 c31 (64 * i) 1) (((64 * i) + 64) - (64 * i)) (c31 - (64 * i)))) ?_
          refine rxS (fun w => Vu cByte w (cutA A30 c31 (64 * i) 1) (((64 * i) + 64) - (64 * i)) (c31 - (64 * i)) ((((T4 k first second keep).reads 0 (((k) : Nat) : Int)).2.take ((64 * i) + 64)).drop (64 * i))) 7 rfl (by kernel_rfl) rfl (fun _ _ => rfl) ((hO29.vuAt (hH.has 1 rfl)).cut (k := 64 * i) (m := (64 * i) + 64) (by omega) (by omega)) (fun _ _ hF hS => opStr (e := 5) rfl (by kernel_rfl) (by kernel_rfl) (by kernel_rfl) (hF.ev 0 rfl) hS) (kM [false, true, true, true, true, true, true, true] rfl rfl) (by decide) (v := (.string (strL ((((T4 k first second keep).reads 0 (((k) : Nat) : Int)).2.take ((64 * i) + 64)).drop (64 * i))))) ?_
          refine rxV 8 rfl (by kernel_rfl) rfl (fun _ _ => rfl) (fun _ _ hF => opMove rfl (hF.ev 1 rfl)) (kM [true, false, true, true, true, true, true, true] rfl rfl) (by decide) (v := (.int .u8 (((first.toNat) : Nat) : Int))) ?_
          refine rx1 9 (by kernel_rfl) ?_
          refine moM rfl hH (fun _ hF => Does.small (filled_c first 1 (by omega)) (fun w => opCall rfl Try.func14 rfl rfl (Evs.cons (v := (.int .u8 (((first.toNat) : Nat) : Int))) (hF.ev 0 rfl) (Evs.cons (v := (.int .i64 1)) rfl Evs.nil)) w)) trivial rfl (fun _ _ => rfl) (kM [false, true, true, true, true, true, true, true] rfl rfl) (by decide) (PendOk.keep (PendOk.nil _ [])) ?_
          clear hH
          rintro v56 E52 w hO53 hH
          replace hH : HH w0 [] [E32, E26, E5, E15, E52] w := hH
          obtain ⟨A54, c55, rfl⟩ := hO53.slice
          refine ⟨(by
            intro s hs
            simp only [List.mem_cons, List.not_mem_nil, or_false] at hs
            rcases hs with rfl
            · exact ((hO29.vuAt (hH.has 1 rfl)).cut (k := 64 * i) (m := (64 * i) + 64) (by omega) (by omega))
            ), ?_⟩
          refine rxS (fun w => Vu cByte w A54 ((fil 1 first).length) c55 (fil 1 first)) 10 rfl (by kernel_rfl) rfl (fun _ _ => rfl) (hO53.vuAt (hH.has 4 rfl)) (fun _ _ hF hS => opStr (e := 5) rfl (by kernel_rfl) (by kernel_rfl) (by kernel_rfl) (hF.ev 0 rfl) hS) (kM [false, true, true, true, true, true, true, true] rfl rfl) (by decide) (v := (.string (strL (fil 1 first)))) ?_
          refine rxV 11 rfl (by kernel_rfl) rfl (fun _ _ => rfl) (fun _ _ hF => opNeS rfl (hF.ev 1 rfl) (hF.ev 0 rfl) (decide_eq_false (fun h => h (congrArg strL (by rw [t4_reads]; show ((unsec (T4 k first second keep).now).take _).drop _ = _; rw [torn_at first second keep (by omega), getD_at hx43, hc45]; rfl))))) (kM [false, false, true, true, true, true, true, true] rfl rfl) (by decide) (v := (.bool false)) ?_
          refine rxEnd (by kernel_rfl) ?_
          refine qxThen ?_
          refine cxF 0 rfl rfl ?_
          refine cxSkip ?_
          refine qxInN ?_
          refine qxThen ?_
          refine cxReg ?_
          refine pxV (v := (.int .i64 (((i + 1) : Nat) : Int))) (fun _ _ hF => opAdd rfl (hF.ev 1 rfl) rfl (wI (by omega) (by omega) (by omega))) rfl (fun _ _ => rfl) (kM [false, false, true, true, true, true, true] rfl rfl) (by decide) ?_
          refine pxV (v := (.int .i64 (((i + 1) : Nat) : Int))) (fun _ _ hF => opMove rfl (hF.ev 0 rfl)) rfl (fun _ _ => rfl) (kM [false, true, true, true, true, true] rfl rfl) (by decide) ?_
          refine pxEnd ?_
          replace hH : HH w0 [] [E32, E26, E5, E15] w := hH.only [true, true, true, true, false]
          exact qxRound (i + 1) ⟨hH, (by omega)⟩ (by omega) (slots_at [0, 1, 2, 3, 4, 5] rfl)
      · refine pxU rfl (gOff 0 rfl rfl rfl (by decide)) (kA rfl) (by decide) ?_
        refine pxU rfl (gOff 0 rfl rfl rfl (by decide)) (kA rfl) (by decide) ?_
        refine pxU rfl (gOff 0 rfl rfl rfl (by decide)) (kA rfl) (by decide) ?_
        refine pxU rfl (gOff 0 rfl rfl rfl (by decide)) (kA rfl) (by decide) ?_
        refine pxU rfl (gOff 0 rfl rfl rfl (by decide)) (kA rfl) (by decide) ?_
        refine pxU rfl (gOff 0 rfl rfl rfl (by decide)) (kA rfl) (by decide) ?_
        refine pxU rfl (gOff 0 rfl rfl rfl (by decide)) (kA rfl) (by decide) ?_
        refine pxV (v := (.bool false)) (fun _ _ hF => opPickF rfl (hF.ev 0 rfl) rfl) rfl (fun _ _ => rfl) (kM [false, true, true, true, true, true, true, true, true] rfl rfl) (by decide) ?_
        refine pxEnd ?_
        refine qxThen ?_
        refine cxF 0 rfl rfl ?_
        refine cxSkip ?_
        refine qxThen ?_
        refine cxSeq ?_
        refine cxRegX mixedOrders (by kernel_rfl) ?_
        replace hH := hH.drew
        refine rxV 0 rfl (by kernel_rfl) rfl (fun _ _ => rfl) (fun _ _ hF => opMove rfl (hF.ev 5 rfl)) (kM [false, true, true, true, true, true, true, true, true] rfl rfl) (by decide) (v := (.slice A30 (((T4 k first second keep).reads 0 (((k) : Nat) : Int)).2.length) c31)) ?_
        refine rxV 1 rfl (by kernel_rfl) rfl (fun _ _ => rfl) (fun _ _ hF => opMove rfl (hF.ev 2 rfl)) (kA rfl) (by decide) (v := (.int .i64 (((i) : Nat) : Int))) ?_
        refine rxV 2 rfl (by kernel_rfl) rfl (fun _ _ => rfl) (fun _ _ hF => opMul rfl rfl (hF.ev 0 rfl) (wI (by omega) (by omega) (by omega))) (kM [false, true, true, true, true, true, true, true, true, true] rfl rfl) (by decide) (v := (.int .i64 (((64 * i) : Nat) : Int))) ?_
        refine rxV 3 rfl (by kernel_rfl) rfl (fun _ _ => rfl) (fun _ _ hF => opMove rfl (hF.ev 3 rfl)) (kM [true, true, true, false, true, true, true, true, true, true] rfl rfl) (by decide) (v := (.int .i64 (((i) : Nat) : Int))) ?_
        refine rxV 4 rfl (by kernel_rfl) rfl (fun _ _ => rfl) (fun _ _ hF => opMul rfl rfl (hF.ev 0 rfl) (wI (by omega) (by omega) (by omega))) (kM [false, true, true, true, true, true, true, true, true, true] rfl rfl) (by decide) (v := (.int .i64 (((64 * i) : Nat) : Int))) ?_
        refine rxV 5 rfl (by kernel_rfl) rfl (fun _ _ => rfl) (fun _ _ hF => opAdd rfl (hF.ev 0 rfl) rfl (wI (by omega) (by omega) (by omega))) (kM [false, true, true, true, true, true, true, true, true, true] rfl rfl) (by decide) (v := (.int .i64 ((((64 * i) + 64) : Nat) : Int))) ?_
        have hcap := hO29.capLe
        have hlen : ((T4 k first second keep).reads 0 ((k : Nat) : Int)).2.length = 64 * k := by rw [t4_reads]; show (unsec _).length = _; rw [unsec_len, t4_now]; omega
        refine rxV 6 rfl (by kernel_rfl) rfl (fun _ _ => rfl) (fun _ _ hF => opCutLH (k := 64 * i) (h := (64 * i) + 64) (e := 5) (sz := 1) rfl (by kernel_rfl) (by kernel_rfl) (hF.ev 2 rfl) (hF.ev 1 rfl) (hF.ev 0 rfl) rfl rfl (by omega) (by omega)) (kM [false, false, false, true, true, true, true, true, true, true] rfl rfl) (by decide) (v := (.slice (cutA A30 c31 (64 * i) 1) (((64 * i) + 64) - (64 * i)) (c31 - (64 * i)))) ?_
        refine rxS (fun w => Vu cByte w (cutA A30 c31 (64 * i) 1) (((64 * i) + 64) - (64 * i)) (c31 - (64 * i)) ((((T4 k first second keep).reads 0 (((k) : Nat) : Int)).2.take ((64 * i) + 64)).drop (64 * i))) 7 rfl (by kernel_rfl) rfl (fun _ _ => rfl) ((hO29.vuAt (hH.has 1 rfl)).cut (k := 64 * i) (m := (64 * i) + 64) (by omega) (by omega)) (fun _ _ hF hS => opStr (e := 5) rfl (by kernel_rfl) (by kernel_rfl) (by kernel_rfl) (hF.ev 0 rfl) hS) (kM [false, true, true, true, true, true, true, true] rfl rfl) (by decide) (v := (.string (strL ((((T4 k first second keep).reads 0 (((k) : Nat) : Int)).2.take ((64 * i) + 64)).drop (64 * i))))) ?_
        refine rxV 8 rfl (by kernel_rfl) rfl (fun _ _ => rfl) (fun _ _ hF => opMove rfl (hF.ev 1 rfl)) (kM [true, false, true, true, true, true, true, true] rfl rfl) (by decide) (v := (.int .u8 (((first.toNat) : Nat) : Int))) ?_
        refine rx1 9 (by kernel_rfl) ?_
        refine moM rfl hH (fun _ hF => Does.small (filled_c first 1 (by omega)) (fun w => opCall rfl Try.func14 rfl rfl (Evs.cons (v := (.int .u8 (((first.toNat) : Nat) : Int))) (hF.ev 0 rfl) (Evs.cons (v := (.int .i64 1)) rfl Evs.nil)) w)) trivial rfl (fun _ _ => rfl) (kM [false, true, true, true, true, true, true, true] rfl rfl) (by decide) (PendOk.keep (PendOk.nil _ [])) ?_
        clear hH
        rintro v62 E58 w hO59 hH
        replace hH : HH w0 [] [E32, E26, E5, E15, E58] w := hH
        obtain ⟨A60, c61, rfl⟩ := hO59.slice
        refine ⟨(by
          intro s hs
          simp only [List.mem_cons, List.not_mem_nil, or_false] at hs
          rcases hs with rfl
          · exact ((hO29.vuAt (hH.has 1 rfl)).cut (k := 64 * i) (m := (64 * i) + 64) (by omega) (by omega))
          ), ?_⟩
        refine rxS (fun w => Vu cByte w A60 ((fil 1 first).length) c61 (fil 1 first)) 10 rfl (by kernel_rfl) rfl (fun _ _ => rfl) (hO59.vuAt (hH.has 4 rfl)) (fun _ _ hF hS => opStr (e := 5) rfl (by kernel_rfl) (by kernel_rfl) (by kernel_rfl) (hF.ev 0 rfl) hS) (kM [false, true, true, true, true, true, true, true] rfl rfl) (by decide) (v := (.string (strL (fil 1 first)))) ?_
        refine rxV 11 rfl (by kernel_rfl) rfl (fun _ _ => rfl) (fun _ _ hF => opNeS rfl (hF.ev 1 rfl) (hF.ev 0 rfl) (decide_eq_false (fun h => h (congrArg strL (by rw [t4_reads]; show ((unsec (T4 k first second keep).now).take _).drop _ = _; rw [torn_at first second keep (by omega), show keep.getD (i % keep.length) false = false by rw [List.eq_nil_of_length_eq_zero (l := keep) (by omega)]; rfl]; rfl))))) (kM [false, false, true, true, true, true, true, true] rfl rfl) (by decide) (v := (.bool false)) ?_
        refine rxEnd (by kernel_rfl) ?_
        refine qxThen ?_
        refine cxF 0 rfl rfl ?_
        refine cxSkip ?_
        refine qxInN ?_
        refine qxThen ?_
        refine cxReg ?_
        refine pxV (v := (.int .i64 (((i + 1) : Nat) : Int))) (fun _ _ hF => opAdd rfl (hF.ev 1 rfl) rfl (wI (by omega) (by omega) (by omega))) rfl (fun _ _ => rfl) (kM [false, false, true, true, true, true, true] rfl rfl) (by decide) ?_
        refine pxV (v := (.int .i64 (((i + 1) : Nat) : Int))) (fun _ _ hF => opMove rfl (hF.ev 0 rfl)) rfl (fun _ _ => rfl) (kM [false, true, true, true, true, true] rfl rfl) (by decide) ?_
        refine pxEnd ?_
        replace hH : HH w0 [] [E32, E26, E5, E15] w := hH.only [true, true, true, true, false]
        exact qxRound (i + 1) ⟨hH, (by omega)⟩ (by omega) (slots_at [0, 1, 2, 3, 4, 5] rfl)
    · refine cxExit ?_
      refine qxThenE ?_
      refine qxThenE ?_
      refine qxInE ?_
      refine qxThen ?_
      refine cxSeq ?_
      refine cxReg ?_
      refine pxV (v := (.bool true)) (fun _ _ hF => opAssign rfl rfl) rfl (fun _ _ => rfl) (kM [false, false, false, false, false, false, false] rfl rfl) (by decide) ?_
      refine pxEnd ?_
      refine qxThen ?_
      refine cxRet ?_
      refine qxRet1 0 rfl rfl ?_
      exact ⟨rfl, HH.toBelow hH⟩
end Go.Proofs.Ytnalkphocllhbaa
