/- The program's keys of passphrases (mkkb.py writes this text). -/
import Derived.Test.YticflflbogdljaaDoorKa
import Derived.Test.YticflflbogdljaaDoorSpC
namespace Go.Proofs.YticflflbogdljaaDoor
open Go Go.RowKit
set_option maxRecDepth 100000

theorem HaAt.bks {g : Nat} {l : List UInt8} {E : Hl} (h : HaAt g l E) : bks E = [g] := by
  obtain ⟨s, r, rfl, _⟩ := h
  rfl

theorem cyc_go {t : List UInt8} {n kl kk N0 : Nat} (hn : t.length = n) (hk : kl = kk * n) (hlt : kl < N0) : cyc t (min (kl + n) N0) = cyc t (min kl N0) ++ t.take (min n (N0 - kl)) := by
  subst hk hn
  rw [Nat.min_eq_left (Nat.le_of_lt hlt), cyc_step (Nat.min_le_left _ _)]
  congr 1
  omega

set_option maxHeartbeats 8000000 in
theorem hash_c (i : Nat) (hi : i ≤ 2) (A : Option Addr) (n c : Nat) (t : List UInt8) (count : Nat) (h0 : 0 < n) (hn2 : n ≤ 2000) (hc : count ≤ 131072) : Pure Tryd.prog 13 #[(.int .i64 (((i) : Nat) : Int)), (.slice A n c), (.int .i64 (((count) : Nat) : Int))] (fun w => w.heap[1]? = some (.cells ((cWs 64).enc K32) 46 (0, 0)) ∧ w.heap[0]? = some (.cells ((cWs 8).enc H32) 45 (0, 0)) ∧ Vu cByte w A n c t) ((cArr 32).val (sha (List.replicate i 0 ++ cyc t (max count t.length)))) := by
  refine pure_of (fn := Tryd.f13) Tryd.func13 rfl Tryd.ntmps13 (Nat.le_of_ble_eq_true rfl) rfl ?_
  intro w0 hH hR
  have hn := hR.2.2.len; have hcap := hR.2.2.cap
  obtain ⟨N0, hN⟩ : ∃ N0, N0 = max count n := ⟨_, rfl⟩
  refine cxSeq ?_
  refine cxReg ?_
  refine pxM hH (fun _ hF => smAlloc (cs := (cArr 32).enc (fun _ => 0)) (z := ((cArr 32).val (fun _ => 0))) rfl (by kernel_rfl) rfl) trivial rfl (fun _ _ => rfl) (kA rfl) (by decide) ?_
  clear hH
  rintro _ _ w ⟨g1, rfl, rfl⟩ hH
  replace hH : HH w0 [] [[bl g1 34 ((cArr 32).enc (fun _ => 0))]] w := hH
  refine pxEnd ?_
  refine qxThen ?_
  refine cxSeq ?_
  refine cxReg ?_
  refine pxM hH (fun _ hF => Does.small (new_c) (fun w => opCall rfl Tryd.func16 rfl rfl Evs.nil w)) (hH.oldBlk hR.2.1 (by simp)) rfl (fun _ _ => rfl) (kA rfl) (by decide) ?_
  clear hH
  rintro _ E3 w ⟨g2, rfl, hHa4⟩ hH
  replace hH : HH w0 [] [[bl g1 34 ((cArr 32).enc (fun _ => 0))], E3] w := hH
  refine pxV (v := (.pointer (some ⟨g2, 0, none⟩))) (fun _ _ hF => opAssign rfl (hF.ev 0 rfl)) rfl (fun _ _ => rfl) (kM [false, true, true, true, true] rfl rfl) (by decide) ?_
  refine pxEnd ?_
  refine qxThen ?_
  refine cxSeq ?_
  refine cxReg ?_
  refine pxV (v := (.pointer (some ⟨g2, 0, none⟩))) (fun _ _ hF => opMove rfl (hF.ev 0 rfl)) rfl (fun _ _ => rfl) (kA rfl) (by decide) ?_
  refine pxV (v := (.int .i64 (((i) : Nat) : Int))) (fun _ _ hF => opMove rfl (hF.ev 3 rfl)) rfl (fun _ _ => rfl) (kM [true, true, true, false, true, true] rfl rfl) (by decide) ?_
  refine pxM hH (fun _ hF => smMake (e := 5) (n := i) (sz := 1) (by_ := 1) (z := (.int .u8 0)) (cs := madeCells (cByte.enc 0) (i * 1)) rfl (by kernel_rfl) (by kernel_rfl) (hF.ev 0 rfl) (hF.ev 0 rfl) rfl rfl (by omega) (by omega) rfl) trivial rfl (fun _ _ => rfl) (kM [false, true, true, true, true, true] rfl rfl) (by decide) ?_
  clear hH
  rintro _ _ w ⟨g5, rfl, rfl⟩ hH
  replace hH : HH w0 [] [[bl g1 34 ((cArr 32).enc (fun _ => 0))], E3, [bl g5 5 (madeCells (cByte.enc 0) (i * 1))]] w := hH
  refine pxE 1 hH rfl (fun _ hF => Does.small (write_c g2 ([]) (List.replicate i 0) E3 hHa4 (some ⟨g5, 0, none⟩) i i (by rw [List.length_replicate]; show 0 + i ≤ _; omega)) (fun w => opCall rfl Tryd.func17 rfl rfl (Evs.cons (v := (.pointer (some ⟨g2, 0, none⟩))) (hF.ev 1 rfl) (Evs.cons (v := (.slice (some ⟨g5, 0, none⟩) i i)) (hF.ev 0 rfl) Evs.nil)) w)) ⟨(hH.oldBlk hR.1 (by simp)), ((Bk.make (C := cByte) 0 i (ltb rfl) (by unfold maxLen; omega)).vu (n := i) (hH.blk 2 rfl) List.length_replicate), hHa4.bks ▸ (hH.off2 1 2 rfl rfl rfl)⟩ rfl (fun _ _ => rfl) (kM [false, false, true, true, true, true] rfl rfl) (by decide) ?_
  clear hH
  rintro _ E6 w ⟨rfl, hHa7⟩ hH
  replace hH : HH w0 [] [[bl g1 34 ((cArr 32).enc (fun _ => 0))], E6, [bl g5 5 (madeCells (cByte.enc 0) (i * 1))]] w := hH
  refine pxEnd ?_
  refine qxThen ?_
  refine cxSeq ?_
  refine cxSeq ?_
  refine cxReg ?_
  refine pxV (v := (.int .i64 (((count) : Nat) : Int))) (fun _ _ hF => opMove rfl (hF.ev 4 rfl)) rfl (fun _ _ => rfl) (kM [false, true, true, true, false] rfl rfl) (by decide) ?_
  refine pxV (v := (.slice A n c)) (fun _ _ hF => opMove rfl (hF.ev 3 rfl)) rfl (fun _ _ => rfl) (kA rfl) (by decide) ?_
  refine pxV (v := (.int .i64 (((n) : Nat) : Int))) (fun _ _ hF => opLen (e := 5) rfl (by kernel_rfl) (hF.ev 0 rfl)) rfl (fun _ _ => rfl) (kM [false, true, true, true, true] rfl rfl) (by decide) ?_
  refine pxV (v := (.int .i64 ((N0 : Int)))) (fun _ _ hF => opMax rfl (hF.ev 1 rfl) (hF.ev 0 rfl) (by omega)) rfl (fun _ _ => rfl) (kM [false, false, true, true, true] rfl rfl) (by decide) ?_
  refine pxV (v := (.int .i64 ((N0 : Int)))) (fun _ _ hF => opAssign rfl (hF.ev 0 rfl)) rfl (fun _ _ => rfl) (kM [false, true, true, true] rfl rfl) (by decide) ?_
  refine pxEnd ?_
  refine qxThen ?_
  refine cxBlock ?_
  replace hH : HH w0 [] [[bl g1 34 ((cArr 32).enc (fun _ => 0))], E6] w := hH.only [true, true, false]
  refine cxLoop (σ := Nat × Nat × Hl) (fun x => [(8, (.int .i64 ((N0 : Int) - ((x.1 : Nat) : Int)))), (7, (.pointer (some ⟨g2, 0, none⟩))), (6, (.pointer (some ⟨g1, 0, none⟩))), (1, (.slice A n c))]) (fun x w => HH w0 [] [[bl g1 34 ((cArr 32).enc (fun _ => 0))], x.2.2] w ∧ (x.1 = x.2.1 * n) ∧ (x.1 < N0 + n) ∧ (HaAt g2 (List.replicate i 0 ++ cyc t (min x.1 N0)) x.2.2)) (fun x => N0 + n - x.1) (0, 0, E6) ⟨hH, (Nat.zero_mul n).symm, (show 0 < N0 + n by omega), (by rw [Nat.zero_min, show cyc t 0 = [] from rfl, List.append_nil]; exact hHa7)⟩ (slots_at [0, 1, 2, 3] rfl) ?_
  clear hH
  rintro ⟨kl, kk, E1⟩ w ⟨hH, hkl, hlt, hHa⟩
  change CX _ _ _ _ [(8, (.int .i64 ((N0 : Int) - ((kl : Nat) : Int)))), (7, (.pointer (some ⟨g2, 0, none⟩))), (6, (.pointer (some ⟨g1, 0, none⟩))), (1, (.slice A n c))] _
  replace hH : HH w0 [] [[bl g1 34 ((cArr 32).enc (fun _ => 0))], E1] w := hH
  replace hkl : kl = kk * n := hkl
  replace hlt : kl < N0 + n := hlt
  replace hHa : HaAt g2 (List.replicate i 0 ++ cyc t (min kl N0)) E1 := hHa
  refine cxSeq ?_
  refine cxSeq ?_
  refine cxReg ?_
  refine pxV (v := (.int .i64 ((N0 : Int) - ((kl : Nat) : Int)))) (fun _ _ hF => opMove rfl (hF.ev 0 rfl)) rfl (fun _ _ => rfl) (kA rfl) (by decide) ?_
  refine pxV (v := (.bool (decide (((N0 : Int) - ((kl : Nat) : Int)) > 0)))) (fun _ _ hF => opGtr rfl (hF.ev 0 rfl) rfl rfl) rfl (fun _ _ => rfl) (kM [false, true, true, true, true] rfl rfl) (by decide) ?_
  refine pxEnd ?_
  refine qxThen ?_
  refine cxP 0 rfl rfl (fun hc8 => ?_) (fun hc8 => ?_)
  · refine cxSkip ?_
    refine qxThen ?_
    refine cxSeq ?_
    refine cxBlock ?_
    refine cxReg ?_
    refine pxV (v := (.pointer (some ⟨g2, 0, none⟩))) (fun _ _ hF => opMove rfl (hF.ev 2 rfl)) rfl (fun _ _ => rfl) (kM [false, true, true, true, true] rfl rfl) (by decide) ?_
    refine pxV (v := (.slice A n c)) (fun _ _ hF => opMove rfl (hF.ev 4 rfl)) rfl (fun _ _ => rfl) (kA rfl) (by decide) ?_
    refine pxV (v := (.slice A n c)) (fun _ _ hF => opMove rfl (hF.ev 5 rfl)) rfl (fun _ _ => rfl) (kA rfl) (by decide) ?_
    refine pxV (v := (.int .i64 (((n) : Nat) : Int))) (fun _ _ hF => opLen (e := 5) rfl (by kernel_rfl) (hF.ev 0 rfl)) rfl (fun _ _ => rfl) (kM [false, true, true, true, true, true, true] rfl rfl) (by decide) ?_
    refine pxV (v := (.int .i64 ((N0 : Int) - ((kl : Nat) : Int)))) (fun _ _ hF => opMove rfl (hF.ev 3 rfl)) rfl (fun _ _ => rfl) (kA rfl) (by decide) ?_
    refine pxV (v := (.int .i64 (((min n (N0 - kl)) : Nat) : Int))) (fun _ _ hF => opMin rfl (hF.ev 1 rfl) (hF.ev 0 rfl) (by omega)) rfl (fun _ _ => rfl) (kM [false, false, true, true, true, true, true, true] rfl rfl) (by decide) ?_
    refine pxV (v := (.slice A (min n (N0 - kl)) c)) (fun _ _ hF => opCutH (h := min n (N0 - kl)) (e := 5) (sz := 1) rfl (by kernel_rfl) (by kernel_rfl) (hF.ev 1 rfl) (hF.ev 0 rfl) rfl (by omega)) rfl (fun _ _ => rfl) (kM [false, false, true, true, true, true, true] rfl rfl) (by decide) ?_
    refine pxE 1 hH rfl (fun _ hF => Does.small (write_c g2 (List.replicate i 0 ++ cyc t (min kl N0)) (t.take (min n (N0 - kl))) E1 hHa A (min n (N0 - kl)) c (by rw [List.length_append, List.length_replicate, List.length_take, cyc_len]; omega)) (fun w => opCall rfl Tryd.func17 rfl rfl (Evs.cons (v := (.pointer (some ⟨g2, 0, none⟩))) (hF.ev 1 rfl) (Evs.cons (v := (.slice A (min n (N0 - kl)) c)) (hF.ev 0 rfl) Evs.nil)) w)) ⟨(hH.oldBlk hR.1 (by simp)), ((hH.vu hR.2.2 (by decide) (Off.nil _ _)).head (m := min n (N0 - kl)) (by omega)), hHa.bks ▸ ((hH.off 1 rfl hR.2.2 (by decide) (Off.nil _ _)).less (fun _ => by omega))⟩ rfl (fun _ _ => rfl) (kM [false, false, true, true, true, true] rfl rfl) (by decide) ?_
    clear hH
    rintro _ E9 w ⟨rfl, hHa10⟩ hH
    replace hH : HH w0 [] [[bl g1 34 ((cArr 32).enc (fun _ => 0))], E9] w := hH
    refine pxEnd ?_
    refine qxInN ?_
    refine qxThen ?_
    refine cxReg ?_
    refine pxV (v := (.int .i64 ((N0 : Int) - ((kl : Nat) : Int)))) (fun _ _ hF => opMove rfl (hF.ev 1 rfl)) rfl (fun _ _ => rfl) (kM [false, false, true, true, true] rfl rfl) (by decide) ?_
    refine pxV (v := (.slice A n c)) (fun _ _ hF => opMove rfl (hF.ev 3 rfl)) rfl (fun _ _ => rfl) (kA rfl) (by decide) ?_
    refine pxV (v := (.int .i64 (((n) : Nat) : Int))) (fun _ _ hF => opLen (e := 5) rfl (by kernel_rfl) (hF.ev 0 rfl)) rfl (fun _ _ => rfl) (kM [false, true, true, true, true] rfl rfl) (by decide) ?_
    refine pxV (v := (.int .i64 ((N0 : Int) - ((kl + n : Nat) : Int)))) (fun _ _ hF => opSub rfl (hF.ev 1 rfl) (hF.ev 0 rfl) (wI (by omega) (by omega) (by omega))) rfl (fun _ _ => rfl) (kM [false, false, true, true, true] rfl rfl) (by decide) ?_
    refine pxV (v := (.int .i64 ((N0 : Int) - ((kl + n : Nat) : Int)))) (fun _ _ hF => opAssign rfl (hF.ev 0 rfl)) rfl (fun _ _ => rfl) (kM [false, true, true, true] rfl rfl) (by decide) ?_
    refine pxEnd ?_
    exact qxRound (kl + n, kk + 1, E9) ⟨hH, (by rw [hkl, Nat.add_mul, Nat.one_mul]), (show (kl + n) < N0 + n from (by omega)), (show HaAt g2 (List.replicate i 0 ++ cyc t (min (kl + n) N0)) E9 from (by rw [cyc_go hn hkl (show kl < N0 by omega), ← List.append_assoc]; exact hHa10))⟩ (show N0 + n - (kl + n) < N0 + n - kl by omega) (slots_at [0, 1, 2, 3] rfl)
  · refine cxExit ?_
    refine qxThenE ?_
    refine qxThenE ?_
    refine qxInE ?_
    refine qxThen ?_
    refine cxSeq ?_
    refine cxReg ?_
    refine pxV (v := (.pointer (some ⟨g2, 0, none⟩))) (fun _ _ hF => opMove rfl (hF.ev 2 rfl)) rfl (fun _ _ => rfl) (kM [false, false, false, true, false] rfl rfl) (by decide) ?_
    refine pxE 1 hH rfl (fun _ hF => Does.small (sum_c g2 (List.replicate i 0 ++ cyc t (min kl N0)) E1 hHa (by rw [List.length_append, List.length_replicate, cyc_len]; omega)) (fun w => opCall rfl Tryd.func18 rfl rfl (Evs.cons (v := (.pointer (some ⟨g2, 0, none⟩))) (hF.ev 0 rfl) Evs.nil) w)) (hH.oldBlk hR.1 (by simp)) rfl (fun _ _ => rfl) (kM [false, true] rfl rfl) (by decide) ?_
    clear hH
    rintro _ _ w ⟨rfl, rfl⟩ hH
    replace hH : HH w0 [] [[bl g1 34 ((cArr 32).enc (fun _ => 0))], E1] w := hH
    refine pxE0 0 hH rfl (fun _ hF => smStoreT (C := (cArr 32)) (z := (sha (List.replicate i 0 ++ cyc t (min kl N0)))) rfl (hF.ev 1 rfl) (hF.ev 0 rfl) rfl (by kernel_rfl) (by rw [Cod.size]; exact Nat.le_refl _) (put_whole (cArr 32) _ _)) trivial rfl (fun _ _ => rfl) ?_
    clear hH
    rintro _ _ w rfl hH
    replace hH : HH w0 [] [[bl g1 34 ((cArr 32).enc (sha (List.replicate i 0 ++ cyc t (min kl N0))))], E1] w := hH
    refine pxEnd ?_
    refine qxThen ?_
    refine cxRet ?_
    refine qxRetC 1 (hH.blk 0 rfl) rfl rfl (by kernel_rfl) (Cod.size _ _) (by kernel_rfl) ?_
    have hmin : min kl N0 = N0 := by omega
    have hN2 : N0 = max count t.length := by omega
    rw [hmin, hN2]
    exact ⟨rfl, HH.toBelow hH⟩

set_option maxHeartbeats 8000000 in
theorem derive_bad (A B : Option Addr) (n c k d : Nat) (s p : List UInt8) (m : Int) (hbad : m < 1 ∨ 64 < m ∨ 1000 < k) : Does Tryd.prog 7 #[(.slice A n c), (.slice B k d), (.int .i64 (m))] [] (fun w => w.heap[1]? = some (.cells ((cWs 64).enc K32) 46 (0, 0)) ∧ w.heap[0]? = some (.cells ((cWs 8).enc H32) 45 (0, 0)) ∧ Vu cByte w A n c s ∧ Vu cByte w B k d p) (fun v E' => ∃ q, v = .tuple #[q, .int .i64 (((der s p m).2.1 : Nat) : Int), .int .i64 (((der s p m).2.2 : Nat) : Int)] ∧ OwnT cByte 5 q (der s p m).1 E') := by
  refine does_of (fn := Tryd.f7) Tryd.func7 rfl Tryd.ntmps7 (Nat.le_of_ble_eq_true rfl) rfl ?_
  intro w0 hH hR
  replace hH : HH w0 [] [] w0 := hH.only [false]
  have hn := hR.2.2.1.len; have hk := hR.2.2.2.len; have hcap := hR.2.2.1.cap; have hcap2 := hR.2.2.2.cap
  refine cxSeq ?_
  refine cxReg ?_
  refine pxV (v := (.slice none 0 0)) (fun _ _ hF => opAssign rfl rfl) rfl (fun _ _ => rfl) (kA rfl) (by decide) ?_
  refine pxV (v := (.int .i64 0)) (fun _ _ hF => opAssign rfl rfl) rfl (fun _ _ => rfl) (kM [false, true, true, true] rfl rfl) (by decide) ?_
  refine pxV (v := (.int .i64 0)) (fun _ _ hF => opAssign rfl rfl) rfl (fun _ _ => rfl) (kM [false, true, true, true] rfl rfl) (by decide) ?_
  refine pxEnd ?_
  refine qxThen ?_
  refine cxSeq ?_
  refine cxSeq ?_
  refine cxReg ?_
  refine pxV (v := (.int .i64 (m))) (fun _ _ hF => opMove rfl (hF.ev 3 rfl)) rfl (fun _ _ => rfl) (kM [false, true, true, true] rfl rfl) (by decide) ?_
  refine pxV (v := (.bool (decide ((m) < 1)))) (fun _ _ hF => opLss rfl (hF.ev 0 rfl) rfl rfl) rfl (fun _ _ => rfl) (kM [false, true, true, true] rfl rfl) (by decide) ?_
  refine pxV (v := (.bool (decide ((m) < 1)))) (fun _ _ hF => opMove rfl (hF.ev 0 rfl)) rfl (fun _ _ => rfl) (kM [false, true, true, true] rfl rfl) (by decide) ?_
  refine pxSplitP 0 rfl (l1 := [(17, (.bool true)), (0, (.slice A n c)), (1, (.slice B k d)), (2, (.int .i64 (m)))]) (l2 := [(17, (.bool false)), (0, (.slice A n c)), (1, (.slice B k d)), (2, (.int .i64 (m)))]) rfl rfl (fun hg1 => ?_) (fun hg1 => ?_)
  · refine pxU rfl (gOff 0 rfl rfl rfl (by decide)) (kA rfl) (by decide) ?_
    refine pxU rfl (gOff 0 rfl rfl rfl (by decide)) (kA rfl) (by decide) ?_
    refine pxV (v := (.bool true)) (fun _ _ hF => opPickT rfl (hF.ev 0 rfl) rfl) rfl (fun _ _ => rfl) (kM [false, true, true, true] rfl rfl) (by decide) ?_
    refine pxV (v := (.bool true)) (fun _ _ hF => opMove rfl (hF.ev 0 rfl)) rfl (fun _ _ => rfl) (kM [false, true, true, true] rfl rfl) (by decide) ?_
    refine pxU rfl (gOff 0 rfl rfl rfl (by decide)) (kA rfl) (by decide) ?_
    refine pxU rfl (gOff 0 rfl rfl rfl (by decide)) (kA rfl) (by decide) ?_
    refine pxU rfl (gOff 0 rfl rfl rfl (by decide)) (kA rfl) (by decide) ?_
    refine pxV (v := (.bool true)) (fun _ _ hF => opPickT rfl (hF.ev 0 rfl) rfl) rfl (fun _ _ => rfl) (kM [false, true, true, true] rfl rfl) (by decide) ?_
    refine pxEnd ?_
    refine qxThen ?_
    refine cxT 0 rfl rfl ?_
    refine cxSeq ?_
    refine cxReg ?_
    refine pxV (v := (.slice none 0 0)) (fun _ _ hF => opAssign rfl rfl) rfl (fun _ _ => rfl) (kM [false, false, false, false] rfl rfl) (by decide) ?_
    refine pxV (v := (.int .i64 0)) (fun _ _ hF => opAssign rfl rfl) rfl (fun _ _ => rfl) (kA rfl) (by decide) ?_
    refine pxV (v := (.int .i64 1)) (fun _ _ hF => opAssign rfl rfl) rfl (fun _ _ => rfl) (kA rfl) (by decide) ?_
    refine pxEnd ?_
    refine qxThen ?_
    refine cxRet ?_
    refine qxThenR ?_
    refine qxRet3 2 1 0 rfl rfl rfl rfl ?_
    have he : der s p m = ([], 0, 1) := by unfold der; rw [if_pos (by omega)]
    rw [he]
    exact ⟨_, _, rfl, ⟨_, rfl, OwnT.nil _ _⟩, HH.out (HH.pad hH 1) [true]⟩
  · refine pxV (v := (.int .i64 (m))) (fun _ _ hF => opMove rfl (hF.ev 3 rfl)) rfl (gOn 0 rfl rfl rfl (by decide)) (kA rfl) (by decide) ?_
    refine pxV (v := (.bool (decide ((m) > 64)))) (fun _ _ hF => opGtr rfl (hF.ev 0 rfl) rfl rfl) rfl (gOn 1 rfl rfl rfl (by decide)) (kM [false, true, true, true, true] rfl rfl) (by decide) ?_
    refine pxV (v := (.bool (decide ((m) > 64)))) (fun _ _ hF => opPickF rfl (hF.ev 1 rfl) (hF.ev 0 rfl)) rfl (fun _ _ => rfl) (kM [false, false, true, true, true] rfl rfl) (by decide) ?_
    refine pxV (v := (.bool (decide ((m) > 64)))) (fun _ _ hF => opMove rfl (hF.ev 0 rfl)) rfl (fun _ _ => rfl) (kM [false, true, true, true] rfl rfl) (by decide) ?_
    refine pxSplitP 0 rfl (l1 := [(21, (.bool true)), (0, (.slice A n c)), (1, (.slice B k d)), (2, (.int .i64 (m)))]) (l2 := [(21, (.bool false)), (0, (.slice A n c)), (1, (.slice B k d)), (2, (.int .i64 (m)))]) rfl rfl (fun hg2 => ?_) (fun hg2 => ?_)
    · refine pxU rfl (gOff 0 rfl rfl rfl (by decide)) (kA rfl) (by decide) ?_
      refine pxU rfl (gOff 0 rfl rfl rfl (by decide)) (kA rfl) (by decide) ?_
      refine pxU rfl (gOff 0 rfl rfl rfl (by decide)) (kA rfl) (by decide) ?_
      refine pxV (v := (.bool true)) (fun _ _ hF => opPickT rfl (hF.ev 0 rfl) rfl) rfl (fun _ _ => rfl) (kM [false, true, true, true] rfl rfl) (by decide) ?_
      refine pxEnd ?_
      refine qxThen ?_
      refine cxT 0 rfl rfl ?_
      refine cxSeq ?_
      refine cxReg ?_
      refine pxV (v := (.slice none 0 0)) (fun _ _ hF => opAssign rfl rfl) rfl (fun _ _ => rfl) (kM [false, false, false, false] rfl rfl) (by decide) ?_
      refine pxV (v := (.int .i64 0)) (fun _ _ hF => opAssign rfl rfl) rfl (fun _ _ => rfl) (kA rfl) (by decide) ?_
      refine pxV (v := (.int .i64 1)) (fun _ _ hF => opAssign rfl rfl) rfl (fun _ _ => rfl) (kA rfl) (by decide) ?_
      refine pxEnd ?_
      refine qxThen ?_
      refine cxRet ?_
      refine qxThenR ?_
      refine qxRet3 2 1 0 rfl rfl rfl rfl ?_
      have he : der s p m = ([], 0, 1) := by unfold der; rw [if_pos (by omega)]
      rw [he]
      exact ⟨_, _, rfl, ⟨_, rfl, OwnT.nil _ _⟩, HH.out (HH.pad hH 1) [true]⟩
    · refine pxV (v := (.slice B k d)) (fun _ _ hF => opMove rfl (hF.ev 2 rfl)) rfl (gOn 0 rfl rfl rfl (by decide)) (kA rfl) (by decide) ?_
      refine pxV (v := (.int .i64 (((k) : Nat) : Int))) (fun _ _ hF => opLen (e := 5) rfl (by kernel_rfl) (hF.ev 0 rfl)) rfl (gOn 1 rfl rfl rfl (by decide)) (kM [false, true, true, true, true] rfl rfl) (by decide) ?_
      refine pxV (v := (.bool (decide (k > 1000)))) (fun _ _ hF => opGtr rfl (hF.ev 0 rfl) rfl (dc (by omega))) rfl (gOn 1 rfl rfl rfl (by decide)) (kM [false, true, true, true, true] rfl rfl) (by decide) ?_
      refine pxV (v := (.bool (decide (k > 1000)))) (fun _ _ hF => opPickF rfl (hF.ev 1 rfl) (hF.ev 0 rfl)) rfl (fun _ _ => rfl) (kM [false, false, true, true, true] rfl rfl) (by decide) ?_
      refine pxEnd ?_
      refine qxThen ?_
      refine cxP 0 rfl rfl (fun hc3 => ?_) (fun hc3 => ?_)
      · refine cxSeq ?_
        refine cxReg ?_
        refine pxV (v := (.slice none 0 0)) (fun _ _ hF => opAssign rfl rfl) rfl (fun _ _ => rfl) (kM [false, false, false, false] rfl rfl) (by decide) ?_
        refine pxV (v := (.int .i64 0)) (fun _ _ hF => opAssign rfl rfl) rfl (fun _ _ => rfl) (kA rfl) (by decide) ?_
        refine pxV (v := (.int .i64 1)) (fun _ _ hF => opAssign rfl rfl) rfl (fun _ _ => rfl) (kA rfl) (by decide) ?_
        refine pxEnd ?_
        refine qxThen ?_
        refine cxRet ?_
        refine qxThenR ?_
        refine qxRet3 2 1 0 rfl rfl rfl rfl ?_
        have he : der s p m = ([], 0, 1) := by unfold der; rw [if_pos (by omega)]
        rw [he]
        exact ⟨_, _, rfl, ⟨_, rfl, OwnT.nil _ _⟩, HH.out (HH.pad hH 1) [true]⟩
      · exact absurd hbad (by omega)

theorem key_go {s p : List UInt8} {m i : Nat} : (kcat (txt s p) (big s p) i).take m ++ (lst 32 (sha (List.replicate i 0 ++ cyc (txt s p) (max (cnt (s.getD 10 0).toNat) (txt s p).length)))).take (min 32 (m - ((kcat (txt s p) (big s p) i).take m).length)) = (kcat (txt s p) (big s p) (i + 1)).take m := by
  have hlen : ((kcat (txt s p) (big s p) i).take m).length = min m (32 * i) := by rw [List.length_take, kcat_len]
  rw [← kcat_next, hlen]
  congr 1
  show (hsh (txt s p) (big s p) i).take _ = _
  by_cases h : m ≤ 32 * i
  · rw [show min 32 (m - min m (32 * i)) = 0 by omega, show m - 32 * i = 0 by omega]
  · rw [show min m (32 * i) = 32 * i by omega]
    by_cases h2 : m - 32 * i ≤ 32
    · rw [show min 32 (m - 32 * i) = m - 32 * i by omega]
    · rw [show min 32 (m - 32 * i) = 32 by omega, List.take_of_length_le (by rw [hsh_len]; exact Nat.le_refl _), List.take_of_length_le (by rw [hsh_len]; omega)]

set_option maxHeartbeats 8000000 in
theorem derive_ok (A B : Option Addr) (n c k d : Nat) (s p : List UInt8) (m : Nat) (h1 : 1 ≤ m) (h64 : m ≤ 64) (hp : k ≤ 1000) : Does Tryd.prog 7 #[(.slice A n c), (.slice B k d), (.int .i64 (((m) : Nat) : Int))] [] (fun w => w.heap[1]? = some (.cells ((cWs 64).enc K32) 46 (0, 0)) ∧ w.heap[0]? = some (.cells ((cWs 8).enc H32) 45 (0, 0)) ∧ Vu cByte w A n c s ∧ Vu cByte w B k d p) (fun v E' => ∃ q, v = .tuple #[q, .int .i64 (((der s p m).2.1 : Nat) : Int), .int .i64 (((der s p m).2.2 : Nat) : Int)] ∧ OwnT cByte 5 q (der s p m).1 E') := by
  refine does_of (fn := Tryd.f7) Tryd.func7 rfl Tryd.ntmps7 (Nat.le_of_ble_eq_true rfl) rfl ?_
  intro w0 hH hR
  replace hH : HH w0 [] [] w0 := hH.only [false]
  have hn := hR.2.2.1.len; have hk := hR.2.2.2.len; have hcap := hR.2.2.1.cap; have hcap2 := hR.2.2.2.cap
  refine cxSeq ?_
  refine cxReg ?_
  refine pxV (v := (.slice none 0 0)) (fun _ _ hF => opAssign rfl rfl) rfl (fun _ _ => rfl) (kA rfl) (by decide) ?_
  refine pxV (v := (.int .i64 0)) (fun _ _ hF => opAssign rfl rfl) rfl (fun _ _ => rfl) (kM [false, true, true, true] rfl rfl) (by decide) ?_
  refine pxV (v := (.int .i64 0)) (fun _ _ hF => opAssign rfl rfl) rfl (fun _ _ => rfl) (kM [false, true, true, true] rfl rfl) (by decide) ?_
  refine pxEnd ?_
  refine qxThen ?_
  refine cxSeq ?_
  refine cxSeq ?_
  refine cxReg ?_
  refine pxV (v := (.int .i64 (((m) : Nat) : Int))) (fun _ _ hF => opMove rfl (hF.ev 3 rfl)) rfl (fun _ _ => rfl) (kM [false, true, true, true] rfl rfl) (by decide) ?_
  refine pxV (v := (.bool false)) (fun _ _ hF => opLss rfl (hF.ev 0 rfl) rfl (decide_eq_false (by omega))) rfl (fun _ _ => rfl) (kM [false, true, true, true] rfl rfl) (by decide) ?_
  refine pxV (v := (.bool false)) (fun _ _ hF => opMove rfl (hF.ev 0 rfl)) rfl (fun _ _ => rfl) (kM [false, true, true, true] rfl rfl) (by decide) ?_
  refine pxV (v := (.int .i64 (((m) : Nat) : Int))) (fun _ _ hF => opMove rfl (hF.ev 3 rfl)) rfl (gOn 0 rfl rfl rfl (by decide)) (kA rfl) (by decide) ?_
  refine pxV (v := (.bool false)) (fun _ _ hF => opGtr rfl (hF.ev 0 rfl) rfl (decide_eq_false (by omega))) rfl (gOn 1 rfl rfl rfl (by decide)) (kM [false, true, true, true, true] rfl rfl) (by decide) ?_
  refine pxV (v := (.bool false)) (fun _ _ hF => opPickF rfl (hF.ev 1 rfl) (hF.ev 0 rfl)) rfl (fun _ _ => rfl) (kM [false, false, true, true, true] rfl rfl) (by decide) ?_
  refine pxV (v := (.bool false)) (fun _ _ hF => opMove rfl (hF.ev 0 rfl)) rfl (fun _ _ => rfl) (kM [false, true, true, true] rfl rfl) (by decide) ?_
  refine pxV (v := (.slice B k d)) (fun _ _ hF => opMove rfl (hF.ev 2 rfl)) rfl (gOn 0 rfl rfl rfl (by decide)) (kA rfl) (by decide) ?_
  refine pxV (v := (.int .i64 (((k) : Nat) : Int))) (fun _ _ hF => opLen (e := 5) rfl (by kernel_rfl) (hF.ev 0 rfl)) rfl (gOn 1 rfl rfl rfl (by decide)) (kM [false, true, true, true, true] rfl rfl) (by decide) ?_
  refine pxV (v := (.bool false)) (fun _ _ hF => opGtr rfl (hF.ev 0 rfl) rfl (decide_eq_false (by omega))) rfl (gOn 1 rfl rfl rfl (by decide)) (kM [false, true, true, true, true] rfl rfl) (by decide) ?_
  refine pxV (v := (.bool false)) (fun _ _ hF => opPickF rfl (hF.ev 1 rfl) (hF.ev 0 rfl)) rfl (fun _ _ => rfl) (kM [false, false, true, true, true] rfl rfl) (by decide) ?_
  refine pxEnd ?_
  refine qxThen ?_
  refine cxF 0 rfl rfl ?_
  refine cxSkip ?_
  refine qxThen ?_
  refine cxSeq ?_
  refine cxSeq ?_
  refine cxReg ?_
  refine pxV (v := (.slice A n c)) (fun _ _ hF => opMove rfl (hF.ev 1 rfl)) rfl (fun _ _ => rfl) (kM [false, true, true, true] rfl rfl) (by decide) ?_
  refine pxM hH (fun _ hF => Does.small ((ask_c A n c s).does) (fun w => opCall rfl Tryd.func11 rfl rfl (Evs.cons (v := (.slice A n c)) (hF.ev 0 rfl) Evs.nil) w)) (hH.vu hR.2.2.1 (by decide) (Off.nil _ _)) rfl (fun _ _ => rfl) (kM [false, true, true, true] rfl rfl) (by decide) ?_
  clear hH
  rintro _ _ w ⟨rfl, rfl⟩ hH
  replace hH : HH w0 [] [] w := hH.unpad
  refine pxV (v := (.int .i64 (((kd s) : Nat) : Int))) (fun _ _ hF => opAssign rfl (hF.ev 0 rfl)) rfl (fun _ _ => rfl) (kM [false, true, true, true] rfl rfl) (by decide) ?_
  refine pxEnd ?_
  refine qxThen ?_
  refine cxSeq ?_
  refine cxReg ?_
  refine pxV (v := (.int .i64 (((kd s) : Nat) : Int))) (fun _ _ hF => opMove rfl (hF.ev 0 rfl)) rfl (fun _ _ => rfl) (kA rfl) (by decide) ?_
  refine pxV (v := (.bool (decide (kd s ≠ 0)))) (fun _ _ hF => opNeI rfl (hF.ev 0 rfl) rfl (dc (by omega))) rfl (fun _ _ => rfl) (kM [false, true, true, true, true] rfl rfl) (by decide) ?_
  refine pxEnd ?_
  refine qxThen ?_
  refine cxP 0 rfl rfl (fun hc1 => ?_) (fun hc1 => ?_)
  · refine cxSeq ?_
    refine cxReg ?_
    refine pxV (v := (.int .i64 (((kd s) : Nat) : Int))) (fun _ _ hF => opMove rfl (hF.ev 1 rfl)) rfl (fun _ _ => rfl) (kM [false, false, false, false, false] rfl rfl) (by decide) ?_
    refine pxV (v := (.slice none 0 0)) (fun _ _ hF => opAssign rfl rfl) rfl (fun _ _ => rfl) (kA rfl) (by decide) ?_
    refine pxV (v := (.int .i64 0)) (fun _ _ hF => opAssign rfl rfl) rfl (fun _ _ => rfl) (kA rfl) (by decide) ?_
    refine pxV (v := (.int .i64 (((kd s) : Nat) : Int))) (fun _ _ hF => opAssign rfl (hF.ev 2 rfl)) rfl (fun _ _ => rfl) (kM [true, true, false] rfl rfl) (by decide) ?_
    refine pxEnd ?_
    refine qxThen ?_
    refine cxRet ?_
    refine qxThenR ?_
    refine qxRet3 2 1 0 rfl rfl rfl rfl ?_
    have he : der s p m = ([], 0, kd s) := by unfold der; rw [if_neg (by omega), if_pos (by omega)]
    rw [he]
    exact ⟨_, _, rfl, ⟨_, rfl, OwnT.nil _ _⟩, HH.out (HH.pad hH 1) [true]⟩
  · have hz := kd_zero (s := s) (by omega)
    rw [hn] at hz
    have htl : (txt s p).length = 8 + k := by rw [txt_len (by omega), hk]
    have hx10 : s[10]? = some (s.getD 10 0) := by rw [List.getD_eq_getElem?_getD, List.getElem?_eq_getElem (by omega)]; rfl
    have hb10 := UInt8.toNat_lt (s.getD 10 0)
    refine cxSkip ?_
    refine qxThen ?_
    refine cxSeq ?_
    refine cxReg ?_
    refine pxV (v := (.slice A n c)) (fun _ _ hF => opMove rfl (hF.ev 2 rfl)) rfl (fun _ _ => rfl) (kM [false, false, true, true, true] rfl rfl) (by decide) ?_
    refine pxV (v := (.slice (cutA A c 2 1) (10 - 2) (c - 2))) (fun _ _ hF => opCutLH (k := 2) (h := 10) (e := 5) (sz := 1) rfl (by kernel_rfl) (by kernel_rfl) (hF.ev 0 rfl) rfl rfl rfl rfl (by omega) (by omega)) rfl (fun _ _ => rfl) (kM [false, true, true, true] rfl rfl) (by decide) ?_
    refine pxV (v := (.slice B k d)) (fun _ _ hF => opMove rfl (hF.ev 2 rfl)) rfl (fun _ _ => rfl) (kM [true, true, false, true] rfl rfl) (by decide) ?_
    refine pxM hH (fun _ hF => smLits (C := cSl) (e := 22) (z := (.slice none 0 0)) (by_ := 24) [((cutA A c 2 1), (10 - 2), (c - 2)), (B, k, d)] rfl (by kernel_rfl) (by kernel_rfl) (EvP.cons (v := cSl.val ((cutA A c 2 1), (10 - 2), (c - 2))) (hF.ev 1 rfl) (EvP.cons (v := cSl.val (B, k, d)) (hF.ev 0 rfl) EvP.nil)) rfl (ltb rfl) (leb rfl) rfl) trivial rfl (fun _ _ => rfl) (kM [false, false, true, true] rfl rfl) (by decide) ?_
    clear hH
    rintro _ _ w ⟨g2, rfl, rfl⟩ hH
    replace hH : HH w0 [] [[bl g2 22 (flat cSl [((cutA A c 2 1), (10 - 2), (c - 2)), (B, k, d)]).toArray]] w := hH
    refine pxM hH (fun _ hF => Does.small (concat_c (some ⟨g2, 0, none⟩) 2 2 _ [(s.take 10).drop 2, p] rfl (by decide) (by simp only [List.flatten_cons, List.flatten_nil, List.length_append, List.length_drop, List.length_take, List.length_nil]; omega)) (fun w => opCall rfl Tryd.func12 rfl rfl (Evs.cons (v := (.slice (some ⟨g2, 0, none⟩) 2 2)) (hF.ev 0 rfl) Evs.nil) w)) ⟨((Bk.lits (C := cSl) [((cutA A c 2 1), (10 - 2), (c - 2)), (B, k, d)] (by show 2 ≤ _; unfold maxLen; decide)).vu (n := 2) (hH.blk 0 rfl) rfl), two_views ((hH.vu hR.2.2.1 (by decide) (Off.nil _ _)).cut (k := 2) (m := 10) (by omega) (by omega)) (hH.vu hR.2.2.2 (by decide) (Off.nil _ _))⟩ rfl (fun _ _ => rfl) (kM [false, true, true] rfl rfl) (by decide) ?_
    clear hH
    rintro v7 E3 w hO4 hH
    replace hH : HH w0 [] [[bl g2 22 (flat cSl [((cutA A c 2 1), (10 - 2), (c - 2)), (B, k, d)]).toArray], E3] w := hH
    replace hO4 : OwnT cByte 5 v7 (txt s p) E3 := txt_flat s p ▸ hO4
    obtain ⟨A5, cc6, rfl⟩ := hO4.slice
    refine pxV (v := (.slice A5 ((txt s p).length) cc6)) (fun _ _ hF => opAssign rfl (hF.ev 0 rfl)) rfl (fun _ _ => rfl) (kM [false, true, true] rfl rfl) (by decide) ?_
    refine pxEnd ?_
    refine qxThen ?_
    refine cxSeq ?_
    refine cxReg ?_
    refine pxV (v := (.slice A n c)) (fun _ _ hF => opMove rfl (hF.ev 1 rfl)) rfl (fun _ _ => rfl) (kM [true, false, true] rfl rfl) (by decide) ?_
    have hi8 : 10 < n := by omega
    obtain ⟨b9, off10, rfl, hL11, hb12, hR13⟩ := hR.2.2.1.blk (by decide) (Off.nil _ _) (by omega)
    have := hR.2.2.1.cap
    have hj16 : 10 < s.length := by first | exact hi8 | (simp only [List.length_drop]; omega) | (simp only [List.length_drop, List.length_take]; omega) | omega
    refine pxV (v := (.pointer (some ⟨b9, off10 + 10 * 1, none⟩))) (fun _ _ hF => opIndex (i := 10) (e := 5) (sz := 1) rfl (by kernel_rfl) (by kernel_rfl) (hF.ev 0 rfl) rfl rfl hi8) rfl (fun _ _ => rfl) (kM [false, true, true] rfl rfl) (by decide) ?_
    refine pxS (v := (.int .u8 ((((s.getD 10 0).toNat) : Nat) : Int))) (fun w => HoldsL cByte w b9 off10 s) (hH.holdsL hL11 hb12 hR13) (fun _ _ hF hS => opLoadT (C := cByte) (y := (s.getD 10 0)) rfl (hF.ev 0 rfl) (by kernel_rfl) (hS 10 _ hx10) rfl) rfl (fun _ _ => rfl) (kM [false, true, true] rfl rfl) (by decide) ?_
    refine pxM hH (fun _ hF => Does.small ((count_c ((s.getD 10 0).toNat) (by first | omega | exact UInt8.toNat_lt _)).does) (fun w => opCall rfl Tryd.func9 rfl rfl (Evs.cons (v := (.int .u8 ((((s.getD 10 0).toNat) : Nat) : Int))) (hF.ev 0 rfl) Evs.nil) w)) trivial rfl (fun _ _ => rfl) (kM [false, true, true] rfl rfl) (by decide) ?_
    clear hH
    rintro _ _ w ⟨rfl, rfl⟩ hH
    replace hH : HH w0 [] [[bl g2 22 (flat cSl [((cutA (some ⟨b9, off10, none⟩) c 2 1), (10 - 2), (c - 2)), (B, k, d)]).toArray], E3] w := hH.unpad
    refine pxV (v := (.int .i64 ((((cnt ((s.getD 10 0).toNat))) : Nat) : Int))) (fun _ _ hF => opAssign rfl (hF.ev 0 rfl)) rfl (fun _ _ => rfl) (kM [false, true, true] rfl rfl) (by decide) ?_
    refine pxEnd ?_
    refine qxThen ?_
    refine cxSeq ?_
    refine cxReg ?_
    refine pxV (v := (.int .i64 (((m) : Nat) : Int))) (fun _ _ hF => opMove rfl (hF.ev 2 rfl)) rfl (fun _ _ => rfl) (kA rfl) (by decide) ?_
    refine pxM hH (fun _ hF => smMake0 (e := 5) (n := m) (sz := 1) (by_ := 1) (z := (.int .u8 0)) (cs := madeCells (cByte.enc 0) (m * 1)) rfl (by kernel_rfl) (by kernel_rfl) rfl (hF.ev 0 rfl) rfl (by omega) (by omega) rfl) trivial rfl (fun _ _ => rfl) (kM [false, true, true, true] rfl rfl) (by decide) ?_
    clear hH
    rintro _ _ w ⟨g17, rfl, rfl⟩ hH
    replace hH : HH w0 [] [[bl g2 22 (flat cSl [((cutA (some ⟨b9, off10, none⟩) c 2 1), (10 - 2), (c - 2)), (B, k, d)]).toArray], E3, [bl g17 5 (madeCells (cByte.enc 0) (m * 1))]] w := hH
    refine pxV (v := (.slice (some ⟨g17, 0, none⟩) 0 m)) (fun _ _ hF => opAssign rfl (hF.ev 0 rfl)) rfl (fun _ _ => rfl) (kM [false, true, true, true] rfl rfl) (by decide) ?_
    refine pxEnd ?_
    refine qxThen ?_
    refine cxSeq ?_
    refine cxSeq ?_
    refine cxReg ?_
    refine pxV (v := (.int .i64 0)) (fun _ _ hF => opAssign rfl rfl) rfl (fun _ _ => rfl) (kA rfl) (by decide) ?_
    refine pxEnd ?_
    refine qxThen ?_
    refine cxBlock ?_
    replace hH : HH w0 [] [E3, [bl g17 5 (madeCells (cByte.enc 0) (m * 1))]] w := hH.only [false, true, true]
    refine cxLoop (σ := Nat × (Option Addr) × Nat × (List UInt8) × Hl) (fun x => [(13, (.int .i64 (((x.1) : Nat) : Int))), (12, (.slice x.2.1 x.2.2.2.1.length x.2.2.1)), (11, (.int .i64 ((((cnt ((s.getD 10 0).toNat))) : Nat) : Int))), (10, (.slice A5 ((txt s p).length) cc6)), (2, (.int .i64 (((m) : Nat) : Int)))]) (fun x w => HH w0 [] [E3, x.2.2.2.2] w ∧ (x.1 ≤ 2) ∧ (OwnT cByte 5 (.slice x.2.1 x.2.2.2.1.length x.2.2.1) x.2.2.2.1 x.2.2.2.2) ∧ (x.2.2.2.1 = (kcat (txt s p) (big s p) x.1).take m) ∧ (x.2.2.2.1.length = min m (32 * x.1))) (fun x => 2 - x.1) (0, (some ⟨g17, 0, none⟩), m, [], [bl g17 5 (madeCells (cByte.enc 0) (m * 1))]) ⟨hH, (Nat.zero_le _), ((Bk.make0 (C := cByte) 0 m (by unfold maxLen; omega)).own 5 g17 rfl), List.take_nil.symm, (show 0 = min m 0 by omega)⟩ (slots_at [0, 1, 2, 3, 4] rfl) ?_
    clear hH
    rintro ⟨i, A1, c1, L, E1⟩ w ⟨hH, hi, hO, hL, hlen⟩
    change CX _ _ _ _ [(13, (.int .i64 (((i) : Nat) : Int))), (12, (.slice A1 L.length c1)), (11, (.int .i64 ((((cnt ((s.getD 10 0).toNat))) : Nat) : Int))), (10, (.slice A5 ((txt s p).length) cc6)), (2, (.int .i64 (((m) : Nat) : Int)))] _
    replace hH : HH w0 [] [E3, E1] w := hH
    replace hi : i ≤ 2 := hi
    replace hO : OwnT cByte 5 (.slice A1 L.length c1) L E1 := hO
    replace hL : L = (kcat (txt s p) (big s p) i).take m := hL
    replace hlen : L.length = min m (32 * i) := hlen
    refine cxSeq ?_
    refine cxSeq ?_
    refine cxReg ?_
    refine pxV (v := (.slice A1 L.length c1)) (fun _ _ hF => opMove rfl (hF.ev 1 rfl)) rfl (fun _ _ => rfl) (kA rfl) (by decide) ?_
    refine pxV (v := (.int .i64 (((L.length) : Nat) : Int))) (fun _ _ hF => opLen (e := 5) rfl (by kernel_rfl) (hF.ev 0 rfl)) rfl (fun _ _ => rfl) (kM [false, true, true, true, true, true] rfl rfl) (by decide) ?_
    refine pxV (v := (.int .i64 (((m) : Nat) : Int))) (fun _ _ hF => opMove rfl (hF.ev 5 rfl)) rfl (fun _ _ => rfl) (kA rfl) (by decide) ?_
    refine pxV (v := (.bool (decide (L.length < m)))) (fun _ _ hF => opLss rfl (hF.ev 1 rfl) (hF.ev 0 rfl) (dc (by omega))) rfl (fun _ _ => rfl) (kM [false, false, true, true, true, true, true] rfl rfl) (by decide) ?_
    refine pxEnd ?_
    refine qxThen ?_
    refine cxP 0 rfl rfl (fun hc18 => ?_) (fun hc18 => ?_)
    · refine cxSkip ?_
      refine qxThen ?_
      refine cxSeq ?_
      refine cxBlock ?_
      refine cxSeq ?_
      refine cxReg ?_
      refine pxV (v := (.int .i64 (((i) : Nat) : Int))) (fun _ _ hF => opMove rfl (hF.ev 1 rfl)) rfl (fun _ _ => rfl) (kM [false, true, true, true, true, true] rfl rfl) (by decide) ?_
      refine pxV (v := (.slice A5 ((txt s p).length) cc6)) (fun _ _ hF => opMove rfl (hF.ev 4 rfl)) rfl (fun _ _ => rfl) (kA rfl) (by decide) ?_
      refine pxV (v := (.int .i64 ((((cnt ((s.getD 10 0).toNat))) : Nat) : Int))) (fun _ _ hF => opMove rfl (hF.ev 4 rfl)) rfl (fun _ _ => rfl) (kA rfl) (by decide) ?_
      refine pxM hH (fun _ hF => Does.small ((hash_c i (by omega) A5 ((txt s p).length) cc6 (txt s p) (cnt (s.getD 10 0).toNat) (by omega) (by omega) (by omega)).does) (fun w => opCall rfl Tryd.func13 rfl rfl (Evs.cons (v := (.int .i64 (((i) : Nat) : Int))) (hF.ev 2 rfl) (Evs.cons (v := (.slice A5 ((txt s p).length) cc6)) (hF.ev 1 rfl) (Evs.cons (v := (.int .i64 ((((cnt ((s.getD 10 0).toNat))) : Nat) : Int))) (hF.ev 0 rfl) Evs.nil))) w)) ⟨hH.oldBlk hR.1 (by simp), hH.oldBlk hR.2.1 (by simp), (hO4.vuAt (hH.has 0 rfl))⟩ rfl (fun _ _ => rfl) (kM [false, false, false, true, true, true, true, true] rfl rfl) (by decide) ?_
      clear hH
      rintro _ _ w ⟨rfl, rfl⟩ hH
      replace hH : HH w0 [] [E3, E1] w := hH.unpad
      refine pxM hH (fun _ hF => smAlloc (cs := (cArr 32).enc (fun _ => 0)) (z := ((cArr 32).val (fun _ => 0))) rfl (by kernel_rfl) rfl) trivial rfl (fun _ _ => rfl) (kA rfl) (by decide) ?_
      clear hH
      rintro _ _ w ⟨g19, rfl, rfl⟩ hH
      replace hH : HH w0 [] [E3, E1, [bl g19 34 ((cArr 32).enc (fun _ => 0))]] w := hH
      refine pxE0 2 hH rfl (fun _ hF => smStoreT (C := (cArr 32)) (z := (sha (List.replicate i 0 ++ cyc (txt s p) (max (cnt (s.getD 10 0).toNat) (txt s p).length)))) rfl (hF.ev 0 rfl) (hF.ev 1 rfl) rfl (by kernel_rfl) (by rw [Cod.size]; exact Nat.le_refl _) (put_whole (cArr 32) _ _)) trivial rfl (fun _ _ => rfl) ?_
      clear hH
      rintro _ _ w rfl hH
      replace hH : HH w0 [] [E3, E1, [bl g19 34 ((cArr 32).enc (sha (List.replicate i 0 ++ cyc (txt s p) (max (cnt (s.getD 10 0).toNat) (txt s p).length))))]] w := hH
      refine pxEnd ?_
      refine qxThen ?_
      refine cxReg ?_
      refine pxV (v := (.slice A1 L.length c1)) (fun _ _ hF => opMove rfl (hF.ev 3 rfl)) rfl (fun _ _ => rfl) (kM [true, false, true, true, true, true, true] rfl rfl) (by decide) ?_
      refine pxV (v := (.int .i64 (((m) : Nat) : Int))) (fun _ _ hF => opMove rfl (hF.ev 6 rfl)) rfl (fun _ _ => rfl) (kA rfl) (by decide) ?_
      refine pxV (v := (.slice A1 L.length c1)) (fun _ _ hF => opMove rfl (hF.ev 4 rfl)) rfl (fun _ _ => rfl) (kM [true, true, true, true, false, true, true, true] rfl rfl) (by decide) ?_
      refine pxV (v := (.int .i64 (((L.length) : Nat) : Int))) (fun _ _ hF => opLen (e := 5) rfl (by kernel_rfl) (hF.ev 0 rfl)) rfl (fun _ _ => rfl) (kM [false, true, true, true, true, true, true, true] rfl rfl) (by decide) ?_
      refine pxV (v := (.int .i64 (((m - L.length) : Nat) : Int))) (fun _ _ hF => opSub rfl (hF.ev 1 rfl) (hF.ev 0 rfl) (wI (by omega) (by omega) (by omega))) rfl (fun _ _ => rfl) (kM [false, false, true, true, true, true, true, true] rfl rfl) (by decide) ?_
      refine pxV (v := (.int .i64 (((min 32 (m - L.length)) : Nat) : Int))) (fun _ _ hF => opMin rfl rfl (hF.ev 0 rfl) (by omega)) rfl (fun _ _ => rfl) (kM [false, true, true, true, true, true, true] rfl rfl) (by decide) ?_
      refine pxV (v := (.slice (some ⟨g19, 0, none⟩) (min 32 (m - L.length)) 32)) (fun _ _ hF => opSliceAH (m := 32) (h := min 32 (m - L.length)) (e := 5) (sz := 1) rfl (by kernel_rfl) (by kernel_rfl) (hF.ev 2 rfl) (hF.ev 0 rfl) rfl (by omega)) rfl (fun _ _ => rfl) (kM [false, true, false, true, true, true, true] rfl rfl) (by decide) ?_
      refine pxE 1 hH rfl (fun _ hF => smAppT (C := cByte) (l := L) (m := ((lst 32 (sha (List.replicate i 0 ++ cyc (txt s p) (max (cnt (s.getD 10 0).toNat) (txt s p).length)))).take (min 32 (m - L.length)))) (e := 5) (z := (.int .u8 0)) (by_ := 1) rfl (by kernel_rfl) (by kernel_rfl) rfl (ltb rfl) (hF.ev 1 rfl) hO (hF.ev 0 rfl) (by rw [List.length_take, lst_len]; omega) (fun h => by cases h) (by unfold maxLen; omega) (by omega)) ((vu_arr (hH.blk 2 rfl)).head (m := min 32 (m - L.length)) (by omega)) rfl (fun _ _ => rfl) (kM [false, false, true, true, true, true] rfl rfl) (by decide) ?_
      clear hH
      rintro v22 E23 w ⟨hO24, _⟩ hH
      replace hH : HH w0 [] [E3, E23, [bl g19 34 ((cArr 32).enc (sha (List.replicate i 0 ++ cyc (txt s p) (max (cnt (s.getD 10 0).toNat) (txt s p).length))))]] w := hH
      replace hO24 : OwnT cByte 5 v22 (L ++ ((lst 32 (sha (List.replicate i 0 ++ cyc (txt s p) (max (cnt (s.getD 10 0).toNat) (txt s p).length)))).take (min 32 (m - L.length)))) E23 := hO24
      obtain ⟨A20, c21, rfl⟩ := hO24.slice
      refine pxV (v := (.slice A20 ((L ++ ((lst 32 (sha (List.replicate i 0 ++ cyc (txt s p) (max (cnt (s.getD 10 0).toNat) (txt s p).length)))).take (min 32 (m - L.length)))).length) c21)) (fun _ _ hF => opAssign rfl (hF.ev 0 rfl)) rfl (fun _ _ => rfl) (kM [false, true, true, true, true] rfl rfl) (by decide) ?_
      refine pxEnd ?_
      refine qxInN ?_
      refine qxThen ?_
      refine cxReg ?_
      refine pxV (v := (.int .i64 (((i) : Nat) : Int))) (fun _ _ hF => opMove rfl (hF.ev 1 rfl)) rfl (fun _ _ => rfl) (kM [true, false, true, true, true] rfl rfl) (by decide) ?_
      refine pxV (v := (.int .i64 (((i + 1) : Nat) : Int))) (fun _ _ hF => opAdd rfl (hF.ev 0 rfl) rfl (wI (by omega) (by omega) (by omega))) rfl (fun _ _ => rfl) (kM [false, true, true, true, true] rfl rfl) (by decide) ?_
      refine pxV (v := (.int .i64 (((i + 1) : Nat) : Int))) (fun _ _ hF => opAssign rfl (hF.ev 0 rfl)) rfl (fun _ _ => rfl) (kM [false, true, true, true, true] rfl rfl) (by decide) ?_
      refine pxEnd ?_
      replace hH : HH w0 [] [E3, E23] w := hH.only [true, true, false]
      exact qxRound (i + 1, A20, c21, (L ++ ((lst 32 (sha (List.replicate i 0 ++ cyc (txt s p) (max (cnt (s.getD 10 0).toNat) (txt s p).length)))).take (min 32 (m - L.length)))), E23) ⟨hH, (show (i + 1) ≤ 2 from (by omega)), hO24, (by rw [hL]; exact key_go), (show (L ++ ((lst 32 (sha (List.replicate i 0 ++ cyc (txt s p) (max (cnt (s.getD 10 0).toNat) (txt s p).length)))).take (min 32 (m - L.length)))).length = min m (32 * (i + 1)) from (by rw [List.length_append, List.length_take, lst_len]; omega))⟩ (by omega) (slots_at [0, 1, 2, 3, 4] rfl)
    · refine cxExit ?_
      refine qxThenE ?_
      refine qxThenE ?_
      refine qxInE ?_
      refine qxThen ?_
      refine cxSeq ?_
      refine cxReg ?_
      refine pxV (v := (.slice A1 L.length c1)) (fun _ _ hF => opMove rfl (hF.ev 2 rfl)) rfl (fun _ _ => rfl) (kM [false, false, false, false, false, false] rfl rfl) (by decide) ?_
      refine pxV (v := (.slice A1 L.length c1)) (fun _ _ hF => opAssign rfl (hF.ev 0 rfl)) rfl (fun _ _ => rfl) (kM [false] rfl rfl) (by decide) ?_
      refine pxV (v := (.int .i64 11)) (fun _ _ hF => opAssign rfl rfl) rfl (fun _ _ => rfl) (kA rfl) (by decide) ?_
      refine pxV (v := (.int .i64 0)) (fun _ _ hF => opAssign rfl rfl) rfl (fun _ _ => rfl) (kA rfl) (by decide) ?_
      refine pxEnd ?_
      refine qxThen ?_
      refine cxRet ?_
      refine qxRet3 2 1 0 rfl rfl rfl rfl ?_
      have he : der s p m = (keyL s p m, 11, 0) := by unfold der; rw [if_neg (by omega), if_neg (by omega), Int.toNat_natCast]
      rw [he]
      have hLk : L = keyL s p m := by rw [hL]; exact kcat_enough hi (by omega)
      subst hLk
      exact ⟨_, _, rfl, ⟨_, rfl, hO⟩, hH.out1 [false, true] rfl⟩

theorem derive_c (A B : Option Addr) (n c k d : Nat) (s p : List UInt8) (m : Int) : Does Tryd.prog 7 #[.slice A n c, .slice B k d, .int .i64 m] [] (fun w => w.heap[1]? = some (.cells ((cWs 64).enc K32) 46 (0, 0)) ∧ w.heap[0]? = some (.cells ((cWs 8).enc H32) 45 (0, 0)) ∧ Vu cByte w A n c s ∧ Vu cByte w B k d p) (fun v E' => ∃ q, v = .tuple #[q, .int .i64 (((der s p m).2.1 : Nat) : Int), .int .i64 (((der s p m).2.2 : Nat) : Int)] ∧ OwnT cByte 5 q (der s p m).1 E') := by
  by_cases h : m < 1 ∨ 64 < m ∨ 1000 < k
  · exact derive_bad A B n c k d s p m h
  · obtain ⟨q, rfl⟩ : ∃ q : Nat, m = (q : Int) := ⟨m.toNat, by omega⟩
    exact derive_ok A B n c k d s p q (by omega) (by omega) (by omega)
end Go.Proofs.YticflflbogdljaaDoor
