/- The laws of layer 13 (mkkl.py writes this text). -/
import Derived.Test.YticflflbogdljaaDoorKb
import Derived.Test.YticflflbogdljaaDoorKc
import Derived.Test.YticflflbogdljaaDoorOpS
namespace Go.Proofs.YticflflbogdljaaDoor
open Go Go.RowKit
set_option maxRecDepth 100000

theorem der_cut {s p : List UInt8} {k l : Nat} (hk : k ≤ 64) (hl : l ≤ k) (h1 : 1 ≤ l) (h : (der s p (k : Int)).2.2 = 0) : ((der s p (k : Int)).1.take l = (der s p (l : Int)).1) ∧ (der s p (k : Int)).1.length = k := by
  unfold der at h ⊢
  by_cases h2 : (k : Int) < 1 ∨ 64 < (k : Int) ∨ 1000 < p.length
  · rw [if_pos h2] at h; cases h
  · rw [if_neg h2] at h ⊢
    rw [if_neg (show ¬ ((l : Int) < 1 ∨ 64 < (l : Int) ∨ 1000 < p.length) by omega)]
    by_cases h3 : kd s ≠ 0
    · rw [if_pos h3] at h; exact absurd h h3
    · rw [if_neg h3, if_neg h3, Int.toNat_natCast, Int.toNat_natCast]
      refine ⟨?_, keyL_len hk⟩
      show (keyL s p k).take l = keyL s p l
      unfold keyL
      rw [List.take_take, Nat.min_eq_left hl]
theorem der_err {s p : List UInt8} {k l : Nat} (hk : k ≤ 64) (hl : l ≤ 64) (h1 : 1 ≤ k) (h2 : 1 ≤ l) (hp : p.length ≤ 1000) : (der s p (k : Int)).2.2 = (der s p (l : Int)).2.2 := by
  unfold der
  rw [if_neg (show ¬ ((k : Int) < 1 ∨ 64 < (k : Int) ∨ 1000 < p.length) by omega), if_neg (show ¬ ((l : Int) < 1 ∨ 64 < (l : Int) ∨ 1000 < p.length) by omega)]
  split <;> rfl
theorem awake_spec : kd [3, 8, 115, 97, 108, 116, 115, 97, 108, 116, 0] = 0 := by decide
theorem der_awake : der [3, 8, 115, 97, 108, 116, 115, 97, 108, 116, 0] [112, 97, 115, 115] (32 : Int) = (keyL [3, 8, 115, 97, 108, 116, 115, 97, 108, 116, 0] [112, 97, 115, 115] 32, 11, 0) := by
  unfold der
  rw [if_neg (by decide), awake_spec, if_neg (by decide)]
  rfl

set_option maxHeartbeats 8000000 in
theorem awake_c  : Pure Tryd.prog 6 #[] (fun w => w.heap[1]? = some (.cells ((cWs 64).enc K32) 46 (0, 0)) ∧ w.heap[0]? = some (.cells ((cWs 8).enc H32) 45 (0, 0))) (.bool true) := by
  refine pure_of (fn := Tryd.f6) Tryd.func6 rfl Tryd.ntmps6 (Nat.le_of_ble_eq_true rfl) rfl ?_
  intro w0 hH hR
  refine cxSeq ?_
  refine cxReg ?_
  refine pxV (v := (.bool false)) (fun _ _ hF => opAssign rfl rfl) rfl (fun _ _ => rfl) (kA rfl) (by decide) ?_
  refine pxEnd ?_
  refine qxThen ?_
  refine cxSeq ?_
  refine cxReg ?_
  refine pxM hH (fun _ hF => smLits (C := cByte) (e := 5) (z := (.int .u8 0)) (by_ := 1) [3, 8, 115, 97, 108, 116, 115, 97, 108, 116, 0] rfl (by kernel_rfl) (by kernel_rfl) (EvP.cons (v := cByte.val 3) rfl (EvP.cons (v := cByte.val 8) rfl (EvP.cons (v := cByte.val 115) rfl (EvP.cons (v := cByte.val 97) rfl (EvP.cons (v := cByte.val 108) rfl (EvP.cons (v := cByte.val 116) rfl (EvP.cons (v := cByte.val 115) rfl (EvP.cons (v := cByte.val 97) rfl (EvP.cons (v := cByte.val 108) rfl (EvP.cons (v := cByte.val 116) rfl (EvP.cons (v := cByte.val 0) rfl EvP.nil))))))))))) rfl (ltb rfl) (leb rfl) rfl) trivial rfl (fun _ _ => rfl) (kM [false] rfl rfl) (by decide) ?_
  clear hH
  rintro _ _ w ⟨g1, rfl, rfl⟩ hH
  replace hH : HH w0 [] [[bl g1 5 (flat cByte [3, 8, 115, 97, 108, 116, 115, 97, 108, 116, 0]).toArray]] w := hH
  refine pxE 0 hH rfl (fun _ hF => smMark (e := 5) rfl (by kernel_rfl) (by kernel_rfl) (hF.ev 0 rfl)) trivial rfl (fun _ _ => rfl) (kM [false] rfl rfl) (by decide) ?_
  clear hH
  rintro _ _ w ⟨rfl, rfl⟩ hH
  replace hH : HH w0 [] [[mk g1 5 ((flat cByte [3, 8, 115, 97, 108, 116, 115, 97, 108, 116, 0]).toArray)]] w := hH
  refine pxM hH (fun _ hF => smLits (C := cByte) (e := 5) (z := (.int .u8 0)) (by_ := 1) [112, 97, 115, 115] rfl (by kernel_rfl) (by kernel_rfl) (EvP.cons (v := cByte.val 112) rfl (EvP.cons (v := cByte.val 97) rfl (EvP.cons (v := cByte.val 115) rfl (EvP.cons (v := cByte.val 115) rfl EvP.nil)))) rfl (ltb rfl) (leb rfl) rfl) trivial rfl (fun _ _ => rfl) (kA rfl) (by decide) ?_
  clear hH
  rintro _ _ w ⟨g2, rfl, rfl⟩ hH
  replace hH : HH w0 [] [[mk g1 5 ((flat cByte [3, 8, 115, 97, 108, 116, 115, 97, 108, 116, 0]).toArray)], [bl g2 5 (flat cByte [112, 97, 115, 115]).toArray]] w := hH
  refine pxE 1 hH rfl (fun _ hF => smMark (e := 5) rfl (by kernel_rfl) (by kernel_rfl) (hF.ev 0 rfl)) trivial rfl (fun _ _ => rfl) (kM [false, true] rfl rfl) (by decide) ?_
  clear hH
  rintro _ _ w ⟨rfl, rfl⟩ hH
  replace hH : HH w0 [] [[mk g1 5 ((flat cByte [3, 8, 115, 97, 108, 116, 115, 97, 108, 116, 0]).toArray)], [mk g2 5 ((flat cByte [112, 97, 115, 115]).toArray)]] w := hH
  refine pxM hH (fun _ hF => Does.small (derive_c (some ⟨g1, 0, none⟩) (some ⟨g2, 0, none⟩) 11 11 4 4 ([3, 8, 115, 97, 108, 116, 115, 97, 108, 116, 0]) ([112, 97, 115, 115]) (32 : Int)) (fun w => opCall rfl Tryd.func7 rfl rfl (Evs.cons (v := (.slice (some ⟨g1, 0, none⟩) 11 11)) (hF.ev 1 rfl) (Evs.cons (v := (.slice (some ⟨g2, 0, none⟩) 4 4)) (hF.ev 0 rfl) (Evs.cons (v := (.int .i64 32)) rfl Evs.nil))) w)) ⟨hH.oldBlk hR.1 (by simp), hH.oldBlk hR.2 (by simp), ((Bk.lits (C := cByte) [3, 8, 115, 97, 108, 116, 115, 97, 108, 116, 0] (by show 11 ≤ _; unfold maxLen; decide)).vuM (hH.blk 0 rfl) rfl), ((Bk.lits (C := cByte) [112, 97, 115, 115] (by show 4 ≤ _; unfold maxLen; decide)).vuM (hH.blk 1 rfl) rfl)⟩ rfl (fun _ _ => rfl) (kM [false, false] rfl rfl) (by decide) ?_
  clear hH
  rintro _ E3 w ⟨q7, rfl, hO4⟩ hH
  replace hH : HH w0 [] [[mk g1 5 ((flat cByte [3, 8, 115, 97, 108, 116, 115, 97, 108, 116, 0]).toArray)], [mk g2 5 ((flat cByte [112, 97, 115, 115]).toArray)], E3] w := hH
  obtain ⟨A5, c6, rfl⟩ := hO4.slice
  refine pxV (v := (.tuple #[(.slice A5 ((der ([3, 8, 115, 97, 108, 116, 115, 97, 108, 116, 0]) ([112, 97, 115, 115]) (32 : Int)).1.length) c6), (.int .i64 ((((der ([3, 8, 115, 97, 108, 116, 115, 97, 108, 116, 0]) ([112, 97, 115, 115]) (32 : Int)).2.1) : Nat) : Int)), (.int .i64 ((((der ([3, 8, 115, 97, 108, 116, 115, 97, 108, 116, 0]) ([112, 97, 115, 115]) (32 : Int)).2.2) : Nat) : Int))])) (fun _ _ hF => opMove rfl (hF.ev 0 rfl)) rfl (fun _ _ => rfl) (kM [false] rfl rfl) (by decide) ?_
  refine pxV (v := (.slice A5 ((der ([3, 8, 115, 97, 108, 116, 115, 97, 108, 116, 0]) ([112, 97, 115, 115]) (32 : Int)).1.length) c6)) (fun _ _ hF => opExtract rfl (hF.ev 0 rfl) rfl) rfl (fun _ _ => rfl) (kA rfl) (by decide) ?_
  refine pxV (v := (.int .i64 ((((der ([3, 8, 115, 97, 108, 116, 115, 97, 108, 116, 0]) ([112, 97, 115, 115]) (32 : Int)).2.1) : Nat) : Int))) (fun _ _ hF => opExtract rfl (hF.ev 1 rfl) rfl) rfl (fun _ _ => rfl) (kA rfl) (by decide) ?_
  refine pxV (v := (.int .i64 ((((der ([3, 8, 115, 97, 108, 116, 115, 97, 108, 116, 0]) ([112, 97, 115, 115]) (32 : Int)).2.2) : Nat) : Int))) (fun _ _ hF => opExtract rfl (hF.ev 2 rfl) rfl) rfl (fun _ _ => rfl) (kM [true, true, false] rfl rfl) (by decide) ?_
  refine pxV (v := (.slice A5 ((der ([3, 8, 115, 97, 108, 116, 115, 97, 108, 116, 0]) ([112, 97, 115, 115]) (32 : Int)).1.length) c6)) (fun _ _ hF => opAssign rfl (hF.ev 2 rfl)) rfl (fun _ _ => rfl) (kM [true, true, false] rfl rfl) (by decide) ?_
  refine pxV (v := (.int .i64 ((((der ([3, 8, 115, 97, 108, 116, 115, 97, 108, 116, 0]) ([112, 97, 115, 115]) (32 : Int)).2.1) : Nat) : Int))) (fun _ _ hF => opAssign rfl (hF.ev 2 rfl)) rfl (fun _ _ => rfl) (kM [true, true, false] rfl rfl) (by decide) ?_
  refine pxV (v := (.int .i64 ((((der ([3, 8, 115, 97, 108, 116, 115, 97, 108, 116, 0]) ([112, 97, 115, 115]) (32 : Int)).2.2) : Nat) : Int))) (fun _ _ hF => opAssign rfl (hF.ev 2 rfl)) rfl (fun _ _ => rfl) (kM [true, true, false] rfl rfl) (by decide) ?_
  refine pxEnd ?_
  refine qxThen ?_
  refine cxSeq ?_
  have hd1 : (der [3, 8, 115, 97, 108, 116, 115, 97, 108, 116, 0] [112, 97, 115, 115] (32 : Int)).1.length = 32 := by rw [der_awake]; exact keyL_len (by decide)
  have hd2 : (der [3, 8, 115, 97, 108, 116, 115, 97, 108, 116, 0] [112, 97, 115, 115] (32 : Int)).2.1 = 11 := by rw [der_awake]
  have hd3 : (der [3, 8, 115, 97, 108, 116, 115, 97, 108, 116, 0] [112, 97, 115, 115] (32 : Int)).2.2 = 0 := by rw [der_awake]
  refine cxReg ?_
  refine pxM hH (fun _ hF => Does.small ((count_c 0 (by first | omega | exact UInt8.toNat_lt _)).does) (fun w => opCall rfl Tryd.func9 rfl rfl (Evs.cons (v := (.int .u8 0)) rfl Evs.nil) w)) trivial rfl (fun _ _ => rfl) (kA rfl) (by decide) ?_
  clear hH
  rintro _ _ w ⟨rfl, rfl⟩ hH
  replace hH : HH w0 [] [[mk g1 5 ((flat cByte [3, 8, 115, 97, 108, 116, 115, 97, 108, 116, 0]).toArray)], [mk g2 5 ((flat cByte [112, 97, 115, 115]).toArray)], E3] w := hH.unpad
  refine pxV (v := (.bool true)) (fun _ _ hF => opEqI rfl (hF.ev 0 rfl) rfl (decide_eq_true (congrArg Nat.cast (show cnt 0 = 1024 from rfl)))) rfl (fun _ _ => rfl) (kM [false, true, true, true] rfl rfl) (by decide) ?_
  refine pxV (v := (.bool true)) (fun _ _ hF => opMove rfl (hF.ev 0 rfl)) rfl (fun _ _ => rfl) (kM [false, true, true, true] rfl rfl) (by decide) ?_
  refine pxV (v := (.slice A5 ((der ([3, 8, 115, 97, 108, 116, 115, 97, 108, 116, 0]) ([112, 97, 115, 115]) (32 : Int)).1.length) c6)) (fun _ _ hF => opMove rfl (hF.ev 3 rfl)) rfl (gOn 0 rfl rfl rfl (by decide)) (kM [true, true, true, false] rfl rfl) (by decide) ?_
  refine pxV (v := (.int .i64 ((((der ([3, 8, 115, 97, 108, 116, 115, 97, 108, 116, 0]) ([112, 97, 115, 115]) (32 : Int)).1.length) : Nat) : Int))) (fun _ _ hF => opLen (e := 5) rfl (by kernel_rfl) (hF.ev 0 rfl)) rfl (gOn 1 rfl rfl rfl (by decide)) (kM [false, true, true, true] rfl rfl) (by decide) ?_
  refine pxV (v := (.bool true)) (fun _ _ hF => opEqI rfl (hF.ev 0 rfl) rfl (decide_eq_true (congrArg Nat.cast hd1))) rfl (gOn 1 rfl rfl rfl (by decide)) (kM [false, true, true, true] rfl rfl) (by decide) ?_
  refine pxV (v := (.bool true)) (fun _ _ hF => opPickT rfl (hF.ev 1 rfl) (hF.ev 0 rfl)) rfl (fun _ _ => rfl) (kM [false, false, true, true] rfl rfl) (by decide) ?_
  refine pxV (v := (.bool true)) (fun _ _ hF => opMove rfl (hF.ev 0 rfl)) rfl (fun _ _ => rfl) (kM [false, true, true] rfl rfl) (by decide) ?_
  refine pxV (v := (.int .i64 ((((der ([3, 8, 115, 97, 108, 116, 115, 97, 108, 116, 0]) ([112, 97, 115, 115]) (32 : Int)).2.1) : Nat) : Int))) (fun _ _ hF => opMove rfl (hF.ev 2 rfl)) rfl (gOn 0 rfl rfl rfl (by decide)) (kM [true, true, false] rfl rfl) (by decide) ?_
  refine pxV (v := (.bool true)) (fun _ _ hF => opEqI rfl (hF.ev 0 rfl) rfl (decide_eq_true (congrArg Nat.cast hd2))) rfl (gOn 1 rfl rfl rfl (by decide)) (kM [false, true, true] rfl rfl) (by decide) ?_
  refine pxV (v := (.bool true)) (fun _ _ hF => opPickT rfl (hF.ev 1 rfl) (hF.ev 0 rfl)) rfl (fun _ _ => rfl) (kM [false, false, true] rfl rfl) (by decide) ?_
  refine pxV (v := (.bool true)) (fun _ _ hF => opMove rfl (hF.ev 0 rfl)) rfl (fun _ _ => rfl) (kM [false, true] rfl rfl) (by decide) ?_
  refine pxV (v := (.int .i64 ((((der ([3, 8, 115, 97, 108, 116, 115, 97, 108, 116, 0]) ([112, 97, 115, 115]) (32 : Int)).2.2) : Nat) : Int))) (fun _ _ hF => opMove rfl (hF.ev 1 rfl)) rfl (gOn 0 rfl rfl rfl (by decide)) (kM [true, false] rfl rfl) (by decide) ?_
  refine pxV (v := (.bool true)) (fun _ _ hF => opEqI rfl (hF.ev 0 rfl) rfl (decide_eq_true (congrArg Nat.cast hd3))) rfl (gOn 1 rfl rfl rfl (by decide)) (kM [false, true] rfl rfl) (by decide) ?_
  refine pxV (v := (.bool true)) (fun _ _ hF => opPickT rfl (hF.ev 1 rfl) (hF.ev 0 rfl)) rfl (fun _ _ => rfl) (kM [false, false] rfl rfl) (by decide) ?_
  refine pxV (v := (.bool true)) (fun _ _ hF => opAssign rfl (hF.ev 0 rfl)) rfl (fun _ _ => rfl) (kM [false] rfl rfl) (by decide) ?_
  refine pxEnd ?_
  refine qxThen ?_
  refine cxRet ?_
  refine qxRet1 0 rfl rfl ?_
  exact ⟨rfl, HH.toBelow hH⟩

set_option maxHeartbeats 8000000 in
theorem derives_l (s p : List UInt8) (As : Option Addr) (cs : Nat) (Ap : Option Addr) (cp : Nat) (m : Int) : Pure Tryd.prog 3 #[(.slice As s.length cs), (.slice Ap p.length cp), (.int .i64 (m))] (fun w => w.heap[1]? = some (.cells ((cWs 64).enc K32) 46 (0, 0)) ∧ w.heap[0]? = some (.cells ((cWs 8).enc H32) 45 (0, 0)) ∧ Vu cByte w As s.length cs s ∧ Vu cByte w Ap p.length cp p) (.bool true) := by
  refine pure_of (fn := Tryd.f3) Tryd.func3 rfl Tryd.ntmps3 (Nat.le_of_ble_eq_true rfl) rfl ?_
  intro w0 hH hR
  refine cxSeq ?_
  refine cxReg ?_
  refine pxV (v := (.bool false)) (fun _ _ hF => opAssign rfl rfl) rfl (fun _ _ => rfl) (kA rfl) (by decide) ?_
  refine pxEnd ?_
  refine qxThen ?_
  refine cxSeq ?_
  refine cxSeq ?_
  refine cxReg ?_
  refine pxM hH (fun _ hF => Does.small ((awake_c ).does) (fun w => opCall rfl Tryd.func6 rfl rfl Evs.nil w)) ⟨hH.oldBlk hR.1 (by simp), hH.oldBlk hR.2.1 (by simp)⟩ rfl (fun _ _ => rfl) (kM [false, true, true, true] rfl rfl) (by decide) ?_
  clear hH
  rintro _ _ w ⟨rfl, rfl⟩ hH
  replace hH : HH w0 [] [] w := hH.unpad
  refine pxV (v := (.bool false)) (fun _ _ hF => opNot rfl (hF.ev 0 rfl) rfl) rfl (fun _ _ => rfl) (kM [false, true, true, true] rfl rfl) (by decide) ?_
  refine pxEnd ?_
  refine qxThen ?_
  refine cxF 0 rfl rfl ?_
  refine cxSkip ?_
  refine qxThen ?_
  refine cxSeq ?_
  refine cxReg ?_
  refine pxV (v := (.slice As s.length cs)) (fun _ _ hF => opMove rfl (hF.ev 1 rfl)) rfl (fun _ _ => rfl) (kM [false, true, true, true] rfl rfl) (by decide) ?_
  refine pxV (v := (.slice Ap p.length cp)) (fun _ _ hF => opMove rfl (hF.ev 2 rfl)) rfl (fun _ _ => rfl) (kA rfl) (by decide) ?_
  refine pxV (v := (.int .i64 (m))) (fun _ _ hF => opMove rfl (hF.ev 4 rfl)) rfl (fun _ _ => rfl) (kA rfl) (by decide) ?_
  refine pxM hH (fun _ hF => Does.small (derive_c As Ap s.length cs p.length cp s p (m)) (fun w => opCall rfl Tryd.func7 rfl rfl (Evs.cons (v := (.slice As s.length cs)) (hF.ev 2 rfl) (Evs.cons (v := (.slice Ap p.length cp)) (hF.ev 1 rfl) (Evs.cons (v := (.int .i64 (m))) (hF.ev 0 rfl) Evs.nil))) w)) ⟨hH.oldBlk hR.1 (by simp), hH.oldBlk hR.2.1 (by simp), (hH.vu hR.2.2.1 (by decide) (Off.nil _ _)), (hH.vu hR.2.2.2 (by decide) (Off.nil _ _))⟩ rfl (fun _ _ => rfl) (kM [false, false, false, true, true, true] rfl rfl) (by decide) ?_
  clear hH
  rintro _ E1 w ⟨q5, rfl, hO2⟩ hH
  replace hH : HH w0 [] [E1] w := hH
  obtain ⟨A3, c4, rfl⟩ := hO2.slice
  refine pxV (v := (.tuple #[(.slice A3 ((der s p (m)).1.length) c4), (.int .i64 ((((der s p (m)).2.1) : Nat) : Int)), (.int .i64 ((((der s p (m)).2.2) : Nat) : Int))])) (fun _ _ hF => opMove rfl (hF.ev 0 rfl)) rfl (fun _ _ => rfl) (kM [false, true, true, true] rfl rfl) (by decide) ?_
  refine pxV (v := (.slice A3 ((der s p (m)).1.length) c4)) (fun _ _ hF => opExtract rfl (hF.ev 0 rfl) rfl) rfl (fun _ _ => rfl) (kA rfl) (by decide) ?_
  refine pxV (v := (.int .i64 ((((der s p (m)).2.1) : Nat) : Int))) (fun _ _ hF => opExtract rfl (hF.ev 1 rfl) rfl) rfl (fun _ _ => rfl) (kA rfl) (by decide) ?_
  refine pxV (v := (.int .i64 ((((der s p (m)).2.2) : Nat) : Int))) (fun _ _ hF => opExtract rfl (hF.ev 2 rfl) rfl) rfl (fun _ _ => rfl) (kM [true, true, false, true, true, true] rfl rfl) (by decide) ?_
  refine pxV (v := (.slice A3 ((der s p (m)).1.length) c4)) (fun _ _ hF => opAssign rfl (hF.ev 2 rfl)) rfl (fun _ _ => rfl) (kM [true, true, false, true, true, true] rfl rfl) (by decide) ?_
  refine pxV (v := (.int .i64 ((((der s p (m)).2.1) : Nat) : Int))) (fun _ _ hF => opAssign rfl (hF.ev 2 rfl)) rfl (fun _ _ => rfl) (kM [true, true, false, true, true, true] rfl rfl) (by decide) ?_
  refine pxV (v := (.int .i64 ((((der s p (m)).2.2) : Nat) : Int))) (fun _ _ hF => opAssign rfl (hF.ev 2 rfl)) rfl (fun _ _ => rfl) (kM [true, true, false, true, true, true] rfl rfl) (by decide) ?_
  refine pxEnd ?_
  refine qxThen ?_
  refine cxSeq ?_
  refine cxReg ?_
  refine pxV (v := (.slice As s.length cs)) (fun _ _ hF => opMove rfl (hF.ev 3 rfl)) rfl (fun _ _ => rfl) (kM [true, true, true, false, true, true] rfl rfl) (by decide) ?_
  refine pxV (v := (.slice Ap p.length cp)) (fun _ _ hF => opMove rfl (hF.ev 4 rfl)) rfl (fun _ _ => rfl) (kM [true, true, true, true, false, true] rfl rfl) (by decide) ?_
  refine pxV (v := (.int .i64 (m))) (fun _ _ hF => opMove rfl (hF.ev 5 rfl)) rfl (fun _ _ => rfl) (kM [true, true, true, true, true, false] rfl rfl) (by decide) ?_
  refine pxM hH (fun _ hF => Does.small (rderive_c As Ap s.length cs p.length cp s p (m)) (fun w => opCall rfl Tryd.func8 rfl rfl (Evs.cons (v := (.slice As s.length cs)) (hF.ev 2 rfl) (Evs.cons (v := (.slice Ap p.length cp)) (hF.ev 1 rfl) (Evs.cons (v := (.int .i64 (m))) (hF.ev 0 rfl) Evs.nil))) w)) ⟨(hH.vu hR.2.2.1 (by decide) (Off.nil _ _)), (hH.vu hR.2.2.2 (by decide) (Off.nil _ _))⟩ rfl (fun _ _ => rfl) (kM [false, false, false, true, true, true] rfl rfl) (by decide) ?_
  clear hH
  rintro _ E7 w ⟨q11, rfl, hO8⟩ hH
  replace hH : HH w0 [] [E1, E7] w := hH
  obtain ⟨A9, c10, rfl⟩ := hO8.slice
  refine pxV (v := (.tuple #[(.slice A9 ((der s p (m)).1.length) c10), (.int .i64 ((((der s p (m)).2.1) : Nat) : Int)), (.int .i64 ((((der s p (m)).2.2) : Nat) : Int))])) (fun _ _ hF => opMove rfl (hF.ev 0 rfl)) rfl (fun _ _ => rfl) (kM [false, true, true, true] rfl rfl) (by decide) ?_
  refine pxV (v := (.slice A9 ((der s p (m)).1.length) c10)) (fun _ _ hF => opExtract rfl (hF.ev 0 rfl) rfl) rfl (fun _ _ => rfl) (kA rfl) (by decide) ?_
  refine pxV (v := (.int .i64 ((((der s p (m)).2.1) : Nat) : Int))) (fun _ _ hF => opExtract rfl (hF.ev 1 rfl) rfl) rfl (fun _ _ => rfl) (kA rfl) (by decide) ?_
  refine pxV (v := (.int .i64 ((((der s p (m)).2.2) : Nat) : Int))) (fun _ _ hF => opExtract rfl (hF.ev 2 rfl) rfl) rfl (fun _ _ => rfl) (kM [true, true, false, true, true, true] rfl rfl) (by decide) ?_
  refine pxV (v := (.slice A9 ((der s p (m)).1.length) c10)) (fun _ _ hF => opAssign rfl (hF.ev 2 rfl)) rfl (fun _ _ => rfl) (kM [true, true, false, true, true, true] rfl rfl) (by decide) ?_
  refine pxV (v := (.int .i64 ((((der s p (m)).2.1) : Nat) : Int))) (fun _ _ hF => opAssign rfl (hF.ev 2 rfl)) rfl (fun _ _ => rfl) (kM [true, true, false, true, true, true] rfl rfl) (by decide) ?_
  refine pxV (v := (.int .i64 ((((der s p (m)).2.2) : Nat) : Int))) (fun _ _ hF => opAssign rfl (hF.ev 2 rfl)) rfl (fun _ _ => rfl) (kM [true, true, false, true, true, true] rfl rfl) (by decide) ?_
  refine pxEnd ?_
  refine qxThen ?_
  refine cxSeq ?_
  refine cxReg ?_
  refine pxV (v := (.slice A3 ((der s p (m)).1.length) c4)) (fun _ _ hF => opMove rfl (hF.ev 5 rfl)) rfl (fun _ _ => rfl) (kM [true, true, true, true, true, false] rfl rfl) (by decide) ?_
  refine pxS (v := (.string (strL ((der s p (m)).1)))) (fun w => Vu cByte w A3 ((der s p (m)).1.length) c4 ((der s p (m)).1)) (hO2.vuAt (hH.has 0 rfl)) (fun _ _ hF hS => opStr (e := 5) rfl (by kernel_rfl) (by kernel_rfl) (by kernel_rfl) (hF.ev 0 rfl) hS) rfl (fun _ _ => rfl) (kM [false, true, true, true, true, true] rfl rfl) (by decide) ?_
  refine pxV (v := (.slice A9 ((der s p (m)).1.length) c10)) (fun _ _ hF => opMove rfl (hF.ev 3 rfl)) rfl (fun _ _ => rfl) (kM [true, true, true, false, true, true] rfl rfl) (by decide) ?_
  refine pxS (v := (.string (strL ((der s p (m)).1)))) (fun w => Vu cByte w A9 ((der s p (m)).1.length) c10 ((der s p (m)).1)) (hO8.vuAt (hH.has 1 rfl)) (fun _ _ hF hS => opStr (e := 5) rfl (by kernel_rfl) (by kernel_rfl) (by kernel_rfl) (hF.ev 0 rfl) hS) rfl (fun _ _ => rfl) (kM [false, true, true, true, true, true] rfl rfl) (by decide) ?_
  refine pxV (v := (.bool true)) (fun _ _ hF => opEqLb (l := (der s p (m)).1) (m := (der s p (m)).1) rfl (hF.ev 1 rfl) (hF.ev 0 rfl) (decide_eq_true (rfl))) rfl (fun _ _ => rfl) (kM [false, false, true, true, true, true] rfl rfl) (by decide) ?_
  refine pxV (v := (.bool true)) (fun _ _ hF => opMove rfl (hF.ev 0 rfl)) rfl (fun _ _ => rfl) (kM [false, true, true, true, true] rfl rfl) (by decide) ?_
  refine pxV (v := (.int .i64 ((((der s p (m)).2.1) : Nat) : Int))) (fun _ _ hF => opMove rfl (hF.ev 4 rfl)) rfl (gOn 0 rfl rfl rfl (by decide)) (kM [true, true, true, true, false] rfl rfl) (by decide) ?_
  refine pxV (v := (.int .i64 ((((der s p (m)).2.1) : Nat) : Int))) (fun _ _ hF => opMove rfl (hF.ev 3 rfl)) rfl (gOn 1 rfl rfl rfl (by decide)) (kM [true, true, true, false, true] rfl rfl) (by decide) ?_
  refine pxV (v := (.bool true)) (fun _ _ hF => opEqI rfl (hF.ev 1 rfl) (hF.ev 0 rfl) (decide_eq_true (rfl))) rfl (gOn 2 rfl rfl rfl (by decide)) (kM [false, false, true, true, true] rfl rfl) (by decide) ?_
  refine pxV (v := (.bool true)) (fun _ _ hF => opPickT rfl (hF.ev 1 rfl) (hF.ev 0 rfl)) rfl (fun _ _ => rfl) (kM [false, false, true, true] rfl rfl) (by decide) ?_
  refine pxV (v := (.bool true)) (fun _ _ hF => opMove rfl (hF.ev 0 rfl)) rfl (fun _ _ => rfl) (kM [false, true, true] rfl rfl) (by decide) ?_
  refine pxV (v := (.int .i64 ((((der s p (m)).2.2) : Nat) : Int))) (fun _ _ hF => opMove rfl (hF.ev 2 rfl)) rfl (gOn 0 rfl rfl rfl (by decide)) (kM [true, true, false] rfl rfl) (by decide) ?_
  refine pxV (v := (.int .i64 ((((der s p (m)).2.2) : Nat) : Int))) (fun _ _ hF => opMove rfl (hF.ev 2 rfl)) rfl (gOn 1 rfl rfl rfl (by decide)) (kM [true, true, false] rfl rfl) (by decide) ?_
  refine pxV (v := (.bool true)) (fun _ _ hF => opEqI rfl (hF.ev 1 rfl) (hF.ev 0 rfl) (decide_eq_true (rfl))) rfl (gOn 2 rfl rfl rfl (by decide)) (kM [false, false, true] rfl rfl) (by decide) ?_
  refine pxV (v := (.bool true)) (fun _ _ hF => opPickT rfl (hF.ev 1 rfl) (hF.ev 0 rfl)) rfl (fun _ _ => rfl) (kM [false, false] rfl rfl) (by decide) ?_
  refine pxV (v := (.bool true)) (fun _ _ hF => opAssign rfl (hF.ev 0 rfl)) rfl (fun _ _ => rfl) (kM [false] rfl rfl) (by decide) ?_
  refine pxEnd ?_
  refine qxThen ?_
  refine cxRet ?_
  refine qxRet1 0 rfl rfl ?_
  exact ⟨rfl, HH.toBelow hH⟩

set_option maxHeartbeats 8000000 in
theorem counts_l (z : UInt8) : Pure Tryd.prog 5 #[(.int .u8 (((z.toNat) : Nat) : Int))] (fun w => w.heap[1]? = some (.cells ((cWs 64).enc K32) 46 (0, 0)) ∧ w.heap[0]? = some (.cells ((cWs 8).enc H32) 45 (0, 0))) (.bool true) := by
  refine pure_of (fn := Tryd.f5) Tryd.func5 rfl Tryd.ntmps5 (Nat.le_of_ble_eq_true rfl) rfl ?_
  intro w0 hH hR
  have hz := UInt8.toNat_lt z
  refine cxSeq ?_
  refine cxReg ?_
  refine pxV (v := (.bool false)) (fun _ _ hF => opAssign rfl rfl) rfl (fun _ _ => rfl) (kA rfl) (by decide) ?_
  refine pxEnd ?_
  refine qxThen ?_
  refine cxSeq ?_
  refine cxSeq ?_
  refine cxReg ?_
  refine pxM hH (fun _ hF => Does.small ((awake_c ).does) (fun w => opCall rfl Tryd.func6 rfl rfl Evs.nil w)) ⟨hH.oldBlk hR.1 (by simp), hH.oldBlk hR.2 (by simp)⟩ rfl (fun _ _ => rfl) (kM [false, true] rfl rfl) (by decide) ?_
  clear hH
  rintro _ _ w ⟨rfl, rfl⟩ hH
  replace hH : HH w0 [] [] w := hH.unpad
  refine pxV (v := (.bool false)) (fun _ _ hF => opNot rfl (hF.ev 0 rfl) rfl) rfl (fun _ _ => rfl) (kM [false, true] rfl rfl) (by decide) ?_
  refine pxEnd ?_
  refine qxThen ?_
  refine cxF 0 rfl rfl ?_
  refine cxSkip ?_
  refine qxThen ?_
  refine cxSeq ?_
  refine cxReg ?_
  refine pxV (v := (.int .u8 (((z.toNat) : Nat) : Int))) (fun _ _ hF => opMove rfl (hF.ev 1 rfl)) rfl (fun _ _ => rfl) (kM [false, true] rfl rfl) (by decide) ?_
  refine pxM hH (fun _ hF => Does.small ((count_c z.toNat (by first | omega | exact UInt8.toNat_lt _)).does) (fun w => opCall rfl Tryd.func9 rfl rfl (Evs.cons (v := (.int .u8 (((z.toNat) : Nat) : Int))) (hF.ev 0 rfl) Evs.nil) w)) trivial rfl (fun _ _ => rfl) (kM [false, true] rfl rfl) (by decide) ?_
  clear hH
  rintro _ _ w ⟨rfl, rfl⟩ hH
  replace hH : HH w0 [] [] w := hH.unpad
  refine pxV (v := (.int .i64 ((((cnt z.toNat)) : Nat) : Int))) (fun _ _ hF => opAssign rfl (hF.ev 0 rfl)) rfl (fun _ _ => rfl) (kM [false, true] rfl rfl) (by decide) ?_
  refine pxEnd ?_
  refine qxThen ?_
  refine cxSeq ?_
  refine cxReg ?_
  refine pxV (v := (.int .i64 ((((cnt z.toNat)) : Nat) : Int))) (fun _ _ hF => opMove rfl (hF.ev 0 rfl)) rfl (fun _ _ => rfl) (kA rfl) (by decide) ?_
  refine pxV (v := (.int .u8 (((z.toNat) : Nat) : Int))) (fun _ _ hF => opMove rfl (hF.ev 2 rfl)) rfl (fun _ _ => rfl) (kA rfl) (by decide) ?_
  refine pxM hH (fun _ hF => Does.small ((rcount_c z.toNat (by first | omega | exact UInt8.toNat_lt _)).does) (fun w => opCall rfl Tryd.func10 rfl rfl (Evs.cons (v := (.int .u8 (((z.toNat) : Nat) : Int))) (hF.ev 0 rfl) Evs.nil) w)) trivial rfl (fun _ _ => rfl) (kM [false, true, true, true] rfl rfl) (by decide) ?_
  clear hH
  rintro _ _ w ⟨rfl, rfl⟩ hH
  replace hH : HH w0 [] [] w := hH.unpad
  refine pxV (v := (.bool true)) (fun _ _ hF => opEqI rfl (hF.ev 1 rfl) (hF.ev 0 rfl) (decide_eq_true (rfl))) rfl (fun _ _ => rfl) (kM [false, false, true, true] rfl rfl) (by decide) ?_
  refine pxV (v := (.bool true)) (fun _ _ hF => opMove rfl (hF.ev 0 rfl)) rfl (fun _ _ => rfl) (kM [false, true, true] rfl rfl) (by decide) ?_
  refine pxV (v := (.int .u8 (((z.toNat) : Nat) : Int))) (fun _ _ hF => opMove rfl (hF.ev 2 rfl)) rfl (gOn 0 rfl rfl rfl (by decide)) (kA rfl) (by decide) ?_
  refine pxV (v := (.bool (decide (z.toNat = 255)))) (fun _ _ hF => opEqI rfl (hF.ev 0 rfl) rfl (dc (by omega))) rfl (gOn 1 rfl rfl rfl (by decide)) (kM [false, true, true, true] rfl rfl) (by decide) ?_
  refine pxV (v := (.bool (decide (z.toNat = 255)))) (fun _ _ hF => opMove rfl (hF.ev 0 rfl)) rfl (gOn 1 rfl rfl rfl (by decide)) (kM [false, true, true, true] rfl rfl) (by decide) ?_
  refine pxSplitP 0 rfl (l1 := [(15, (.bool true)), (12, (.bool true)), (3, (.int .i64 ((((cnt z.toNat)) : Nat) : Int))), (0, (.int .u8 (((z.toNat) : Nat) : Int)))]) (l2 := [(15, (.bool false)), (12, (.bool true)), (3, (.int .i64 ((((cnt z.toNat)) : Nat) : Int))), (0, (.int .u8 (((z.toNat) : Nat) : Int)))]) rfl rfl (fun hg1 => ?_) (fun hg1 => ?_)
  · refine pxU rfl (gOff 0 rfl rfl rfl (by decide)) (kM [true, true, true, false] rfl rfl) (by decide) ?_
    refine pxU rfl (gOff 0 rfl rfl rfl (by decide)) (kA rfl) (by decide) ?_
    refine pxU rfl (gOff 0 rfl rfl rfl (by decide)) (kA rfl) (by decide) ?_
    refine pxU rfl (gOff 0 rfl rfl rfl (by decide)) (kM [true, true, false] rfl rfl) (by decide) ?_
    refine pxU rfl (gOff 0 rfl rfl rfl (by decide)) (kA rfl) (by decide) ?_
    refine pxV (v := (.bool true)) (fun _ _ hF => opPickT rfl (hF.ev 0 rfl) rfl) rfl (gOn 1 rfl rfl rfl (by decide)) (kM [false, true] rfl rfl) (by decide) ?_
    refine pxV (v := (.bool true)) (fun _ _ hF => opPickT rfl (hF.ev 1 rfl) (hF.ev 0 rfl)) rfl (fun _ _ => rfl) (kM [false, false] rfl rfl) (by decide) ?_
    refine pxV (v := (.bool true)) (fun _ _ hF => opAssign rfl (hF.ev 0 rfl)) rfl (fun _ _ => rfl) (kM [false] rfl rfl) (by decide) ?_
    refine pxEnd ?_
    refine qxThen ?_
    refine cxRet ?_
    refine qxRet1 0 rfl rfl ?_
    exact ⟨rfl, HH.toBelow hH⟩
  · refine pxV (v := (.int .u8 (((z.toNat) : Nat) : Int))) (fun _ _ hF => opMove rfl (hF.ev 3 rfl)) rfl (gOn 0 rfl rfl rfl (by decide)) (kM [true, true, true, false] rfl rfl) (by decide) ?_
    refine pxV (v := (.int .u8 (((z.toNat + 1) : Nat) : Int))) (fun _ _ hF => opAddU (m := z.toNat) (j := 1) (z := (z.toNat + 1)) rfl rfl (hF.ev 0 rfl) rfl (Nat.mod_eq_of_lt (by show _ < 256; omega))) rfl (gOn 1 rfl rfl rfl (by decide)) (kM [false, true, true, true] rfl rfl) (by decide) ?_
    refine pxM hH (fun _ hF => Does.small ((count_c (z.toNat + 1) (by first | omega | exact UInt8.toNat_lt _)).does) (fun w => opCall rfl Tryd.func9 rfl rfl (Evs.cons (v := (.int .u8 (((z.toNat + 1) : Nat) : Int))) (hF.ev 0 rfl) Evs.nil) w)) trivial rfl (gOn 1 rfl rfl rfl (by decide)) (kM [false, true, true, true] rfl rfl) (by decide) ?_
    clear hH
    rintro _ _ w ⟨rfl, rfl⟩ hH
    replace hH : HH w0 [] [] w := hH.unpad
    refine pxV (v := (.int .i64 ((((cnt z.toNat)) : Nat) : Int))) (fun _ _ hF => opMove rfl (hF.ev 3 rfl)) rfl (gOn 1 rfl rfl rfl (by decide)) (kM [true, true, true, false] rfl rfl) (by decide) ?_
    refine pxV (v := (.bool true)) (fun _ _ hF => opGtr rfl (hF.ev 1 rfl) (hF.ev 0 rfl) (decide_eq_true (by have := cnt_rise z.toNat; omega))) rfl (gOn 2 rfl rfl rfl (by decide)) (kM [false, false, true, true] rfl rfl) (by decide) ?_
    refine pxV (v := (.bool true)) (fun _ _ hF => opPickF rfl (hF.ev 1 rfl) (hF.ev 0 rfl)) rfl (gOn 2 rfl rfl rfl (by decide)) (kM [false, false, true] rfl rfl) (by decide) ?_
    refine pxV (v := (.bool true)) (fun _ _ hF => opPickT rfl (hF.ev 1 rfl) (hF.ev 0 rfl)) rfl (fun _ _ => rfl) (kM [false, false] rfl rfl) (by decide) ?_
    refine pxV (v := (.bool true)) (fun _ _ hF => opAssign rfl (hF.ev 0 rfl)) rfl (fun _ _ => rfl) (kM [false] rfl rfl) (by decide) ?_
    refine pxEnd ?_
    refine qxThen ?_
    refine cxRet ?_
    refine qxRet1 0 rfl rfl ?_
    exact ⟨rfl, HH.toBelow hH⟩

set_option maxHeartbeats 8000000 in
theorem salted_l (f : Nat → UInt8) (z : UInt8) (p b : List UInt8) (Ap : Option Addr) (cp : Nat) (Ab : Option Addr) (cb : Nat) (n o : UInt8) (hbb : b.length ≤ 140737488351232) : Pure Tryd.prog 4 #[((cArr 8).val f), (.int .u8 (((z.toNat) : Nat) : Int)), (.slice Ap p.length cp), (.slice Ab b.length cb), (.int .u8 (((n.toNat) : Nat) : Int)), (.int .u8 (((o.toNat) : Nat) : Int))] (fun w => w.heap[1]? = some (.cells ((cWs 64).enc K32) 46 (0, 0)) ∧ w.heap[0]? = some (.cells ((cWs 8).enc H32) 45 (0, 0)) ∧ Vu cByte w Ap p.length cp p ∧ Vu cByte w Ab b.length cb b) (.bool true) := by
  refine pure_of (fn := Tryd.f4) Tryd.func4 rfl Tryd.ntmps4 (Nat.le_of_ble_eq_true rfl) rfl ?_
  intro w0 hH hR
  have hlp := hR.2.2.1.len; have hlb := hR.2.2.2.len; have hn := UInt8.toNat_lt n; have ho := UInt8.toNat_lt o
  have hls : ([3, 8] ++ lst 8 f ++ [z]).length = 11 := by rw [List.length_append, List.length_append, lst_len]; rfl
  refine cxSeq ?_
  refine cxReg ?_
  refine pxM hH (fun _ hF => smBox rfl (hF.ev 0 rfl) rfl) trivial rfl (fun _ _ => rfl) (kM [false, true, true, true, true, true] rfl rfl) (by decide) ?_
  clear hH
  rintro _ _ w ⟨g1, rfl, rfl⟩ hH
  replace hH : HH w0 [] [[bl g1 28 ((cArr 8).enc f)]] w := hH
  refine pxV (v := (.bool false)) (fun _ _ hF => opAssign rfl rfl) rfl (fun _ _ => rfl) (kA rfl) (by decide) ?_
  refine pxEnd ?_
  refine qxThen ?_
  refine cxSeq ?_
  refine cxSeq ?_
  refine cxReg ?_
  refine pxM hH (fun _ hF => Does.small ((awake_c ).does) (fun w => opCall rfl Tryd.func6 rfl rfl Evs.nil w)) ⟨hH.oldBlk hR.1 (by simp), hH.oldBlk hR.2.1 (by simp)⟩ rfl (fun _ _ => rfl) (kM [false, true, true, true, true, true, true] rfl rfl) (by decide) ?_
  clear hH
  rintro _ _ w ⟨rfl, rfl⟩ hH
  replace hH : HH w0 [] [[bl g1 28 ((cArr 8).enc f)]] w := hH.unpad
  refine pxV (v := (.bool false)) (fun _ _ hF => opNot rfl (hF.ev 0 rfl) rfl) rfl (fun _ _ => rfl) (kM [false, true, true, true, true, true, true] rfl rfl) (by decide) ?_
  refine pxV (v := (.bool false)) (fun _ _ hF => opMove rfl (hF.ev 0 rfl)) rfl (fun _ _ => rfl) (kM [false, true, true, true, true, true, true] rfl rfl) (by decide) ?_
  refine pxV (v := (.slice Ap p.length cp)) (fun _ _ hF => opMove rfl (hF.ev 3 rfl)) rfl (gOn 0 rfl rfl rfl (by decide)) (kA rfl) (by decide) ?_
  refine pxV (v := (.int .i64 (((p.length) : Nat) : Int))) (fun _ _ hF => opLen (e := 5) rfl (by kernel_rfl) (hF.ev 0 rfl)) rfl (gOn 1 rfl rfl rfl (by decide)) (kM [false, true, true, true, true, true, true, true] rfl rfl) (by decide) ?_
  refine pxV (v := (.bool (decide (p.length > 1000)))) (fun _ _ hF => opGtr rfl (hF.ev 0 rfl) rfl (dc (by omega))) rfl (gOn 1 rfl rfl rfl (by decide)) (kM [false, true, true, true, true, true, true, true] rfl rfl) (by decide) ?_
  refine pxV (v := (.bool (decide (p.length > 1000)))) (fun _ _ hF => opPickF rfl (hF.ev 1 rfl) (hF.ev 0 rfl)) rfl (fun _ _ => rfl) (kM [false, false, true, true, true, true, true, true] rfl rfl) (by decide) ?_
  refine pxEnd ?_
  refine qxThen ?_
  refine cxP 0 rfl rfl (fun hc2 => ?_) (fun hc2 => ?_)
  · refine cxSeq ?_
    refine cxReg ?_
    refine pxM hH (fun _ hF => Does.small ((awake_c ).does) (fun w => opCall rfl Tryd.func6 rfl rfl Evs.nil w)) ⟨hH.oldBlk hR.1 (by simp), hH.oldBlk hR.2.1 (by simp)⟩ rfl (fun _ _ => rfl) (kM [false, false, false, false, false, false, false] rfl rfl) (by decide) ?_
    clear hH
    rintro _ _ w ⟨rfl, rfl⟩ hH
    replace hH : HH w0 [] [[bl g1 28 ((cArr 8).enc f)]] w := hH.unpad
    refine pxV (v := (.bool true)) (fun _ _ hF => opAssign rfl (hF.ev 0 rfl)) rfl (fun _ _ => rfl) (kM [false] rfl rfl) (by decide) ?_
    refine pxEnd ?_
    refine qxThen ?_
    refine cxRet ?_
    refine qxThenR ?_
    refine qxRet1 0 rfl rfl ?_
    exact ⟨rfl, HH.toBelow hH⟩
  · refine cxSkip ?_
    refine qxThen ?_
    refine cxSeq ?_
    refine cxReg ?_
    refine pxM hH (fun _ hF => smLits (C := cByte) (e := 5) (z := (.int .u8 0)) (by_ := 1) [3, 8] rfl (by kernel_rfl) (by kernel_rfl) (EvP.cons (v := cByte.val 3) rfl (EvP.cons (v := cByte.val 8) rfl EvP.nil)) rfl (ltb rfl) (leb rfl) rfl) trivial rfl (fun _ _ => rfl) (kM [false, true, true, true, true, true, true] rfl rfl) (by decide) ?_
    clear hH
    rintro _ _ w ⟨g3, rfl, rfl⟩ hH
    replace hH : HH w0 [] [[bl g1 28 ((cArr 8).enc f)], [bl g3 5 (flat cByte [3, 8]).toArray]] w := hH
    refine pxV (v := (.slice (some ⟨g1, 0, none⟩) 8 8)) (fun _ _ hF => opSliceA (n := 8) (e := 5) (sz := 1) rfl (by kernel_rfl) (by kernel_rfl) (hF.ev 1 rfl)) rfl (fun _ _ => rfl) (kM [true, false, true, true, true, true, true] rfl rfl) (by decide) ?_
    refine pxE 1 hH rfl (fun _ hF => smAppT (C := cByte) (l := [3, 8]) (m := (lst 8 f)) (e := 5) (z := (.int .u8 0)) (by_ := 1) rfl (by kernel_rfl) (by kernel_rfl) rfl (ltb rfl) (hF.ev 1 rfl) ((Bk.lits (C := cByte) [3, 8] (by show 2 ≤ _; unfold maxLen; decide)).own 5 g3 rfl) (hF.ev 0 rfl) (lst_len _ _) (fun h => by cases h) (by unfold maxLen; decide) (by decide)) (vu_arr (hH.blk 0 rfl)) rfl (fun _ _ => rfl) (kM [false, false, true, true, true, true, true] rfl rfl) (by decide) ?_
    clear hH
    rintro v6 E7 w ⟨hO8, _⟩ hH
    replace hH : HH w0 [] [[bl g1 28 ((cArr 8).enc f)], E7] w := hH
    replace hO8 : OwnT cByte 5 v6 ([3, 8] ++ (lst 8 f)) E7 := hO8
    obtain ⟨A4, c5, rfl⟩ := hO8.slice
    refine pxV (v := (.int .u8 (((z.toNat) : Nat) : Int))) (fun _ _ hF => opMove rfl (hF.ev 1 rfl)) rfl (fun _ _ => rfl) (kM [true, false, true, true, true, true] rfl rfl) (by decide) ?_
    refine pxM hH (fun _ hF => smLit1 (e := 5) (sz := 1) (z := (.int .u8 0)) (by_ := 1) (cs := cByte.enc z) rfl (by kernel_rfl) (by kernel_rfl) (hF.ev 0 rfl) (cByte.len z) (ltb rfl) (leb rfl) rfl) trivial rfl (fun _ _ => rfl) (kM [false, true, true, true, true, true] rfl rfl) (by decide) ?_
    clear hH
    rintro _ _ w ⟨g9, rfl, rfl⟩ hH
    replace hH : HH w0 [] [[bl g1 28 ((cArr 8).enc f)], E7, [bl g9 5 (cByte.enc z)]] w := hH
    refine pxE 1 hH rfl (fun _ hF => smAppT (C := cByte) (l := ([3, 8] ++ (lst 8 f))) (m := [z]) (e := 5) (z := (.int .u8 0)) (by_ := 1) rfl (by kernel_rfl) (by kernel_rfl) rfl (ltb rfl) (hF.ev 1 rfl) hO8 (hF.ev 0 rfl) rfl (fun h => by cases h) (by rw [List.length_append, lst_len]; unfold maxLen; decide) (by rw [List.length_append, lst_len]; decide)) ((Bk.lit1 (C := cByte) z).vu (n := 1) (hH.blk 2 rfl) rfl) rfl (fun _ _ => rfl) (kM [false, false, true, true, true, true] rfl rfl) (by decide) ?_
    clear hH
    rintro v12 E13 w ⟨hO14, _⟩ hH
    replace hH : HH w0 [] [[bl g1 28 ((cArr 8).enc f)], E13, [bl g9 5 (cByte.enc z)]] w := hH
    replace hO14 : OwnT cByte 5 v12 (([3, 8] ++ (lst 8 f)) ++ [z]) E13 := hO14
    obtain ⟨A10, c11, rfl⟩ := hO14.slice
    refine pxV (v := (.slice A10 ((([3, 8] ++ (lst 8 f)) ++ [z]).length) c11)) (fun _ _ hF => opAssign rfl (hF.ev 0 rfl)) rfl (fun _ _ => rfl) (kM [false, true, true, true, true] rfl rfl) (by decide) ?_
    refine pxEnd ?_
    refine qxThen ?_
    refine cxSeq ?_
    refine cxReg ?_
    refine pxV (v := (.int .u8 (((n.toNat) : Nat) : Int))) (fun _ _ hF => opMove rfl (hF.ev 3 rfl)) rfl (fun _ _ => rfl) (kM [true, true, true, false, true] rfl rfl) (by decide) ?_
    refine pxV (v := (.int .u8 (((n.toNat % 64) : Nat) : Int))) (fun _ _ hF => opRem (z := ((n.toNat % 64 : Nat) : Int)) rfl (hF.ev 0 rfl) rfl (by omega) remN) rfl (fun _ _ => rfl) (kM [false, true, true, true, true] rfl rfl) (by decide) ?_
    refine pxV (v := (.int .i64 (((n.toNat % 64) : Nat) : Int))) (fun _ _ hF => opConvI (k' := .i64) rfl (by kernel_rfl) (by kernel_rfl) (hF.ev 0 rfl) (wI rfl (by omega) (by omega))) rfl (fun _ _ => rfl) (kM [false, true, true, true, true] rfl rfl) (by decide) ?_
    refine pxV (v := (.int .i64 (((1 + n.toNat % 64) : Nat) : Int))) (fun _ _ hF => opAdd rfl rfl (hF.ev 0 rfl) (wI (by omega) (by omega) (by omega))) rfl (fun _ _ => rfl) (kM [false, true, true, true, true] rfl rfl) (by decide) ?_
    refine pxV (v := (.int .u8 (((o.toNat) : Nat) : Int))) (fun _ _ hF => opMove rfl (hF.ev 4 rfl)) rfl (fun _ _ => rfl) (kM [true, true, true, true, false] rfl rfl) (by decide) ?_
    refine pxV (v := (.int .u8 (((o.toNat % 64) : Nat) : Int))) (fun _ _ hF => opRem (z := ((o.toNat % 64 : Nat) : Int)) rfl (hF.ev 0 rfl) rfl (by omega) remN) rfl (fun _ _ => rfl) (kM [false, true, true, true, true] rfl rfl) (by decide) ?_
    refine pxV (v := (.int .i64 (((o.toNat % 64) : Nat) : Int))) (fun _ _ hF => opConvI (k' := .i64) rfl (by kernel_rfl) (by kernel_rfl) (hF.ev 0 rfl) (wI rfl (by omega) (by omega))) rfl (fun _ _ => rfl) (kM [false, true, true, true, true] rfl rfl) (by decide) ?_
    refine pxV (v := (.int .i64 (((1 + o.toNat % 64) : Nat) : Int))) (fun _ _ hF => opAdd rfl rfl (hF.ev 0 rfl) (wI (by omega) (by omega) (by omega))) rfl (fun _ _ => rfl) (kM [false, true, true, true, true] rfl rfl) (by decide) ?_
    refine pxV (v := (.int .i64 (((1 + n.toNat % 64) : Nat) : Int))) (fun _ _ hF => opAssign rfl (hF.ev 1 rfl)) rfl (fun _ _ => rfl) (kM [true, false, true, true, true] rfl rfl) (by decide) ?_
    refine pxV (v := (.int .i64 (((1 + o.toNat % 64) : Nat) : Int))) (fun _ _ hF => opAssign rfl (hF.ev 1 rfl)) rfl (fun _ _ => rfl) (kM [true, false, true, true, true] rfl rfl) (by decide) ?_
    refine pxEnd ?_
    refine qxThen ?_
    refine cxSeq ?_
    refine cxReg ?_
    refine pxV (v := (.slice A10 ((([3, 8] ++ (lst 8 f)) ++ [z]).length) c11)) (fun _ _ hF => opMove rfl (hF.ev 2 rfl)) rfl (fun _ _ => rfl) (kA rfl) (by decide) ?_
    refine pxV (v := (.slice Ap p.length cp)) (fun _ _ hF => opMove rfl (hF.ev 4 rfl)) rfl (fun _ _ => rfl) (kA rfl) (by decide) ?_
    refine pxV (v := (.int .i64 (((1 + n.toNat % 64) : Nat) : Int))) (fun _ _ hF => opMove rfl (hF.ev 3 rfl)) rfl (fun _ _ => rfl) (kA rfl) (by decide) ?_
    refine pxM hH (fun _ hF => Does.small (derive_c A10 Ap ((([3, 8] ++ (lst 8 f)) ++ [z]).length) c11 p.length cp (([3, 8] ++ (lst 8 f)) ++ [z]) p (((1 + n.toNat % 64) : Nat) : Int)) (fun w => opCall rfl Tryd.func7 rfl rfl (Evs.cons (v := (.slice A10 ((([3, 8] ++ (lst 8 f)) ++ [z]).length) c11)) (hF.ev 2 rfl) (Evs.cons (v := (.slice Ap p.length cp)) (hF.ev 1 rfl) (Evs.cons (v := (.int .i64 (((1 + n.toNat % 64) : Nat) : Int))) (hF.ev 0 rfl) Evs.nil))) w)) ⟨hH.oldBlk hR.1 (by simp), hH.oldBlk hR.2.1 (by simp), (hO14.vuAt (hH.has 1 rfl)), (hH.vu hR.2.2.1 (by decide) (Off.nil _ _))⟩ rfl (fun _ _ => rfl) (kM [false, false, false, true, true, true, true, true] rfl rfl) (by decide) ?_
    clear hH
    rintro _ E15 w ⟨q19, rfl, hO16⟩ hH
    replace hH : HH w0 [] [[bl g1 28 ((cArr 8).enc f)], E13, [bl g9 5 (cByte.enc z)], E15] w := hH
    obtain ⟨A17, c18, rfl⟩ := hO16.slice
    refine pxV (v := (.tuple #[(.slice A17 ((der (([3, 8] ++ (lst 8 f)) ++ [z]) p (((1 + n.toNat % 64) : Nat) : Int)).1.length) c18), (.int .i64 ((((der (([3, 8] ++ (lst 8 f)) ++ [z]) p (((1 + n.toNat % 64) : Nat) : Int)).2.1) : Nat) : Int)), (.int .i64 ((((der (([3, 8] ++ (lst 8 f)) ++ [z]) p (((1 + n.toNat % 64) : Nat) : Int)).2.2) : Nat) : Int))])) (fun _ _ hF => opMove rfl (hF.ev 0 rfl)) rfl (fun _ _ => rfl) (kM [false, true, true, true, true, true] rfl rfl) (by decide) ?_
    refine pxV (v := (.slice A17 ((der (([3, 8] ++ (lst 8 f)) ++ [z]) p (((1 + n.toNat % 64) : Nat) : Int)).1.length) c18)) (fun _ _ hF => opExtract rfl (hF.ev 0 rfl) rfl) rfl (fun _ _ => rfl) (kA rfl) (by decide) ?_
    refine pxV (v := (.int .i64 ((((der (([3, 8] ++ (lst 8 f)) ++ [z]) p (((1 + n.toNat % 64) : Nat) : Int)).2.1) : Nat) : Int))) (fun _ _ hF => opExtract rfl (hF.ev 1 rfl) rfl) rfl (fun _ _ => rfl) (kA rfl) (by decide) ?_
    refine pxV (v := (.int .i64 ((((der (([3, 8] ++ (lst 8 f)) ++ [z]) p (((1 + n.toNat % 64) : Nat) : Int)).2.2) : Nat) : Int))) (fun _ _ hF => opExtract rfl (hF.ev 2 rfl) rfl) rfl (fun _ _ => rfl) (kM [true, true, false, true, true, true, true, true] rfl rfl) (by decide) ?_
    refine pxV (v := (.slice A17 ((der (([3, 8] ++ (lst 8 f)) ++ [z]) p (((1 + n.toNat % 64) : Nat) : Int)).1.length) c18)) (fun _ _ hF => opAssign rfl (hF.ev 2 rfl)) rfl (fun _ _ => rfl) (kM [true, true, false, true, true, true, true, true] rfl rfl) (by decide) ?_
    refine pxV (v := (.int .i64 ((((der (([3, 8] ++ (lst 8 f)) ++ [z]) p (((1 + n.toNat % 64) : Nat) : Int)).2.1) : Nat) : Int))) (fun _ _ hF => opAssign rfl (hF.ev 2 rfl)) rfl (fun _ _ => rfl) (kM [true, true, false, true, true, true, true, true] rfl rfl) (by decide) ?_
    refine pxV (v := (.int .i64 ((((der (([3, 8] ++ (lst 8 f)) ++ [z]) p (((1 + n.toNat % 64) : Nat) : Int)).2.2) : Nat) : Int))) (fun _ _ hF => opAssign rfl (hF.ev 2 rfl)) rfl (fun _ _ => rfl) (kM [false, true, false, true, true, true, true, true] rfl rfl) (by decide) ?_
    refine pxEnd ?_
    refine qxThen ?_
    refine cxSeq ?_
    refine cxReg ?_
    refine pxM hH (fun _ hF => smLit0 (e := 5) rfl (by kernel_rfl) (by kernel_rfl)) trivial rfl (fun _ _ => rfl) (kA rfl) (by decide) ?_
    clear hH
    rintro _ _ w ⟨g21, rfl, rfl⟩ hH
    replace hH : HH w0 [] [[bl g1 28 ((cArr 8).enc f)], E13, [bl g9 5 (cByte.enc z)], E15, [bl g21 5 #[]]] w := hH
    refine pxV (v := (.slice A10 ((([3, 8] ++ (lst 8 f)) ++ [z]).length) c11)) (fun _ _ hF => opMove rfl (hF.ev 5 rfl)) rfl (fun _ _ => rfl) (kA rfl) (by decide) ?_
    refine pxE 4 hH rfl (fun _ hF => smAppT (C := cByte) (l := []) (m := (([3, 8] ++ (lst 8 f)) ++ [z])) (e := 5) (z := (.int .u8 0)) (by_ := 1) rfl (by kernel_rfl) (by kernel_rfl) rfl (ltb rfl) (hF.ev 1 rfl) ((Bk.lit0 (C := cByte)).own 5 g21 rfl) (hF.ev 0 rfl) rfl hO14.nilA (by rw [List.length_nil, hls]; unfold maxLen; decide) (by rw [List.length_nil, hls]; decide)) (hO14.vuAt (hH.has 1 rfl)) rfl (fun _ _ => rfl) (kM [false, false, true, true, true, true, true, true, true] rfl rfl) (by decide) ?_
    clear hH
    rintro v24 E25 w ⟨hO26, _⟩ hH
    replace hH : HH w0 [] [[bl g1 28 ((cArr 8).enc f)], E13, [bl g9 5 (cByte.enc z)], E15, E25] w := hH
    replace hO26 : OwnT cByte 5 v24 (([3, 8] ++ (lst 8 f)) ++ [z]) E25 := hO26
    obtain ⟨A22, c23, rfl⟩ := hO26.slice
    refine pxV (v := (.slice Ab b.length cb)) (fun _ _ hF => opMove rfl (hF.ev 7 rfl)) rfl (fun _ _ => rfl) (kM [true, true, true, true, true, true, true, false] rfl rfl) (by decide) ?_
    refine pxE 4 hH rfl (fun _ hF => smAppT (C := cByte) (l := (([3, 8] ++ (lst 8 f)) ++ [z])) (m := b) (e := 5) (z := (.int .u8 0)) (by_ := 1) rfl (by kernel_rfl) (by kernel_rfl) rfl (ltb rfl) (hF.ev 1 rfl) hO26 (hF.ev 0 rfl) rfl (fun h => ⟨by have := hR.2.2.2.nil h; have := hR.2.2.2.cap; omega, hR.2.2.2.nil h⟩) (by rw [hls]; unfold maxLen; omega) (by rw [hls]; omega)) (hH.vu hR.2.2.2 (by decide) (Off.nil _ _)) rfl (fun _ _ => rfl) (kM [false, false, true, true, true, true, true, true] rfl rfl) (by decide) ?_
    clear hH
    rintro v29 E30 w ⟨hO31, _⟩ hH
    replace hH : HH w0 [] [[bl g1 28 ((cArr 8).enc f)], E13, [bl g9 5 (cByte.enc z)], E15, E30] w := hH
    replace hO31 : OwnT cByte 5 v29 ((([3, 8] ++ (lst 8 f)) ++ [z]) ++ b) E30 := hO31
    obtain ⟨A27, c28, rfl⟩ := hO31.slice
    refine pxV (v := (.slice Ap p.length cp)) (fun _ _ hF => opMove rfl (hF.ev 6 rfl)) rfl (fun _ _ => rfl) (kA rfl) (by decide) ?_
    refine pxV (v := (.int .i64 (((1 + o.toNat % 64) : Nat) : Int))) (fun _ _ hF => opMove rfl (hF.ev 4 rfl)) rfl (fun _ _ => rfl) (kA rfl) (by decide) ?_
    refine pxM hH (fun _ hF => Does.small (derive_c A27 Ap (((([3, 8] ++ (lst 8 f)) ++ [z]) ++ b).length) c28 p.length cp ((([3, 8] ++ (lst 8 f)) ++ [z]) ++ b) p (((1 + o.toNat % 64) : Nat) : Int)) (fun w => opCall rfl Tryd.func7 rfl rfl (Evs.cons (v := (.slice A27 (((([3, 8] ++ (lst 8 f)) ++ [z]) ++ b).length) c28)) (hF.ev 2 rfl) (Evs.cons (v := (.slice Ap p.length cp)) (hF.ev 1 rfl) (Evs.cons (v := (.int .i64 (((1 + o.toNat % 64) : Nat) : Int))) (hF.ev 0 rfl) Evs.nil))) w)) ⟨hH.oldBlk hR.1 (by simp), hH.oldBlk hR.2.1 (by simp), (hO31.vuAt (hH.has 4 rfl)), (hH.vu hR.2.2.1 (by decide) (Off.nil _ _))⟩ rfl (fun _ _ => rfl) (kM [false, false, false, true, true, true, true, true, true] rfl rfl) (by decide) ?_
    clear hH
    rintro _ E32 w ⟨q36, rfl, hO33⟩ hH
    replace hH : HH w0 [] [[bl g1 28 ((cArr 8).enc f)], E13, [bl g9 5 (cByte.enc z)], E15, E30, E32] w := hH
    obtain ⟨A34, c35, rfl⟩ := hO33.slice
    refine pxV (v := (.tuple #[(.slice A34 ((der ((([3, 8] ++ (lst 8 f)) ++ [z]) ++ b) p (((1 + o.toNat % 64) : Nat) : Int)).1.length) c35), (.int .i64 ((((der ((([3, 8] ++ (lst 8 f)) ++ [z]) ++ b) p (((1 + o.toNat % 64) : Nat) : Int)).2.1) : Nat) : Int)), (.int .i64 ((((der ((([3, 8] ++ (lst 8 f)) ++ [z]) ++ b) p (((1 + o.toNat % 64) : Nat) : Int)).2.2) : Nat) : Int))])) (fun _ _ hF => opMove rfl (hF.ev 0 rfl)) rfl (fun _ _ => rfl) (kM [false, true, true, true, true, true, true] rfl rfl) (by decide) ?_
    refine pxV (v := (.slice A34 ((der ((([3, 8] ++ (lst 8 f)) ++ [z]) ++ b) p (((1 + o.toNat % 64) : Nat) : Int)).1.length) c35)) (fun _ _ hF => opExtract rfl (hF.ev 0 rfl) rfl) rfl (fun _ _ => rfl) (kA rfl) (by decide) ?_
    refine pxV (v := (.int .i64 ((((der ((([3, 8] ++ (lst 8 f)) ++ [z]) ++ b) p (((1 + o.toNat % 64) : Nat) : Int)).2.1) : Nat) : Int))) (fun _ _ hF => opExtract rfl (hF.ev 1 rfl) rfl) rfl (fun _ _ => rfl) (kA rfl) (by decide) ?_
    refine pxV (v := (.int .i64 ((((der ((([3, 8] ++ (lst 8 f)) ++ [z]) ++ b) p (((1 + o.toNat % 64) : Nat) : Int)).2.2) : Nat) : Int))) (fun _ _ hF => opExtract rfl (hF.ev 2 rfl) rfl) rfl (fun _ _ => rfl) (kM [true, true, false, true, true, true, true, true, true] rfl rfl) (by decide) ?_
    refine pxV (v := (.slice A34 ((der ((([3, 8] ++ (lst 8 f)) ++ [z]) ++ b) p (((1 + o.toNat % 64) : Nat) : Int)).1.length) c35)) (fun _ _ hF => opAssign rfl (hF.ev 2 rfl)) rfl (fun _ _ => rfl) (kM [true, true, false, true, true, true, true, true, true] rfl rfl) (by decide) ?_
    refine pxV (v := (.int .i64 ((((der ((([3, 8] ++ (lst 8 f)) ++ [z]) ++ b) p (((1 + o.toNat % 64) : Nat) : Int)).2.1) : Nat) : Int))) (fun _ _ hF => opAssign rfl (hF.ev 2 rfl)) rfl (fun _ _ => rfl) (kM [true, true, false, true, true, true, true, true, true] rfl rfl) (by decide) ?_
    refine pxV (v := (.int .i64 ((((der ((([3, 8] ++ (lst 8 f)) ++ [z]) ++ b) p (((1 + o.toNat % 64) : Nat) : Int)).2.2) : Nat) : Int))) (fun _ _ hF => opAssign rfl (hF.ev 2 rfl)) rfl (fun _ _ => rfl) (kM [false, true, false, true, true, true, true, true, true] rfl rfl) (by decide) ?_
    refine pxEnd ?_
    refine qxThen ?_
    refine cxSeq ?_
    refine cxReg ?_
    refine pxV (v := (.slice A10 ((([3, 8] ++ (lst 8 f)) ++ [z]).length) c11)) (fun _ _ hF => opMove rfl (hF.ev 6 rfl)) rfl (fun _ _ => rfl) (kM [true, true, true, true, true, true, false, true] rfl rfl) (by decide) ?_
    refine pxV (v := (.slice Ap p.length cp)) (fun _ _ hF => opMove rfl (hF.ev 7 rfl)) rfl (fun _ _ => rfl) (kM [true, true, true, true, true, true, true, false] rfl rfl) (by decide) ?_
    refine pxV (v := (.int .i64 (((1 + n.toNat % 64) : Nat) : Int))) (fun _ _ hF => opMove rfl (hF.ev 7 rfl)) rfl (fun _ _ => rfl) (kA rfl) (by decide) ?_
    refine pxM hH (fun _ hF => Does.small (rderive_c A10 Ap ((([3, 8] ++ (lst 8 f)) ++ [z]).length) c11 p.length cp (([3, 8] ++ (lst 8 f)) ++ [z]) p (((1 + n.toNat % 64) : Nat) : Int)) (fun w => opCall rfl Tryd.func8 rfl rfl (Evs.cons (v := (.slice A10 ((([3, 8] ++ (lst 8 f)) ++ [z]).length) c11)) (hF.ev 2 rfl) (Evs.cons (v := (.slice Ap p.length cp)) (hF.ev 1 rfl) (Evs.cons (v := (.int .i64 (((1 + n.toNat % 64) : Nat) : Int))) (hF.ev 0 rfl) Evs.nil))) w)) ⟨(hO14.vuAt (hH.has 1 rfl)), (hH.vu hR.2.2.1 (by decide) (Off.nil _ _))⟩ rfl (fun _ _ => rfl) (kM [false, false, false, true, true, true, true, true, true] rfl rfl) (by decide) ?_
    clear hH
    rintro _ E38 w ⟨q42, rfl, hO39⟩ hH
    replace hH : HH w0 [] [[bl g1 28 ((cArr 8).enc f)], E13, [bl g9 5 (cByte.enc z)], E15, E30, E32, E38] w := hH
    obtain ⟨A40, c41, rfl⟩ := hO39.slice
    refine pxV (v := (.tuple #[(.slice A40 ((der (([3, 8] ++ (lst 8 f)) ++ [z]) p (((1 + n.toNat % 64) : Nat) : Int)).1.length) c41), (.int .i64 ((((der (([3, 8] ++ (lst 8 f)) ++ [z]) p (((1 + n.toNat % 64) : Nat) : Int)).2.1) : Nat) : Int)), (.int .i64 ((((der (([3, 8] ++ (lst 8 f)) ++ [z]) p (((1 + n.toNat % 64) : Nat) : Int)).2.2) : Nat) : Int))])) (fun _ _ hF => opMove rfl (hF.ev 0 rfl)) rfl (fun _ _ => rfl) (kM [false, true, true, true, true, true, true] rfl rfl) (by decide) ?_
    refine pxV (v := (.slice A40 ((der (([3, 8] ++ (lst 8 f)) ++ [z]) p (((1 + n.toNat % 64) : Nat) : Int)).1.length) c41)) (fun _ _ hF => opExtract rfl (hF.ev 0 rfl) rfl) rfl (fun _ _ => rfl) (kA rfl) (by decide) ?_
    refine pxV (v := (.int .i64 ((((der (([3, 8] ++ (lst 8 f)) ++ [z]) p (((1 + n.toNat % 64) : Nat) : Int)).2.1) : Nat) : Int))) (fun _ _ hF => opExtract rfl (hF.ev 1 rfl) rfl) rfl (fun _ _ => rfl) (kA rfl) (by decide) ?_
    refine pxV (v := (.int .i64 ((((der (([3, 8] ++ (lst 8 f)) ++ [z]) p (((1 + n.toNat % 64) : Nat) : Int)).2.2) : Nat) : Int))) (fun _ _ hF => opExtract rfl (hF.ev 2 rfl) rfl) rfl (fun _ _ => rfl) (kM [true, true, false, true, true, true, true, true, true] rfl rfl) (by decide) ?_
    refine pxV (v := (.slice A40 ((der (([3, 8] ++ (lst 8 f)) ++ [z]) p (((1 + n.toNat % 64) : Nat) : Int)).1.length) c41)) (fun _ _ hF => opAssign rfl (hF.ev 2 rfl)) rfl (fun _ _ => rfl) (kM [true, true, false, true, true, true, true, true, true] rfl rfl) (by decide) ?_
    refine pxV (v := (.int .i64 ((((der (([3, 8] ++ (lst 8 f)) ++ [z]) p (((1 + n.toNat % 64) : Nat) : Int)).2.1) : Nat) : Int))) (fun _ _ hF => opAssign rfl (hF.ev 2 rfl)) rfl (fun _ _ => rfl) (kM [true, true, false, true, true, true, true, true, true] rfl rfl) (by decide) ?_
    refine pxV (v := (.int .i64 ((((der (([3, 8] ++ (lst 8 f)) ++ [z]) p (((1 + n.toNat % 64) : Nat) : Int)).2.2) : Nat) : Int))) (fun _ _ hF => opAssign rfl (hF.ev 2 rfl)) rfl (fun _ _ => rfl) (kM [false, true, false, true, true, true, true, true, true] rfl rfl) (by decide) ?_
    refine pxEnd ?_
    refine qxThen ?_
    refine cxSeq ?_
    refine cxSeq ?_
    have hdf : (der (([3, 8] ++ lst 8 f ++ [z]) ++ b) p ((1 + o.toNat % 64 : Nat) : Int)) = der ([3, 8] ++ lst 8 f ++ [z]) p ((1 + o.toNat % 64 : Nat) : Int) := der_front hls
    have hde : (der (([3, 8] ++ lst 8 f ++ [z]) ++ b) p ((1 + o.toNat % 64 : Nat) : Int)).2.2 = (der ([3, 8] ++ lst 8 f ++ [z]) p ((1 + n.toNat % 64 : Nat) : Int)).2.2 := by rw [hdf]; exact der_err (by omega) (by omega) (by omega) (by omega) (by omega)
    refine cxReg ?_
    refine pxV (v := (.int .i64 ((((der (([3, 8] ++ (lst 8 f)) ++ [z]) p (((1 + n.toNat % 64) : Nat) : Int)).2.2) : Nat) : Int))) (fun _ _ hF => opMove rfl (hF.ev 4 rfl)) rfl (fun _ _ => rfl) (kA rfl) (by decide) ?_
    refine pxV (v := (.int .i64 ((((der (([3, 8] ++ (lst 8 f)) ++ [z]) p (((1 + n.toNat % 64) : Nat) : Int)).2.2) : Nat) : Int))) (fun _ _ hF => opMove rfl (hF.ev 1 rfl)) rfl (fun _ _ => rfl) (kM [true, false, true, true, true, true, true, true, true] rfl rfl) (by decide) ?_
    refine pxV (v := (.bool false)) (fun _ _ hF => opNeI rfl (hF.ev 1 rfl) (hF.ev 0 rfl) (decide_eq_false (fun h => h rfl))) rfl (fun _ _ => rfl) (kM [false, false, true, true, true, true, true, true, true] rfl rfl) (by decide) ?_
    refine pxV (v := (.bool false)) (fun _ _ hF => opMove rfl (hF.ev 0 rfl)) rfl (fun _ _ => rfl) (kM [false, true, true, true, true, true, true, true] rfl rfl) (by decide) ?_
    refine pxV (v := (.int .i64 ((((der ((([3, 8] ++ (lst 8 f)) ++ [z]) ++ b) p (((1 + o.toNat % 64) : Nat) : Int)).2.2) : Nat) : Int))) (fun _ _ hF => opMove rfl (hF.ev 2 rfl)) rfl (gOn 0 rfl rfl rfl (by decide)) (kM [true, true, false, true, true, true, true, true] rfl rfl) (by decide) ?_
    refine pxV (v := (.int .i64 ((((der (([3, 8] ++ (lst 8 f)) ++ [z]) p (((1 + n.toNat % 64) : Nat) : Int)).2.2) : Nat) : Int))) (fun _ _ hF => opMove rfl (hF.ev 4 rfl)) rfl (gOn 1 rfl rfl rfl (by decide)) (kA rfl) (by decide) ?_
    refine pxV (v := (.bool false)) (fun _ _ hF => opNeI rfl (hF.ev 1 rfl) (hF.ev 0 rfl) (decide_eq_false (fun h => h (congrArg Nat.cast hde)))) rfl (gOn 2 rfl rfl rfl (by decide)) (kM [false, false, true, true, true, true, true, true, true] rfl rfl) (by decide) ?_
    refine pxV (v := (.bool false)) (fun _ _ hF => opPickF rfl (hF.ev 1 rfl) (hF.ev 0 rfl)) rfl (fun _ _ => rfl) (kM [false, false, true, true, true, true, true, true] rfl rfl) (by decide) ?_
    refine pxV (v := (.bool false)) (fun _ _ hF => opMove rfl (hF.ev 0 rfl)) rfl (fun _ _ => rfl) (kM [false, true, true, true, true, true, true] rfl rfl) (by decide) ?_
    refine pxV (v := (.slice A17 ((der (([3, 8] ++ (lst 8 f)) ++ [z]) p (((1 + n.toNat % 64) : Nat) : Int)).1.length) c18)) (fun _ _ hF => opMove rfl (hF.ev 4 rfl)) rfl (gOn 0 rfl rfl rfl (by decide)) (kA rfl) (by decide) ?_
    refine pxS (v := (.string (strL ((der (([3, 8] ++ (lst 8 f)) ++ [z]) p (((1 + n.toNat % 64) : Nat) : Int)).1)))) (fun w => Vu cByte w A17 ((der (([3, 8] ++ (lst 8 f)) ++ [z]) p (((1 + n.toNat % 64) : Nat) : Int)).1.length) c18 ((der (([3, 8] ++ (lst 8 f)) ++ [z]) p (((1 + n.toNat % 64) : Nat) : Int)).1)) (hO16.vuAt (hH.has 3 rfl)) (fun _ _ hF hS => opStr (e := 5) rfl (by kernel_rfl) (by kernel_rfl) (by kernel_rfl) (hF.ev 0 rfl) hS) rfl (gOn 1 rfl rfl rfl (by decide)) (kM [false, true, true, true, true, true, true, true] rfl rfl) (by decide) ?_
    refine pxV (v := (.slice A40 ((der (([3, 8] ++ (lst 8 f)) ++ [z]) p (((1 + n.toNat % 64) : Nat) : Int)).1.length) c41)) (fun _ _ hF => opMove rfl (hF.ev 2 rfl)) rfl (gOn 1 rfl rfl rfl (by decide)) (kM [true, true, false, true, true, true, true, true] rfl rfl) (by decide) ?_
    refine pxS (v := (.string (strL ((der (([3, 8] ++ (lst 8 f)) ++ [z]) p (((1 + n.toNat % 64) : Nat) : Int)).1)))) (fun w => Vu cByte w A40 ((der (([3, 8] ++ (lst 8 f)) ++ [z]) p (((1 + n.toNat % 64) : Nat) : Int)).1.length) c41 ((der (([3, 8] ++ (lst 8 f)) ++ [z]) p (((1 + n.toNat % 64) : Nat) : Int)).1)) (hO39.vuAt (hH.has 6 rfl)) (fun _ _ hF hS => opStr (e := 5) rfl (by kernel_rfl) (by kernel_rfl) (by kernel_rfl) (hF.ev 0 rfl) hS) rfl (gOn 2 rfl rfl rfl (by decide)) (kM [false, true, true, true, true, true, true, true] rfl rfl) (by decide) ?_
    refine pxV (v := (.bool false)) (fun _ _ hF => opNeLb (l := (der (([3, 8] ++ (lst 8 f)) ++ [z]) p (((1 + n.toNat % 64) : Nat) : Int)).1) (m := (der (([3, 8] ++ (lst 8 f)) ++ [z]) p (((1 + n.toNat % 64) : Nat) : Int)).1) rfl (hF.ev 1 rfl) (hF.ev 0 rfl) (decide_eq_false (fun h => h rfl))) rfl (gOn 2 rfl rfl rfl (by decide)) (kM [false, false, true, true, true, true, true, true] rfl rfl) (by decide) ?_
    refine pxV (v := (.bool false)) (fun _ _ hF => opPickF rfl (hF.ev 1 rfl) (hF.ev 0 rfl)) rfl (fun _ _ => rfl) (kM [false, false, true, true, true, true, true] rfl rfl) (by decide) ?_
    refine pxEnd ?_
    refine qxThen ?_
    refine cxF 0 rfl rfl ?_
    refine cxSkip ?_
    refine qxThen ?_
    refine cxSeq ?_
    refine cxRegX mixedOrders (by kernel_rfl) ?_
    replace hH := hH.drew
    refine rxV 0 rfl (by kernel_rfl) rfl (fun _ _ => rfl) (fun _ _ hF => opMove rfl (hF.ev 2 rfl)) (kM [false, true, false, true, true, true] rfl rfl) (by decide) (v := (.int .i64 ((((der (([3, 8] ++ (lst 8 f)) ++ [z]) p (((1 + n.toNat % 64) : Nat) : Int)).2.2) : Nat) : Int))) ?_
    refine rxV 1 rfl (by kernel_rfl) rfl (fun _ _ => rfl) (fun _ _ hF => opNeI rfl (hF.ev 0 rfl) rfl (dc (by omega))) (kM [false, true, true, true, true] rfl rfl) (by decide) (v := (.bool (decide ((der (([3, 8] ++ (lst 8 f)) ++ [z]) p (((1 + n.toNat % 64) : Nat) : Int)).2.2 ≠ 0)))) ?_
    refine rxV 2 rfl (by kernel_rfl) rfl (fun _ _ => rfl) (fun _ _ hF => opMove rfl (hF.ev 0 rfl)) (kM [false, true, true, true, true] rfl rfl) (by decide) (v := (.bool (decide ((der (([3, 8] ++ (lst 8 f)) ++ [z]) p (((1 + n.toNat % 64) : Nat) : Int)).2.2 ≠ 0)))) ?_
    refine rxSplitP 0 rfl (l1 := [(92, (.bool true)), (19, (.slice A34 ((der ((([3, 8] ++ (lst 8 f)) ++ [z]) ++ b) p (((1 + o.toNat % 64) : Nat) : Int)).1.length) c35)), (16, (.slice A17 ((der (([3, 8] ++ (lst 8 f)) ++ [z]) p (((1 + n.toNat % 64) : Nat) : Int)).1.length) c18)), (15, (.int .i64 (((1 + o.toNat % 64) : Nat) : Int))), (14, (.int .i64 (((1 + n.toNat % 64) : Nat) : Int)))]) (l2 := [(92, (.bool false)), (19, (.slice A34 ((der ((([3, 8] ++ (lst 8 f)) ++ [z]) ++ b) p (((1 + o.toNat % 64) : Nat) : Int)).1.length) c35)), (16, (.slice A17 ((der (([3, 8] ++ (lst 8 f)) ++ [z]) p (((1 + n.toNat % 64) : Nat) : Int)).1.length) c18)), (15, (.int .i64 (((1 + o.toNat % 64) : Nat) : Int))), (14, (.int .i64 (((1 + n.toNat % 64) : Nat) : Int)))]) rfl rfl (fun hg44 => ?_) (fun hg44 => ?_)
    · refine rxU 3 rfl (by kernel_rfl) rfl (gOff 0 rfl rfl rfl (by decide)) (kA rfl) (by decide) ?_
      refine rxU 4 rfl (by kernel_rfl) rfl (gOff 0 rfl rfl rfl (by decide)) (kM [true, true, true, true, false] rfl rfl) (by decide) ?_
      refine rxU 5 rfl (by kernel_rfl) rfl (gOff 0 rfl rfl rfl (by decide)) (kA rfl) (by decide) ?_
      refine rxV 6 rfl (by kernel_rfl) rfl (fun _ _ => rfl) (fun _ _ hF => opPickT rfl (hF.ev 0 rfl) rfl) (kM [false, true, true, true] rfl rfl) (by decide) (v := (.bool true)) ?_
      refine rxV 7 rfl (by kernel_rfl) rfl (fun _ _ => rfl) (fun _ _ hF => opMove rfl (hF.ev 0 rfl)) (kM [false, true, true, true] rfl rfl) (by decide) (v := (.bool true)) ?_
      refine rxU 8 rfl (by kernel_rfl) rfl (gOff 0 rfl rfl rfl (by decide)) (kM [true, true, false, true] rfl rfl) (by decide) ?_
      refine rxU 9 rfl (by kernel_rfl) rfl (gOff 0 rfl rfl rfl (by decide)) (kM [true, true, false] rfl rfl) (by decide) ?_
      refine rxU 10 rfl (by kernel_rfl) rfl (gOff 0 rfl rfl rfl (by decide)) (kA rfl) (by decide) ?_
      refine rxU 11 rfl (by kernel_rfl) rfl (gOff 0 rfl rfl rfl (by decide)) (kA rfl) (by decide) ?_
      refine rxU 12 rfl (by kernel_rfl) rfl (gOff 0 rfl rfl rfl (by decide)) (kM [true, false] rfl rfl) (by decide) ?_
      refine rxU 13 rfl (by kernel_rfl) rfl (gOff 0 rfl rfl rfl (by decide)) (kA rfl) (by decide) ?_
      refine rxU 14 rfl (by kernel_rfl) rfl (gOff 0 rfl rfl rfl (by decide)) (kA rfl) (by decide) ?_
      refine rxV 15 rfl (by kernel_rfl) rfl (fun _ _ => rfl) (fun _ _ hF => opPickT rfl (hF.ev 0 rfl) rfl) (kM [false] rfl rfl) (by decide) (v := (.bool true)) ?_
      refine rxV 16 rfl (by kernel_rfl) rfl (fun _ _ => rfl) (fun _ _ hF => opAssign rfl (hF.ev 0 rfl)) (kM [false] rfl rfl) (by decide) (v := (.bool true)) ?_
      refine rxEnd (by kernel_rfl) ?_
      refine qxThen ?_
      refine cxRet ?_
      refine qxRet1 0 rfl rfl ?_
      exact ⟨rfl, HH.toBelow hH⟩
    · refine rxV 3 rfl (by kernel_rfl) rfl (gOn 0 rfl rfl rfl (by decide)) (fun _ _ hF => opMove rfl (hF.ev 3 rfl)) (kA rfl) (by decide) (v := (.int .i64 (((1 + o.toNat % 64) : Nat) : Int))) ?_
      refine rxV 4 rfl (by kernel_rfl) rfl (gOn 1 rfl rfl rfl (by decide)) (fun _ _ hF => opMove rfl (hF.ev 5 rfl)) (kM [true, true, true, true, true, false] rfl rfl) (by decide) (v := (.int .i64 (((1 + n.toNat % 64) : Nat) : Int))) ?_
      refine rxV 5 rfl (by kernel_rfl) rfl (gOn 2 rfl rfl rfl (by decide)) (fun _ _ hF => opGtr rfl (hF.ev 1 rfl) (hF.ev 0 rfl) (dc (by omega))) (kM [false, false, true, true, true, true] rfl rfl) (by decide) (v := (.bool (decide (1 + o.toNat % 64 > 1 + n.toNat % 64)))) ?_
      refine rxV 6 rfl (by kernel_rfl) rfl (fun _ _ => rfl) (fun _ _ hF => opPickF rfl (hF.ev 1 rfl) (hF.ev 0 rfl)) (kM [false, false, true, true, true] rfl rfl) (by decide) (v := (.bool (decide (1 + o.toNat % 64 > 1 + n.toNat % 64)))) ?_
      refine rxV 7 rfl (by kernel_rfl) rfl (fun _ _ => rfl) (fun _ _ hF => opMove rfl (hF.ev 0 rfl)) (kM [false, true, true, true] rfl rfl) (by decide) (v := (.bool (decide (1 + o.toNat % 64 > 1 + n.toNat % 64)))) ?_
      refine rxSplitP 0 rfl (l1 := [(97, (.bool true)), (19, (.slice A34 ((der ((([3, 8] ++ (lst 8 f)) ++ [z]) ++ b) p (((1 + o.toNat % 64) : Nat) : Int)).1.length) c35)), (16, (.slice A17 ((der (([3, 8] ++ (lst 8 f)) ++ [z]) p (((1 + n.toNat % 64) : Nat) : Int)).1.length) c18)), (15, (.int .i64 (((1 + o.toNat % 64) : Nat) : Int)))]) (l2 := [(97, (.bool false)), (19, (.slice A34 ((der ((([3, 8] ++ (lst 8 f)) ++ [z]) ++ b) p (((1 + o.toNat % 64) : Nat) : Int)).1.length) c35)), (16, (.slice A17 ((der (([3, 8] ++ (lst 8 f)) ++ [z]) p (((1 + n.toNat % 64) : Nat) : Int)).1.length) c18)), (15, (.int .i64 (((1 + o.toNat % 64) : Nat) : Int)))]) rfl rfl (fun hg45 => ?_) (fun hg45 => ?_)
      · refine rxU 8 rfl (by kernel_rfl) rfl (gOff 0 rfl rfl rfl (by decide)) (kM [true, true, false, true] rfl rfl) (by decide) ?_
        refine rxU 9 rfl (by kernel_rfl) rfl (gOff 0 rfl rfl rfl (by decide)) (kM [true, true, false] rfl rfl) (by decide) ?_
        refine rxU 10 rfl (by kernel_rfl) rfl (gOff 0 rfl rfl rfl (by decide)) (kA rfl) (by decide) ?_
        refine rxU 11 rfl (by kernel_rfl) rfl (gOff 0 rfl rfl rfl (by decide)) (kA rfl) (by decide) ?_
        refine rxU 12 rfl (by kernel_rfl) rfl (gOff 0 rfl rfl rfl (by decide)) (kM [true, false] rfl rfl) (by decide) ?_
        refine rxU 13 rfl (by kernel_rfl) rfl (gOff 0 rfl rfl rfl (by decide)) (kA rfl) (by decide) ?_
        refine rxU 14 rfl (by kernel_rfl) rfl (gOff 0 rfl rfl rfl (by decide)) (kA rfl) (by decide) ?_
        refine rxV 15 rfl (by kernel_rfl) rfl (fun _ _ => rfl) (fun _ _ hF => opPickT rfl (hF.ev 0 rfl) rfl) (kM [false] rfl rfl) (by decide) (v := (.bool true)) ?_
        refine rxV 16 rfl (by kernel_rfl) rfl (fun _ _ => rfl) (fun _ _ hF => opAssign rfl (hF.ev 0 rfl)) (kM [false] rfl rfl) (by decide) (v := (.bool true)) ?_
        refine rxEnd (by kernel_rfl) ?_
        refine qxThen ?_
        refine cxRet ?_
        refine qxRet1 0 rfl rfl ?_
        exact ⟨rfl, HH.toBelow hH⟩
      · obtain ⟨hct, hcl⟩ := der_cut (s := ([3, 8] ++ lst 8 f ++ [z])) (p := p) (k := 1 + n.toNat % 64) (l := 1 + o.toNat % 64) (by omega) (by omega) (by omega) (by omega)
        have := hO33.capLe
        have := hO16.capLe
        refine rxV 8 rfl (by kernel_rfl) rfl (gOn 0 rfl rfl rfl (by decide)) (fun _ _ hF => opMove rfl (hF.ev 2 rfl)) (kM [true, true, false, true] rfl rfl) (by decide) (v := (.slice A17 ((der (([3, 8] ++ (lst 8 f)) ++ [z]) p (((1 + n.toNat % 64) : Nat) : Int)).1.length) c18)) ?_
        refine rxV 9 rfl (by kernel_rfl) rfl (gOn 1 rfl rfl rfl (by decide)) (fun _ _ hF => opMove rfl (hF.ev 3 rfl)) (kM [true, true, true, false] rfl rfl) (by decide) (v := (.int .i64 (((1 + o.toNat % 64) : Nat) : Int))) ?_
        refine rxV 10 rfl (by kernel_rfl) rfl (gOn 2 rfl rfl rfl (by decide)) (fun _ _ hF => opCutH (h := 1 + o.toNat % 64) (e := 5) (sz := 1) rfl (by kernel_rfl) (by kernel_rfl) (hF.ev 1 rfl) (hF.ev 0 rfl) rfl (by omega)) (kM [false, false, true, true] rfl rfl) (by decide) (v := (.slice A17 (1 + o.toNat % 64) c18)) ?_
        refine rxS (fun w => Vu cByte w A17 (1 + o.toNat % 64) c18 ((der (([3, 8] ++ (lst 8 f)) ++ [z]) p (((1 + n.toNat % 64) : Nat) : Int)).1.take (1 + o.toNat % 64))) 11 rfl (by kernel_rfl) rfl (gOn 1 rfl rfl rfl (by decide)) ((hO16.vuAt (hH.has 3 rfl)).head (m := 1 + o.toNat % 64) (by omega)) (fun _ _ hF hS => opStr (e := 5) rfl (by kernel_rfl) (by kernel_rfl) (by kernel_rfl) (hF.ev 0 rfl) hS) (kM [false, true, true] rfl rfl) (by decide) (v := (.string (strL ((der (([3, 8] ++ (lst 8 f)) ++ [z]) p (((1 + n.toNat % 64) : Nat) : Int)).1.take (1 + o.toNat % 64))))) ?_
        refine rxV 12 rfl (by kernel_rfl) rfl (gOn 1 rfl rfl rfl (by decide)) (fun _ _ hF => opMove rfl (hF.ev 2 rfl)) (kM [true, true, false] rfl rfl) (by decide) (v := (.slice A34 ((der ((([3, 8] ++ (lst 8 f)) ++ [z]) ++ b) p (((1 + o.toNat % 64) : Nat) : Int)).1.length) c35)) ?_
        refine rxS (fun w => Vu cByte w A34 ((der ((([3, 8] ++ (lst 8 f)) ++ [z]) ++ b) p (((1 + o.toNat % 64) : Nat) : Int)).1.length) c35 ((der ((([3, 8] ++ (lst 8 f)) ++ [z]) ++ b) p (((1 + o.toNat % 64) : Nat) : Int)).1)) 13 rfl (by kernel_rfl) rfl (gOn 2 rfl rfl rfl (by decide)) (hO33.vuAt (hH.has 5 rfl)) (fun _ _ hF hS => opStr (e := 5) rfl (by kernel_rfl) (by kernel_rfl) (by kernel_rfl) (hF.ev 0 rfl) hS) (kM [false, true, true] rfl rfl) (by decide) (v := (.string (strL ((der ((([3, 8] ++ (lst 8 f)) ++ [z]) ++ b) p (((1 + o.toNat % 64) : Nat) : Int)).1)))) ?_
        refine rxV 14 rfl (by kernel_rfl) rfl (gOn 2 rfl rfl rfl (by decide)) (fun _ _ hF => opEqLb (l := ((der (([3, 8] ++ (lst 8 f)) ++ [z]) p (((1 + n.toNat % 64) : Nat) : Int)).1.take (1 + o.toNat % 64))) (m := (der ((([3, 8] ++ (lst 8 f)) ++ [z]) ++ b) p (((1 + o.toNat % 64) : Nat) : Int)).1) rfl (hF.ev 1 rfl) (hF.ev 0 rfl) (decide_eq_true (by rw [hdf]; exact hct))) (kM [false, false, true] rfl rfl) (by decide) (v := (.bool true)) ?_
        refine rxV 15 rfl (by kernel_rfl) rfl (fun _ _ => rfl) (fun _ _ hF => opPickF rfl (hF.ev 1 rfl) (hF.ev 0 rfl)) (kM [false, false] rfl rfl) (by decide) (v := (.bool true)) ?_
        refine rxV 16 rfl (by kernel_rfl) rfl (fun _ _ => rfl) (fun _ _ hF => opAssign rfl (hF.ev 0 rfl)) (kM [false] rfl rfl) (by decide) (v := (.bool true)) ?_
        refine rxEnd (by kernel_rfl) ?_
        refine qxThen ?_
        refine cxRet ?_
        refine qxRet1 0 rfl rfl ?_
        exact ⟨rfl, HH.toBelow hH⟩
end Go.Proofs.YticflflbogdljaaDoor
