/- The laws of layer 12: ArmorTurned. -/
import Derived.Test.YtadbpmcmdcnlfaaDoorArmQB
namespace Go.Proofs.YtadbpmcmdcnlfaaDoor
open Go Go.RowKit
set_option maxRecDepth 100000

theorem encT_pos (k l : List UInt8) (b : Bool) : 0 < (encT k l b).length := by
  rw [enc_eq]; simp [headK, begL]
theorem sig_is : isK sigL := .inr (.inr rfl)
theorem encode_sig (l : List UInt8) (A : Option Addr) (c : Nat) (hl : l.length ≤ 1000) : Pure Tryd.prog 8 #[(.string (strL sigL)), (.slice A l.length c), (.bool true)] (fun w => Vu cByte w A l.length c l) (.tuple #[.string (strL (encT sigL l true)), .int .i64 0]) := by
  have h := encode_c sigL (leb rfl) l A c (by omega) true
  rw [(enc_go sig_is (by omega : ¬ l.length > 20000) true).1, (enc_go sig_is (by omega : ¬ l.length > 20000) true).2] at h
  exact h

set_option maxHeartbeats 8000000 in
theorem turned_l (l : List UInt8) (A : Option Addr) (c : Nat) (hl : l.length ≤ 140737488355328) (n : Nat) (y v : UInt8) : Pure Tryd.prog 6 #[(.slice A l.length c), (.int .u64 (((n) : Nat) : Int)), (.int .u8 (((y.toNat) : Nat) : Int)), (.int .u8 (((v.toNat) : Nat) : Int))] (fun w => Vu cByte w A l.length c l ∧ MaxL w) (.bool true) := by
  refine pure_of (fn := Tryd.f6) Tryd.func6 rfl Tryd.ntmps6 (Nat.le_of_ble_eq_true rfl) rfl ?_
  intro w0 hH hR
  have hM := hR.2
  replace hR := hR.1
  have hcl := hR.len
  have hcc := hR.cap
  refine cxSeq ?_
  refine cxReg ?_
  refine pxV (v := (.bool false)) (fun _ _ hF => opAssign rfl rfl) rfl (fun _ _ => rfl) (kA rfl) (by decide) ?_
  refine pxEnd ?_
  refine qxThen ?_
  refine cxSeq ?_
  refine cxSeq ?_
  refine cxReg ?_
  refine pxM hH (fun _ hF => Does.small ((awake_c ).does) (fun w => opCall rfl Tryd.func7 rfl rfl Evs.nil w)) trivial rfl (fun _ _ => rfl) (kM [false, true, true, true, true] rfl rfl) (by decide) ?_
  clear hH
  rintro _ _ w ⟨rfl, rfl⟩ hH
  replace hH : HH w0 [] [] w := hH.unpad
  refine pxV (v := (.bool false)) (fun _ _ hF => opNot rfl (hF.ev 0 rfl) rfl) rfl (fun _ _ => rfl) (kM [false, true, true, true, true] rfl rfl) (by decide) ?_
  refine pxV (v := (.bool false)) (fun _ _ hF => opMove rfl (hF.ev 0 rfl)) rfl (fun _ _ => rfl) (kM [false, true, true, true, true] rfl rfl) (by decide) ?_
  refine pxV (v := (.slice A l.length c)) (fun _ _ hF => opMove rfl (hF.ev 1 rfl)) rfl (gOn 0 rfl rfl rfl (by decide)) (kA rfl) (by decide) ?_
  refine pxV (v := (.int .i64 (((l.length) : Nat) : Int))) (fun _ _ hF => opLen (e := 5) rfl (by kernel_rfl) (hF.ev 0 rfl)) rfl (gOn 1 rfl rfl rfl (by decide)) (kM [false, true, true, true, true, true] rfl rfl) (by decide) ?_
  refine pxV (v := (.bool (decide (l.length > 1000)))) (fun _ _ hF => opGtr rfl (hF.ev 0 rfl) rfl (dc (by omega))) rfl (gOn 1 rfl rfl rfl (by decide)) (kM [false, true, true, true, true, true] rfl rfl) (by decide) ?_
  refine pxV (v := (.bool (decide (l.length > 1000)))) (fun _ _ hF => opPickF rfl (hF.ev 1 rfl) (hF.ev 0 rfl)) rfl (fun _ _ => rfl) (kM [false, false, true, true, true, true] rfl rfl) (by decide) ?_
  refine pxEnd ?_
  refine qxThen ?_
  refine cxP 0 rfl rfl (fun hc1 => ?_) (fun hc1 => ?_)
  · refine cxSeq ?_
    refine cxReg ?_
    refine pxM hH (fun _ hF => Does.small ((awake_c ).does) (fun w => opCall rfl Tryd.func7 rfl rfl Evs.nil w)) trivial rfl (fun _ _ => rfl) (kM [false, false, false, false, false] rfl rfl) (by decide) ?_
    clear hH
    rintro _ _ w ⟨rfl, rfl⟩ hH
    replace hH : HH w0 [] [] w := hH.unpad
    refine pxV (v := (.bool true)) (fun _ _ hF => opAssign rfl (hF.ev 0 rfl)) rfl (fun _ _ => rfl) (kM [false] rfl rfl) (by decide) ?_
    refine pxEnd ?_
    refine qxThen ?_
    refine cxRet ?_
    refine qxThenR ?_
    refine qxRet1 0 rfl rfl ?_
    exact ⟨rfl, hH.toBelow⟩
  · refine cxSkip ?_
    refine qxThen ?_
    refine cxSeq ?_
    refine cxReg ?_
    refine pxV (v := (.slice A l.length c)) (fun _ _ hF => opMove rfl (hF.ev 1 rfl)) rfl (fun _ _ => rfl) (kM [false, false, true, true, true] rfl rfl) (by decide) ?_
    refine pxM hH (fun _ hF => Does.small ((encode_sig l A c (by omega)).does) (fun w => opCall rfl Tryd.func8 rfl rfl (Evs.cons (v := (.string (strL sigL))) rfl (Evs.cons (v := (.slice A l.length c)) (hF.ev 0 rfl) (Evs.cons (v := (.bool true)) rfl Evs.nil))) w)) (hH.vu hR (by decide) (Off.nil _ _)) rfl (fun _ _ => rfl) (kM [false, true, true, true] rfl rfl) (by decide) ?_
    clear hH
    rintro _ _ w ⟨rfl, rfl⟩ hH
    replace hH : HH w0 [] [] w := hH.unpad
    refine pxV (v := (.tuple #[(.string (strL (encT sigL l true))), (.int .i64 0)])) (fun _ _ hF => opMove rfl (hF.ev 0 rfl)) rfl (fun _ _ => rfl) (kM [false, true, true, true] rfl rfl) (by decide) ?_
    refine pxV (v := (.string (strL (encT sigL l true)))) (fun _ _ hF => opExtract rfl (hF.ev 0 rfl) rfl) rfl (fun _ _ => rfl) (kA rfl) (by decide) ?_
    refine pxV (v := (.int .i64 0)) (fun _ _ hF => opExtract rfl (hF.ev 1 rfl) rfl) rfl (fun _ _ => rfl) (kM [true, false, true, true, true] rfl rfl) (by decide) ?_
    refine pxV (v := (.string (strL (encT sigL l true)))) (fun _ _ hF => opAssign rfl (hF.ev 1 rfl)) rfl (fun _ _ => rfl) (kM [true, false, true, true, true] rfl rfl) (by decide) ?_
    refine pxV (v := (.int .i64 0)) (fun _ _ hF => opAssign rfl (hF.ev 1 rfl)) rfl (fun _ _ => rfl) (kM [true, false, true, true, true] rfl rfl) (by decide) ?_
    refine pxEnd ?_
    refine qxThen ?_
    refine cxSeq ?_
    refine cxSeq ?_
    refine cxReg ?_
    refine pxV (v := (.int .i64 0)) (fun _ _ hF => opMove rfl (hF.ev 0 rfl)) rfl (fun _ _ => rfl) (kM [false, true, true, true, true] rfl rfl) (by decide) ?_
    refine pxV (v := (.bool false)) (fun _ _ hF => opNeI rfl (hF.ev 0 rfl) rfl (by decide)) rfl (fun _ _ => rfl) (kM [false, true, true, true, true] rfl rfl) (by decide) ?_
    refine pxEnd ?_
    refine qxThen ?_
    refine cxF 0 rfl rfl ?_
    refine cxSkip ?_
    refine qxThen ?_
    refine cxSeq ?_
    have hSl : (encT sigL l true).length ≤ 40000 := by have h := armL_len sigL sig_is l true; have h2 : nP l ≤ 417 := (by unfold nP; omega); omega
    have hS0 := encT_pos sigL l true
    obtain ⟨S, hS⟩ : ∃ S, encT sigL l true = S := ⟨_, rfl⟩
    rw [hS] at hSl hS0
    rw [hS]
    have hmod : n % S.length < S.length := Nat.mod_lt _ hS0
    refine cxReg ?_
    refine pxV (v := (.int .u64 (((n) : Nat) : Int))) (fun _ _ hF => opMove rfl (hF.ev 2 rfl)) rfl (fun _ _ => rfl) (kM [false, true, false, true, true] rfl rfl) (by decide) ?_
    refine pxV (v := (.string (strL S))) (fun _ _ hF => opMove rfl (hF.ev 1 rfl)) rfl (fun _ _ => rfl) (kA rfl) (by decide) ?_
    refine pxV (v := (.int .i64 (((S.length) : Nat) : Int))) (fun _ _ hF => opLenL (l := S) rfl (by kernel_rfl) (hF.ev 0 rfl)) rfl (fun _ _ => rfl) (kM [false, true, true, true, true] rfl rfl) (by decide) ?_
    refine pxV (v := (.int .u64 (((S.length) : Nat) : Int))) (fun _ _ hF => opConvU (k' := .u64) (m := S.length) rfl rfl (by kernel_rfl) (by kernel_rfl) (hF.ev 0 rfl) (Nat.mod_eq_of_lt (by show _ < 18446744073709551616; omega))) rfl (fun _ _ => rfl) (kM [false, true, true, true, true] rfl rfl) (by decide) ?_
    refine pxV (v := (.int .u64 (((n % S.length) : Nat) : Int))) (fun _ _ hF => opRem (z := ((n % S.length : Nat) : Int)) rfl (hF.ev 1 rfl) (hF.ev 0 rfl) (by omega) remN) rfl (fun _ _ => rfl) (kM [false, false, true, true, true] rfl rfl) (by decide) ?_
    refine pxV (v := (.int .i64 (((n % S.length) : Nat) : Int))) (fun _ _ hF => opConvI (k' := .i64) rfl (by kernel_rfl) (by kernel_rfl) (hF.ev 0 rfl) (wI rfl (by omega) (by omega))) rfl (fun _ _ => rfl) (kM [false, true, true, true] rfl rfl) (by decide) ?_
    refine pxV (v := (.int .i64 (((n % S.length) : Nat) : Int))) (fun _ _ hF => opAssign rfl (hF.ev 0 rfl)) rfl (fun _ _ => rfl) (kM [false, true, true, true] rfl rfl) (by decide) ?_
    refine pxEnd ?_
    refine qxThen ?_
    refine cxSeq ?_
    obtain ⟨k, hk⟩ : ∃ k, n % S.length = k := ⟨_, rfl⟩
    rw [hk] at hmod
    rw [hk]
    have hta : (S.take k).length = k := by rw [List.length_take]; omega
    have hd1 : (S.drop (k + 1)).length = S.length - (k + 1) := List.length_drop
    have hd0 : (S.drop k).length = S.length - k := List.length_drop
    refine cxReg ?_
    refine pxV (v := (.string (strL S))) (fun _ _ hF => opMove rfl (hF.ev 1 rfl)) rfl (fun _ _ => rfl) (kA rfl) (by decide) ?_
    refine pxV (v := (.int .i64 (((k) : Nat) : Int))) (fun _ _ hF => opMove rfl (hF.ev 1 rfl)) rfl (fun _ _ => rfl) (kA rfl) (by decide) ?_
    refine pxV (v := (.string (strL (S.take k)))) (fun _ _ hF => opSlcHL (l := S) (h := k) (r := (S.take k)) rfl (by kernel_rfl) (hF.ev 1 rfl) (hF.ev 0 rfl) rfl (by omega) (rfl)) rfl (fun _ _ => rfl) (kM [false, false, true, true, true, true] rfl rfl) (by decide) ?_
    refine pxV (v := (.string (strL (S.take k)))) (fun _ _ hF => opAssign rfl (hF.ev 0 rfl)) rfl (fun _ _ => rfl) (kM [false, true, true, true, true] rfl rfl) (by decide) ?_
    refine pxEnd ?_
    refine qxThen ?_
    refine cxSeq ?_
    refine cxSeq ?_
    refine cxReg ?_
    refine pxV (v := (.int .u8 (((v.toNat) : Nat) : Int))) (fun _ _ hF => opMove rfl (hF.ev 4 rfl)) rfl (fun _ _ => rfl) (kM [true, true, true, true, false] rfl rfl) (by decide) ?_
    refine pxV (v := (.int .u8 (((v.toNat % 3) : Nat) : Int))) (fun _ _ hF => opRem (z := ((v.toNat % 3 : Nat) : Int)) rfl (hF.ev 0 rfl) rfl (by omega) remN) rfl (fun _ _ => rfl) (kM [false, true, true, true, true] rfl rfl) (by decide) ?_
    refine pxEnd ?_
    refine qxThen ?_
    refine cxBlock ?_
    refine cxSeq ?_
    refine cxReg ?_
    refine pxV (v := (.bool (decide (v.toNat % 3 = 0)))) (fun _ _ hF => opEqI rfl (hF.ev 0 rfl) rfl (dc (by omega))) rfl (fun _ _ => rfl) (kA rfl) (by decide) ?_
    refine pxV (v := (.bool (decide (v.toNat % 3 = 0)))) (fun _ _ hF => opAssign rfl (hF.ev 0 rfl)) rfl (fun _ _ => rfl) (kM [false, true, true, true, true, true] rfl rfl) (by decide) ?_
    refine pxEnd ?_
    refine qxThen ?_
    refine cxP 0 rfl rfl (fun hc2 => ?_) (fun hc2 => ?_)
    · refine cxRegX mixedOrders (by kernel_rfl) ?_
      replace hH := hH.drew
      refine rxV 0 rfl (by kernel_rfl) rfl (fun _ _ => rfl) (fun _ _ hF => opMove rfl (hF.ev 4 rfl)) (kM [false, false, true, true, true, true] rfl rfl) (by decide) (v := (.string (strL S))) ?_
      refine rxV 1 rfl (by kernel_rfl) rfl (fun _ _ => rfl) (fun _ _ hF => opMove rfl (hF.ev 2 rfl)) (kA rfl) (by decide) (v := (.int .i64 (((k) : Nat) : Int))) ?_
      refine rxV 2 rfl (by kernel_rfl) rfl (fun _ _ => rfl) (fun _ _ hF => opSlcHL (l := S) (h := k) (r := (S.take k)) rfl (by kernel_rfl) (hF.ev 1 rfl) (hF.ev 0 rfl) rfl (by omega) (rfl)) (kM [false, false, true, true, true, true] rfl rfl) (by decide) (v := (.string (strL (S.take k)))) ?_
      refine rxV 3 rfl (by kernel_rfl) rfl (fun _ _ => rfl) (fun _ _ hF => opMove rfl (hF.ev 3 rfl)) (kA rfl) (by decide) (v := (.string (strL S))) ?_
      refine rxV 4 rfl (by kernel_rfl) rfl (fun _ _ => rfl) (fun _ _ hF => opMove rfl (hF.ev 3 rfl)) (kA rfl) (by decide) (v := (.int .i64 (((k) : Nat) : Int))) ?_
      obtain ⟨x3, hx4⟩ := get_at S k (by omega)
      have hb5 := UInt8.toNat_lt x3
      refine rxV 5 rfl (by kernel_rfl) rfl (fun _ _ => rfl) (fun _ _ hF => opIdxL (l := S) (i := k) (c := x3) rfl (by kernel_rfl) (hF.ev 1 rfl) (hF.ev 0 rfl) rfl hx4) (kM [false, false, true, true, true, true, true] rfl rfl) (by decide) (v := (.int .u8 (((x3.toNat) : Nat) : Int))) ?_
      refine rxV 6 rfl (by kernel_rfl) rfl (fun _ _ => rfl) (fun _ _ hF => opMove rfl (hF.ev 5 rfl)) (kM [true, true, true, true, true, false] rfl rfl) (by decide) (v := (.int .u8 (((y.toNat) : Nat) : Int))) ?_
      refine rxV 7 rfl (by kernel_rfl) rfl (fun _ _ => rfl) (fun _ _ hF => opAddU (m := x3.toNat) (j := y.toNat) (z := ((x3 + y).toNat)) rfl rfl (hF.ev 1 rfl) (hF.ev 0 rfl) ((UInt8.toNat_add _ _).symm)) (kM [false, false, true, true, true, true] rfl rfl) (by decide) (v := (.int .u8 ((((x3 + y).toNat) : Nat) : Int))) ?_
      refine rxV 11 rfl (by kernel_rfl) rfl (fun _ _ => rfl) (fun _ _ hF => opMove rfl (hF.ev 4 rfl)) (kM [true, true, true, true, false] rfl rfl) (by decide) (v := (.string (strL S))) ?_
      refine rxV 12 rfl (by kernel_rfl) rfl (fun _ _ => rfl) (fun _ _ hF => opMove rfl (hF.ev 4 rfl)) (kM [true, true, true, true, false] rfl rfl) (by decide) (v := (.int .i64 (((k) : Nat) : Int))) ?_
      refine rxV 13 rfl (by kernel_rfl) rfl (fun _ _ => rfl) (fun _ _ hF => opAdd rfl (hF.ev 0 rfl) rfl (wI (by omega) (by omega) (by omega))) (kM [false, true, true, true, true] rfl rfl) (by decide) (v := (.int .i64 (((k + 1) : Nat) : Int))) ?_
      refine rxV 14 rfl (by kernel_rfl) rfl (fun _ _ => rfl) (fun _ _ hF => opSlcLL (l := S) (k := k + 1) (r := (S.drop (k + 1))) rfl (by kernel_rfl) (hF.ev 1 rfl) (hF.ev 0 rfl) rfl (by omega) (rfl)) (kM [false, false, true, true, true] rfl rfl) (by decide) (v := (.string (strL (S.drop (k + 1))))) ?_
      refine rx1 8 (by kernel_rfl) ?_
      refine moM rfl hH (fun _ hF => smLit1 (e := 5) (sz := 1) (z := (.int .u8 0)) (by_ := 1) (cs := cByte.enc (x3 + y)) rfl (by kernel_rfl) (by kernel_rfl) (hF.ev 1 rfl) (cByte.len (x3 + y)) (ltb rfl) (leb rfl) rfl) trivial rfl (fun _ _ => rfl) (kM [true, false, true, true] rfl rfl) (by decide) (PendOk.nil _ []) ?_
      clear hH
      rintro _ _ w ⟨g6, rfl, rfl⟩ hH
      replace hH : HH w0 [] [[bl g6 5 (cByte.enc (x3 + y))]] w := hH
      refine ⟨(fun _ hs => by cases hs), ?_⟩
      refine rxS (fun w => Vu cByte w (some ⟨g6, 0, none⟩) 1 1 ([(x3 + y)])) 9 rfl (by kernel_rfl) rfl (fun _ _ => rfl) ((Bk.lit1 (C := cByte) (x3 + y)).vu (n := 1) (hH.blk 0 rfl) rfl) (fun _ _ hF hS => opStr (e := 5) rfl (by kernel_rfl) (by kernel_rfl) (by kernel_rfl) (hF.ev 0 rfl) hS) (kM [false, true, true, true] rfl rfl) (by decide) (v := (.string (strL ([(x3 + y)])))) ?_
      refine rxV 10 rfl (by kernel_rfl) rfl (fun _ _ => rfl) (fun _ _ hF => opAddL (l := (S.take k)) (m := [(x3 + y)]) (r := ((S.take k) ++ [(x3 + y)])) rfl (hF.ev 2 rfl) (hF.ev 0 rfl) (by first | omega | (simp only [List.length_append]; omega) | (simp only [List.length_cons, List.length_nil]; omega) | (simp only [List.length_append, List.length_cons, List.length_nil]; omega)) (rfl)) (kM [false, true, false, true] rfl rfl) (by decide) (v := (.string (strL ((S.take k) ++ [(x3 + y)])))) ?_
      refine rxV 15 rfl (by kernel_rfl) rfl (fun _ _ => rfl) (fun _ _ hF => opAddL (l := ((S.take k) ++ [(x3 + y)])) (m := (S.drop (k + 1))) (r := (((S.take k) ++ [(x3 + y)]) ++ (S.drop (k + 1)))) rfl (hF.ev 0 rfl) (hF.ev 1 rfl) (by first | omega | (simp only [List.length_append]; omega) | (simp only [List.length_cons, List.length_nil]; omega) | (simp only [List.length_append, List.length_cons, List.length_nil]; omega)) (rfl)) (kM [false, false, true] rfl rfl) (by decide) (v := (.string (strL (((S.take k) ++ [(x3 + y)]) ++ (S.drop (k + 1)))))) ?_
      refine rxV 16 rfl (by kernel_rfl) rfl (fun _ _ => rfl) (fun _ _ hF => opAssign rfl (hF.ev 0 rfl)) (kM [false, false] rfl rfl) (by decide) (v := (.string (strL (((S.take k) ++ [(x3 + y)]) ++ (S.drop (k + 1)))))) ?_
      refine rxEnd (by kernel_rfl) ?_
      refine qxInN ?_
      refine qxThen ?_
      refine cxSeq ?_
      refine cxReg ?_
      refine pxV (v := (.string (strL (((S.take k) ++ [(x3 + y)]) ++ (S.drop (k + 1)))))) (fun _ _ hF => opMove rfl (hF.ev 0 rfl)) rfl (fun _ _ => rfl) (kA rfl) (by decide) ?_
      refine pxM hH (fun _ hF => Does.small (decode_c (((S.take k) ++ [(x3 + y)]) ++ (S.drop (k + 1))) (by first | omega | (simp only [List.length_append]; omega) | (simp only [List.length_append, List.length_cons, List.length_nil]; omega))) (fun w => opCall rfl Tryd.func10 rfl rfl (Evs.cons (v := (.string (strL (((S.take k) ++ [(x3 + y)]) ++ (S.drop (k + 1)))))) (hF.ev 0 rfl) Evs.nil) w)) (hmaxl hH hM) rfl (fun _ _ => rfl) (kM [false, true] rfl rfl) (by decide) ?_
      clear hH
      rintro v11 E7 w hD8 hH
      replace hH : HH w0 [] [[bl g6 5 (cByte.enc (x3 + y))], E7] w := hH
      obtain ⟨A9, c10, rfl, hO12⟩ := hD8
      refine pxV (v := (.tuple #[(.string (strL (dK (accP (lns (((S.take k) ++ [(x3 + y)]) ++ (S.drop (k + 1)))))))), (.slice A9 ((dB (accP (lns (((S.take k) ++ [(x3 + y)]) ++ (S.drop (k + 1)))))).length) c10), (.int .i64 ((((dE (accP (lns (((S.take k) ++ [(x3 + y)]) ++ (S.drop (k + 1))))))) : Nat) : Int))])) (fun _ _ hF => opMove rfl (hF.ev 0 rfl)) rfl (fun _ _ => rfl) (kM [false, true] rfl rfl) (by decide) ?_
      refine pxV (v := (.string (strL (dK (accP (lns (((S.take k) ++ [(x3 + y)]) ++ (S.drop (k + 1))))))))) (fun _ _ hF => opExtract rfl (hF.ev 0 rfl) rfl) rfl (fun _ _ => rfl) (kA rfl) (by decide) ?_
      refine pxV (v := (.slice A9 ((dB (accP (lns (((S.take k) ++ [(x3 + y)]) ++ (S.drop (k + 1)))))).length) c10)) (fun _ _ hF => opExtract rfl (hF.ev 1 rfl) rfl) rfl (fun _ _ => rfl) (kA rfl) (by decide) ?_
      refine pxV (v := (.int .i64 ((((dE (accP (lns (((S.take k) ++ [(x3 + y)]) ++ (S.drop (k + 1))))))) : Nat) : Int))) (fun _ _ hF => opExtract rfl (hF.ev 2 rfl) rfl) rfl (fun _ _ => rfl) (kM [true, true, false, true] rfl rfl) (by decide) ?_
      refine pxV (v := (.string (strL (dK (accP (lns (((S.take k) ++ [(x3 + y)]) ++ (S.drop (k + 1))))))))) (fun _ _ hF => opAssign rfl (hF.ev 2 rfl)) rfl (fun _ _ => rfl) (kM [true, true, false, true] rfl rfl) (by decide) ?_
      refine pxV (v := (.slice A9 ((dB (accP (lns (((S.take k) ++ [(x3 + y)]) ++ (S.drop (k + 1)))))).length) c10)) (fun _ _ hF => opAssign rfl (hF.ev 2 rfl)) rfl (fun _ _ => rfl) (kM [true, true, false, true] rfl rfl) (by decide) ?_
      refine pxV (v := (.int .i64 ((((dE (accP (lns (((S.take k) ++ [(x3 + y)]) ++ (S.drop (k + 1))))))) : Nat) : Int))) (fun _ _ hF => opAssign rfl (hF.ev 2 rfl)) rfl (fun _ _ => rfl) (kM [true, true, false, true] rfl rfl) (by decide) ?_
      refine pxEnd ?_
      refine qxThen ?_
      refine cxSeq ?_
      refine cxReg ?_
      refine pxV (v := (.string (strL (((S.take k) ++ [(x3 + y)]) ++ (S.drop (k + 1)))))) (fun _ _ hF => opMove rfl (hF.ev 3 rfl)) rfl (fun _ _ => rfl) (kM [true, true, true, false] rfl rfl) (by decide) ?_
      refine pxM hH (fun _ hF => Does.small (rdecode_p (((S.take k) ++ [(x3 + y)]) ++ (S.drop (k + 1))) (by first | omega | (simp only [List.length_append]; omega) | (simp only [List.length_append, List.length_cons, List.length_nil]; omega))) (fun w => opCall rfl Tryd.func11 rfl rfl (Evs.cons (v := (.string (strL (((S.take k) ++ [(x3 + y)]) ++ (S.drop (k + 1)))))) (hF.ev 0 rfl) Evs.nil) w)) trivial rfl (fun _ _ => rfl) (kM [false, true, true, true] rfl rfl) (by decide) ?_
      clear hH
      rintro v18 E14 w hD15 hH
      replace hH : HH w0 [] [[bl g6 5 (cByte.enc (x3 + y))], E7, E14] w := hH
      obtain ⟨A16, c17, rfl, hO19⟩ := hD15
      refine pxV (v := (.tuple #[(.string (strL (dK (accP (lns (((S.take k) ++ [(x3 + y)]) ++ (S.drop (k + 1)))))))), (.slice A16 ((dB (accP (lns (((S.take k) ++ [(x3 + y)]) ++ (S.drop (k + 1)))))).length) c17), (.int .i64 ((((dE (accP (lns (((S.take k) ++ [(x3 + y)]) ++ (S.drop (k + 1))))))) : Nat) : Int))])) (fun _ _ hF => opMove rfl (hF.ev 0 rfl)) rfl (fun _ _ => rfl) (kM [false, true, true, true] rfl rfl) (by decide) ?_
      refine pxV (v := (.string (strL (dK (accP (lns (((S.take k) ++ [(x3 + y)]) ++ (S.drop (k + 1))))))))) (fun _ _ hF => opExtract rfl (hF.ev 0 rfl) rfl) rfl (fun _ _ => rfl) (kA rfl) (by decide) ?_
      refine pxV (v := (.slice A16 ((dB (accP (lns (((S.take k) ++ [(x3 + y)]) ++ (S.drop (k + 1)))))).length) c17)) (fun _ _ hF => opExtract rfl (hF.ev 1 rfl) rfl) rfl (fun _ _ => rfl) (kA rfl) (by decide) ?_
      refine pxV (v := (.int .i64 ((((dE (accP (lns (((S.take k) ++ [(x3 + y)]) ++ (S.drop (k + 1))))))) : Nat) : Int))) (fun _ _ hF => opExtract rfl (hF.ev 2 rfl) rfl) rfl (fun _ _ => rfl) (kM [true, true, false, true, true, true] rfl rfl) (by decide) ?_
      refine pxV (v := (.string (strL (dK (accP (lns (((S.take k) ++ [(x3 + y)]) ++ (S.drop (k + 1))))))))) (fun _ _ hF => opAssign rfl (hF.ev 2 rfl)) rfl (fun _ _ => rfl) (kM [true, true, false, true, true, true] rfl rfl) (by decide) ?_
      refine pxV (v := (.slice A16 ((dB (accP (lns (((S.take k) ++ [(x3 + y)]) ++ (S.drop (k + 1)))))).length) c17)) (fun _ _ hF => opAssign rfl (hF.ev 2 rfl)) rfl (fun _ _ => rfl) (kM [true, true, false, true, true, true] rfl rfl) (by decide) ?_
      refine pxV (v := (.int .i64 ((((dE (accP (lns (((S.take k) ++ [(x3 + y)]) ++ (S.drop (k + 1))))))) : Nat) : Int))) (fun _ _ hF => opAssign rfl (hF.ev 2 rfl)) rfl (fun _ _ => rfl) (kM [true, true, false, true, true, true] rfl rfl) (by decide) ?_
      refine pxEnd ?_
      refine qxThen ?_
      refine cxSeq ?_
      refine cxReg ?_
      refine pxV (v := (.string (strL (dK (accP (lns (((S.take k) ++ [(x3 + y)]) ++ (S.drop (k + 1))))))))) (fun _ _ hF => opMove rfl (hF.ev 5 rfl)) rfl (fun _ _ => rfl) (kM [true, true, true, true, true, false] rfl rfl) (by decide) ?_
      refine pxV (v := (.string (strL (dK (accP (lns (((S.take k) ++ [(x3 + y)]) ++ (S.drop (k + 1))))))))) (fun _ _ hF => opMove rfl (hF.ev 3 rfl)) rfl (fun _ _ => rfl) (kM [true, true, true, false, true, true] rfl rfl) (by decide) ?_
      refine pxV (v := (.bool true)) (fun _ _ hF => opEqLb (l := (dK (accP (lns (((S.take k) ++ [(x3 + y)]) ++ (S.drop (k + 1))))))) (m := (dK (accP (lns (((S.take k) ++ [(x3 + y)]) ++ (S.drop (k + 1))))))) rfl (hF.ev 1 rfl) (hF.ev 0 rfl) (decide_eq_true (rfl))) rfl (fun _ _ => rfl) (kM [false, false, true, true, true, true] rfl rfl) (by decide) ?_
      refine pxV (v := (.bool true)) (fun _ _ hF => opMove rfl (hF.ev 0 rfl)) rfl (fun _ _ => rfl) (kM [false, true, true, true, true] rfl rfl) (by decide) ?_
      refine pxV (v := (.slice A9 ((dB (accP (lns (((S.take k) ++ [(x3 + y)]) ++ (S.drop (k + 1)))))).length) c10)) (fun _ _ hF => opMove rfl (hF.ev 4 rfl)) rfl (gOn 0 rfl rfl rfl (by decide)) (kM [true, true, true, true, false] rfl rfl) (by decide) ?_
      refine pxS (v := (.string (strL (dB (accP (lns (((S.take k) ++ [(x3 + y)]) ++ (S.drop (k + 1))))))))) (fun w => Vu cByte w A9 ((dB (accP (lns (((S.take k) ++ [(x3 + y)]) ++ (S.drop (k + 1)))))).length) c10 (dB (accP (lns (((S.take k) ++ [(x3 + y)]) ++ (S.drop (k + 1))))))) (hO12.vuAt (hH.has 1 rfl)) (fun _ _ hF hS => opStr (e := 5) rfl (by kernel_rfl) (by kernel_rfl) (by kernel_rfl) (hF.ev 0 rfl) hS) rfl (gOn 1 rfl rfl rfl (by decide)) (kM [false, true, true, true, true] rfl rfl) (by decide) ?_
      refine pxV (v := (.slice A16 ((dB (accP (lns (((S.take k) ++ [(x3 + y)]) ++ (S.drop (k + 1)))))).length) c17)) (fun _ _ hF => opMove rfl (hF.ev 3 rfl)) rfl (gOn 1 rfl rfl rfl (by decide)) (kM [true, true, true, false, true] rfl rfl) (by decide) ?_
      refine pxS (v := (.string (strL (dB (accP (lns (((S.take k) ++ [(x3 + y)]) ++ (S.drop (k + 1))))))))) (fun w => Vu cByte w A16 ((dB (accP (lns (((S.take k) ++ [(x3 + y)]) ++ (S.drop (k + 1)))))).length) c17 (dB (accP (lns (((S.take k) ++ [(x3 + y)]) ++ (S.drop (k + 1))))))) (hO19.vuAt (hH.has 2 rfl)) (fun _ _ hF hS => opStr (e := 5) rfl (by kernel_rfl) (by kernel_rfl) (by kernel_rfl) (hF.ev 0 rfl) hS) rfl (gOn 2 rfl rfl rfl (by decide)) (kM [false, true, true, true, true] rfl rfl) (by decide) ?_
      refine pxV (v := (.bool true)) (fun _ _ hF => opEqLb (l := (dB (accP (lns (((S.take k) ++ [(x3 + y)]) ++ (S.drop (k + 1))))))) (m := (dB (accP (lns (((S.take k) ++ [(x3 + y)]) ++ (S.drop (k + 1))))))) rfl (hF.ev 1 rfl) (hF.ev 0 rfl) (decide_eq_true (rfl))) rfl (gOn 2 rfl rfl rfl (by decide)) (kM [false, false, true, true, true] rfl rfl) (by decide) ?_
      refine pxV (v := (.bool true)) (fun _ _ hF => opPickT rfl (hF.ev 1 rfl) (hF.ev 0 rfl)) rfl (fun _ _ => rfl) (kM [false, false, true, true] rfl rfl) (by decide) ?_
      refine pxV (v := (.bool true)) (fun _ _ hF => opMove rfl (hF.ev 0 rfl)) rfl (fun _ _ => rfl) (kM [false, true, true] rfl rfl) (by decide) ?_
      refine pxV (v := (.int .i64 ((((dE (accP (lns (((S.take k) ++ [(x3 + y)]) ++ (S.drop (k + 1))))))) : Nat) : Int))) (fun _ _ hF => opMove rfl (hF.ev 2 rfl)) rfl (gOn 0 rfl rfl rfl (by decide)) (kM [true, true, false] rfl rfl) (by decide) ?_
      refine pxV (v := (.int .i64 ((((dE (accP (lns (((S.take k) ++ [(x3 + y)]) ++ (S.drop (k + 1))))))) : Nat) : Int))) (fun _ _ hF => opMove rfl (hF.ev 2 rfl)) rfl (gOn 1 rfl rfl rfl (by decide)) (kM [true, true, false] rfl rfl) (by decide) ?_
      refine pxV (v := (.bool true)) (fun _ _ hF => opEqI rfl (hF.ev 1 rfl) (hF.ev 0 rfl) (decide_eq_true (rfl))) rfl (gOn 2 rfl rfl rfl (by decide)) (kM [false, false, true] rfl rfl) (by decide) ?_
      refine pxV (v := (.bool true)) (fun _ _ hF => opPickT rfl (hF.ev 1 rfl) (hF.ev 0 rfl)) rfl (fun _ _ => rfl) (kM [false, false] rfl rfl) (by decide) ?_
      refine pxV (v := (.bool true)) (fun _ _ hF => opAssign rfl (hF.ev 0 rfl)) rfl (fun _ _ => rfl) (kM [false] rfl rfl) (by decide) ?_
      refine pxEnd ?_
      refine qxThen ?_
      refine cxRet ?_
      refine qxRet1 0 rfl rfl ?_
      exact ⟨rfl, hH.toBelow⟩
    · refine cxSeq ?_
      refine cxReg ?_
      refine pxV (v := (.bool (decide (v.toNat % 3 = 1)))) (fun _ _ hF => opEqI rfl (hF.ev 1 rfl) rfl (dc (by omega))) rfl (fun _ _ => rfl) (kM [false, false, true, true, true, true] rfl rfl) (by decide) ?_
      refine pxV (v := (.bool (decide (v.toNat % 3 = 1)))) (fun _ _ hF => opAssign rfl (hF.ev 0 rfl)) rfl (fun _ _ => rfl) (kM [false, true, true, true, true] rfl rfl) (by decide) ?_
      refine pxEnd ?_
      refine qxThen ?_
      refine cxP 0 rfl rfl (fun hc21 => ?_) (fun hc21 => ?_)
      · refine cxRegX mixedOrders (by kernel_rfl) ?_
        replace hH := hH.drew
        refine rxV 0 rfl (by kernel_rfl) rfl (fun _ _ => rfl) (fun _ _ hF => opMove rfl (hF.ev 3 rfl)) (kM [false, true, true, true, true] rfl rfl) (by decide) (v := (.string (strL S))) ?_
        refine rxV 1 rfl (by kernel_rfl) rfl (fun _ _ => rfl) (fun _ _ hF => opMove rfl (hF.ev 2 rfl)) (kA rfl) (by decide) (v := (.int .i64 (((k) : Nat) : Int))) ?_
        refine rxV 2 rfl (by kernel_rfl) rfl (fun _ _ => rfl) (fun _ _ hF => opSlcHL (l := S) (h := k) (r := (S.take k)) rfl (by kernel_rfl) (hF.ev 1 rfl) (hF.ev 0 rfl) rfl (by omega) (rfl)) (kM [false, false, true, true, true, true] rfl rfl) (by decide) (v := (.string (strL (S.take k)))) ?_
        refine rxV 3 rfl (by kernel_rfl) rfl (fun _ _ => rfl) (fun _ _ hF => opMove rfl (hF.ev 4 rfl)) (kM [true, true, true, true, false] rfl rfl) (by decide) (v := (.int .u8 (((y.toNat) : Nat) : Int))) ?_
        refine rxV 7 rfl (by kernel_rfl) rfl (fun _ _ => rfl) (fun _ _ hF => opMove rfl (hF.ev 4 rfl)) (kM [true, true, true, true, false] rfl rfl) (by decide) (v := (.string (strL S))) ?_
        refine rxV 8 rfl (by kernel_rfl) rfl (fun _ _ => rfl) (fun _ _ hF => opMove rfl (hF.ev 4 rfl)) (kM [true, true, true, true, false] rfl rfl) (by decide) (v := (.int .i64 (((k) : Nat) : Int))) ?_
        refine rxV 9 rfl (by kernel_rfl) rfl (fun _ _ => rfl) (fun _ _ hF => opSlcLL (l := S) (k := k) (r := (S.drop k)) rfl (by kernel_rfl) (hF.ev 1 rfl) (hF.ev 0 rfl) rfl (by omega) (rfl)) (kM [false, false, true, true, true] rfl rfl) (by decide) (v := (.string (strL (S.drop k)))) ?_
        refine rx1 4 (by kernel_rfl) ?_
        refine moM rfl hH (fun _ hF => smLit1 (e := 5) (sz := 1) (z := (.int .u8 0)) (by_ := 1) (cs := cByte.enc y) rfl (by kernel_rfl) (by kernel_rfl) (hF.ev 1 rfl) (cByte.len y) (ltb rfl) (leb rfl) rfl) trivial rfl (fun _ _ => rfl) (kM [true, false, true, true] rfl rfl) (by decide) (PendOk.nil _ []) ?_
        clear hH
        rintro _ _ w ⟨g22, rfl, rfl⟩ hH
        replace hH : HH w0 [] [[bl g22 5 (cByte.enc y)]] w := hH
        refine ⟨(fun _ hs => by cases hs), ?_⟩
        refine rxS (fun w => Vu cByte w (some ⟨g22, 0, none⟩) 1 1 ([y])) 5 rfl (by kernel_rfl) rfl (fun _ _ => rfl) ((Bk.lit1 (C := cByte) y).vu (n := 1) (hH.blk 0 rfl) rfl) (fun _ _ hF hS => opStr (e := 5) rfl (by kernel_rfl) (by kernel_rfl) (by kernel_rfl) (hF.ev 0 rfl) hS) (kM [false, true, true, true] rfl rfl) (by decide) (v := (.string (strL ([y])))) ?_
        refine rxV 6 rfl (by kernel_rfl) rfl (fun _ _ => rfl) (fun _ _ hF => opAddL (l := (S.take k)) (m := [y]) (r := ((S.take k) ++ [y])) rfl (hF.ev 2 rfl) (hF.ev 0 rfl) (by first | omega | (simp only [List.length_append]; omega) | (simp only [List.length_cons, List.length_nil]; omega) | (simp only [List.length_append, List.length_cons, List.length_nil]; omega)) (rfl)) (kM [false, true, false, true] rfl rfl) (by decide) (v := (.string (strL ((S.take k) ++ [y])))) ?_
        refine rxV 10 rfl (by kernel_rfl) rfl (fun _ _ => rfl) (fun _ _ hF => opAddL (l := ((S.take k) ++ [y])) (m := (S.drop k)) (r := (((S.take k) ++ [y]) ++ (S.drop k))) rfl (hF.ev 0 rfl) (hF.ev 1 rfl) (by first | omega | (simp only [List.length_append]; omega) | (simp only [List.length_cons, List.length_nil]; omega) | (simp only [List.length_append, List.length_cons, List.length_nil]; omega)) (rfl)) (kM [false, false, true] rfl rfl) (by decide) (v := (.string (strL (((S.take k) ++ [y]) ++ (S.drop k))))) ?_
        refine rxV 11 rfl (by kernel_rfl) rfl (fun _ _ => rfl) (fun _ _ hF => opAssign rfl (hF.ev 0 rfl)) (kM [false, false] rfl rfl) (by decide) (v := (.string (strL (((S.take k) ++ [y]) ++ (S.drop k))))) ?_
        refine rxEnd (by kernel_rfl) ?_
        refine qxInN ?_
        refine qxThen ?_
        refine cxSeq ?_
        refine cxReg ?_
        refine pxV (v := (.string (strL (((S.take k) ++ [y]) ++ (S.drop k))))) (fun _ _ hF => opMove rfl (hF.ev 0 rfl)) rfl (fun _ _ => rfl) (kA rfl) (by decide) ?_
        refine pxM hH (fun _ hF => Does.small (decode_c (((S.take k) ++ [y]) ++ (S.drop k)) (by first | omega | (simp only [List.length_append]; omega) | (simp only [List.length_append, List.length_cons, List.length_nil]; omega))) (fun w => opCall rfl Tryd.func10 rfl rfl (Evs.cons (v := (.string (strL (((S.take k) ++ [y]) ++ (S.drop k))))) (hF.ev 0 rfl) Evs.nil) w)) (hmaxl hH hM) rfl (fun _ _ => rfl) (kM [false, true] rfl rfl) (by decide) ?_
        clear hH
        rintro v27 E23 w hD24 hH
        replace hH : HH w0 [] [[bl g22 5 (cByte.enc y)], E23] w := hH
        obtain ⟨A25, c26, rfl, hO28⟩ := hD24
        refine pxV (v := (.tuple #[(.string (strL (dK (accP (lns (((S.take k) ++ [y]) ++ (S.drop k))))))), (.slice A25 ((dB (accP (lns (((S.take k) ++ [y]) ++ (S.drop k))))).length) c26), (.int .i64 ((((dE (accP (lns (((S.take k) ++ [y]) ++ (S.drop k)))))) : Nat) : Int))])) (fun _ _ hF => opMove rfl (hF.ev 0 rfl)) rfl (fun _ _ => rfl) (kM [false, true] rfl rfl) (by decide) ?_
        refine pxV (v := (.string (strL (dK (accP (lns (((S.take k) ++ [y]) ++ (S.drop k)))))))) (fun _ _ hF => opExtract rfl (hF.ev 0 rfl) rfl) rfl (fun _ _ => rfl) (kA rfl) (by decide) ?_
        refine pxV (v := (.slice A25 ((dB (accP (lns (((S.take k) ++ [y]) ++ (S.drop k))))).length) c26)) (fun _ _ hF => opExtract rfl (hF.ev 1 rfl) rfl) rfl (fun _ _ => rfl) (kA rfl) (by decide) ?_
        refine pxV (v := (.int .i64 ((((dE (accP (lns (((S.take k) ++ [y]) ++ (S.drop k)))))) : Nat) : Int))) (fun _ _ hF => opExtract rfl (hF.ev 2 rfl) rfl) rfl (fun _ _ => rfl) (kM [true, true, false, true] rfl rfl) (by decide) ?_
        refine pxV (v := (.string (strL (dK (accP (lns (((S.take k) ++ [y]) ++ (S.drop k)))))))) (fun _ _ hF => opAssign rfl (hF.ev 2 rfl)) rfl (fun _ _ => rfl) (kM [true, true, false, true] rfl rfl) (by decide) ?_
        refine pxV (v := (.slice A25 ((dB (accP (lns (((S.take k) ++ [y]) ++ (S.drop k))))).length) c26)) (fun _ _ hF => opAssign rfl (hF.ev 2 rfl)) rfl (fun _ _ => rfl) (kM [true, true, false, true] rfl rfl) (by decide) ?_
        refine pxV (v := (.int .i64 ((((dE (accP (lns (((S.take k) ++ [y]) ++ (S.drop k)))))) : Nat) : Int))) (fun _ _ hF => opAssign rfl (hF.ev 2 rfl)) rfl (fun _ _ => rfl) (kM [true, true, false, true] rfl rfl) (by decide) ?_
        refine pxEnd ?_
        refine qxThen ?_
        refine cxSeq ?_
        refine cxReg ?_
        refine pxV (v := (.string (strL (((S.take k) ++ [y]) ++ (S.drop k))))) (fun _ _ hF => opMove rfl (hF.ev 3 rfl)) rfl (fun _ _ => rfl) (kM [true, true, true, false] rfl rfl) (by decide) ?_
        refine pxM hH (fun _ hF => Does.small (rdecode_p (((S.take k) ++ [y]) ++ (S.drop k)) (by first | omega | (simp only [List.length_append]; omega) | (simp only [List.length_append, List.length_cons, List.length_nil]; omega))) (fun w => opCall rfl Tryd.func11 rfl rfl (Evs.cons (v := (.string (strL (((S.take k) ++ [y]) ++ (S.drop k))))) (hF.ev 0 rfl) Evs.nil) w)) trivial rfl (fun _ _ => rfl) (kM [false, true, true, true] rfl rfl) (by decide) ?_
        clear hH
        rintro v34 E30 w hD31 hH
        replace hH : HH w0 [] [[bl g22 5 (cByte.enc y)], E23, E30] w := hH
        obtain ⟨A32, c33, rfl, hO35⟩ := hD31
        refine pxV (v := (.tuple #[(.string (strL (dK (accP (lns (((S.take k) ++ [y]) ++ (S.drop k))))))), (.slice A32 ((dB (accP (lns (((S.take k) ++ [y]) ++ (S.drop k))))).length) c33), (.int .i64 ((((dE (accP (lns (((S.take k) ++ [y]) ++ (S.drop k)))))) : Nat) : Int))])) (fun _ _ hF => opMove rfl (hF.ev 0 rfl)) rfl (fun _ _ => rfl) (kM [false, true, true, true] rfl rfl) (by decide) ?_
        refine pxV (v := (.string (strL (dK (accP (lns (((S.take k) ++ [y]) ++ (S.drop k)))))))) (fun _ _ hF => opExtract rfl (hF.ev 0 rfl) rfl) rfl (fun _ _ => rfl) (kA rfl) (by decide) ?_
        refine pxV (v := (.slice A32 ((dB (accP (lns (((S.take k) ++ [y]) ++ (S.drop k))))).length) c33)) (fun _ _ hF => opExtract rfl (hF.ev 1 rfl) rfl) rfl (fun _ _ => rfl) (kA rfl) (by decide) ?_
        refine pxV (v := (.int .i64 ((((dE (accP (lns (((S.take k) ++ [y]) ++ (S.drop k)))))) : Nat) : Int))) (fun _ _ hF => opExtract rfl (hF.ev 2 rfl) rfl) rfl (fun _ _ => rfl) (kM [true, true, false, true, true, true] rfl rfl) (by decide) ?_
        refine pxV (v := (.string (strL (dK (accP (lns (((S.take k) ++ [y]) ++ (S.drop k)))))))) (fun _ _ hF => opAssign rfl (hF.ev 2 rfl)) rfl (fun _ _ => rfl) (kM [true, true, false, true, true, true] rfl rfl) (by decide) ?_
        refine pxV (v := (.slice A32 ((dB (accP (lns (((S.take k) ++ [y]) ++ (S.drop k))))).length) c33)) (fun _ _ hF => opAssign rfl (hF.ev 2 rfl)) rfl (fun _ _ => rfl) (kM [true, true, false, true, true, true] rfl rfl) (by decide) ?_
        refine pxV (v := (.int .i64 ((((dE (accP (lns (((S.take k) ++ [y]) ++ (S.drop k)))))) : Nat) : Int))) (fun _ _ hF => opAssign rfl (hF.ev 2 rfl)) rfl (fun _ _ => rfl) (kM [true, true, false, true, true, true] rfl rfl) (by decide) ?_
        refine pxEnd ?_
        refine qxThen ?_
        refine cxSeq ?_
        refine cxReg ?_
        refine pxV (v := (.string (strL (dK (accP (lns (((S.take k) ++ [y]) ++ (S.drop k)))))))) (fun _ _ hF => opMove rfl (hF.ev 5 rfl)) rfl (fun _ _ => rfl) (kM [true, true, true, true, true, false] rfl rfl) (by decide) ?_
        refine pxV (v := (.string (strL (dK (accP (lns (((S.take k) ++ [y]) ++ (S.drop k)))))))) (fun _ _ hF => opMove rfl (hF.ev 3 rfl)) rfl (fun _ _ => rfl) (kM [true, true, true, false, true, true] rfl rfl) (by decide) ?_
        refine pxV (v := (.bool true)) (fun _ _ hF => opEqLb (l := (dK (accP (lns (((S.take k) ++ [y]) ++ (S.drop k)))))) (m := (dK (accP (lns (((S.take k) ++ [y]) ++ (S.drop k)))))) rfl (hF.ev 1 rfl) (hF.ev 0 rfl) (decide_eq_true (rfl))) rfl (fun _ _ => rfl) (kM [false, false, true, true, true, true] rfl rfl) (by decide) ?_
        refine pxV (v := (.bool true)) (fun _ _ hF => opMove rfl (hF.ev 0 rfl)) rfl (fun _ _ => rfl) (kM [false, true, true, true, true] rfl rfl) (by decide) ?_
        refine pxV (v := (.slice A25 ((dB (accP (lns (((S.take k) ++ [y]) ++ (S.drop k))))).length) c26)) (fun _ _ hF => opMove rfl (hF.ev 4 rfl)) rfl (gOn 0 rfl rfl rfl (by decide)) (kM [true, true, true, true, false] rfl rfl) (by decide) ?_
        refine pxS (v := (.string (strL (dB (accP (lns (((S.take k) ++ [y]) ++ (S.drop k)))))))) (fun w => Vu cByte w A25 ((dB (accP (lns (((S.take k) ++ [y]) ++ (S.drop k))))).length) c26 (dB (accP (lns (((S.take k) ++ [y]) ++ (S.drop k)))))) (hO28.vuAt (hH.has 1 rfl)) (fun _ _ hF hS => opStr (e := 5) rfl (by kernel_rfl) (by kernel_rfl) (by kernel_rfl) (hF.ev 0 rfl) hS) rfl (gOn 1 rfl rfl rfl (by decide)) (kM [false, true, true, true, true] rfl rfl) (by decide) ?_
        refine pxV (v := (.slice A32 ((dB (accP (lns (((S.take k) ++ [y]) ++ (S.drop k))))).length) c33)) (fun _ _ hF => opMove rfl (hF.ev 3 rfl)) rfl (gOn 1 rfl rfl rfl (by decide)) (kM [true, true, true, false, true] rfl rfl) (by decide) ?_
        refine pxS (v := (.string (strL (dB (accP (lns (((S.take k) ++ [y]) ++ (S.drop k)))))))) (fun w => Vu cByte w A32 ((dB (accP (lns (((S.take k) ++ [y]) ++ (S.drop k))))).length) c33 (dB (accP (lns (((S.take k) ++ [y]) ++ (S.drop k)))))) (hO35.vuAt (hH.has 2 rfl)) (fun _ _ hF hS => opStr (e := 5) rfl (by kernel_rfl) (by kernel_rfl) (by kernel_rfl) (hF.ev 0 rfl) hS) rfl (gOn 2 rfl rfl rfl (by decide)) (kM [false, true, true, true, true] rfl rfl) (by decide) ?_
        refine pxV (v := (.bool true)) (fun _ _ hF => opEqLb (l := (dB (accP (lns (((S.take k) ++ [y]) ++ (S.drop k)))))) (m := (dB (accP (lns (((S.take k) ++ [y]) ++ (S.drop k)))))) rfl (hF.ev 1 rfl) (hF.ev 0 rfl) (decide_eq_true (rfl))) rfl (gOn 2 rfl rfl rfl (by decide)) (kM [false, false, true, true, true] rfl rfl) (by decide) ?_
        refine pxV (v := (.bool true)) (fun _ _ hF => opPickT rfl (hF.ev 1 rfl) (hF.ev 0 rfl)) rfl (fun _ _ => rfl) (kM [false, false, true, true] rfl rfl) (by decide) ?_
        refine pxV (v := (.bool true)) (fun _ _ hF => opMove rfl (hF.ev 0 rfl)) rfl (fun _ _ => rfl) (kM [false, true, true] rfl rfl) (by decide) ?_
        refine pxV (v := (.int .i64 ((((dE (accP (lns (((S.take k) ++ [y]) ++ (S.drop k)))))) : Nat) : Int))) (fun _ _ hF => opMove rfl (hF.ev 2 rfl)) rfl (gOn 0 rfl rfl rfl (by decide)) (kM [true, true, false] rfl rfl) (by decide) ?_
        refine pxV (v := (.int .i64 ((((dE (accP (lns (((S.take k) ++ [y]) ++ (S.drop k)))))) : Nat) : Int))) (fun _ _ hF => opMove rfl (hF.ev 2 rfl)) rfl (gOn 1 rfl rfl rfl (by decide)) (kM [true, true, false] rfl rfl) (by decide) ?_
        refine pxV (v := (.bool true)) (fun _ _ hF => opEqI rfl (hF.ev 1 rfl) (hF.ev 0 rfl) (decide_eq_true (rfl))) rfl (gOn 2 rfl rfl rfl (by decide)) (kM [false, false, true] rfl rfl) (by decide) ?_
        refine pxV (v := (.bool true)) (fun _ _ hF => opPickT rfl (hF.ev 1 rfl) (hF.ev 0 rfl)) rfl (fun _ _ => rfl) (kM [false, false] rfl rfl) (by decide) ?_
        refine pxV (v := (.bool true)) (fun _ _ hF => opAssign rfl (hF.ev 0 rfl)) rfl (fun _ _ => rfl) (kM [false] rfl rfl) (by decide) ?_
        refine pxEnd ?_
        refine qxThen ?_
        refine cxRet ?_
        refine qxRet1 0 rfl rfl ?_
        exact ⟨rfl, hH.toBelow⟩
      · refine cxSkip ?_
        refine qxInN ?_
        refine qxThen ?_
        refine cxSeq ?_
        refine cxReg ?_
        refine pxV (v := (.string (strL (S.take k)))) (fun _ _ hF => opMove rfl (hF.ev 1 rfl)) rfl (fun _ _ => rfl) (kM [false, true, false, false, false] rfl rfl) (by decide) ?_
        refine pxM hH (fun _ hF => Does.small (decode_c (S.take k) (by first | omega | (simp only [List.length_append]; omega) | (simp only [List.length_append, List.length_cons, List.length_nil]; omega))) (fun w => opCall rfl Tryd.func10 rfl rfl (Evs.cons (v := (.string (strL (S.take k)))) (hF.ev 0 rfl) Evs.nil) w)) (hmaxl hH hM) rfl (fun _ _ => rfl) (kM [false, true] rfl rfl) (by decide) ?_
        clear hH
        rintro v41 E37 w hD38 hH
        replace hH : HH w0 [] [E37] w := hH
        obtain ⟨A39, c40, rfl, hO42⟩ := hD38
        refine pxV (v := (.tuple #[(.string (strL (dK (accP (lns (S.take k)))))), (.slice A39 ((dB (accP (lns (S.take k)))).length) c40), (.int .i64 ((((dE (accP (lns (S.take k))))) : Nat) : Int))])) (fun _ _ hF => opMove rfl (hF.ev 0 rfl)) rfl (fun _ _ => rfl) (kM [false, true] rfl rfl) (by decide) ?_
        refine pxV (v := (.string (strL (dK (accP (lns (S.take k))))))) (fun _ _ hF => opExtract rfl (hF.ev 0 rfl) rfl) rfl (fun _ _ => rfl) (kA rfl) (by decide) ?_
        refine pxV (v := (.slice A39 ((dB (accP (lns (S.take k)))).length) c40)) (fun _ _ hF => opExtract rfl (hF.ev 1 rfl) rfl) rfl (fun _ _ => rfl) (kA rfl) (by decide) ?_
        refine pxV (v := (.int .i64 ((((dE (accP (lns (S.take k))))) : Nat) : Int))) (fun _ _ hF => opExtract rfl (hF.ev 2 rfl) rfl) rfl (fun _ _ => rfl) (kM [true, true, false, true] rfl rfl) (by decide) ?_
        refine pxV (v := (.string (strL (dK (accP (lns (S.take k))))))) (fun _ _ hF => opAssign rfl (hF.ev 2 rfl)) rfl (fun _ _ => rfl) (kM [true, true, false, true] rfl rfl) (by decide) ?_
        refine pxV (v := (.slice A39 ((dB (accP (lns (S.take k)))).length) c40)) (fun _ _ hF => opAssign rfl (hF.ev 2 rfl)) rfl (fun _ _ => rfl) (kM [true, true, false, true] rfl rfl) (by decide) ?_
        refine pxV (v := (.int .i64 ((((dE (accP (lns (S.take k))))) : Nat) : Int))) (fun _ _ hF => opAssign rfl (hF.ev 2 rfl)) rfl (fun _ _ => rfl) (kM [true, true, false, true] rfl rfl) (by decide) ?_
        refine pxEnd ?_
        refine qxThen ?_
        refine cxSeq ?_
        refine cxReg ?_
        refine pxV (v := (.string (strL (S.take k)))) (fun _ _ hF => opMove rfl (hF.ev 3 rfl)) rfl (fun _ _ => rfl) (kM [true, true, true, false] rfl rfl) (by decide) ?_
        refine pxM hH (fun _ hF => Does.small (rdecode_p (S.take k) (by first | omega | (simp only [List.length_append]; omega) | (simp only [List.length_append, List.length_cons, List.length_nil]; omega))) (fun w => opCall rfl Tryd.func11 rfl rfl (Evs.cons (v := (.string (strL (S.take k)))) (hF.ev 0 rfl) Evs.nil) w)) trivial rfl (fun _ _ => rfl) (kM [false, true, true, true] rfl rfl) (by decide) ?_
        clear hH
        rintro v48 E44 w hD45 hH
        replace hH : HH w0 [] [E37, E44] w := hH
        obtain ⟨A46, c47, rfl, hO49⟩ := hD45
        refine pxV (v := (.tuple #[(.string (strL (dK (accP (lns (S.take k)))))), (.slice A46 ((dB (accP (lns (S.take k)))).length) c47), (.int .i64 ((((dE (accP (lns (S.take k))))) : Nat) : Int))])) (fun _ _ hF => opMove rfl (hF.ev 0 rfl)) rfl (fun _ _ => rfl) (kM [false, true, true, true] rfl rfl) (by decide) ?_
        refine pxV (v := (.string (strL (dK (accP (lns (S.take k))))))) (fun _ _ hF => opExtract rfl (hF.ev 0 rfl) rfl) rfl (fun _ _ => rfl) (kA rfl) (by decide) ?_
        refine pxV (v := (.slice A46 ((dB (accP (lns (S.take k)))).length) c47)) (fun _ _ hF => opExtract rfl (hF.ev 1 rfl) rfl) rfl (fun _ _ => rfl) (kA rfl) (by decide) ?_
        refine pxV (v := (.int .i64 ((((dE (accP (lns (S.take k))))) : Nat) : Int))) (fun _ _ hF => opExtract rfl (hF.ev 2 rfl) rfl) rfl (fun _ _ => rfl) (kM [true, true, false, true, true, true] rfl rfl) (by decide) ?_
        refine pxV (v := (.string (strL (dK (accP (lns (S.take k))))))) (fun _ _ hF => opAssign rfl (hF.ev 2 rfl)) rfl (fun _ _ => rfl) (kM [true, true, false, true, true, true] rfl rfl) (by decide) ?_
        refine pxV (v := (.slice A46 ((dB (accP (lns (S.take k)))).length) c47)) (fun _ _ hF => opAssign rfl (hF.ev 2 rfl)) rfl (fun _ _ => rfl) (kM [true, true, false, true, true, true] rfl rfl) (by decide) ?_
        refine pxV (v := (.int .i64 ((((dE (accP (lns (S.take k))))) : Nat) : Int))) (fun _ _ hF => opAssign rfl (hF.ev 2 rfl)) rfl (fun _ _ => rfl) (kM [true, true, false, true, true, true] rfl rfl) (by decide) ?_
        refine pxEnd ?_
        refine qxThen ?_
        refine cxSeq ?_
        refine cxReg ?_
        refine pxV (v := (.string (strL (dK (accP (lns (S.take k))))))) (fun _ _ hF => opMove rfl (hF.ev 5 rfl)) rfl (fun _ _ => rfl) (kM [true, true, true, true, true, false] rfl rfl) (by decide) ?_
        refine pxV (v := (.string (strL (dK (accP (lns (S.take k))))))) (fun _ _ hF => opMove rfl (hF.ev 3 rfl)) rfl (fun _ _ => rfl) (kM [true, true, true, false, true, true] rfl rfl) (by decide) ?_
        refine pxV (v := (.bool true)) (fun _ _ hF => opEqLb (l := (dK (accP (lns (S.take k))))) (m := (dK (accP (lns (S.take k))))) rfl (hF.ev 1 rfl) (hF.ev 0 rfl) (decide_eq_true (rfl))) rfl (fun _ _ => rfl) (kM [false, false, true, true, true, true] rfl rfl) (by decide) ?_
        refine pxV (v := (.bool true)) (fun _ _ hF => opMove rfl (hF.ev 0 rfl)) rfl (fun _ _ => rfl) (kM [false, true, true, true, true] rfl rfl) (by decide) ?_
        refine pxV (v := (.slice A39 ((dB (accP (lns (S.take k)))).length) c40)) (fun _ _ hF => opMove rfl (hF.ev 4 rfl)) rfl (gOn 0 rfl rfl rfl (by decide)) (kM [true, true, true, true, false] rfl rfl) (by decide) ?_
        refine pxS (v := (.string (strL (dB (accP (lns (S.take k))))))) (fun w => Vu cByte w A39 ((dB (accP (lns (S.take k)))).length) c40 (dB (accP (lns (S.take k))))) (hO42.vuAt (hH.has 0 rfl)) (fun _ _ hF hS => opStr (e := 5) rfl (by kernel_rfl) (by kernel_rfl) (by kernel_rfl) (hF.ev 0 rfl) hS) rfl (gOn 1 rfl rfl rfl (by decide)) (kM [false, true, true, true, true] rfl rfl) (by decide) ?_
        refine pxV (v := (.slice A46 ((dB (accP (lns (S.take k)))).length) c47)) (fun _ _ hF => opMove rfl (hF.ev 3 rfl)) rfl (gOn 1 rfl rfl rfl (by decide)) (kM [true, true, true, false, true] rfl rfl) (by decide) ?_
        refine pxS (v := (.string (strL (dB (accP (lns (S.take k))))))) (fun w => Vu cByte w A46 ((dB (accP (lns (S.take k)))).length) c47 (dB (accP (lns (S.take k))))) (hO49.vuAt (hH.has 1 rfl)) (fun _ _ hF hS => opStr (e := 5) rfl (by kernel_rfl) (by kernel_rfl) (by kernel_rfl) (hF.ev 0 rfl) hS) rfl (gOn 2 rfl rfl rfl (by decide)) (kM [false, true, true, true, true] rfl rfl) (by decide) ?_
        refine pxV (v := (.bool true)) (fun _ _ hF => opEqLb (l := (dB (accP (lns (S.take k))))) (m := (dB (accP (lns (S.take k))))) rfl (hF.ev 1 rfl) (hF.ev 0 rfl) (decide_eq_true (rfl))) rfl (gOn 2 rfl rfl rfl (by decide)) (kM [false, false, true, true, true] rfl rfl) (by decide) ?_
        refine pxV (v := (.bool true)) (fun _ _ hF => opPickT rfl (hF.ev 1 rfl) (hF.ev 0 rfl)) rfl (fun _ _ => rfl) (kM [false, false, true, true] rfl rfl) (by decide) ?_
        refine pxV (v := (.bool true)) (fun _ _ hF => opMove rfl (hF.ev 0 rfl)) rfl (fun _ _ => rfl) (kM [false, true, true] rfl rfl) (by decide) ?_
        refine pxV (v := (.int .i64 ((((dE (accP (lns (S.take k))))) : Nat) : Int))) (fun _ _ hF => opMove rfl (hF.ev 2 rfl)) rfl (gOn 0 rfl rfl rfl (by decide)) (kM [true, true, false] rfl rfl) (by decide) ?_
        refine pxV (v := (.int .i64 ((((dE (accP (lns (S.take k))))) : Nat) : Int))) (fun _ _ hF => opMove rfl (hF.ev 2 rfl)) rfl (gOn 1 rfl rfl rfl (by decide)) (kM [true, true, false] rfl rfl) (by decide) ?_
        refine pxV (v := (.bool true)) (fun _ _ hF => opEqI rfl (hF.ev 1 rfl) (hF.ev 0 rfl) (decide_eq_true (rfl))) rfl (gOn 2 rfl rfl rfl (by decide)) (kM [false, false, true] rfl rfl) (by decide) ?_
        refine pxV (v := (.bool true)) (fun _ _ hF => opPickT rfl (hF.ev 1 rfl) (hF.ev 0 rfl)) rfl (fun _ _ => rfl) (kM [false, false] rfl rfl) (by decide) ?_
        refine pxV (v := (.bool true)) (fun _ _ hF => opAssign rfl (hF.ev 0 rfl)) rfl (fun _ _ => rfl) (kM [false] rfl rfl) (by decide) ?_
        refine pxEnd ?_
        refine qxThen ?_
        refine cxRet ?_
        refine qxRet1 0 rfl rfl ?_
        exact ⟨rfl, hH.toBelow⟩

end Go.Proofs.YtadbpmcmdcnlfaaDoor
