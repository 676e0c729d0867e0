/- The document's vault; what the laws of layer 10 lean on (mkvr.py writes this text). -/
import Derived.Test.YtglplhbhpaegeaaVkW
namespace Go.Proofs.Ytglplhbhpaegeaa
open Go Go.RowKit
set_option maxRecDepth 100000

theorem head_fn (n s a : Nat) : ovr ((([118, 97, 117, 108, 116, 32, 49, 0] ++ beL 8 n ++ beL 4 s) ++ [UInt8.ofNat a]).take 21) (fun _ => 0) = cutF (hdL n s a) 0 := by
  have hP : (([118, 97, 117, 108, 116, 32, 49, 0] ++ beL 8 n ++ beL 4 s) ++ [UInt8.ofNat a]).length = 21 := by simp [beL_len]
  have hh : hdL n s a = (([118, 97, 117, 108, 116, 32, 49, 0] ++ beL 8 n ++ beL 4 s) ++ [UInt8.ofNat a]) ++ List.replicate 43 0 := by
    unfold hdL word
    simp only [List.append_assoc, List.singleton_append]
  rw [hh, List.take_of_length_le (by omega)]
  generalize (([118, 97, 117, 108, 116, 32, 49, 0] ++ beL 8 n ++ beL 4 s) ++ [UInt8.ofNat a]) = P at hP
  funext k
  unfold ovr cutF
  rw [List.getD_eq_getElem?_getD, List.getD_eq_getElem?_getD, Nat.zero_add]
  by_cases hk : k < P.length
  · rw [if_pos hk, List.getElem?_append_left hk]
  · rw [if_neg hk, List.getElem?_append_right (by omega), List.getElem?_replicate]
    split <;> rfl

set_option maxHeartbeats 8000000 in
theorem head_r (n s a : Nat) (hs : s ≤ 9223372036854775807) : Pure Try.prog 21 #[(.int .u64 (((n) : Nat) : Int)), (.int .i64 (((s) : Nat) : Int)), (.int .i64 (((a) : Nat) : Int))] (fun _ => True) (cSec.val (cutF (hdL n s a) 0)) := by
  refine pure_of (fn := Try.f21) Try.func21 rfl Try.ntmps21 (Nat.le_of_ble_eq_true rfl) rfl ?_
  intro w0 hH hR
  refine cxSeq ?_
  refine cxReg ?_
  refine pxM hH (fun _ hF => smAlloc (cs := cSec.enc (fun _ => 0)) (z := (cSec.val (fun _ => 0))) rfl (by kernel_rfl) rfl) trivial rfl (fun _ _ => rfl) (kA rfl) (by decide) ?_
  clear hH
  rintro _ _ w ⟨g1, rfl, rfl⟩ hH
  replace hH : HH w0 [] [[bl g1 47 (cSec.enc (fun _ => 0))]] w := hH
  refine pxEnd ?_
  refine qxThen ?_
  refine cxSeq ?_
  refine cxReg ?_
  refine pxM hH (fun _ hF => smAlloc (cs := cSec.enc (fun _ => 0)) (z := (cSec.val (fun _ => 0))) rfl (by kernel_rfl) rfl) trivial rfl (fun _ _ => rfl) (kA rfl) (by decide) ?_
  clear hH
  rintro _ _ w ⟨g2, rfl, rfl⟩ hH
  replace hH : HH w0 [] [[bl g1 47 (cSec.enc (fun _ => 0))], [bl g2 47 (cSec.enc (fun _ => 0))]] w := hH
  refine pxEnd ?_
  refine qxThen ?_
  refine cxSeq ?_
  refine cxReg ?_
  refine pxM hH (fun _ hF => smLits (C := cByte) (e := 5) (z := (.int .u8 0)) (by_ := 1) [118, 97, 117, 108, 116, 32, 49, 0] rfl (by kernel_rfl) (by kernel_rfl) (EvP.cons (v := cByte.val 118) rfl (EvP.cons (v := cByte.val 97) rfl (EvP.cons (v := cByte.val 117) rfl (EvP.cons (v := cByte.val 108) rfl (EvP.cons (v := cByte.val 116) rfl (EvP.cons (v := cByte.val 32) rfl (EvP.cons (v := cByte.val 49) rfl (EvP.cons (v := cByte.val 0) rfl EvP.nil)))))))) rfl (ltb rfl) (leb rfl) rfl) trivial rfl (fun _ _ => rfl) (kA rfl) (by decide) ?_
  clear hH
  rintro _ _ w ⟨g3, rfl, rfl⟩ hH
  replace hH : HH w0 [] [[bl g1 47 (cSec.enc (fun _ => 0))], [bl g2 47 (cSec.enc (fun _ => 0))], [bl g3 5 (flat cByte [118, 97, 117, 108, 116, 32, 49, 0]).toArray]] w := hH
  refine pxE 2 hH rfl (fun _ hF => smMark (e := 5) rfl (by kernel_rfl) (by kernel_rfl) (hF.ev 0 rfl)) trivial rfl (fun _ _ => rfl) (kM [false, true, true, true, true, true] rfl rfl) (by decide) ?_
  clear hH
  rintro _ _ w ⟨rfl, rfl⟩ hH
  replace hH : HH w0 [] [[bl g1 47 (cSec.enc (fun _ => 0))], [bl g2 47 (cSec.enc (fun _ => 0))], [mk g3 5 ((flat cByte [118, 97, 117, 108, 116, 32, 49, 0]).toArray)]] w := hH
  refine pxV (v := (.int .u64 (((n) : Nat) : Int))) (fun _ _ hF => opMove rfl (hF.ev 3 rfl)) rfl (fun _ _ => rfl) (kM [true, true, true, false, true, true] rfl rfl) (by decide) ?_
  refine pxM hH (fun _ hF => Does.small (bytes_r n 8 (leb rfl)) (fun w => opCall rfl Try.func33 rfl rfl (Evs.cons (v := (.int .u64 (((n) : Nat) : Int))) (hF.ev 0 rfl) (Evs.cons (v := (.int .i64 8)) rfl Evs.nil)) w)) trivial rfl (fun _ _ => rfl) (kM [false, true, true, true, true, true] rfl rfl) (by decide) ?_
  clear hH
  rintro v8 E4 w hO5 hH
  replace hH : HH w0 [] [[bl g1 47 (cSec.enc (fun _ => 0))], [bl g2 47 (cSec.enc (fun _ => 0))], [mk g3 5 ((flat cByte [118, 97, 117, 108, 116, 32, 49, 0]).toArray)], E4] w := hH
  obtain ⟨A6, c7, rfl⟩ := hO5.slice
  refine pxM hH (fun _ hF => smAppNew (C := cByte) (l := [118, 97, 117, 108, 116, 32, 49, 0]) (m := (beL 8 n)) (e := 5) (z := (.int .u8 0)) (by_ := 1) rfl (by kernel_rfl) (by kernel_rfl) rfl (ltb rfl) (hF.ev 1 rfl) (hF.ev 0 rfl) rfl rfl (fun h => (hO5.nilA h).1) (by rw [beL_len]; omega) (by omega) (by rw [beL_len]; unfold maxLen; omega) (by rw [beL_len]; omega)) ⟨((Bk.lits (C := cByte) [118, 97, 117, 108, 116, 32, 49, 0] (by unfold maxLen; decide)).vuM (hH.blk 2 rfl) rfl), (hO5.vuAt (hH.has 3 rfl))⟩ rfl (fun _ _ => rfl) (kM [false, false, true, true, true, true] rfl rfl) (by decide) ?_
  clear hH
  rintro v12 E13 w hO14 hH
  replace hH : HH w0 [] [[bl g1 47 (cSec.enc (fun _ => 0))], [bl g2 47 (cSec.enc (fun _ => 0))], [mk g3 5 ((flat cByte [118, 97, 117, 108, 116, 32, 49, 0]).toArray)], E4, E13] w := hH
  replace hO14 : OwnT cByte 5 v12 ([118, 97, 117, 108, 116, 32, 49, 0] ++ (beL 8 n)) E13 := hO14
  obtain ⟨A10, c11, rfl⟩ := hO14.slice
  refine pxV (v := (.slice A10 (([118, 97, 117, 108, 116, 32, 49, 0] ++ (beL 8 n)).length) c11)) (fun _ _ hF => opAssign rfl (hF.ev 0 rfl)) rfl (fun _ _ => rfl) (kM [false, true, true, true, true] rfl rfl) (by decide) ?_
  refine pxEnd ?_
  refine qxThen ?_
  refine cxSeq ?_
  refine cxReg ?_
  refine pxV (v := (.slice A10 (([118, 97, 117, 108, 116, 32, 49, 0] ++ (beL 8 n)).length) c11)) (fun _ _ hF => opMove rfl (hF.ev 0 rfl)) rfl (fun _ _ => rfl) (kM [false, true, true, true, true] rfl rfl) (by decide) ?_
  refine pxV (v := (.int .i64 (((s) : Nat) : Int))) (fun _ _ hF => opMove rfl (hF.ev 3 rfl)) rfl (fun _ _ => rfl) (kM [true, true, true, false, true] rfl rfl) (by decide) ?_
  refine pxV (v := (.int .u64 (((s) : Nat) : Int))) (fun _ _ hF => opConvU (k' := .u64) rfl rfl (by kernel_rfl) (by kernel_rfl) (hF.ev 0 rfl) (Nat.mod_eq_of_lt (by show _ < 18446744073709551616; omega))) rfl (fun _ _ => rfl) (kM [false, true, true, true, true] rfl rfl) (by decide) ?_
  refine pxM hH (fun _ hF => Does.small (bytes_r s 4 (leb rfl)) (fun w => opCall rfl Try.func33 rfl rfl (Evs.cons (v := (.int .u64 (((s) : Nat) : Int))) (hF.ev 0 rfl) (Evs.cons (v := (.int .i64 4)) rfl Evs.nil)) w)) trivial rfl (fun _ _ => rfl) (kM [false, true, true, true, true] rfl rfl) (by decide) ?_
  clear hH
  rintro v20 E16 w hO17 hH
  replace hH : HH w0 [] [[bl g1 47 (cSec.enc (fun _ => 0))], [bl g2 47 (cSec.enc (fun _ => 0))], [mk g3 5 ((flat cByte [118, 97, 117, 108, 116, 32, 49, 0]).toArray)], E4, E13, E16] w := hH
  obtain ⟨A18, c19, rfl⟩ := hO17.slice
  refine pxE 4 hH rfl (fun _ hF => smAppT (C := cByte) (l := ([118, 97, 117, 108, 116, 32, 49, 0] ++ (beL 8 n))) (m := (beL 4 s)) (e := 5) (z := (.int .u8 0)) (by_ := 1) rfl (by kernel_rfl) (by kernel_rfl) rfl (ltb rfl) (hF.ev 1 rfl) hO14 (hF.ev 0 rfl) rfl hO17.nilA (by simp only [beL_len, List.length_append, List.length_cons, List.length_nil]; unfold maxLen; omega) (by simp only [beL_len, List.length_append, List.length_cons, List.length_nil]; omega)) (hO17.vuAt (hH.has 5 rfl)) rfl (fun _ _ => rfl) (kM [false, false, true, true, true] rfl rfl) (by decide) ?_
  clear hH
  rintro v24 E25 w ⟨hO26, _⟩ hH
  replace hH : HH w0 [] [[bl g1 47 (cSec.enc (fun _ => 0))], [bl g2 47 (cSec.enc (fun _ => 0))], [mk g3 5 ((flat cByte [118, 97, 117, 108, 116, 32, 49, 0]).toArray)], E4, E25, E16] w := hH
  replace hO26 : OwnT cByte 5 v24 (([118, 97, 117, 108, 116, 32, 49, 0] ++ (beL 8 n)) ++ (beL 4 s)) E25 := hO26
  obtain ⟨A22, c23, rfl⟩ := hO26.slice
  refine pxV (v := (.int .i64 (((a) : Nat) : Int))) (fun _ _ hF => opMove rfl (hF.ev 3 rfl)) rfl (fun _ _ => rfl) (kM [true, true, true, false] rfl rfl) (by decide) ?_
  refine pxV (v := (.int .u8 ((((UInt8.ofNat a).toNat) : Nat) : Int))) (fun _ _ hF => opConvU (k' := .u8) rfl rfl (by kernel_rfl) (by kernel_rfl) (hF.ev 0 rfl) (UInt8.toNat_ofNat' (n := a)).symm) rfl (fun _ _ => rfl) (kM [false, true, true, true] rfl rfl) (by decide) ?_
  refine pxM hH (fun _ hF => smLit1 (e := 5) (sz := 1) (z := (.int .u8 0)) (by_ := 1) (cs := cByte.enc (UInt8.ofNat a)) rfl (by kernel_rfl) (by kernel_rfl) (hF.ev 0 rfl) (cByte.len (UInt8.ofNat a)) (ltb rfl) (leb rfl) rfl) trivial rfl (fun _ _ => rfl) (kM [false, true, true, true] rfl rfl) (by decide) ?_
  clear hH
  rintro _ _ w ⟨g27, rfl, rfl⟩ hH
  replace hH : HH w0 [] [[bl g1 47 (cSec.enc (fun _ => 0))], [bl g2 47 (cSec.enc (fun _ => 0))], [mk g3 5 ((flat cByte [118, 97, 117, 108, 116, 32, 49, 0]).toArray)], E4, E25, E16, [bl g27 5 (cByte.enc (UInt8.ofNat a))]] w := hH
  refine pxE 4 hH rfl (fun _ hF => smAppT (C := cByte) (l := (([118, 97, 117, 108, 116, 32, 49, 0] ++ (beL 8 n)) ++ (beL 4 s))) (m := [(UInt8.ofNat a)]) (e := 5) (z := (.int .u8 0)) (by_ := 1) rfl (by kernel_rfl) (by kernel_rfl) rfl (ltb rfl) (hF.ev 1 rfl) hO26 (hF.ev 0 rfl) rfl (fun h => by cases h) (by simp only [beL_len, List.length_append, List.length_cons, List.length_nil]; unfold maxLen; omega) (by simp only [beL_len, List.length_append, List.length_cons, List.length_nil]; omega)) ((Bk.lit1 (C := cByte) (UInt8.ofNat a)).vu (hH.blk 6 rfl) rfl) rfl (fun _ _ => rfl) (kM [false, false, true, true] rfl rfl) (by decide) ?_
  clear hH
  rintro v30 E31 w ⟨hO32, _⟩ hH
  replace hH : HH w0 [] [[bl g1 47 (cSec.enc (fun _ => 0))], [bl g2 47 (cSec.enc (fun _ => 0))], [mk g3 5 ((flat cByte [118, 97, 117, 108, 116, 32, 49, 0]).toArray)], E4, E31, E16, [bl g27 5 (cByte.enc (UInt8.ofNat a))]] w := hH
  replace hO32 : OwnT cByte 5 v30 ((([118, 97, 117, 108, 116, 32, 49, 0] ++ (beL 8 n)) ++ (beL 4 s)) ++ [(UInt8.ofNat a)]) E31 := hO32
  obtain ⟨A28, c29, rfl⟩ := hO32.slice
  refine pxV (v := (.slice A28 (((([118, 97, 117, 108, 116, 32, 49, 0] ++ (beL 8 n)) ++ (beL 4 s)) ++ [(UInt8.ofNat a)]).length) c29)) (fun _ _ hF => opAssign rfl (hF.ev 0 rfl)) rfl (fun _ _ => rfl) (kM [false, true, true] rfl rfl) (by decide) ?_
  refine pxEnd ?_
  refine qxThen ?_
  refine cxSeq ?_
  refine cxReg ?_
  refine pxV (v := (.slice (some ⟨g2, 0, none⟩) 64 64)) (fun _ _ hF => opSliceA (n := 64) (e := 5) (sz := 1) rfl (by kernel_rfl) (by kernel_rfl) (hF.ev 1 rfl)) rfl (fun _ _ => rfl) (kA rfl) (by decide) ?_
  refine pxV (v := (.slice A28 (((([118, 97, 117, 108, 116, 32, 49, 0] ++ (beL 8 n)) ++ (beL 4 s)) ++ [(UInt8.ofNat a)]).length) c29)) (fun _ _ hF => opMove rfl (hF.ev 1 rfl)) rfl (fun _ _ => rfl) (kM [true, false, true, true] rfl rfl) (by decide) ?_
  have hl33 : ((([118, 97, 117, 108, 116, 32, 49, 0] ++ (beL 8 n)) ++ (beL 4 s)) ++ [(UInt8.ofNat a)]).length = 21 := by simp [beL_len]
  have hc34 : putL (cSec.enc (fun _ => 0)) 0 (flat cByte (((([118, 97, 117, 108, 116, 32, 49, 0] ++ (beL 8 n)) ++ (beL 4 s)) ++ [(UInt8.ofNat a)]).take 21)) = cSec.enc (cutF (hdL n s a) 0) := by rw [← head_fn n s a]; exact arr_ovr _ _
  refine pxE 1 hH rfl (fun _ hF => smCopyK (C := cByte) (m := ((([118, 97, 117, 108, 116, 32, 49, 0] ++ (beL 8 n)) ++ (beL 4 s)) ++ [(UInt8.ofNat a)])) (e := 5) 21 (by rw [hl33]; rfl) rfl (by kernel_rfl) (by kernel_rfl) (ltb rfl) (hF.ev 1 rfl) (hF.ev 0 rfl) rfl (by rw [Cod.size]; exact leb rfl) hc34) (hO32.vuAt (hH.has 4 rfl)) rfl (fun _ _ => rfl) (kM [false, false, true, true] rfl rfl) (by decide) ?_
  clear hH
  rintro _ _ w ⟨rfl, rfl⟩ hH
  replace hH : HH w0 [] [[bl g1 47 (cSec.enc (fun _ => 0))], [bl g2 47 (cSec.enc (cutF (hdL n s a) 0))], [mk g3 5 ((flat cByte [118, 97, 117, 108, 116, 32, 49, 0]).toArray)], E4, E31, E16, [bl g27 5 (cByte.enc (UInt8.ofNat a))]] w := hH
  refine pxEnd ?_
  refine qxThen ?_
  refine cxSeq ?_
  refine cxReg ?_
  refine pxS (v := (cSec.val (cutF (hdL n s a) 0))) (fun w => w.heap[g2]? = some (.cells (cSec.enc (cutF (hdL n s a) 0)) 47 (0, 0))) (hH.blk 1 rfl) (fun _ _ hF hS => opLoadT (C := cSec) (y := (cutF (hdL n s a) 0)) rfl (hF.ev 1 rfl) (by kernel_rfl) (holds_blk0 hS) rfl) rfl (fun _ _ => rfl) (kM [false, false, true] rfl rfl) (by decide) ?_
  refine pxE0 0 hH rfl (fun _ hF => smStoreT (C := cSec) (z := (cutF (hdL n s a) 0)) rfl (hF.ev 1 rfl) (hF.ev 0 rfl) rfl (by kernel_rfl) (by rw [Cod.size]; exact Nat.le_refl _) (put_whole cSec _ _)) trivial rfl (fun _ _ => rfl) ?_
  clear hH
  rintro _ _ w rfl hH
  replace hH : HH w0 [] [[bl g1 47 (cSec.enc (cutF (hdL n s a) 0))], [bl g2 47 (cSec.enc (cutF (hdL n s a) 0))], [mk g3 5 ((flat cByte [118, 97, 117, 108, 116, 32, 49, 0]).toArray)], E4, E31, E16, [bl g27 5 (cByte.enc (UInt8.ofNat a))]] w := hH
  refine pxEnd ?_
  refine qxThen ?_
  refine cxRet ?_
  refine qxRetC 1 (hH.blk 0 rfl) rfl rfl (by kernel_rfl) (Cod.size _ _) (by kernel_rfl) ?_
  exact ⟨rfl, HH.toBelow hH⟩

theorem lst_hd (n s a : Nat) : lst 64 (cutF (hdL n s a) 0) = hdL n s a := by
  rw [← lst_cutF (by rw [hdL_len]; omega), List.drop_zero, List.take_of_length_le (by rw [hdL_len]; omega)]
theorem found_step {S : List Sec} {st ns i : Nat} {x : Sec} (hx : S[st + i / 64]? = some x) (hi : i / 64 < ns) : (unsec ((S.take (st + ns)).drop st)).take (i + 1) = (unsec ((S.take (st + ns)).drop st)).take i ++ [x (i % 64)] := by
  have h1 : ((S.take (st + ns)).drop st)[i / 64]? = some x := by rw [List.getElem?_drop, List.getElem?_take, if_pos (by omega)]; exact hx
  have h2 := unsec_at _ _ _ h1
  have h3 : (unsec ((S.take (st + ns)).drop st))[i]? = some (x (i % 64)) := by
    have h4 : (lst 64 x)[i % 64]? = some (x (i % 64)) := lst_get (Nat.mod_lt _ (by omega))
    rw [← h2, List.getElem?_drop, List.getElem?_take, if_pos (by omega)] at h4
    rw [← h4]
    congr 1; omega
  rw [List.take_add_one, h3]; rfl
theorem found_fits {half a s l : Nat} (hs : s ≤ half * 64) (ha : a ≤ 1) (hl : half = (l - 2) / 2) (h4 : 4 ≤ l) : startA half a + nsec s ≤ l := by
  have h2 := nsec_le hs
  have h3 : a * half ≤ 1 * half := Nat.mul_le_mul_right _ ha
  unfold startA
  omega

set_option maxHeartbeats 8000000 in
theorem found_r (A : Option Addr) (c : Nat) (S : List Sec) (hl : 4 ≤ S.length) (h5 : S.length ≤ 4000) : Does Try.prog 15 #[(.slice A S.length c)] [] (fun w => Vu cSec w A S.length c S) (fun v E' => ∃ s, v = .tuple #[s, .int .u64 ((headOf S).number : Int)] ∧ OwnT cByte 5 s (textH (halfOf S) (headOf S) S) E') := by
  refine does_of (fn := Try.f15) Try.func15 rfl Try.ntmps15 (Nat.le_of_ble_eq_true rfl) rfl ?_
  intro w0 hH hR
  replace hH : HH w0 [] [] w0 := hH.only [false]
  have hh0 : halfOf S = (S.length - 2) / 2 := rfl
  refine cxSeq ?_
  refine cxReg ?_
  refine pxV (v := (.slice none 0 0)) (fun _ _ hF => opAssign rfl rfl) rfl (fun _ _ => rfl) (kA rfl) (by decide) ?_
  refine pxV (v := (.int .u64 0)) (fun _ _ hF => opAssign rfl rfl) rfl (fun _ _ => rfl) (kM [false, true] rfl rfl) (by decide) ?_
  refine pxEnd ?_
  refine qxThen ?_
  refine cxSeq ?_
  refine cxReg ?_
  refine pxV (v := (.slice A S.length c)) (fun _ _ hF => opMove rfl (hF.ev 1 rfl)) rfl (fun _ _ => rfl) (kM [false, true] rfl rfl) (by decide) ?_
  refine pxV (v := (.int .i64 (((S.length) : Nat) : Int))) (fun _ _ hF => opLen (e := 47) rfl (by kernel_rfl) (hF.ev 0 rfl)) rfl (fun _ _ => rfl) (kM [false, true] rfl rfl) (by decide) ?_
  refine pxV (v := (.int .i64 (((S.length - 2) : Nat) : Int))) (fun _ _ hF => opSub rfl (hF.ev 0 rfl) rfl (wI (by omega) (by omega) (by omega))) rfl (fun _ _ => rfl) (kM [false, true] rfl rfl) (by decide) ?_
  refine pxV (v := (.int .i64 (((halfOf S) : Nat) : Int))) (fun _ _ hF => opQuo rfl (hF.ev 0 rfl) rfl (by omega) (wI quoN (by omega) (by omega))) rfl (fun _ _ => rfl) (kM [false, true] rfl rfl) (by decide) ?_
  refine pxV (v := (.int .i64 (((halfOf S) : Nat) : Int))) (fun _ _ hF => opAssign rfl (hF.ev 0 rfl)) rfl (fun _ _ => rfl) (kM [false, true] rfl rfl) (by decide) ?_
  refine pxEnd ?_
  refine qxThen ?_
  refine cxSeq ?_
  refine cxReg ?_
  refine pxV (v := (.slice none 0 0)) (fun _ _ hF => opAssign rfl rfl) rfl (fun _ _ => rfl) (kA rfl) (by decide) ?_
  refine pxEnd ?_
  refine qxThen ?_
  refine cxSeq ?_
  refine cxReg ?_
  refine pxV (v := (.int .u64 0)) (fun _ _ hF => opAssign rfl rfl) rfl (fun _ _ => rfl) (kA rfl) (by decide) ?_
  refine pxEnd ?_
  refine qxThen ?_
  refine cxSeq ?_
  refine cxSeq ?_
  refine cxReg ?_
  refine pxV (v := (.int .i64 0)) (fun _ _ hF => opMove rfl rfl) rfl (fun _ _ => rfl) (kA rfl) (by decide) ?_
  refine pxEnd ?_
  refine qxThen ?_
  refine cxBlock ?_
  replace hH := HH.pad hH 1
  refine cxLoop (σ := Nat × Hd × (Option Addr) × Nat × (List UInt8) × Hl) (fun x => [(17, (.int .i64 (((x.1) : Nat) : Int))), (6, (.int .u64 (((x.2.1.number) : Nat) : Int))), (5, (.slice x.2.2.1 x.2.2.2.2.1.length x.2.2.2.1)), (4, (.int .i64 (((halfOf S) : Nat) : Int))), (0, (.slice A S.length c))]) (fun x w => HH w0 [] [x.2.2.2.2.2] w ∧ (x.1 ≤ 2) ∧ (OwnT cByte 5 (.slice x.2.2.1 x.2.2.2.2.1.length x.2.2.2.1) x.2.2.2.2.1 x.2.2.2.2.2) ∧ (x.2.1 = lastK (halfOf S * 64) S x.1) ∧ (x.2.2.2.2.1 = textH (halfOf S) x.2.1 S)) (fun x => 2 - x.1) (0, hd0, none, 0, [], []) ⟨hH, (by omega), (OwnT.nil _ _), rfl, rfl⟩ (slots_at [0, 1, 2, 3, 4] rfl) ?_
  clear hH
  rintro ⟨k, h, Ao, co, L, Eo⟩ w ⟨hH, hk, hO, hh, hL⟩
  change CX _ _ _ _ [(17, (.int .i64 (((k) : Nat) : Int))), (6, (.int .u64 (((h.number) : Nat) : Int))), (5, (.slice Ao L.length co)), (4, (.int .i64 (((halfOf S) : Nat) : Int))), (0, (.slice A S.length c))] _
  replace hH : HH w0 [] [Eo] w := hH
  replace hk : k ≤ 2 := hk
  replace hO : OwnT cByte 5 (.slice Ao L.length co) L Eo := hO
  replace hh : h = lastK (halfOf S * 64) S k := hh
  replace hL : L = textH (halfOf S) h S := hL
  refine cxSeq ?_
  refine cxReg ?_
  refine pxV (v := (.bool (decide (k < 2)))) (fun _ _ hF => opLss rfl (hF.ev 0 rfl) rfl (dc (by omega))) rfl (fun _ _ => rfl) (kA rfl) (by decide) ?_
  refine pxEnd ?_
  refine qxThen ?_
  refine cxSeq ?_
  refine cxP 0 rfl rfl (fun hc1 => ?_) (fun hc1 => ?_)
  · refine cxSkip ?_
    refine qxThen ?_
    refine cxSeq ?_
    refine cxBlock ?_
    refine cxSeq ?_
    refine cxReg ?_
    refine pxV (v := (.int .i64 (((k) : Nat) : Int))) (fun _ _ hF => opMove rfl (hF.ev 1 rfl)) rfl (fun _ _ => rfl) (kM [false, true, true, true, true, true] rfl rfl) (by decide) ?_
    refine pxV (v := (.int .i64 (((k) : Nat) : Int))) (fun _ _ hF => opAssign rfl (hF.ev 0 rfl)) rfl (fun _ _ => rfl) (kM [false, true, true, true, true, true] rfl rfl) (by decide) ?_
    refine pxEnd ?_
    refine qxThen ?_
    refine cxSeq ?_
    obtain ⟨x0, hx0⟩ := get_at S k (by omega)
    have hZ := sizB_lt (lst 64 x0); have har : arB (lst 64 x0) = (x0 20).toNat := arB_def (lst_get (by decide)); have h20 := (x0 20).toNat_lt
    refine cxRegX mixedOrders (by kernel_rfl) ?_
    replace hH := hH.drew
    refine rxV 0 rfl (by kernel_rfl) rfl (fun _ _ => rfl) (fun _ _ hF => opMove rfl (hF.ev 5 rfl)) (kA rfl) (by decide) (v := (.slice A S.length c)) ?_
    refine rxV 1 rfl (by kernel_rfl) rfl (fun _ _ => rfl) (fun _ _ hF => opMove rfl (hF.ev 1 rfl)) (kA rfl) (by decide) (v := (.int .i64 (((k) : Nat) : Int))) ?_
    have hi2 : k < S.length := by omega
    obtain ⟨b3, off4, rfl, hL5, hb6, hR7⟩ := hR.blk (by decide) (Off.nil _ _) (by omega)
    have := hR.cap
    have hj10 : k < S.length := by first | exact hi2 | (simp only [List.length_drop, List.length_take]; omega) | omega
    refine rxV 2 rfl (by kernel_rfl) rfl (fun _ _ => rfl) (fun _ _ hF => opIndex (i := k) (e := 47) (sz := 64) rfl (by kernel_rfl) (by kernel_rfl) (hF.ev 1 rfl) (hF.ev 0 rfl) rfl hi2) (kM [false, false, true, true, true, true, true, true] rfl rfl) (by decide) (v := (.pointer (some ⟨b3, off4 + k * 64, none⟩))) ?_
    refine rxV 3 rfl (by kernel_rfl) rfl (fun _ _ => rfl) (fun _ _ hF => opSliceALH (m := 64) (l := 8) (h := 16) (e := 5) (sz := 1) rfl (by kernel_rfl) (by kernel_rfl) (hF.ev 0 rfl) rfl rfl rfl rfl (by omega) (by omega) (by omega)) (kM [false, true, true, true, true, true, true] rfl rfl) (by decide) (v := (.slice (some ⟨b3, off4 + k * 64 + 8 * 1, none⟩) (16 - 8) (64 - 8))) ?_
    refine rxV 5 rfl (by kernel_rfl) rfl (fun _ _ => rfl) (fun _ _ hF => opMove rfl (hF.ev 6 rfl)) (kA rfl) (by decide) (v := (.slice (some ⟨b3, off4, none⟩) S.length c)) ?_
    refine rxV 6 rfl (by kernel_rfl) rfl (fun _ _ => rfl) (fun _ _ hF => opMove rfl (hF.ev 2 rfl)) (kA rfl) (by decide) (v := (.int .i64 (((k) : Nat) : Int))) ?_
    have hi11 : k < S.length := by omega
    have hj14 : k < S.length := by first | exact hi11 | (simp only [List.length_drop, List.length_take]; omega) | omega
    refine rxV 7 rfl (by kernel_rfl) rfl (fun _ _ => rfl) (fun _ _ hF => opIndex (i := k) (e := 47) (sz := 64) rfl (by kernel_rfl) (by kernel_rfl) (hF.ev 1 rfl) (hF.ev 0 rfl) rfl hi11) (kM [false, false, true, true, true, true, true, true, true] rfl rfl) (by decide) (v := (.pointer (some ⟨b3, off4 + k * 64, none⟩))) ?_
    refine rxV 8 rfl (by kernel_rfl) rfl (fun _ _ => rfl) (fun _ _ hF => opSliceALH (m := 64) (l := 16) (h := 20) (e := 5) (sz := 1) rfl (by kernel_rfl) (by kernel_rfl) (hF.ev 0 rfl) rfl rfl rfl rfl (by omega) (by omega) (by omega)) (kM [false, true, true, true, true, true, true, true] rfl rfl) (by decide) (v := (.slice (some ⟨b3, off4 + k * 64 + 16 * 1, none⟩) (20 - 16) (64 - 16))) ?_
    refine rxV 11 rfl (by kernel_rfl) rfl (fun _ _ => rfl) (fun _ _ hF => opMove rfl (hF.ev 7 rfl)) (kA rfl) (by decide) (v := (.slice (some ⟨b3, off4, none⟩) S.length c)) ?_
    refine rxV 12 rfl (by kernel_rfl) rfl (fun _ _ => rfl) (fun _ _ hF => opMove rfl (hF.ev 3 rfl)) (kA rfl) (by decide) (v := (.int .i64 (((k) : Nat) : Int))) ?_
    have hi15 : k < S.length := by omega
    have hj18 : k < S.length := by first | exact hi15 | (simp only [List.length_drop, List.length_take]; omega) | omega
    refine rxV 13 rfl (by kernel_rfl) rfl (fun _ _ => rfl) (fun _ _ hF => opIndex (i := k) (e := 47) (sz := 64) rfl (by kernel_rfl) (by kernel_rfl) (hF.ev 1 rfl) (hF.ev 0 rfl) rfl hi15) (kM [false, false, true, true, true, true, true, true, true, true] rfl rfl) (by decide) (v := (.pointer (some ⟨b3, off4 + k * 64, none⟩))) ?_
    have hi19 : 20 < 64 := by omega
    refine rxV 14 rfl (by kernel_rfl) rfl (fun _ _ => rfl) (fun _ _ hF => opIndexA (i := 20) (e := 5) (sz := 1) rfl (by kernel_rfl) (by kernel_rfl) (hF.ev 0 rfl) rfl rfl hi19) (kM [false, true, true, true, true, true, true, true, true] rfl rfl) (by decide) (v := (.pointer (some ⟨b3, off4 + k * 64 + 20 * 1, none⟩))) ?_
    refine rxS (fun w => HoldsL cSec w b3 off4 S) 15 rfl (by kernel_rfl) rfl (fun _ _ => rfl) (hH.holdsL hL5 hb6 hR7) (fun _ _ hF hS => opLoadT (C := cByte) (y := (x0 20)) rfl (hF.ev 0 rfl) (by kernel_rfl) ((hS k _ hx0).elt hi19) rfl) (kM [false, true, true, true, true, true, true, true, true] rfl rfl) (by decide) (v := (.int .u8 ((((x0 20).toNat) : Nat) : Int))) ?_
    refine rxV 16 rfl (by kernel_rfl) rfl (fun _ _ => rfl) (fun _ _ hF => opConvI (k' := .i64) rfl (by kernel_rfl) (by kernel_rfl) (hF.ev 0 rfl) (wI rfl (by omega) (by omega))) (kM [false, true, true, true, true, true, true, true, true] rfl rfl) (by decide) (v := (.int .i64 ((((x0 20).toNat) : Nat) : Int))) ?_
    refine rx1 4 (by kernel_rfl) ?_
    refine moM rfl hH (fun _ hF => Does.small ((Pure.as (v := (.int .u64 (((numB (lst 64 x0)) : Nat) : Int))) (number_r (some ⟨b3, off4 + k * 64 + 8 * 1, none⟩) (64 - 8) (((lst 64 x0).take 16).drop 8) (16 - 8) (by simp only [List.length_drop, List.length_take, lst_len]; omega) (leb rfl)) rfl).does) (fun w => opCall rfl Try.func31 rfl rfl (Evs.cons (v := (.slice (some ⟨b3, off4 + k * 64 + 8 * 1, none⟩) (16 - 8) (64 - 8))) (hF.ev 2 rfl) Evs.nil) w)) (cutA_some (sz := 1) (b := b3) (off := off4 + k * 64) (c := 64) (k := 8) (by omega) ▸ ((vu_holds ((hH.holdsL hL5 hb6 hR7) k _ hx0)).cut (k := 8) (m := 16) (by omega) (by omega))) rfl (fun _ _ => rfl) (kM [true, true, false, true, true, true, true, true, true] rfl rfl) (by decide) (PendOk.keep (PendOk.nil _ [])) ?_
    clear hH
    rintro _ _ w ⟨rfl, rfl⟩ hH
    replace hH : HH w0 [] [Eo] w := hH.unpad
    refine ⟨(by
      intro s hs
      simp only [List.mem_cons, List.not_mem_nil, or_false] at hs
      rcases hs with rfl
      · exact (hH.holdsL hL5 hb6 hR7)
      ), ?_⟩
    refine rx1 9 (by kernel_rfl) ?_
    refine moM rfl hH (fun _ hF => Does.small ((Pure.as (v := (.int .u64 (((sizB (lst 64 x0)) : Nat) : Int))) (number_r (some ⟨b3, off4 + k * 64 + 16 * 1, none⟩) (64 - 16) (((lst 64 x0).take 20).drop 16) (20 - 16) (by simp only [List.length_drop, List.length_take, lst_len]; omega) (leb rfl)) rfl).does) (fun w => opCall rfl Try.func31 rfl rfl (Evs.cons (v := (.slice (some ⟨b3, off4 + k * 64 + 16 * 1, none⟩) (20 - 16) (64 - 16))) (hF.ev 2 rfl) Evs.nil) w)) (cutA_some (sz := 1) (b := b3) (off := off4 + k * 64) (c := 64) (k := 16) (by omega) ▸ ((vu_holds ((hH.holdsL hL5 hb6 hR7) k _ hx0)).cut (k := 16) (m := 20) (by omega) (by omega))) rfl (fun _ _ => rfl) (kM [true, true, false, true, true, true, true, true, true] rfl rfl) (by decide) (PendOk.keep (PendOk.nil _ [])) ?_
    clear hH
    rintro _ _ w ⟨rfl, rfl⟩ hH
    replace hH : HH w0 [] [Eo] w := hH.unpad
    refine ⟨(by
      intro s hs
      simp only [List.mem_cons, List.not_mem_nil, or_false] at hs
      rcases hs with rfl
      · exact (hH.holdsL hL5 hb6 hR7)
      ), ?_⟩
    refine rxV 10 rfl (by kernel_rfl) rfl (fun _ _ => rfl) (fun _ _ hF => opConvI (k' := .i64) rfl (by kernel_rfl) (by kernel_rfl) (hF.ev 0 rfl) (wI rfl (by omega) (by omega))) (kM [false, true, true, true, true, true, true, true, true] rfl rfl) (by decide) (v := (.int .i64 (((sizB (lst 64 x0)) : Nat) : Int))) ?_
    refine rxV 17 rfl (by kernel_rfl) rfl (fun _ _ => rfl) (fun _ _ hF => opAssign rfl (hF.ev 1 rfl)) (kM [true, false, true, true, true, true, true, true, true] rfl rfl) (by decide) (v := (.int .u64 (((numB (lst 64 x0)) : Nat) : Int))) ?_
    refine rxV 18 rfl (by kernel_rfl) rfl (fun _ _ => rfl) (fun _ _ hF => opAssign rfl (hF.ev 1 rfl)) (kM [true, false, true, true, true, true, true, true, true] rfl rfl) (by decide) (v := (.int .i64 (((sizB (lst 64 x0)) : Nat) : Int))) ?_
    refine rxV 19 rfl (by kernel_rfl) rfl (fun _ _ => rfl) (fun _ _ hF => opAssign rfl (hF.ev 2 rfl)) (kM [true, true, false, true, true, true, true, true, true] rfl rfl) (by decide) (v := (.int .i64 ((((x0 20).toNat) : Nat) : Int))) ?_
    refine rxEnd (by kernel_rfl) ?_
    refine qxThen ?_
    refine cxSeq ?_
    refine cxSeq ?_
    refine cxRegX mixedOrders (by kernel_rfl) ?_
    replace hH := hH.drew
    refine rxV 0 rfl (by kernel_rfl) rfl (fun _ _ => rfl) (fun _ _ hF => opMove rfl (hF.ev 2 rfl)) (kA rfl) (by decide) (v := (.int .u64 (((numB (lst 64 x0)) : Nat) : Int))) ?_
    refine rxV 1 rfl (by kernel_rfl) rfl (fun _ _ => rfl) (fun _ _ hF => opMove rfl (hF.ev 6 rfl)) (kA rfl) (by decide) (v := (.int .u64 (((h.number) : Nat) : Int))) ?_
    refine rxV 2 rfl (by kernel_rfl) rfl (fun _ _ => rfl) (fun _ _ hF => opLeq rfl (hF.ev 1 rfl) (hF.ev 0 rfl) (dc (by omega))) (kM [false, false, true, true, true, true, true, true, true, true, true] rfl rfl) (by decide) (v := (.bool (decide (numB (lst 64 x0) ≤ h.number)))) ?_
    refine rxV 3 rfl (by kernel_rfl) rfl (fun _ _ => rfl) (fun _ _ hF => opMove rfl (hF.ev 0 rfl)) (kM [false, true, true, true, true, true, true, true, true, true] rfl rfl) (by decide) (v := (.bool (decide (numB (lst 64 x0) ≤ h.number)))) ?_
    refine rxSplitP 0 rfl (l1 := [(40, (.bool true)), (10, (.int .i64 ((((x0 20).toNat) : Nat) : Int))), (9, (.int .i64 (((sizB (lst 64 x0)) : Nat) : Int))), (8, (.int .u64 (((numB (lst 64 x0)) : Nat) : Int))), (7, (.int .i64 (((k) : Nat) : Int))), (17, (.int .i64 (((k) : Nat) : Int))), (6, (.int .u64 (((h.number) : Nat) : Int))), (5, (.slice Ao L.length co)), (4, (.int .i64 (((halfOf S) : Nat) : Int))), (0, (.slice (some ⟨b3, off4, none⟩) S.length c))]) (l2 := [(40, (.bool false)), (10, (.int .i64 ((((x0 20).toNat) : Nat) : Int))), (9, (.int .i64 (((sizB (lst 64 x0)) : Nat) : Int))), (8, (.int .u64 (((numB (lst 64 x0)) : Nat) : Int))), (7, (.int .i64 (((k) : Nat) : Int))), (17, (.int .i64 (((k) : Nat) : Int))), (6, (.int .u64 (((h.number) : Nat) : Int))), (5, (.slice Ao L.length co)), (4, (.int .i64 (((halfOf S) : Nat) : Int))), (0, (.slice (some ⟨b3, off4, none⟩) S.length c))]) rfl rfl (fun hg20 => ?_) (fun hg20 => ?_)
    · refine rxU 4 rfl (by kernel_rfl) rfl (gOff 0 rfl rfl rfl (by decide)) (kA rfl) (by decide) ?_
      refine rxU 5 rfl (by kernel_rfl) rfl (gOff 0 rfl rfl rfl (by decide)) (kA rfl) (by decide) ?_
      refine rxU 6 rfl (by kernel_rfl) rfl (gOff 0 rfl rfl rfl (by decide)) (kA rfl) (by decide) ?_
      refine rxU 7 rfl (by kernel_rfl) rfl (gOff 0 rfl rfl rfl (by decide)) (kA rfl) (by decide) ?_
      refine rxV 8 rfl (by kernel_rfl) rfl (fun _ _ => rfl) (fun _ _ hF => opPickT rfl (hF.ev 0 rfl) rfl) (kM [false, true, true, true, true, true, true, true, true, true] rfl rfl) (by decide) (v := (.bool true)) ?_
      refine rxV 9 rfl (by kernel_rfl) rfl (fun _ _ => rfl) (fun _ _ hF => opMove rfl (hF.ev 0 rfl)) (kM [false, true, true, true, true, true, true, true, true, true] rfl rfl) (by decide) (v := (.bool true)) ?_
      refine rxU 10 rfl (by kernel_rfl) rfl (gOff 0 rfl rfl rfl (by decide)) (kA rfl) (by decide) ?_
      refine rxU 11 rfl (by kernel_rfl) rfl (gOff 0 rfl rfl rfl (by decide)) (kA rfl) (by decide) ?_
      refine rxV 12 rfl (by kernel_rfl) rfl (fun _ _ => rfl) (fun _ _ hF => opPickT rfl (hF.ev 0 rfl) rfl) (kM [false, true, true, true, true, true, true, true, true, true] rfl rfl) (by decide) (v := (.bool true)) ?_
      refine rxV 13 rfl (by kernel_rfl) rfl (fun _ _ => rfl) (fun _ _ hF => opMove rfl (hF.ev 0 rfl)) (kM [false, true, true, true, true, true, true, true, true, true] rfl rfl) (by decide) (v := (.bool true)) ?_
      refine rxU 14 rfl (by kernel_rfl) rfl (gOff 0 rfl rfl rfl (by decide)) (kA rfl) (by decide) ?_
      refine rxU 15 rfl (by kernel_rfl) rfl (gOff 0 rfl rfl rfl (by decide)) (kA rfl) (by decide) ?_
      refine rxU 16 rfl (by kernel_rfl) rfl (gOff 0 rfl rfl rfl (by decide)) (kA rfl) (by decide) ?_
      refine rxU 17 rfl (by kernel_rfl) rfl (gOff 0 rfl rfl rfl (by decide)) (kA rfl) (by decide) ?_
      refine rxU 18 rfl (by kernel_rfl) rfl (gOff 0 rfl rfl rfl (by decide)) (kA rfl) (by decide) ?_
      refine rxU 19 rfl (by kernel_rfl) rfl (gOff 0 rfl rfl rfl (by decide)) (kM [true, true, true, true, false, true, true, true, true, true] rfl rfl) (by decide) ?_
      refine rxU 20 rfl (by kernel_rfl) rfl (gOff 0 rfl rfl rfl (by decide)) (kA rfl) (by decide) ?_
      refine rxU 21 rfl (by kernel_rfl) rfl (gOff 0 rfl rfl rfl (by decide)) (kA rfl) (by decide) ?_
      refine rxU 22 rfl (by kernel_rfl) rfl (gOff 0 rfl rfl rfl (by decide)) (kA rfl) (by decide) ?_
      refine rxV 23 rfl (by kernel_rfl) rfl (fun _ _ => rfl) (fun _ _ hF => opPickT rfl (hF.ev 0 rfl) rfl) (kM [false, true, true, true, true, true, true, true, true] rfl rfl) (by decide) (v := (.bool true)) ?_
      refine rxEnd (by kernel_rfl) ?_
      refine qxThen ?_
      refine cxT 0 rfl rfl ?_
      refine cxExit ?_
      refine qxThenE ?_
      refine qxInE ?_
      refine qxThen ?_
      refine cxReg ?_
      refine pxV (v := (.int .i64 (((k + 1) : Nat) : Int))) (fun _ _ hF => opAdd rfl (hF.ev 4 rfl) rfl (wI (by omega) (by omega) (by omega))) rfl (fun _ _ => rfl) (kM [false, false, false, false, false, true, true, true, true] rfl rfl) (by decide) ?_
      refine pxV (v := (.int .i64 (((k + 1) : Nat) : Int))) (fun _ _ hF => opMove rfl (hF.ev 0 rfl)) rfl (fun _ _ => rfl) (kM [false, true, true, true, true] rfl rfl) (by decide) ?_
      refine pxEnd ?_
      exact qxRound (k + 1, h, Ao, co, L, Eo) ⟨hH, (show (k + 1) ≤ 2 from (by omega)), hO, (show h = lastK (halfOf S * 64) S (k + 1) from (by rw [hh]; show _ = stepH _ k (lst 64 (S.getD k fun _ => 0)) (lastK (halfOf S * 64) S k); rw [getD_at hx0, ← hh]; unfold stepH; rw [if_neg (fun q => absurd q.2 (by omega))])), hL⟩ (by omega) (slots_at [0, 1, 2, 3, 4] rfl)
    · refine rxV 4 rfl (by kernel_rfl) rfl (gOn 0 rfl rfl rfl (by decide)) (fun _ _ hF => opMove rfl (hF.ev 2 rfl)) (kA rfl) (by decide) (v := (.int .i64 (((sizB (lst 64 x0)) : Nat) : Int))) ?_
      refine rxV 5 rfl (by kernel_rfl) rfl (gOn 1 rfl rfl rfl (by decide)) (fun _ _ hF => opMove rfl (hF.ev 9 rfl)) (kA rfl) (by decide) (v := (.int .i64 (((halfOf S) : Nat) : Int))) ?_
      refine rxV 6 rfl (by kernel_rfl) rfl (gOn 2 rfl rfl rfl (by decide)) (fun _ _ hF => opMul rfl rfl (hF.ev 0 rfl) (wI rfl (by omega) (by omega))) (kM [false, true, true, true, true, true, true, true, true, true, true, true] rfl rfl) (by decide) (v := (.int .i64 (((64 * halfOf S) : Nat) : Int))) ?_
      refine rxV 7 rfl (by kernel_rfl) rfl (gOn 2 rfl rfl rfl (by decide)) (fun _ _ hF => opGtr rfl (hF.ev 1 rfl) (hF.ev 0 rfl) (dc (by omega))) (kM [false, false, true, true, true, true, true, true, true, true, true, true] rfl rfl) (by decide) (v := (.bool (decide (sizB (lst 64 x0) > 64 * halfOf S)))) ?_
      refine rxV 8 rfl (by kernel_rfl) rfl (fun _ _ => rfl) (fun _ _ hF => opPickF rfl (hF.ev 1 rfl) (hF.ev 0 rfl)) (kM [false, false, true, true, true, true, true, true, true, true, true] rfl rfl) (by decide) (v := (.bool (decide (sizB (lst 64 x0) > 64 * halfOf S)))) ?_
      refine rxV 9 rfl (by kernel_rfl) rfl (fun _ _ => rfl) (fun _ _ hF => opMove rfl (hF.ev 0 rfl)) (kM [false, true, true, true, true, true, true, true, true, true] rfl rfl) (by decide) (v := (.bool (decide (sizB (lst 64 x0) > 64 * halfOf S)))) ?_
      refine rxSplitP 0 rfl (l1 := [(46, (.bool true)), (10, (.int .i64 ((((x0 20).toNat) : Nat) : Int))), (9, (.int .i64 (((sizB (lst 64 x0)) : Nat) : Int))), (8, (.int .u64 (((numB (lst 64 x0)) : Nat) : Int))), (7, (.int .i64 (((k) : Nat) : Int))), (17, (.int .i64 (((k) : Nat) : Int))), (6, (.int .u64 (((h.number) : Nat) : Int))), (5, (.slice Ao L.length co)), (4, (.int .i64 (((halfOf S) : Nat) : Int))), (0, (.slice (some ⟨b3, off4, none⟩) S.length c))]) (l2 := [(46, (.bool false)), (10, (.int .i64 ((((x0 20).toNat) : Nat) : Int))), (9, (.int .i64 (((sizB (lst 64 x0)) : Nat) : Int))), (8, (.int .u64 (((numB (lst 64 x0)) : Nat) : Int))), (7, (.int .i64 (((k) : Nat) : Int))), (17, (.int .i64 (((k) : Nat) : Int))), (6, (.int .u64 (((h.number) : Nat) : Int))), (5, (.slice Ao L.length co)), (4, (.int .i64 (((halfOf S) : Nat) : Int))), (0, (.slice (some ⟨b3, off4, none⟩) S.length c))]) rfl rfl (fun hg21 => ?_) (fun hg21 => ?_)
      · refine rxU 10 rfl (by kernel_rfl) rfl (gOff 0 rfl rfl rfl (by decide)) (kA rfl) (by decide) ?_
        refine rxU 11 rfl (by kernel_rfl) rfl (gOff 0 rfl rfl rfl (by decide)) (kA rfl) (by decide) ?_
        refine rxV 12 rfl (by kernel_rfl) rfl (fun _ _ => rfl) (fun _ _ hF => opPickT rfl (hF.ev 0 rfl) rfl) (kM [false, true, true, true, true, true, true, true, true, true] rfl rfl) (by decide) (v := (.bool true)) ?_
        refine rxV 13 rfl (by kernel_rfl) rfl (fun _ _ => rfl) (fun _ _ hF => opMove rfl (hF.ev 0 rfl)) (kM [false, true, true, true, true, true, true, true, true, true] rfl rfl) (by decide) (v := (.bool true)) ?_
        refine rxU 14 rfl (by kernel_rfl) rfl (gOff 0 rfl rfl rfl (by decide)) (kA rfl) (by decide) ?_
        refine rxU 15 rfl (by kernel_rfl) rfl (gOff 0 rfl rfl rfl (by decide)) (kA rfl) (by decide) ?_
        refine rxU 16 rfl (by kernel_rfl) rfl (gOff 0 rfl rfl rfl (by decide)) (kA rfl) (by decide) ?_
        refine rxU 17 rfl (by kernel_rfl) rfl (gOff 0 rfl rfl rfl (by decide)) (kA rfl) (by decide) ?_
        refine rxU 18 rfl (by kernel_rfl) rfl (gOff 0 rfl rfl rfl (by decide)) (kA rfl) (by decide) ?_
        refine rxU 19 rfl (by kernel_rfl) rfl (gOff 0 rfl rfl rfl (by decide)) (kM [true, true, true, true, false, true, true, true, true, true] rfl rfl) (by decide) ?_
        refine rxU 20 rfl (by kernel_rfl) rfl (gOff 0 rfl rfl rfl (by decide)) (kA rfl) (by decide) ?_
        refine rxU 21 rfl (by kernel_rfl) rfl (gOff 0 rfl rfl rfl (by decide)) (kA rfl) (by decide) ?_
        refine rxU 22 rfl (by kernel_rfl) rfl (gOff 0 rfl rfl rfl (by decide)) (kA rfl) (by decide) ?_
        refine rxV 23 rfl (by kernel_rfl) rfl (fun _ _ => rfl) (fun _ _ hF => opPickT rfl (hF.ev 0 rfl) rfl) (kM [false, true, true, true, true, true, true, true, true] rfl rfl) (by decide) (v := (.bool true)) ?_
        refine rxEnd (by kernel_rfl) ?_
        refine qxThen ?_
        refine cxT 0 rfl rfl ?_
        refine cxExit ?_
        refine qxThenE ?_
        refine qxInE ?_
        refine qxThen ?_
        refine cxReg ?_
        refine pxV (v := (.int .i64 (((k + 1) : Nat) : Int))) (fun _ _ hF => opAdd rfl (hF.ev 4 rfl) rfl (wI (by omega) (by omega) (by omega))) rfl (fun _ _ => rfl) (kM [false, false, false, false, false, true, true, true, true] rfl rfl) (by decide) ?_
        refine pxV (v := (.int .i64 (((k + 1) : Nat) : Int))) (fun _ _ hF => opMove rfl (hF.ev 0 rfl)) rfl (fun _ _ => rfl) (kM [false, true, true, true, true] rfl rfl) (by decide) ?_
        refine pxEnd ?_
        exact qxRound (k + 1, h, Ao, co, L, Eo) ⟨hH, (show (k + 1) ≤ 2 from (by omega)), hO, (show h = lastK (halfOf S * 64) S (k + 1) from (by rw [hh]; show _ = stepH _ k (lst 64 (S.getD k fun _ => 0)) (lastK (halfOf S * 64) S k); rw [getD_at hx0, ← hh]; unfold stepH; rw [if_neg (fun q => absurd q.1.2.1 (by omega))])), hL⟩ (by omega) (slots_at [0, 1, 2, 3, 4] rfl)
      · refine rxV 10 rfl (by kernel_rfl) rfl (gOn 0 rfl rfl rfl (by decide)) (fun _ _ hF => opMove rfl (hF.ev 1 rfl)) (kA rfl) (by decide) (v := (.int .i64 ((((x0 20).toNat) : Nat) : Int))) ?_
        refine rxV 11 rfl (by kernel_rfl) rfl (gOn 1 rfl rfl rfl (by decide)) (fun _ _ hF => opGtr rfl (hF.ev 0 rfl) rfl (dc (by omega))) (kM [false, true, true, true, true, true, true, true, true, true, true] rfl rfl) (by decide) (v := (.bool (decide ((x0 20).toNat > 1)))) ?_
        refine rxV 12 rfl (by kernel_rfl) rfl (fun _ _ => rfl) (fun _ _ hF => opPickF rfl (hF.ev 1 rfl) (hF.ev 0 rfl)) (kM [false, false, true, true, true, true, true, true, true, true, true] rfl rfl) (by decide) (v := (.bool (decide ((x0 20).toNat > 1)))) ?_
        refine rxV 13 rfl (by kernel_rfl) rfl (fun _ _ => rfl) (fun _ _ hF => opMove rfl (hF.ev 0 rfl)) (kM [false, true, true, true, true, true, true, true, true, true] rfl rfl) (by decide) (v := (.bool (decide ((x0 20).toNat > 1)))) ?_
        refine rxSplitP 0 rfl (l1 := [(50, (.bool true)), (10, (.int .i64 ((((x0 20).toNat) : Nat) : Int))), (9, (.int .i64 (((sizB (lst 64 x0)) : Nat) : Int))), (8, (.int .u64 (((numB (lst 64 x0)) : Nat) : Int))), (7, (.int .i64 (((k) : Nat) : Int))), (17, (.int .i64 (((k) : Nat) : Int))), (6, (.int .u64 (((h.number) : Nat) : Int))), (5, (.slice Ao L.length co)), (4, (.int .i64 (((halfOf S) : Nat) : Int))), (0, (.slice (some ⟨b3, off4, none⟩) S.length c))]) (l2 := [(50, (.bool false)), (10, (.int .i64 ((((x0 20).toNat) : Nat) : Int))), (9, (.int .i64 (((sizB (lst 64 x0)) : Nat) : Int))), (8, (.int .u64 (((numB (lst 64 x0)) : Nat) : Int))), (7, (.int .i64 (((k) : Nat) : Int))), (17, (.int .i64 (((k) : Nat) : Int))), (6, (.int .u64 (((h.number) : Nat) : Int))), (5, (.slice Ao L.length co)), (4, (.int .i64 (((halfOf S) : Nat) : Int))), (0, (.slice (some ⟨b3, off4, none⟩) S.length c))]) rfl rfl (fun hg22 => ?_) (fun hg22 => ?_)
        · refine rxU 14 rfl (by kernel_rfl) rfl (gOff 0 rfl rfl rfl (by decide)) (kA rfl) (by decide) ?_
          refine rxU 15 rfl (by kernel_rfl) rfl (gOff 0 rfl rfl rfl (by decide)) (kA rfl) (by decide) ?_
          refine rxU 16 rfl (by kernel_rfl) rfl (gOff 0 rfl rfl rfl (by decide)) (kA rfl) (by decide) ?_
          refine rxU 17 rfl (by kernel_rfl) rfl (gOff 0 rfl rfl rfl (by decide)) (kA rfl) (by decide) ?_
          refine rxU 18 rfl (by kernel_rfl) rfl (gOff 0 rfl rfl rfl (by decide)) (kA rfl) (by decide) ?_
          refine rxU 19 rfl (by kernel_rfl) rfl (gOff 0 rfl rfl rfl (by decide)) (kM [true, true, true, true, false, true, true, true, true, true] rfl rfl) (by decide) ?_
          refine rxU 20 rfl (by kernel_rfl) rfl (gOff 0 rfl rfl rfl (by decide)) (kA rfl) (by decide) ?_
          refine rxU 21 rfl (by kernel_rfl) rfl (gOff 0 rfl rfl rfl (by decide)) (kA rfl) (by decide) ?_
          refine rxU 22 rfl (by kernel_rfl) rfl (gOff 0 rfl rfl rfl (by decide)) (kA rfl) (by decide) ?_
          refine rxV 23 rfl (by kernel_rfl) rfl (fun _ _ => rfl) (fun _ _ hF => opPickT rfl (hF.ev 0 rfl) rfl) (kM [false, true, true, true, true, true, true, true, true] rfl rfl) (by decide) (v := (.bool true)) ?_
          refine rxEnd (by kernel_rfl) ?_
          refine qxThen ?_
          refine cxT 0 rfl rfl ?_
          refine cxExit ?_
          refine qxThenE ?_
          refine qxInE ?_
          refine qxThen ?_
          refine cxReg ?_
          refine pxV (v := (.int .i64 (((k + 1) : Nat) : Int))) (fun _ _ hF => opAdd rfl (hF.ev 4 rfl) rfl (wI (by omega) (by omega) (by omega))) rfl (fun _ _ => rfl) (kM [false, false, false, false, false, true, true, true, true] rfl rfl) (by decide) ?_
          refine pxV (v := (.int .i64 (((k + 1) : Nat) : Int))) (fun _ _ hF => opMove rfl (hF.ev 0 rfl)) rfl (fun _ _ => rfl) (kM [false, true, true, true, true] rfl rfl) (by decide) ?_
          refine pxEnd ?_
          exact qxRound (k + 1, h, Ao, co, L, Eo) ⟨hH, (show (k + 1) ≤ 2 from (by omega)), hO, (show h = lastK (halfOf S * 64) S (k + 1) from (by rw [hh]; show _ = stepH _ k (lst 64 (S.getD k fun _ => 0)) (lastK (halfOf S * 64) S k); rw [getD_at hx0, ← hh]; unfold stepH; rw [if_neg (fun q => absurd q.1.2.2.1 (by rw [har]; omega))])), hL⟩ (by omega) (slots_at [0, 1, 2, 3, 4] rfl)
        · refine rxV 14 rfl (by kernel_rfl) rfl (gOn 0 rfl rfl rfl (by decide)) (fun _ _ hF => opMove rfl (hF.ev 3 rfl)) (kA rfl) (by decide) (v := (.int .u64 (((numB (lst 64 x0)) : Nat) : Int))) ?_
          refine rxV 15 rfl (by kernel_rfl) rfl (gOn 1 rfl rfl rfl (by decide)) (fun _ _ hF => opMove rfl (hF.ev 3 rfl)) (kA rfl) (by decide) (v := (.int .i64 (((sizB (lst 64 x0)) : Nat) : Int))) ?_
          refine rxV 16 rfl (by kernel_rfl) rfl (gOn 2 rfl rfl rfl (by decide)) (fun _ _ hF => opMove rfl (hF.ev 3 rfl)) (kA rfl) (by decide) (v := (.int .i64 ((((x0 20).toNat) : Nat) : Int))) ?_
          refine rxV 18 rfl (by kernel_rfl) rfl (gOn 3 rfl rfl rfl (by decide)) (fun _ _ hF => opMove rfl (hF.ev 12 rfl)) (kA rfl) (by decide) (v := (.slice (some ⟨b3, off4, none⟩) S.length c)) ?_
          refine rxV 19 rfl (by kernel_rfl) rfl (gOn 4 rfl rfl rfl (by decide)) (fun _ _ hF => opMove rfl (hF.ev 8 rfl)) (kM [true, true, true, true, true, true, true, true, false, true, true, true, true, true] rfl rfl) (by decide) (v := (.int .i64 (((k) : Nat) : Int))) ?_
          have hi23 : k < S.length := by omega
          have hj26 : k < S.length := by first | exact hi23 | (simp only [List.length_drop, List.length_take]; omega) | omega
          refine rxV 20 rfl (by kernel_rfl) rfl (gOn 5 rfl rfl rfl (by decide)) (fun _ _ hF => opIndex (i := k) (e := 47) (sz := 64) rfl (by kernel_rfl) (by kernel_rfl) (hF.ev 1 rfl) (hF.ev 0 rfl) rfl hi23) (kM [false, false, true, true, true, true, true, true, true, true, true, true, true, true] rfl rfl) (by decide) (v := (.pointer (some ⟨b3, off4 + k * 64, none⟩))) ?_
          refine rxS (fun w => HoldsL cSec w b3 off4 S) 21 rfl (by kernel_rfl) rfl (gOn 4 rfl rfl rfl (by decide)) (hH.holdsL hL5 hb6 hR7) (fun _ _ hF hS => opLoadT (C := cSec) (y := x0) rfl (hF.ev 0 rfl) (by kernel_rfl) (hS k _ hx0) rfl) (kM [false, true, true, true, true, true, true, true, true, true, true, true, true] rfl rfl) (by decide) (v := (cSec.val x0)) ?_
          refine rx1 17 (by kernel_rfl) ?_
          refine moM rfl hH (fun _ hF => Does.small ((head_r (numB (lst 64 x0)) (sizB (lst 64 x0)) ((x0 20).toNat) (by omega)).does) (fun w => opCall rfl Try.func21 rfl rfl (Evs.cons (v := (.int .u64 (((numB (lst 64 x0)) : Nat) : Int))) (hF.ev 3 rfl) (Evs.cons (v := (.int .i64 (((sizB (lst 64 x0)) : Nat) : Int))) (hF.ev 2 rfl) (Evs.cons (v := (.int .i64 ((((x0 20).toNat) : Nat) : Int))) (hF.ev 1 rfl) Evs.nil))) w)) trivial rfl (gOn 4 rfl rfl rfl (by decide)) (kM [true, false, false, false, true, true, true, true, true, true, true, true, true] rfl rfl) (by decide) (PendOk.keep (PendOk.nil _ [])) ?_
          clear hH
          rintro _ _ w ⟨rfl, rfl⟩ hH
          replace hH : HH w0 [] [Eo] w := hH.unpad
          refine ⟨(by
            intro s hs
            simp only [List.mem_cons, List.not_mem_nil, or_false] at hs
            rcases hs with rfl
            · exact (hH.holdsL hL5 hb6 hR7)
            ), ?_⟩
          refine rxV 22 rfl (by kernel_rfl) rfl (gOn 2 rfl rfl rfl (by decide)) (fun _ _ hF => opNeA (n := 64) (e := 5) (f := (cutF (hdL (numB (lst 64 x0)) (sizB (lst 64 x0)) ((x0 20).toNat)) 0)) (g := x0) rfl (by kernel_rfl) (by kernel_rfl) (by kernel_rfl) (hF.ev 0 rfl) (hF.ev 1 rfl) (by kernel_rfl) Iff.rfl) (kM [false, false, true, true, true, true, true, true, true, true, true] rfl rfl) (by decide) (v := (.bool (decide (lst 64 (cutF (hdL (numB (lst 64 x0)) (sizB (lst 64 x0)) ((x0 20).toNat)) 0) ≠ lst 64 x0)))) ?_
          refine rxV 23 rfl (by kernel_rfl) rfl (fun _ _ => rfl) (fun _ _ hF => opPickF rfl (hF.ev 1 rfl) (hF.ev 0 rfl)) (kM [false, false, true, true, true, true, true, true, true, true] rfl rfl) (by decide) (v := (.bool (decide (lst 64 (cutF (hdL (numB (lst 64 x0)) (sizB (lst 64 x0)) ((x0 20).toNat)) 0) ≠ lst 64 x0)))) ?_
          refine rxEnd (by kernel_rfl) ?_
          refine qxThen ?_
          refine cxP 0 rfl rfl (fun hc27 => ?_) (fun hc27 => ?_)
          · refine cxExit ?_
            refine qxThenE ?_
            refine qxInE ?_
            refine qxThen ?_
            refine cxReg ?_
            refine pxV (v := (.int .i64 (((k + 1) : Nat) : Int))) (fun _ _ hF => opAdd rfl (hF.ev 4 rfl) rfl (wI (by omega) (by omega) (by omega))) rfl (fun _ _ => rfl) (kM [false, false, false, false, false, true, true, true, true] rfl rfl) (by decide) ?_
            refine pxV (v := (.int .i64 (((k + 1) : Nat) : Int))) (fun _ _ hF => opMove rfl (hF.ev 0 rfl)) rfl (fun _ _ => rfl) (kM [false, true, true, true, true] rfl rfl) (by decide) ?_
            refine pxEnd ?_
            exact qxRound (k + 1, h, Ao, co, L, Eo) ⟨hH, (show (k + 1) ≤ 2 from (by omega)), hO, (by rw [hh]; show _ = stepH _ k (lst 64 (S.getD k fun _ => 0)) (lastK (halfOf S * 64) S k); rw [getD_at hx0, ← hh]; unfold stepH; rw [if_neg (fun q => hc27 (by rw [lst_hd, ← har]; exact q.1.2.2.2.symm))]), hL⟩ (by omega) (slots_at [0, 1, 2, 3, 4] rfl)
          · refine cxSkip ?_
            refine qxThen ?_
            refine cxSeq ?_
            have hsame : lst 64 x0 = hdL (numB (lst 64 x0)) (sizB (lst 64 x0)) (x0 20).toNat := by rw [← lst_hd]; exact (Decidable.of_not_not hc27).symm
            have hokx : okB (halfOf S * 64) (lst 64 x0) := ⟨by omega, by omega, by rw [har]; omega, by rw [har]; exact hsame⟩
            have hnx : h.number < numB (lst 64 x0) := by omega
            have hfit := found_fits (half := halfOf S) (a := (x0 20).toNat) (s := sizB (lst 64 x0)) (l := S.length) (by omega) (by omega) rfl hl
            have hst := startA_le (half := halfOf S) (a := (x0 20).toNat) (by omega) (by omega)
            have hmu : (x0 20).toNat * halfOf S ≤ 1999 := by have := Nat.mul_le_mul (show (x0 20).toNat ≤ 1 by omega) (show halfOf S ≤ 1999 by omega); omega
            refine cxReg ?_
            refine pxV (v := (.int .u64 (((numB (lst 64 x0)) : Nat) : Int))) (fun _ _ hF => opMove rfl (hF.ev 3 rfl)) rfl (fun _ _ => rfl) (kM [false, true, true, false, true, false, false, true, true] rfl rfl) (by decide) ?_
            refine pxV (v := (.int .u64 (((numB (lst 64 x0)) : Nat) : Int))) (fun _ _ hF => opAssign rfl (hF.ev 0 rfl)) rfl (fun _ _ => rfl) (kM [false, true, true, true, true, true] rfl rfl) (by decide) ?_
            refine pxV (v := (.slice none 0 0)) (fun _ _ hF => opAssign rfl rfl) rfl (fun _ _ => rfl) (kA rfl) (by decide) ?_
            refine pxEnd ?_
            refine qxThen ?_
            refine cxSeq ?_
            refine cxReg ?_
            refine pxV (v := (.int .i64 (((sizB (lst 64 x0)) : Nat) : Int))) (fun _ _ hF => opMove rfl (hF.ev 3 rfl)) rfl (fun _ _ => rfl) (kM [true, true, true, false, true, true, true] rfl rfl) (by decide) ?_
            refine pxV (v := (.int .i64 0)) (fun _ _ hF => opMove rfl rfl) rfl (fun _ _ => rfl) (kA rfl) (by decide) ?_
            refine pxEnd ?_
            refine qxThen ?_
            refine cxBlock ?_
            replace hH := hH.forget 0
            refine cxLoop (σ := Nat × (Option Addr) × Nat × (List UInt8) × Hl) (fun x => [(63, (.int .i64 (((x.1) : Nat) : Int))), (62, (.int .i64 (((sizB (lst 64 x0)) : Nat) : Int))), (17, (.int .i64 (((k) : Nat) : Int))), (10, (.int .i64 ((((x0 20).toNat) : Nat) : Int))), (6, (.int .u64 (((numB (lst 64 x0)) : Nat) : Int))), (5, (.slice x.2.1 x.2.2.2.1.length x.2.2.1)), (4, (.int .i64 (((halfOf S) : Nat) : Int))), (0, (.slice (some ⟨b3, off4, none⟩) S.length c))]) (fun x w => HH w0 [] [x.2.2.2.2] w ∧ (x.1 ≤ sizB (lst 64 x0)) ∧ (OwnT cByte 5 (.slice x.2.1 x.2.2.2.1.length x.2.2.1) x.2.2.2.1 x.2.2.2.2) ∧ (x.2.2.2.1 = (unsec ((S.take (startA (halfOf S) (x0 20).toNat + nsec (sizB (lst 64 x0)))).drop (startA (halfOf S) (x0 20).toNat))).take x.1) ∧ (x.2.2.2.1.length = x.1)) (fun x => sizB (lst 64 x0) - x.1) (0, none, 0, [], []) ⟨hH, (by omega), (OwnT.nil _ _), (by rw [List.take_zero]), rfl⟩ (slots_at [0, 1, 5, 4, 3, 2, 6, 7] rfl) ?_
            clear hH
            rintro ⟨i, Ai, ci, Li, Ei⟩ w ⟨hH, hi, hO2, hLi, hli⟩
            change CX _ _ _ _ [(63, (.int .i64 (((i) : Nat) : Int))), (62, (.int .i64 (((sizB (lst 64 x0)) : Nat) : Int))), (17, (.int .i64 (((k) : Nat) : Int))), (10, (.int .i64 ((((x0 20).toNat) : Nat) : Int))), (6, (.int .u64 (((numB (lst 64 x0)) : Nat) : Int))), (5, (.slice Ai Li.length ci)), (4, (.int .i64 (((halfOf S) : Nat) : Int))), (0, (.slice (some ⟨b3, off4, none⟩) S.length c))] _
            replace hH : HH w0 [] [Ei] w := hH
            replace hi : i ≤ sizB (lst 64 x0) := hi
            replace hO2 : OwnT cByte 5 (.slice Ai Li.length ci) Li Ei := hO2
            replace hLi : Li = (unsec ((S.take (startA (halfOf S) (x0 20).toNat + nsec (sizB (lst 64 x0)))).drop (startA (halfOf S) (x0 20).toNat))).take i := hLi
            replace hli : Li.length = i := hli
            refine cxSeq ?_
            refine cxReg ?_
            refine pxV (v := (.bool (decide (i < sizB (lst 64 x0))))) (fun _ _ hF => opLss rfl (hF.ev 0 rfl) (hF.ev 1 rfl) (dc (by omega))) rfl (fun _ _ => rfl) (kA rfl) (by decide) ?_
            refine pxEnd ?_
            refine qxThen ?_
            refine cxSeq ?_
            refine cxP 0 rfl rfl (fun hc28 => ?_) (fun hc28 => ?_)
            · refine cxSkip ?_
              refine qxThen ?_
              refine cxSeq ?_
              refine cxBlock ?_
              refine cxSeq ?_
              refine cxReg ?_
              refine pxV (v := (.int .i64 (((i) : Nat) : Int))) (fun _ _ hF => opMove rfl (hF.ev 1 rfl)) rfl (fun _ _ => rfl) (kM [false, true, true, true, true, true, true, true, true] rfl rfl) (by decide) ?_
              refine pxV (v := (.int .i64 (((i) : Nat) : Int))) (fun _ _ hF => opAssign rfl (hF.ev 0 rfl)) rfl (fun _ _ => rfl) (kM [false, true, true, true, true, true, true, true, true] rfl rfl) (by decide) ?_
              refine pxEnd ?_
              refine qxThen ?_
              refine cxSeq ?_
              have hq : i / 64 < nsec (sizB (lst 64 x0)) := by unfold nsec; omega
              refine cxReg ?_
              refine pxV (v := (.slice (some ⟨b3, off4, none⟩) S.length c)) (fun _ _ hF => opMove rfl (hF.ev 8 rfl)) rfl (fun _ _ => rfl) (kA rfl) (by decide) ?_
              refine pxV (v := (.int .i64 ((((x0 20).toNat) : Nat) : Int))) (fun _ _ hF => opMove rfl (hF.ev 5 rfl)) rfl (fun _ _ => rfl) (kA rfl) (by decide) ?_
              refine pxV (v := (.int .i64 (((halfOf S) : Nat) : Int))) (fun _ _ hF => opMove rfl (hF.ev 9 rfl)) rfl (fun _ _ => rfl) (kA rfl) (by decide) ?_
              refine pxV (v := (.int .i64 ((((x0 20).toNat * halfOf S) : Nat) : Int))) (fun _ _ hF => opMul rfl (hF.ev 1 rfl) (hF.ev 0 rfl) (wI rfl (by omega) (by omega))) rfl (fun _ _ => rfl) (kM [false, false, true, true, true, true, true, true, true, true, true, true] rfl rfl) (by decide) ?_
              refine pxV (v := (.int .i64 (((startA (halfOf S) (x0 20).toNat) : Nat) : Int))) (fun _ _ hF => opAdd rfl rfl (hF.ev 0 rfl) (wI rfl (by omega) (by omega))) rfl (fun _ _ => rfl) (kM [false, true, true, true, true, true, true, true, true, true, true] rfl rfl) (by decide) ?_
              refine pxV (v := (.int .i64 (((i) : Nat) : Int))) (fun _ _ hF => opMove rfl (hF.ev 2 rfl)) rfl (fun _ _ => rfl) (kA rfl) (by decide) ?_
              refine pxV (v := (.int .i64 (((i / 64) : Nat) : Int))) (fun _ _ hF => opQuo (z := ((i / 64 : Nat) : Int)) rfl (hF.ev 0 rfl) rfl (by omega) (wI quoN (by omega) (by omega))) rfl (fun _ _ => rfl) (kM [false, true, true, true, true, true, true, true, true, true, true, true] rfl rfl) (by decide) ?_
              refine pxV (v := (.int .i64 ((((startA (halfOf S) (x0 20).toNat) + (i / 64)) : Nat) : Int))) (fun _ _ hF => opAdd rfl (hF.ev 1 rfl) (hF.ev 0 rfl) (wI (by omega) (by omega) (by omega))) rfl (fun _ _ => rfl) (kM [false, false, true, true, true, true, true, true, true, true, true, true] rfl rfl) (by decide) ?_
              have hi29 : (startA (halfOf S) (x0 20).toNat) + (i / 64) < S.length := by omega
              have hj32 : (startA (halfOf S) (x0 20).toNat) + (i / 64) < S.length := by first | exact hi29 | (simp only [List.length_drop, List.length_take]; omega) | omega
              obtain ⟨x30, hx31⟩ := get_at S ((startA (halfOf S) (x0 20).toNat) + (i / 64)) hj32
              refine pxV (v := (.pointer (some ⟨b3, off4 + ((startA (halfOf S) (x0 20).toNat) + (i / 64)) * 64, none⟩))) (fun _ _ hF => opIndex (i := (startA (halfOf S) (x0 20).toNat) + (i / 64)) (e := 47) (sz := 64) rfl (by kernel_rfl) (by kernel_rfl) (hF.ev 1 rfl) (hF.ev 0 rfl) rfl hi29) rfl (fun _ _ => rfl) (kM [false, false, true, true, true, true, true, true, true, true, true] rfl rfl) (by decide) ?_
              refine pxS (v := (cSec.val x30)) (fun w => HoldsL cSec w b3 off4 S) (hH.holdsL hL5 hb6 hR7) (fun _ _ hF hS => opLoadT (C := cSec) (y := x30) rfl (hF.ev 0 rfl) (by kernel_rfl) (hS ((startA (halfOf S) (x0 20).toNat) + (i / 64)) _ hx31) rfl) rfl (fun _ _ => rfl) (kM [false, true, true, true, true, true, true, true, true, true] rfl rfl) (by decide) ?_
              refine pxM hH (fun _ hF => smAlloc (cs := cSec.enc (fun _ => 0)) (z := (cSec.val (fun _ => 0))) rfl (by kernel_rfl) rfl) trivial rfl (fun _ _ => rfl) (kA rfl) (by decide) ?_
              clear hH
              rintro _ _ w ⟨g33, rfl, rfl⟩ hH
              replace hH : HH w0 [] [Ei, [bl g33 47 (cSec.enc (fun _ => 0))]] w := hH
              refine pxE0 1 hH rfl (fun _ hF => smStoreT (C := cSec) (z := x30) rfl (hF.ev 0 rfl) (hF.ev 1 rfl) rfl (by kernel_rfl) (by rw [Cod.size]; exact Nat.le_refl _) (put_whole cSec _ _)) trivial rfl (fun _ _ => rfl) ?_
              clear hH
              rintro _ _ w rfl hH
              replace hH : HH w0 [] [Ei, [bl g33 47 (cSec.enc x30)]] w := hH
              refine pxEnd ?_
              refine qxThen ?_
              refine cxReg ?_
              refine pxV (v := (.slice Ai Li.length ci)) (fun _ _ hF => opMove rfl (hF.ev 8 rfl)) rfl (fun _ _ => rfl) (kM [true, false, true, true, true, true, true, true, false, true, true] rfl rfl) (by decide) ?_
              refine pxV (v := (.int .i64 (((i) : Nat) : Int))) (fun _ _ hF => opMove rfl (hF.ev 2 rfl)) rfl (fun _ _ => rfl) (kM [true, true, false, true, true, true, true, true, true, true] rfl rfl) (by decide) ?_
              refine pxV (v := (.int .i64 (((i % 64) : Nat) : Int))) (fun _ _ hF => opRem (z := ((i % 64 : Nat) : Int)) rfl (hF.ev 0 rfl) rfl (by omega) remN) rfl (fun _ _ => rfl) (kM [false, true, true, true, true, true, true, true, true, true] rfl rfl) (by decide) ?_
              have hi34 : i % 64 < 64 := by omega
              refine pxV (v := (.pointer (some ⟨g33, 0 + (i % 64) * 1, none⟩))) (fun _ _ hF => opIndexA (i := i % 64) (e := 5) (sz := 1) rfl (by kernel_rfl) (by kernel_rfl) (hF.ev 2 rfl) (hF.ev 0 rfl) rfl hi34) rfl (fun _ _ => rfl) (kM [false, true, false, true, true, true, true, true, true, true] rfl rfl) (by decide) ?_
              refine pxS (v := (.int .u8 ((((x30 (i % 64)).toNat) : Nat) : Int))) (fun w => w.heap[g33]? = some (.cells (cSec.enc x30) 47 (0, 0))) (hH.blk 1 rfl) (fun _ _ hF hS => opLoadT (C := cByte) (y := (x30 (i % 64))) rfl (hF.ev 0 rfl) (by kernel_rfl) ((holds_blk0 hS).elt hi34) rfl) rfl (fun _ _ => rfl) (kM [false, true, true, true, true, true, true, true, true] rfl rfl) (by decide) ?_
              refine pxM hH (fun _ hF => smLit1 (e := 5) (sz := 1) (z := (.int .u8 0)) (by_ := 1) (cs := cByte.enc (x30 (i % 64))) rfl (by kernel_rfl) (by kernel_rfl) (hF.ev 0 rfl) (cByte.len (x30 (i % 64))) (ltb rfl) (leb rfl) rfl) trivial rfl (fun _ _ => rfl) (kM [false, true, true, true, true, true, true, true, true] rfl rfl) (by decide) ?_
              clear hH
              rintro _ _ w ⟨g35, rfl, rfl⟩ hH
              replace hH : HH w0 [] [Ei, [bl g33 47 (cSec.enc x30)], [bl g35 5 (cByte.enc (x30 (i % 64)))]] w := hH
              refine pxE 0 hH rfl (fun _ hF => smAppT (C := cByte) (l := Li) (m := [(x30 (i % 64))]) (e := 5) (z := (.int .u8 0)) (by_ := 1) rfl (by kernel_rfl) (by kernel_rfl) rfl (ltb rfl) (hF.ev 1 rfl) hO2 (hF.ev 0 rfl) rfl (fun h => by cases h) (by unfold maxLen; omega) (by omega)) ((Bk.lit1 (C := cByte) (x30 (i % 64))).vu (hH.blk 2 rfl) rfl) rfl (fun _ _ => rfl) (kM [false, false, true, true, true, true, true, true, true] rfl rfl) (by decide) ?_
              clear hH
              rintro v38 E39 w ⟨hO40, _⟩ hH
              replace hH : HH w0 [] [E39, [bl g33 47 (cSec.enc x30)], [bl g35 5 (cByte.enc (x30 (i % 64)))]] w := hH
              replace hO40 : OwnT cByte 5 v38 (Li ++ [(x30 (i % 64))]) E39 := hO40
              obtain ⟨A36, c37, rfl⟩ := hO40.slice
              refine pxV (v := (.slice A36 ((Li ++ [(x30 (i % 64))]).length) c37)) (fun _ _ hF => opAssign rfl (hF.ev 0 rfl)) rfl (fun _ _ => rfl) (kM [false, true, true, true, true, true, true, true] rfl rfl) (by decide) ?_
              refine pxEnd ?_
              refine qxInN ?_
              refine qxThen ?_
              refine cxReg ?_
              refine pxV (v := (.int .i64 (((i + 1) : Nat) : Int))) (fun _ _ hF => opAdd rfl (hF.ev 1 rfl) rfl (wI (by omega) (by omega) (by omega))) rfl (fun _ _ => rfl) (kM [true, false, true, true, true, true, true, true] rfl rfl) (by decide) ?_
              refine pxV (v := (.int .i64 (((i + 1) : Nat) : Int))) (fun _ _ hF => opMove rfl (hF.ev 0 rfl)) rfl (fun _ _ => rfl) (kM [false, true, true, true, true, true, true, true] rfl rfl) (by decide) ?_
              refine pxEnd ?_
              replace hH : HH w0 [] [E39] w := hH.only [true, false, false]
              exact qxRound (i + 1, A36, c37, (Li ++ [(x30 (i % 64))]), E39) ⟨hH, (show (i + 1) ≤ sizB (lst 64 x0) from (by omega)), hO40, (show (Li ++ [(x30 (i % 64))]) = (unsec ((S.take (startA (halfOf S) (x0 20).toNat + nsec (sizB (lst 64 x0)))).drop (startA (halfOf S) (x0 20).toNat))).take (i + 1) from (by rw [hLi]; exact (found_step hx31 (by unfold nsec; omega)).symm)), (by rw [List.length_append, hli]; rfl)⟩ (by omega) (slots_at [0, 2, 3, 4, 5, 1, 6, 7] rfl)
            · refine cxExit ?_
              refine qxThenE ?_
              refine qxThenE ?_
              refine qxInE ?_
              refine qxInN ?_
              refine qxThen ?_
              refine cxReg ?_
              refine pxV (v := (.int .i64 (((k + 1) : Nat) : Int))) (fun _ _ hF => opAdd rfl (hF.ev 3 rfl) rfl (wI (by omega) (by omega) (by omega))) rfl (fun _ _ => rfl) (kM [false, false, false, false, false, true, true, true, true] rfl rfl) (by decide) ?_
              refine pxV (v := (.int .i64 (((k + 1) : Nat) : Int))) (fun _ _ hF => opMove rfl (hF.ev 0 rfl)) rfl (fun _ _ => rfl) (kM [false, true, true, true, true] rfl rfl) (by decide) ?_
              refine pxEnd ?_
              exact qxRound (k + 1, (⟨k, numB (lst 64 x0), sizB (lst 64 x0), arB (lst 64 x0)⟩ : Hd), Ai, ci, Li, Ei) ⟨hH, (show (k + 1) ≤ 2 from (by omega)), hO2, (by show _ = stepH _ k (lst 64 (S.getD k fun _ => 0)) (lastK (halfOf S * 64) S k); rw [getD_at hx0, ← hh]; unfold stepH; rw [if_pos ⟨hokx, hnx⟩]), (show Li = textH (halfOf S) (⟨k, numB (lst 64 x0), sizB (lst 64 x0), arB (lst 64 x0)⟩ : Hd) S from (by show Li = textH (halfOf S) (⟨k, numB (lst 64 x0), sizB (lst 64 x0), arB (lst 64 x0)⟩ : Hd) S; unfold textH; show Li = (unsec ((S.take (startA (halfOf S) (arB (lst 64 x0)) + _)).drop _)).take _; rw [hLi, har, show i = sizB (lst 64 x0) by omega]))⟩ (by omega) (slots_at [0, 1, 2, 3, 4] rfl)
  · refine cxExit ?_
    refine qxThenE ?_
    refine qxThenE ?_
    refine qxInE ?_
    refine qxThen ?_
    refine cxSeq ?_
    refine cxReg ?_
    refine pxV (v := (.slice Ao L.length co)) (fun _ _ hF => opMove rfl (hF.ev 3 rfl)) rfl (fun _ _ => rfl) (kM [false, false, true, false, false, false] rfl rfl) (by decide) ?_
    refine pxV (v := (.int .u64 (((h.number) : Nat) : Int))) (fun _ _ hF => opMove rfl (hF.ev 1 rfl)) rfl (fun _ _ => rfl) (kM [true, false] rfl rfl) (by decide) ?_
    refine pxV (v := (.slice Ao L.length co)) (fun _ _ hF => opAssign rfl (hF.ev 1 rfl)) rfl (fun _ _ => rfl) (kM [true, false] rfl rfl) (by decide) ?_
    refine pxV (v := (.int .u64 (((h.number) : Nat) : Int))) (fun _ _ hF => opAssign rfl (hF.ev 1 rfl)) rfl (fun _ _ => rfl) (kM [true, false] rfl rfl) (by decide) ?_
    refine pxEnd ?_
    refine qxThen ?_
    refine cxRet ?_
    refine qxRet2 1 0 rfl rfl rfl ?_
    obtain rfl : k = 2 := by omega
    have e : h = headOf S := hh
    exact ⟨_, _, rfl, ⟨_, by rw [e], by rw [← e, ← hL]; exact hO⟩, hH.out1 [true] rfl⟩

theorem flat_cong {l m : List Sec} (h : l.map (lst 64) = m.map (lst 64)) : flat cSec l = flat cSec m := by
  have key : ∀ l : List Sec, flat cSec l = (l.map (lst 64)).flatMap (flat cByte) := fun l => by
    induction l with
    | nil => rfl
    | cons a r ih =>
      have h1 : flat cSec (a :: r) = (row 64 a).toList ++ flat cSec r := by simp [flat, cSec, Cod.enc, cArr, Value.cells]
      rw [h1, ih, List.map_cons, List.flatMap_cons, flat_lst]
  rw [key, key, h]
theorem OwnT.cong {e : TypeId} {v : Value} {l m : List Sec} {E : Hl} (h : OwnT cSec e v l E) (hm : l.map (lst 64) = m.map (lst 64)) : OwnT cSec e v m E := by
  have h1 : l.length = m.length := by simpa using congrArg List.length hm
  unfold OwnT at *
  rw [← h1, ← flat_cong hm]; exact h
theorem sec_step {S L : List Sec} {i : Nat} (hi : i < S.length) (hL : L.map (lst 64) = (S.take i).map (lst 64)) : (L ++ [cutF (((unsec S).drop (i * 64)).take 64) 0]).map (lst 64) = (S.take (i + 1)).map (lst 64) := by
  have hx : S[i]? = some S[i] := List.getElem?_eq_getElem hi
  have h1 := unsec_at _ _ _ hx
  have hlen : (((unsec S).drop (i * 64)).take 64).length = 64 := by rw [List.length_take, List.length_drop, unsec_len]; omega
  have e : S.take (i + 1) = S.take i ++ [S[i]] := by rw [List.take_add_one, hx]; rfl
  have e2 : lst 64 (cutF (((unsec S).drop (i * 64)).take 64) 0) = ((unsec S).drop (i * 64)).take 64 := by
    rw [← lst_cutF (l := ((unsec S).drop (i * 64)).take 64) (k := 0) (n := 64) (by omega), List.drop_zero, List.take_of_length_le (by omega)]
  rw [List.map_append, hL, e, List.map_append, List.map_cons, List.map_nil, List.map_cons, List.map_nil, e2, ← h1, show i * 64 = 64 * i by omega, List.drop_take, show 64 * i + 64 - 64 * i = 64 by omega]

set_option maxHeartbeats 8000000 in
theorem sectors_l (gd : Nat) (D : Dk) (E : Hl) (hD : DkAt gd D E) (hl : 4 ≤ D.now.length) (hd : D.down = false) : Does Try.prog 16 #[(.pointer (some ⟨gd, 0, none⟩))] E (fun _ => True) (fun v E' => ∃ E1 E2, E' = ([E1, E2] : List Hl).flatten ∧ DkAt gd D E1 ∧ OwnT cSec 47 v D.now E2) := by
  refine does_of (fn := Try.f16) Try.func16 rfl Try.ntmps16 (Nat.le_of_ble_eq_true rfl) rfl ?_
  intro w0 hH hR
  have hsz := hD.ok.sz
  refine cxSeq ?_
  refine cxReg ?_
  refine pxV (v := (.slice none 0 0)) (fun _ _ hF => opAssign rfl rfl) rfl (fun _ _ => rfl) (kA rfl) (by decide) ?_
  refine pxEnd ?_
  refine qxThen ?_
  refine cxSeq ?_
  refine cxReg ?_
  refine pxV (v := (.pointer (some ⟨gd, 0, none⟩))) (fun _ _ hF => opMove rfl (hF.ev 1 rfl)) rfl (fun _ _ => rfl) (kM [false, true] rfl rfl) (by decide) ?_
  refine pxV (v := (.pointer (some ⟨gd, 0, none⟩))) (fun _ _ hF => opMove rfl (hF.ev 1 rfl)) rfl (fun _ _ => rfl) (kM [true, false] rfl rfl) (by decide) ?_
  refine pxE 0 hH rfl (fun _ hF => Does.small (sectors_c gd D E hD ) (fun w => opCall rfl Try.func23 rfl rfl (Evs.cons (v := (.pointer (some ⟨gd, 0, none⟩))) (hF.ev 0 rfl) Evs.nil) w)) trivial rfl (fun _ _ => rfl) (kM [false, true] rfl rfl) (by decide) ?_
  clear hH
  rintro _ E1 w ⟨rfl, hD2⟩ hH
  replace hH : HH w0 (bks E) [E1] w := hH
  refine pxE 0 hH rfl (fun _ hF => Does.small (read_ok gd D E1 hD2 0 D.now.length hd (by omega)) (fun w => opCall rfl Try.func24 rfl rfl (Evs.cons (v := (.pointer (some ⟨gd, 0, none⟩))) (hF.ev 1 rfl) (Evs.cons (v := (.int .i64 0)) rfl (Evs.cons (v := (.int .i64 (((D.now.length) : Nat) : Int))) (hF.ev 0 rfl) Evs.nil))) w)) trivial rfl (fun _ _ => rfl) (kM [false, false] rfl rfl) (by decide) ?_
  clear hH
  rintro _ _ w ⟨s3, E4, E5, rfl, rfl, hD6, hO7⟩ hH
  replace hH : HH w0 (bks E) [([E5, E4] : List Hl).flatten] w := hH
  obtain ⟨A8, c9, rfl⟩ := hO7.slice
  replace hH : HH w0 (bks E) [E5, E4] w := hH.cast (by simp)
  refine pxV (v := (.tuple #[(.slice A8 ((unsec ((D.now.take (0 + D.now.length)).drop 0)).length) c9), (.int .i64 0)])) (fun _ _ hF => opMove rfl (hF.ev 0 rfl)) rfl (fun _ _ => rfl) (kM [false] rfl rfl) (by decide) ?_
  refine pxV (v := (.slice A8 ((unsec ((D.now.take (0 + D.now.length)).drop 0)).length) c9)) (fun _ _ hF => opExtract rfl (hF.ev 0 rfl) rfl) rfl (fun _ _ => rfl) (kA rfl) (by decide) ?_
  refine pxV (v := (.int .i64 0)) (fun _ _ hF => opExtract rfl (hF.ev 1 rfl) rfl) rfl (fun _ _ => rfl) (kM [true, false] rfl rfl) (by decide) ?_
  refine pxV (v := (.slice A8 ((unsec ((D.now.take (0 + D.now.length)).drop 0)).length) c9)) (fun _ _ hF => opAssign rfl (hF.ev 1 rfl)) rfl (fun _ _ => rfl) (kM [true, false] rfl rfl) (by decide) ?_
  refine pxV (v := (.int .i64 0)) (fun _ _ hF => opAssign rfl (hF.ev 1 rfl)) rfl (fun _ _ => rfl) (kM [true, false] rfl rfl) (by decide) ?_
  refine pxEnd ?_
  refine qxThen ?_
  refine cxSeq ?_
  refine cxReg ?_
  refine pxV (v := (.slice none 0 0)) (fun _ _ hF => opAssign rfl rfl) rfl (fun _ _ => rfl) (kM [false, true] rfl rfl) (by decide) ?_
  refine pxEnd ?_
  refine qxThen ?_
  refine cxSeq ?_
  refine cxBlock ?_
  have hwu : (unsec ((D.now.take (0 + D.now.length)).drop 0)) = unsec D.now := by rw [List.drop_zero, Nat.zero_add, List.take_length]
  have hul : (unsec D.now).length = D.now.length * 64 := unsec_len _
  rw [hwu] at hO7 ⊢
  obtain ⟨g11, cap12, cur13, hv15, rfl, hB14⟩ := hO7.open (by omega)
  obtain ⟨rfl, rfl⟩ : A8 = some ⟨g11, 0, none⟩ ∧ c9 = cap12 := by injection hv15 with h1 h2 h3; exact ⟨h1, h3⟩
  have := hB14.le
  replace hH := HH.pad hH 1
  refine cxLoop (σ := Nat × (Option Addr) × Nat × Nat × (Option Addr) × Nat × (List Sec) × Hl) (fun x => [(5, (.slice x.2.2.2.2.1 x.2.2.2.2.2.2.1.length x.2.2.2.2.2.1)), (3, (.slice x.2.1 x.2.2.1 x.2.2.2.1))]) (fun x w => HH w0 (bks E) [E5, [bl g11 5 cur13], x.2.2.2.2.2.2.2] w ∧ (x.1 ≤ D.now.length) ∧ (x.2.2.1 = (unsec D.now).length - x.1 * 64) ∧ (0 < x.2.2.1 → x.2.1 = some ⟨g11, 0 + x.1 * 64 * 1, none⟩ ∧ x.2.2.2.1 = c9 - x.1 * 64) ∧ (OwnT cSec 47 (.slice x.2.2.2.2.1 x.2.2.2.2.2.2.1.length x.2.2.2.2.2.1) x.2.2.2.2.2.2.1 x.2.2.2.2.2.2.2) ∧ (x.2.2.2.2.2.2.1.map (lst 64) = (D.now.take x.1).map (lst 64)) ∧ (x.2.2.2.2.2.2.1.length = x.1)) (fun x => D.now.length - x.1) (0, (some ⟨g11, 0, none⟩), (unsec D.now).length, c9, none, 0, [], []) ⟨hH, (Nat.zero_le _), (by simp), (fun _ => ⟨rfl, by simp⟩), (OwnT.nil _ _), rfl, rfl⟩ (slots_at [0, 1] rfl) ?_
  clear hH
  rintro ⟨i, A', n', c', Ao, co, L, Eo⟩ w ⟨hH, hi, hn, hA, hO, hL, hLl⟩
  change CX _ _ _ _ [(5, (.slice Ao L.length co)), (3, (.slice A' n' c'))] _
  replace hH : HH w0 (bks E) [E5, [bl g11 5 cur13], Eo] w := hH
  replace hi : i ≤ D.now.length := hi
  replace hn : n' = (unsec D.now).length - i * 64 := hn
  replace hA : 0 < n' → A' = some ⟨g11, 0 + i * 64 * 1, none⟩ ∧ c' = c9 - i * 64 := hA
  replace hO : OwnT cSec 47 (.slice Ao L.length co) L Eo := hO
  replace hL : L.map (lst 64) = (D.now.take i).map (lst 64) := hL
  replace hLl : L.length = i := hLl
  refine cxSeq ?_
  refine cxSeq ?_
  refine cxReg ?_
  refine pxV (v := (.slice A' n' c')) (fun _ _ hF => opMove rfl (hF.ev 1 rfl)) rfl (fun _ _ => rfl) (kA rfl) (by decide) ?_
  refine pxV (v := (.int .i64 (((n') : Nat) : Int))) (fun _ _ hF => opLen (e := 5) rfl (by kernel_rfl) (hF.ev 0 rfl)) rfl (fun _ _ => rfl) (kM [false, true, true] rfl rfl) (by decide) ?_
  refine pxV (v := (.bool (decide (n' > 0)))) (fun _ _ hF => opGtr rfl (hF.ev 0 rfl) rfl (dc (by omega))) rfl (fun _ _ => rfl) (kM [false, true, true] rfl rfl) (by decide) ?_
  refine pxEnd ?_
  refine qxThen ?_
  refine cxP 0 rfl rfl (fun hc16 => ?_) (fun hc16 => ?_)
  · obtain ⟨rfl, rfl⟩ := hA (by omega)
    subst hn
    refine cxSkip ?_
    refine qxThen ?_
    refine cxBlock ?_
    refine cxSeq ?_
    refine cxReg ?_
    refine pxV (v := (.slice Ao L.length co)) (fun _ _ hF => opMove rfl (hF.ev 1 rfl)) rfl (fun _ _ => rfl) (kM [false, false, true] rfl rfl) (by decide) ?_
    refine pxV (v := (.slice (some ⟨g11, 0 + i * 64 * 1, none⟩) ((unsec D.now).length - i * 64) (c9 - i * 64))) (fun _ _ hF => opMove rfl (hF.ev 1 rfl)) rfl (fun _ _ => rfl) (kA rfl) (by decide) ?_
    refine pxV (v := (.slice (some ⟨g11, 0 + i * 64 * 1, none⟩) 64 (c9 - i * 64))) (fun _ _ hF => opCutH (h := 64) (e := 5) (sz := 1) rfl (by kernel_rfl) (by kernel_rfl) (hF.ev 0 rfl) rfl rfl (by omega)) rfl (fun _ _ => rfl) (kM [false, true, true] rfl rfl) (by decide) ?_
    refine pxV (v := (.pointer (some ⟨g11, 0 + i * 64 * 1, none⟩))) (fun _ _ hF => opToArray (m := 64) (e := 5) rfl (by kernel_rfl) (hF.ev 0 rfl) (by omega)) rfl (fun _ _ => rfl) (kM [false, true, true] rfl rfl) (by decide) ?_
    refine pxS (v := ((cArr 64).val (cutF (((unsec D.now).drop (i * 64)).take 64) 0))) (fun w => w.heap[g11]? = some (.cells cur13 5 (0, 0))) (hH.blk 1 rfl) (fun _ _ hF hS => opLoadT (C := (cArr 64)) (y := (cutF (((unsec D.now).drop (i * 64)).take 64) 0)) rfl (hF.ev 0 rfl) (by kernel_rfl) ((((hB14.holdsL hS).drop (i * 64)).cut 0 64).arr 0 64 (by first | omega | (simp only [List.length_drop, List.length_take]; omega))) rfl) rfl (fun _ _ => rfl) (kM [false, true, true] rfl rfl) (by decide) ?_
    refine pxM hH (fun _ hF => smLit1 (e := 47) (sz := 64) (z := (cSec.val (fun _ => 0))) (by_ := 64) (cs := cSec.enc (cutF (((unsec D.now).drop (i * 64)).take 64) 0)) rfl (by kernel_rfl) (by kernel_rfl) (hF.ev 0 rfl) (cSec.len (cutF (((unsec D.now).drop (i * 64)).take 64) 0)) (ltb rfl) (leb rfl) rfl) trivial rfl (fun _ _ => rfl) (kM [false, true, true] rfl rfl) (by decide) ?_
    clear hH
    rintro _ _ w ⟨g17, rfl, rfl⟩ hH
    replace hH : HH w0 (bks E) [E5, [bl g11 5 cur13], Eo, [bl g17 47 (cSec.enc (cutF (((unsec D.now).drop (i * 64)).take 64) 0))]] w := hH
    refine pxE 2 hH rfl (fun _ hF => smAppT (C := cSec) (l := L) (m := [(cutF (((unsec D.now).drop (i * 64)).take 64) 0)]) (e := 47) (z := (cSec.val (fun _ => 0))) (by_ := 64) rfl (by kernel_rfl) (by kernel_rfl) rfl (ltb rfl) (hF.ev 1 rfl) hO (hF.ev 0 rfl) rfl (fun h => by cases h) (by unfold maxLen; omega) (by omega)) ((Bk.lit1 (C := cSec) (cutF (((unsec D.now).drop (i * 64)).take 64) 0)).vu (hH.blk 3 rfl) rfl) rfl (fun _ _ => rfl) (kM [false, false, true] rfl rfl) (by decide) ?_
    clear hH
    rintro v20 E21 w ⟨hO22, _⟩ hH
    replace hH : HH w0 (bks E) [E5, [bl g11 5 cur13], E21, [bl g17 47 (cSec.enc (cutF (((unsec D.now).drop (i * 64)).take 64) 0))]] w := hH
    replace hO22 : OwnT cSec 47 v20 (L ++ [(cutF (((unsec D.now).drop (i * 64)).take 64) 0)]) E21 := hO22
    obtain ⟨A18, c19, rfl⟩ := hO22.slice
    refine pxV (v := (.slice A18 ((L ++ [(cutF (((unsec D.now).drop (i * 64)).take 64) 0)]).length) c19)) (fun _ _ hF => opAssign rfl (hF.ev 0 rfl)) rfl (fun _ _ => rfl) (kM [false, true] rfl rfl) (by decide) ?_
    refine pxEnd ?_
    refine qxThen ?_
    refine cxReg ?_
    refine pxV (v := (.slice (some ⟨g11, 0 + i * 64 * 1, none⟩) ((unsec D.now).length - i * 64) (c9 - i * 64))) (fun _ _ hF => opMove rfl (hF.ev 1 rfl)) rfl (fun _ _ => rfl) (kM [true, false] rfl rfl) (by decide) ?_
    refine pxV (v := (.slice (cutA (some ⟨g11, 0 + i * 64 * 1, none⟩) (c9 - i * 64) 64 1) (((unsec D.now).length - i * 64) - 64) ((c9 - i * 64) - 64))) (fun _ _ hF => opCutL (k := 64) (e := 5) (sz := 1) rfl (by kernel_rfl) (by kernel_rfl) (hF.ev 0 rfl) rfl rfl (by omega)) rfl (fun _ _ => rfl) (kM [false, true] rfl rfl) (by decide) ?_
    refine pxV (v := (.slice (cutA (some ⟨g11, 0 + i * 64 * 1, none⟩) (c9 - i * 64) 64 1) (((unsec D.now).length - i * 64) - 64) ((c9 - i * 64) - 64))) (fun _ _ hF => opAssign rfl (hF.ev 0 rfl)) rfl (fun _ _ => rfl) (kM [false, true] rfl rfl) (by decide) ?_
    refine pxEnd ?_
    refine qxInN ?_
    replace hH : HH w0 (bks E) [E5, [bl g11 5 cur13], E21] w := hH.only [true, true, true, false]
    exact qxRound (i + 1, (cutA (some ⟨g11, 0 + i * 64 * 1, none⟩) (c9 - i * 64) 64 1), (((unsec D.now).length - i * 64) - 64), ((c9 - i * 64) - 64), A18, c19, (L ++ [(cutF (((unsec D.now).drop (i * 64)).take 64) 0)]), E21) ⟨hH, (show (i + 1) ≤ D.now.length from (by omega)), (show (((unsec D.now).length - i * 64) - 64) = (unsec D.now).length - (i + 1) * 64 from (by omega)), (show 0 < (((unsec D.now).length - i * 64) - 64) → (cutA (some ⟨g11, 0 + i * 64 * 1, none⟩) (c9 - i * 64) 64 1) = some ⟨g11, 0 + (i + 1) * 64 * 1, none⟩ ∧ ((c9 - i * 64) - 64) = c9 - (i + 1) * 64 from (fun h => ⟨by rw [cutA_some (by omega)]; congr 2; omega, by omega⟩)), hO22, (show (L ++ [(cutF (((unsec D.now).drop (i * 64)).take 64) 0)]).map (lst 64) = (D.now.take (i + 1)).map (lst 64) from (sec_step (by omega) hL)), (by rw [List.length_append, hLl]; rfl)⟩ (by omega) (slots_at [1, 0] rfl)
  · refine cxExit ?_
    refine qxThenE ?_
    refine qxThenE ?_
    refine qxInE ?_
    refine qxThen ?_
    refine cxSeq ?_
    refine cxReg ?_
    refine pxV (v := (.slice Ao L.length co)) (fun _ _ hF => opMove rfl (hF.ev 1 rfl)) rfl (fun _ _ => rfl) (kM [false, false, false] rfl rfl) (by decide) ?_
    refine pxV (v := (.slice Ao L.length co)) (fun _ _ hF => opAssign rfl (hF.ev 0 rfl)) rfl (fun _ _ => rfl) (kM [false] rfl rfl) (by decide) ?_
    refine pxEnd ?_
    refine qxThen ?_
    refine cxRet ?_
    refine qxRet1 0 rfl rfl ?_
    have he : L.map (lst 64) = D.now.map (lst 64) := by rw [hL, List.take_of_length_le (by omega)]
    exact ⟨_, _, rfl, ⟨_, _, rfl, hD6, hO.cong he⟩, hH.out [true, false, true]⟩
end Go.Proofs.Ytglplhbhpaegeaa
