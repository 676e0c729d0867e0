/- VaultHeads, walked (mkvh.py writes this text). -/
import Derived.Test.YtglplhbhpaegeaaVp
namespace Go.Proofs.Ytglplhbhpaegeaa
open Go Go.RowKit
set_option maxRecDepth 100000

theorem found_n (gd : Nat) (A : Option Addr) (n c : Nat) (S : List Sec) (hn : S.length = n) (hl : 4 ≤ n) (h5 : n ≤ 4000) : Does Try.prog 15 #[.slice A n c] [] (fun w => Vu cSec w A n c S) (fun v E' => ∃ s, v = .tuple #[s, .int .u64 ((vtOf gd S).number : Int)] ∧ OwnT cByte 5 s (vtOf gd S).kept E') := by
  subst hn
  exact found_v gd A c S hl h5
/-- A sector's bytes alone. -/
def nrm (s : Sec) : Sec := cutF (lst 64 s) 0
theorem lst_nrm (s : Sec) : lst 64 (nrm s) = lst 64 s := by
  unfold nrm
  rw [← lst_cutF (by rw [lst_len]; omega), List.drop_zero, List.take_of_length_le (by rw [lst_len]; omega)]
theorem unsec_nrm (l : List Sec) : unsec (l.map nrm) = unsec l := by
  unfold unsec
  rw [List.flatMap_map]
  exact congrArg (fun f => l.flatMap f) (funext lst_nrm)
theorem vt_nrm (gd : Nat) {S : List Sec} (h : 4 ≤ S.length) : vtOf gd (S.map nrm) = vtOf gd S := by
  have e1 : halfOf (S.map nrm) = halfOf S := by unfold halfOf; rw [List.length_map]
  have eg : ∀ i, i < 2 → lst 64 ((S.map nrm).getD i fun _ => 0) = lst 64 (S.getD i fun _ => 0) := fun i hi => by
    have hx : S[i]? = some S[i] := List.getElem?_eq_getElem (by omega)
    rw [getD_at hx, getD_at (x := nrm S[i]) (by rw [List.getElem?_map, hx]; rfl), lst_nrm]
  have e2 : headOf (S.map nrm) = headOf S := by
    unfold headOf
    rw [e1]
    show stepH _ 1 (lst 64 ((S.map nrm).getD 1 fun _ => 0)) (stepH _ 0 (lst 64 ((S.map nrm).getD 0 fun _ => 0)) hd0) = stepH _ 1 (lst 64 (S.getD 1 fun _ => 0)) (stepH _ 0 (lst 64 (S.getD 0 fun _ => 0)) hd0)
    rw [eg 0 (by decide), eg 1 (by decide)]
  have e3 : ∀ (half : Nat) (h : Hd), textH half h (S.map nrm) = textH half h S := fun half h => by
    unfold textH
    rw [← List.map_take, ← List.map_drop, unsec_nrm]
  unfold vtOf
  rw [e1, e2, e3]
def Dk.lay1 (D : Dk) (i : Nat) (s : Sec) : Dk := { D with now := D.now.set i (nrm s), uns := D.uns ++ [(i, nrm s)] }
theorem wr_one {D : Dk} {i : Nat} {s : Sec} (hd : D.down = false) (hf : D.fused = false) (hi : i < D.now.length) : D.writes (i : Int) (lst 64 s) = (0, D.lay1 i s) := by
  have e1 : (lst 64 s).length = 64 := lst_len 64 s
  unfold Dk.writes
  rw [if_neg (by rw [e1]; decide), if_neg (not_not_intro (show D.has _ _ by unfold Dk.has; rw [e1]; omega)), if_neg (by rw [hd]; simp), write_free _ _ _ hf, secs_one e1]
  rfl
theorem wr_c (g : Nat) (D : Dk) (E : Hl) (hD : DkAt g D E) (i : Nat) (s : Sec) (A : Option Addr) (c : Nat) (hA : Off A 64 (bks E)) (hd : D.down = false) (hf : D.fused = false) (hi : i < D.now.length) (hU : D.uns.length ≤ 900000) : Does Try.prog 22 #[.pointer (some ⟨g, 0, none⟩), .int .i64 (i : Int), .slice A 64 c] E (fun w => Vu cByte w A 64 c (lst 64 s)) (fun v E' => v = .int .i64 0 ∧ DkAt g (D.lay1 i s) E') := by
  have hsz := hD.ok.sz
  have e1 : (lst 64 s).length = 64 := lst_len 64 s
  have h := write_c g D E hD (i : Int) (lst 64 s) (by omega) (by omega) A c (by rw [e1]; exact hA) (by rw [e1]; decide) hU hsz
  rw [wr_one hd hf hi, e1] at h
  exact h
theorem lay_step {D : Dk} {L : List Sec} {K i : Nat} {x : Sec} (hK : L.length = K) (hx : L[i]? = some x) (hN : D.now = (L.take i).map nrm ++ List.replicate (K - i) fun _ => 0) : (D.lay1 i x).now = (L.take (i + 1)).map nrm ++ List.replicate (K - (i + 1)) fun _ => 0 := by
  have hi : i < L.length := (List.getElem?_eq_some_iff.1 hx).1
  show D.now.set i (nrm x) = _
  have e : L.take (i + 1) = L.take i ++ [x] := by rw [List.take_add_one, hx]; rfl
  have hl : ((L.take i).map nrm).length = i := by rw [List.length_map, List.length_take]; omega
  rw [hN, List.set_append_right _ _ (by omega), hl, Nat.sub_self, e, List.map_append, List.append_assoc]
  congr 1
  rw [show K - i = (K - (i + 1)) + 1 by omega, List.replicate_succ, List.set_cons_zero]
  rfl

theorem room_el {n cap j kk : Nat} {cur : Array Value} {l : List (Nat → UInt8)} (h : Bk (cArr n) cap cur l) (hj : j < l.length) (hk : kk ≤ n) : 0 + j * n + kk * 1 ≤ cur.size := by
  have h1 := room_at h hj
  have h2 : (cArr n).sz = n := rfl
  rw [h2] at h1
  omega

set_option maxHeartbeats 8000000 in
theorem heads_l (sz : UInt8) (first second : List UInt8) (a b n m : Nat) (areas : UInt8) (raw : List UInt8) (Afirst Asecond Araw : Option Addr) (cfirst csecond craw : Nat) (hn : n < 65536) (hm : m < 65536) : Pure Try.prog 5 #[(.int .u8 (((sz.toNat) : Nat) : Int)), (.slice Afirst first.length cfirst), (.slice Asecond second.length csecond), (.int .u64 (((a) : Nat) : Int)), (.int .u64 (((b) : Nat) : Int)), (.int .u16 (((n) : Nat) : Int)), (.int .u16 (((m) : Nat) : Int)), (.int .u8 (((areas.toNat) : Nat) : Int)), (.slice Araw raw.length craw)] (fun w => Vu cByte w Afirst first.length cfirst first ∧ Vu cByte w Asecond second.length csecond second ∧ Vu cByte w Araw raw.length craw raw) (.bool true) := by
  refine pure_of (fn := Try.f5) Try.func5 rfl Try.ntmps5 (Nat.le_of_ble_eq_true rfl) rfl ?_
  intro w0 hH hR
  have hx := sz.toNat_lt; have ha8 := areas.toNat_lt
  refine cxSeq ?_
  refine cxReg ?_
  refine pxV (v := (.bool false)) (fun _ _ hF => opAssign rfl rfl) rfl (fun _ _ => rfl) (kA rfl) (by decide) ?_
  refine pxEnd ?_
  refine qxThen ?_
  refine cxSeq ?_
  refine cxSeq ?_
  refine cxReg ?_
  refine pxM hH (fun _ hF => Does.small ((awake_c ).does) (fun w => opCall rfl Try.func7 rfl rfl Evs.nil w)) trivial rfl (fun _ _ => rfl) (kM [false, true, true, true, true, true, true, true, true, true] rfl rfl) (by decide) ?_
  clear hH
  rintro _ _ w ⟨rfl, rfl⟩ hH
  replace hH : HH w0 [] [] w := hH.unpad
  refine pxV (v := (.bool false)) (fun _ _ hF => opNot rfl (hF.ev 0 rfl) rfl) rfl (fun _ _ => rfl) (kM [false, true, true, true, true, true, true, true, true, true] rfl rfl) (by decide) ?_
  refine pxV (v := (.bool false)) (fun _ _ hF => opMove rfl (hF.ev 0 rfl)) rfl (fun _ _ => rfl) (kM [false, true, true, true, true, true, true, true, true, true] rfl rfl) (by decide) ?_
  refine pxV (v := (.slice Araw raw.length craw)) (fun _ _ hF => opMove rfl (hF.ev 9 rfl)) rfl (gOn 0 rfl rfl rfl (by decide)) (kA rfl) (by decide) ?_
  refine pxV (v := (.int .i64 (((raw.length) : Nat) : Int))) (fun _ _ hF => opLen (e := 5) rfl (by kernel_rfl) (hF.ev 0 rfl)) rfl (gOn 1 rfl rfl rfl (by decide)) (kM [false, true, true, true, true, true, true, true, true, true, true] rfl rfl) (by decide) ?_
  refine pxV (v := (.bool (decide (raw.length > 3000)))) (fun _ _ hF => opGtr rfl (hF.ev 0 rfl) rfl (dc (by omega))) rfl (gOn 1 rfl rfl rfl (by decide)) (kM [false, true, true, true, true, true, true, true, true, true, true] rfl rfl) (by decide) ?_
  refine pxV (v := (.bool (decide (raw.length > 3000)))) (fun _ _ hF => opPickF rfl (hF.ev 1 rfl) (hF.ev 0 rfl)) rfl (fun _ _ => rfl) (kM [false, false, true, true, true, true, true, true, true, true, true] rfl rfl) (by decide) ?_
  refine pxEnd ?_
  refine qxThen ?_
  refine cxP 0 rfl rfl (fun hc1 => ?_) (fun hc1 => ?_)
  · refine cxSeq ?_
    refine cxReg ?_
    refine pxM hH (fun _ hF => Does.small ((awake_c ).does) (fun w => opCall rfl Try.func7 rfl rfl Evs.nil w)) trivial rfl (fun _ _ => rfl) (kM [false, false, false, false, false, false, false, false, false, false] rfl rfl) (by decide) ?_
    clear hH
    rintro _ _ w ⟨rfl, rfl⟩ hH
    replace hH : HH w0 [] [] w := hH.unpad
    refine pxV (v := (.bool true)) (fun _ _ hF => opAssign rfl (hF.ev 0 rfl)) rfl (fun _ _ => rfl) (kM [false] rfl rfl) (by decide) ?_
    refine pxEnd ?_
    refine qxThen ?_
    refine cxRet ?_
    refine qxThenR ?_
    refine qxRet1 0 rfl rfl ?_
    exact ⟨rfl, HH.toBelow hH⟩
  · refine cxSkip ?_
    refine qxThen ?_
    refine cxSeq ?_
    refine cxReg ?_
    refine pxV (v := (.int .u8 (((sz.toNat) : Nat) : Int))) (fun _ _ hF => opMove rfl (hF.ev 1 rfl)) rfl (fun _ _ => rfl) (kM [false, false, true, true, true, true, true, true, true, true] rfl rfl) (by decide) ?_
    refine pxV (v := (.int .u8 (((sz.toNat % 30) : Nat) : Int))) (fun _ _ hF => opRem (z := ((sz.toNat % 30 : Nat) : Int)) rfl (hF.ev 0 rfl) rfl (by omega) remN) rfl (fun _ _ => rfl) (kM [false, true, true, true, true, true, true, true, true] rfl rfl) (by decide) ?_
    refine pxV (v := (.int .i64 (((sz.toNat % 30) : Nat) : Int))) (fun _ _ hF => opConvI (k' := .i64) rfl (by kernel_rfl) (by kernel_rfl) (hF.ev 0 rfl) (wI rfl (by omega) (by omega))) rfl (fun _ _ => rfl) (kM [false, true, true, true, true, true, true, true, true] rfl rfl) (by decide) ?_
    refine pxV (v := (.int .i64 (((4 + (sz.toNat % 30)) : Nat) : Int))) (fun _ _ hF => opAdd rfl rfl (hF.ev 0 rfl) (wI (by omega) (by omega) (by omega))) rfl (fun _ _ => rfl) (kM [false, true, true, true, true, true, true, true, true] rfl rfl) (by decide) ?_
    refine pxV (v := (.int .i64 (((4 + (sz.toNat % 30)) : Nat) : Int))) (fun _ _ hF => opAssign rfl (hF.ev 0 rfl)) rfl (fun _ _ => rfl) (kM [false, true, true, true, true, true, true, true, true] rfl rfl) (by decide) ?_
    refine pxEnd ?_
    refine qxThen ?_
    refine cxSeq ?_
    refine cxReg ?_
    refine pxV (v := (.int .i64 (((4 + (sz.toNat % 30)) : Nat) : Int))) (fun _ _ hF => opMove rfl (hF.ev 0 rfl)) rfl (fun _ _ => rfl) (kA rfl) (by decide) ?_
    refine pxM hH (fun _ hF => smMake (e := 47) (n := 4 + (sz.toNat % 30)) (sz := 64) (by_ := 64) (z := (cSec.val (fun _ => 0))) (cs := madeCells (cSec.enc (fun _ => 0)) ((4 + (sz.toNat % 30)) * 64)) rfl (by kernel_rfl) (by kernel_rfl) (hF.ev 0 rfl) (hF.ev 0 rfl) rfl rfl (by omega) (by omega) rfl) trivial rfl (fun _ _ => rfl) (kM [false, true, true, true, true, true, true, true, true, true] rfl rfl) (by decide) ?_
    clear hH
    rintro _ _ w ⟨g2, rfl, rfl⟩ hH
    replace hH : HH w0 [] [[bl g2 47 (madeCells (cSec.enc (fun _ => 0)) ((4 + (sz.toNat % 30)) * 64))]] w := hH
    refine pxV (v := (.slice (some ⟨g2, 0, none⟩) (4 + (sz.toNat % 30)) (4 + (sz.toNat % 30)))) (fun _ _ hF => opAssign rfl (hF.ev 0 rfl)) rfl (fun _ _ => rfl) (kM [false, true, true, true, true, true, true, true, true, true] rfl rfl) (by decide) ?_
    refine pxEnd ?_
    refine qxThen ?_
    refine cxSeq ?_
    obtain ⟨L3, hL4, hl5, hB6⟩ : ∃ L, L = (List.replicate (4 + (sz.toNat % 30)) (fun _ => 0)) ∧ L.length = (4 + sz.toNat % 30) ∧ Bk cSec (4 + (sz.toNat % 30)) (madeCells (cSec.enc (fun _ => 0)) ((4 + (sz.toNat % 30)) * 64)) L := ⟨_, rfl, (by first | rw [List.length_replicate] | (rw [List.length_set]; omega)), (Bk.make (C := cSec) (fun _ => 0) (4 + (sz.toNat % 30)) (ltb rfl) (by unfold maxLen; omega))⟩
    clear hL4
    refine cxReg ?_
    refine pxV (v := (.slice (some ⟨g2, 0, none⟩) (4 + (sz.toNat % 30)) (4 + (sz.toNat % 30)))) (fun _ _ hF => opMove rfl (hF.ev 0 rfl)) rfl (fun _ _ => rfl) (kA rfl) (by decide) ?_
    refine pxV (v := (.int .u64 (((a) : Nat) : Int))) (fun _ _ hF => opMove rfl (hF.ev 5 rfl)) rfl (fun _ _ => rfl) (kM [true, true, true, true, true, false, true, true, true, true, true] rfl rfl) (by decide) ?_
    refine pxV (v := (.int .u16 (((n) : Nat) : Int))) (fun _ _ hF => opMove rfl (hF.ev 7 rfl)) rfl (fun _ _ => rfl) (kM [true, true, true, true, true, true, true, false, true, true, true] rfl rfl) (by decide) ?_
    refine pxV (v := (.int .i64 (((n) : Nat) : Int))) (fun _ _ hF => opConvI (k' := .i64) rfl (by kernel_rfl) (by kernel_rfl) (hF.ev 0 rfl) (wI rfl (by omega) (by omega))) rfl (fun _ _ => rfl) (kM [false, true, true, true, true, true, true, true, true, true, true] rfl rfl) (by decide) ?_
    refine pxV (v := (.int .u8 (((areas.toNat) : Nat) : Int))) (fun _ _ hF => opMove rfl (hF.ev 9 rfl)) rfl (fun _ _ => rfl) (kA rfl) (by decide) ?_
    refine pxV (v := (.int .u8 (((areas.toNat % 3) : Nat) : Int))) (fun _ _ hF => opRem (z := ((areas.toNat % 3 : Nat) : Int)) rfl (hF.ev 0 rfl) rfl (by omega) remN) rfl (fun _ _ => rfl) (kM [false, true, true, true, true, true, true, true, true, true, true, true] rfl rfl) (by decide) ?_
    refine pxV (v := (.int .i64 (((areas.toNat % 3) : Nat) : Int))) (fun _ _ hF => opConvI (k' := .i64) rfl (by kernel_rfl) (by kernel_rfl) (hF.ev 0 rfl) (wI rfl (by omega) (by omega))) rfl (fun _ _ => rfl) (kM [false, true, true, true, true, true, true, true, true, true, true, true] rfl rfl) (by decide) ?_
    refine pxM hH (fun _ hF => Does.small ((head_r a n (areas.toNat % 3) (by omega)).does) (fun w => opCall rfl Try.func21 rfl rfl (Evs.cons (v := (.int .u64 (((a) : Nat) : Int))) (hF.ev 2 rfl) (Evs.cons (v := (.int .i64 (((n) : Nat) : Int))) (hF.ev 1 rfl) (Evs.cons (v := (.int .i64 (((areas.toNat % 3) : Nat) : Int))) (hF.ev 0 rfl) Evs.nil))) w)) trivial rfl (fun _ _ => rfl) (kM [false, false, false, true, true, true, true, true, true, true, true, true] rfl rfl) (by decide) ?_
    clear hH
    rintro _ _ w ⟨rfl, rfl⟩ hH
    replace hH : HH w0 [] [[bl g2 47 (madeCells (cSec.enc (fun _ => 0)) ((4 + (sz.toNat % 30)) * 64))]] w := hH.unpad
    have hi7 : 0 < 4 + (sz.toNat % 30) := by omega
    have hj10 : 0 < L3.length := by first | exact hi7 | (simp only [List.length_drop, List.length_take]; omega) | omega
    obtain ⟨x8, hx9⟩ := get_at L3 0 hj10
    refine pxV (v := (.pointer (some ⟨g2, 0 + 0 * 64, none⟩))) (fun _ _ hF => opIndex (i := 0) (e := 47) (sz := 64) rfl (by kernel_rfl) (by kernel_rfl) (hF.ev 1 rfl) rfl rfl hi7) rfl (fun _ _ => rfl) (kM [true, false, true, true, true, true, true, true, true, true] rfl rfl) (by decide) ?_
    obtain ⟨cur12, hcs13, hB11⟩ : ∃ cs, putL (madeCells (cSec.enc (fun _ => 0)) ((4 + (sz.toNat % 30)) * 64)) (0 + 0 * 64) (cSec.enc (cutF (hdL a n (areas.toNat % 3)) 0)).toList = cs ∧ Bk cSec (4 + (sz.toNat % 30)) cs (L3.set 0 (cutF (hdL a n (areas.toNat % 3)) 0)) := ⟨_, rfl, put_at hB6 0 hj10 (cutF (hdL a n (areas.toNat % 3)) 0)⟩
    refine pxE0 0 hH rfl (fun _ hF => smStoreT (C := cSec) (z := (cutF (hdL a n (areas.toNat % 3)) 0)) rfl (hF.ev 0 rfl) (hF.ev 1 rfl) rfl (by kernel_rfl) (room_at hB6 hj10) hcs13) trivial rfl (fun _ _ => rfl) ?_
    clear hH
    rintro _ _ w rfl hH
    replace hH : HH w0 [] [[bl g2 47 cur12]] w := hH
    refine pxEnd ?_
    refine qxThen ?_
    refine cxSeq ?_
    obtain ⟨L14, hL15, hl16, hB17⟩ : ∃ L, L = (L3.set 0 (cutF (hdL a n (areas.toNat % 3)) 0)) ∧ L.length = (4 + sz.toNat % 30) ∧ Bk cSec (4 + (sz.toNat % 30)) cur12 L := ⟨_, rfl, (by first | rw [List.length_replicate] | (rw [List.length_set]; omega)), hB11⟩
    clear hL15
    refine cxReg ?_
    refine pxV (v := (.slice (some ⟨g2, 0, none⟩) (4 + (sz.toNat % 30)) (4 + (sz.toNat % 30)))) (fun _ _ hF => opMove rfl (hF.ev 2 rfl)) rfl (fun _ _ => rfl) (kM [false, false, true, true, true, true, true, true, true, true] rfl rfl) (by decide) ?_
    refine pxV (v := (.int .u64 (((b) : Nat) : Int))) (fun _ _ hF => opMove rfl (hF.ev 5 rfl)) rfl (fun _ _ => rfl) (kM [true, true, true, true, true, false, true, true, true] rfl rfl) (by decide) ?_
    refine pxV (v := (.int .u16 (((m) : Nat) : Int))) (fun _ _ hF => opMove rfl (hF.ev 6 rfl)) rfl (fun _ _ => rfl) (kM [true, true, true, true, true, true, false, true, true] rfl rfl) (by decide) ?_
    refine pxV (v := (.int .i64 (((m) : Nat) : Int))) (fun _ _ hF => opConvI (k' := .i64) rfl (by kernel_rfl) (by kernel_rfl) (hF.ev 0 rfl) (wI rfl (by omega) (by omega))) rfl (fun _ _ => rfl) (kM [false, true, true, true, true, true, true, true, true] rfl rfl) (by decide) ?_
    refine pxV (v := (.int .u8 (((areas.toNat) : Nat) : Int))) (fun _ _ hF => opMove rfl (hF.ev 7 rfl)) rfl (fun _ _ => rfl) (kM [true, true, true, true, true, true, true, false, true] rfl rfl) (by decide) ?_
    refine pxV (v := (.int .u8 (((areas.toNat / 3) : Nat) : Int))) (fun _ _ hF => opQuoU (m := areas.toNat) (j := 3) rfl rfl (hF.ev 0 rfl) rfl (by omega) (by show _ < 256; omega) rfl) rfl (fun _ _ => rfl) (kM [false, true, true, true, true, true, true, true, true] rfl rfl) (by decide) ?_
    refine pxV (v := (.int .u8 ((((areas.toNat / 3) % 3) : Nat) : Int))) (fun _ _ hF => opRem (z := (((areas.toNat / 3) % 3 : Nat) : Int)) rfl (hF.ev 0 rfl) rfl (by omega) remN) rfl (fun _ _ => rfl) (kM [false, true, true, true, true, true, true, true, true] rfl rfl) (by decide) ?_
    refine pxV (v := (.int .i64 ((((areas.toNat / 3) % 3) : Nat) : Int))) (fun _ _ hF => opConvI (k' := .i64) rfl (by kernel_rfl) (by kernel_rfl) (hF.ev 0 rfl) (wI rfl (by omega) (by omega))) rfl (fun _ _ => rfl) (kM [false, true, true, true, true, true, true, true, true] rfl rfl) (by decide) ?_
    refine pxM hH (fun _ hF => Does.small ((head_r b m ((areas.toNat / 3) % 3) (by omega)).does) (fun w => opCall rfl Try.func21 rfl rfl (Evs.cons (v := (.int .u64 (((b) : Nat) : Int))) (hF.ev 2 rfl) (Evs.cons (v := (.int .i64 (((m) : Nat) : Int))) (hF.ev 1 rfl) (Evs.cons (v := (.int .i64 ((((areas.toNat / 3) % 3) : Nat) : Int))) (hF.ev 0 rfl) Evs.nil))) w)) trivial rfl (fun _ _ => rfl) (kM [false, false, false, true, true, true, true, true, true] rfl rfl) (by decide) ?_
    clear hH
    rintro _ _ w ⟨rfl, rfl⟩ hH
    replace hH : HH w0 [] [[bl g2 47 cur12]] w := hH.unpad
    have hi18 : 1 < 4 + (sz.toNat % 30) := by omega
    have hj21 : 1 < L14.length := by first | exact hi18 | (simp only [List.length_drop, List.length_take]; omega) | omega
    obtain ⟨x19, hx20⟩ := get_at L14 1 hj21
    refine pxV (v := (.pointer (some ⟨g2, 0 + 1 * 64, none⟩))) (fun _ _ hF => opIndex (i := 1) (e := 47) (sz := 64) rfl (by kernel_rfl) (by kernel_rfl) (hF.ev 1 rfl) rfl rfl hi18) rfl (fun _ _ => rfl) (kM [true, false, true, true, true, true, true] rfl rfl) (by decide) ?_
    obtain ⟨cur23, hcs24, hB22⟩ : ∃ cs, putL cur12 (0 + 1 * 64) (cSec.enc (cutF (hdL b m ((areas.toNat / 3) % 3)) 0)).toList = cs ∧ Bk cSec (4 + (sz.toNat % 30)) cs (L14.set 1 (cutF (hdL b m ((areas.toNat / 3) % 3)) 0)) := ⟨_, rfl, put_at hB17 1 hj21 (cutF (hdL b m ((areas.toNat / 3) % 3)) 0)⟩
    refine pxE0 0 hH rfl (fun _ hF => smStoreT (C := cSec) (z := (cutF (hdL b m ((areas.toNat / 3) % 3)) 0)) rfl (hF.ev 0 rfl) (hF.ev 1 rfl) rfl (by kernel_rfl) (room_at hB17 hj21) hcs24) trivial rfl (fun _ _ => rfl) ?_
    clear hH
    rintro _ _ w rfl hH
    replace hH : HH w0 [] [[bl g2 47 cur23]] w := hH
    refine pxEnd ?_
    refine qxThen ?_
    refine cxSeq ?_
    obtain ⟨L25, hL26, hl27, hB28⟩ : ∃ L, L = (L14.set 1 (cutF (hdL b m ((areas.toNat / 3) % 3)) 0)) ∧ L.length = (4 + sz.toNat % 30) ∧ Bk cSec (4 + (sz.toNat % 30)) cur23 L := ⟨_, rfl, (by first | rw [List.length_replicate] | (rw [List.length_set]; omega)), hB22⟩
    clear hL26
    refine cxReg ?_
    refine pxV (v := (.slice (some ⟨g2, 0, none⟩) (4 + (sz.toNat % 30)) (4 + (sz.toNat % 30)))) (fun _ _ hF => opMove rfl (hF.ev 2 rfl)) rfl (fun _ _ => rfl) (kM [false, false, true, true, true, true, true] rfl rfl) (by decide) ?_
    have hi29 : 0 < 4 + (sz.toNat % 30) := by omega
    have hj32 : 0 < L25.length := by first | exact hi29 | (simp only [List.length_drop, List.length_take]; omega) | omega
    obtain ⟨x30, hx31⟩ := get_at L25 0 hj32
    refine pxV (v := (.pointer (some ⟨g2, 0 + 0 * 64, none⟩))) (fun _ _ hF => opIndex (i := 0) (e := 47) (sz := 64) rfl (by kernel_rfl) (by kernel_rfl) (hF.ev 0 rfl) rfl rfl hi29) rfl (fun _ _ => rfl) (kM [false, true, true, true, true, true] rfl rfl) (by decide) ?_
    refine pxV (v := (.slice (some ⟨g2, 0 + 0 * 64, none⟩) 64 64)) (fun _ _ hF => opSliceA (n := 64) (e := 5) (sz := 1) rfl (by kernel_rfl) (by kernel_rfl) (hF.ev 0 rfl)) rfl (fun _ _ => rfl) (kM [false, true, true, true, true, true] rfl rfl) (by decide) ?_
    refine pxV (v := (.slice Afirst first.length cfirst)) (fun _ _ hF => opMove rfl (hF.ev 3 rfl)) rfl (fun _ _ => rfl) (kM [true, true, true, false, true, true] rfl rfl) (by decide) ?_
    have hf36 : (flat cByte (first.take (min first.length 64))).length ≤ 64 := by rw [flat_len, List.length_take]; show min (min first.length 64) _ * 1 ≤ 64; omega
    obtain ⟨cur33, hcs34, hB35⟩ : ∃ cs, putL cur23 (0 + 0 * 64 + 0) (flat cByte (first.take (min first.length 64))) = cs ∧ Bk cSec (4 + (sz.toNat % 30)) cs (L25.set 0 (ovr (first.take (min first.length 64)) x30)) := ⟨_, rfl, hB28.part hx31 (by rw [Nat.zero_add]; exact hf36) (arr_ovr _ _)⟩
    refine pxE 0 hH rfl (fun _ hF => smCopyK (C := cByte) (m := first) (e := 5) (min first.length 64) rfl rfl (by kernel_rfl) (by kernel_rfl) (ltb rfl) (hF.ev 1 rfl) (hF.ev 0 rfl) rfl (room_el hB28 hj32 (by omega)) hcs34) (hH.vu hR.1 (by decide) (Off.nil _ _)) rfl (fun _ _ => rfl) (kM [false, false, true, true, true, true] rfl rfl) (by decide) ?_
    clear hH
    rintro _ _ w ⟨rfl, rfl⟩ hH
    replace hH : HH w0 [] [[bl g2 47 cur33]] w := hH
    refine pxEnd ?_
    refine qxThen ?_
    refine cxSeq ?_
    obtain ⟨L37, hL38, hl39, hB40⟩ : ∃ L, L = (L25.set 0 (ovr (first.take (min first.length 64)) x30)) ∧ L.length = (4 + sz.toNat % 30) ∧ Bk cSec (4 + (sz.toNat % 30)) cur33 L := ⟨_, rfl, (by first | rw [List.length_replicate] | (rw [List.length_set]; omega)), hB35⟩
    clear hL38
    refine cxReg ?_
    refine pxV (v := (.slice (some ⟨g2, 0, none⟩) (4 + (sz.toNat % 30)) (4 + (sz.toNat % 30)))) (fun _ _ hF => opMove rfl (hF.ev 1 rfl)) rfl (fun _ _ => rfl) (kM [false, true, true, true, true] rfl rfl) (by decide) ?_
    have hi41 : 1 < 4 + (sz.toNat % 30) := by omega
    have hj44 : 1 < L37.length := by first | exact hi41 | (simp only [List.length_drop, List.length_take]; omega) | omega
    obtain ⟨x42, hx43⟩ := get_at L37 1 hj44
    refine pxV (v := (.pointer (some ⟨g2, 0 + 1 * 64, none⟩))) (fun _ _ hF => opIndex (i := 1) (e := 47) (sz := 64) rfl (by kernel_rfl) (by kernel_rfl) (hF.ev 0 rfl) rfl rfl hi41) rfl (fun _ _ => rfl) (kM [false, true, true, true, true] rfl rfl) (by decide) ?_
    refine pxV (v := (.slice (some ⟨g2, 0 + 1 * 64, none⟩) 64 64)) (fun _ _ hF => opSliceA (n := 64) (e := 5) (sz := 1) rfl (by kernel_rfl) (by kernel_rfl) (hF.ev 0 rfl)) rfl (fun _ _ => rfl) (kM [false, true, true, true, true] rfl rfl) (by decide) ?_
    refine pxV (v := (.slice Asecond second.length csecond)) (fun _ _ hF => opMove rfl (hF.ev 3 rfl)) rfl (fun _ _ => rfl) (kM [true, true, true, false, true] rfl rfl) (by decide) ?_
    have hf48 : (flat cByte (second.take (min second.length 64))).length ≤ 64 := by rw [flat_len, List.length_take]; show min (min second.length 64) _ * 1 ≤ 64; omega
    obtain ⟨cur45, hcs46, hB47⟩ : ∃ cs, putL cur33 (0 + 1 * 64 + 0) (flat cByte (second.take (min second.length 64))) = cs ∧ Bk cSec (4 + (sz.toNat % 30)) cs (L37.set 1 (ovr (second.take (min second.length 64)) x42)) := ⟨_, rfl, hB40.part hx43 (by rw [Nat.zero_add]; exact hf48) (arr_ovr _ _)⟩
    refine pxE 0 hH rfl (fun _ hF => smCopyK (C := cByte) (m := second) (e := 5) (min second.length 64) rfl rfl (by kernel_rfl) (by kernel_rfl) (ltb rfl) (hF.ev 1 rfl) (hF.ev 0 rfl) rfl (room_el hB40 hj44 (by omega)) hcs46) (hH.vu hR.2.1 (by decide) (Off.nil _ _)) rfl (fun _ _ => rfl) (kM [false, false, true, true, true] rfl rfl) (by decide) ?_
    clear hH
    rintro _ _ w ⟨rfl, rfl⟩ hH
    replace hH : HH w0 [] [[bl g2 47 cur45]] w := hH
    refine pxEnd ?_
    refine qxThen ?_
    refine cxSeq ?_
    refine cxSeq ?_
    obtain ⟨L49, hL50, hl51, hB52⟩ : ∃ L, L = (L37.set 1 (ovr (second.take (min second.length 64)) x42)) ∧ L.length = (4 + sz.toNat % 30) ∧ Bk cSec (4 + (sz.toNat % 30)) cur45 L := ⟨_, rfl, (by first | rw [List.length_replicate] | (rw [List.length_set]; omega)), hB47⟩
    clear hL50
    refine cxReg ?_
    refine pxV (v := (.slice Araw raw.length craw)) (fun _ _ hF => opMove rfl (hF.ev 3 rfl)) rfl (fun _ _ => rfl) (kM [false, true, true, true] rfl rfl) (by decide) ?_
    refine pxV (v := (.int .i64 (((raw.length) : Nat) : Int))) (fun _ _ hF => opLen (e := 5) rfl (by kernel_rfl) (hF.ev 0 rfl)) rfl (fun _ _ => rfl) (kM [false, true, true, true] rfl rfl) (by decide) ?_
    refine pxV (v := (.int .i64 0)) (fun _ _ hF => opMove rfl rfl) rfl (fun _ _ => rfl) (kA rfl) (by decide) ?_
    refine pxEnd ?_
    refine qxThen ?_
    refine cxBlock ?_
    refine cxLoop (σ := Nat × (List Sec) × (Array Value)) (fun x => [(73, (.int .i64 (((x.1) : Nat) : Int))), (72, (.int .i64 (((raw.length) : Nat) : Int))), (20, (.slice (some ⟨g2, 0, none⟩) (4 + (sz.toNat % 30)) (4 + (sz.toNat % 30)))), (19, (.int .i64 (((4 + (sz.toNat % 30)) : Nat) : Int))), (8, (.slice Araw raw.length craw))]) (fun x w => HH w0 [] [[bl g2 47 x.2.2]] w ∧ (x.1 ≤ raw.length) ∧ (Bk cSec (4 + sz.toNat % 30) x.2.2 x.2.1) ∧ (x.2.1.length = (4 + sz.toNat % 30))) (fun x => raw.length - x.1) (0, L49, cur45) ⟨hH, (Nat.zero_le _), hB52, hl51⟩ (slots_at [0, 1, 2, 3, 4] rfl) ?_
    clear hH
    rintro ⟨i, L, cur'⟩ w ⟨hH, hi, hB', hlen⟩
    change CX _ _ _ _ [(73, (.int .i64 (((i) : Nat) : Int))), (72, (.int .i64 (((raw.length) : Nat) : Int))), (20, (.slice (some ⟨g2, 0, none⟩) (4 + (sz.toNat % 30)) (4 + (sz.toNat % 30)))), (19, (.int .i64 (((4 + (sz.toNat % 30)) : Nat) : Int))), (8, (.slice Araw raw.length craw))] _
    replace hH : HH w0 [] [[bl g2 47 cur']] w := hH
    replace hi : i ≤ raw.length := hi
    replace hB' : Bk cSec (4 + sz.toNat % 30) cur' L := hB'
    replace hlen : L.length = (4 + sz.toNat % 30) := hlen
    refine cxSeq ?_
    refine cxReg ?_
    refine pxV (v := (.bool (decide (i < raw.length)))) (fun _ _ hF => opLss rfl (hF.ev 0 rfl) (hF.ev 1 rfl) (dc (by omega))) rfl (fun _ _ => rfl) (kA rfl) (by decide) ?_
    refine pxEnd ?_
    refine qxThen ?_
    refine cxSeq ?_
    refine cxP 0 rfl rfl (fun hc53 => ?_) (fun hc53 => ?_)
    · refine cxSkip ?_
      refine qxThen ?_
      refine cxSeq ?_
      refine cxBlock ?_
      refine cxSeq ?_
      refine cxReg ?_
      refine pxV (v := (.int .i64 (((i) : Nat) : Int))) (fun _ _ hF => opMove rfl (hF.ev 1 rfl)) rfl (fun _ _ => rfl) (kM [false, true, true, true, true, true] rfl rfl) (by decide) ?_
      refine pxV (v := (.int .i64 (((i) : Nat) : Int))) (fun _ _ hF => opAssign rfl (hF.ev 0 rfl)) rfl (fun _ _ => rfl) (kM [false, true, true, true, true, true] rfl rfl) (by decide) ?_
      refine pxEnd ?_
      refine qxThen ?_
      have hm := Nat.mod_lt (i / 64) (show 0 < (4 + sz.toNat % 30) - 2 by omega)
      refine cxRegX mixedOrders (by kernel_rfl) ?_
      replace hH := hH.drew
      refine rxV 0 rfl (by kernel_rfl) rfl (fun _ _ => rfl) (fun _ _ hF => opMove rfl (hF.ev 3 rfl)) (kA rfl) (by decide) (v := (.slice (some ⟨g2, 0, none⟩) (4 + (sz.toNat % 30)) (4 + (sz.toNat % 30)))) ?_
      refine rxV 1 rfl (by kernel_rfl) rfl (fun _ _ => rfl) (fun _ _ hF => opMove rfl (hF.ev 1 rfl)) (kA rfl) (by decide) (v := (.int .i64 (((i) : Nat) : Int))) ?_
      refine rxV 2 rfl (by kernel_rfl) rfl (fun _ _ => rfl) (fun _ _ hF => opQuo (z := ((i / 64 : Nat) : Int)) rfl (hF.ev 0 rfl) rfl (by omega) (wI quoN (by omega) (by omega))) (kM [false, true, true, true, true, true, true, true] rfl rfl) (by decide) (v := (.int .i64 (((i / 64) : Nat) : Int))) ?_
      refine rxV 3 rfl (by kernel_rfl) rfl (fun _ _ => rfl) (fun _ _ hF => opMove rfl (hF.ev 6 rfl)) (kA rfl) (by decide) (v := (.int .i64 (((4 + (sz.toNat % 30)) : Nat) : Int))) ?_
      refine rxV 4 rfl (by kernel_rfl) rfl (fun _ _ => rfl) (fun _ _ hF => opSub rfl (hF.ev 0 rfl) rfl (wI (by omega) (by omega) (by omega))) (kM [false, true, true, true, true, true, true, true, true] rfl rfl) (by decide) (v := (.int .i64 ((((4 + sz.toNat % 30) - 2) : Nat) : Int))) ?_
      refine rxV 5 rfl (by kernel_rfl) rfl (fun _ _ => rfl) (fun _ _ hF => opRem (z := (((i / 64) % ((4 + sz.toNat % 30) - 2) : Nat) : Int)) rfl (hF.ev 1 rfl) (hF.ev 0 rfl) (by omega) remN) (kM [false, false, true, true, true, true, true, true, true] rfl rfl) (by decide) (v := (.int .i64 ((((i / 64) % ((4 + sz.toNat % 30) - 2)) : Nat) : Int))) ?_
      refine rxV 6 rfl (by kernel_rfl) rfl (fun _ _ => rfl) (fun _ _ hF => opAdd rfl rfl (hF.ev 0 rfl) (wI (by omega) (by omega) (by omega))) (kM [false, true, true, true, true, true, true, true] rfl rfl) (by decide) (v := (.int .i64 (((2 + ((i / 64) % ((4 + sz.toNat % 30) - 2))) : Nat) : Int))) ?_
      refine rxV 7 rfl (by kernel_rfl) rfl (fun _ _ => rfl) (fun _ _ hF => opMove rfl (hF.ev 2 rfl)) (kA rfl) (by decide) (v := (.int .i64 (((i) : Nat) : Int))) ?_
      refine rxV 8 rfl (by kernel_rfl) rfl (fun _ _ => rfl) (fun _ _ hF => opRem (z := ((i % 64 : Nat) : Int)) rfl (hF.ev 0 rfl) rfl (by omega) remN) (kM [false, true, true, true, true, true, true, true, true] rfl rfl) (by decide) (v := (.int .i64 (((i % 64) : Nat) : Int))) ?_
      refine rxV 9 rfl (by kernel_rfl) rfl (fun _ _ => rfl) (fun _ _ hF => opMove rfl (hF.ev 8 rfl)) (kA rfl) (by decide) (v := (.slice Araw raw.length craw)) ?_
      refine rxV 10 rfl (by kernel_rfl) rfl (fun _ _ => rfl) (fun _ _ hF => opMove rfl (hF.ev 4 rfl)) (kM [true, true, true, true, false, true, true, true, true, true] rfl rfl) (by decide) (v := (.int .i64 (((i) : Nat) : Int))) ?_
      have hi54 : i < raw.length := by omega
      obtain ⟨b55, off56, rfl, hL57, hb58, hR59⟩ := hR.2.2.blk (by decide) (Off.nil _ _) (by omega)
      have := hR.2.2.cap
      have hj62 : i < raw.length := by first | exact hi54 | (simp only [List.length_drop, List.length_take]; omega) | omega
      obtain ⟨x60, hx61⟩ := get_at raw i hj62
      have hb63 := UInt8.toNat_lt x60
      refine rxV 11 rfl (by kernel_rfl) rfl (fun _ _ => rfl) (fun _ _ hF => opIndex (i := i) (e := 5) (sz := 1) rfl (by kernel_rfl) (by kernel_rfl) (hF.ev 1 rfl) (hF.ev 0 rfl) rfl hi54) (kM [false, false, true, true, true, true, true, true, true, true] rfl rfl) (by decide) (v := (.pointer (some ⟨b55, off56 + i * 1, none⟩))) ?_
      refine rxS (fun w => HoldsL cByte w b55 off56 raw) 12 rfl (by kernel_rfl) rfl (fun _ _ => rfl) (hH.holdsL hL57 hb58 hR59) (fun _ _ hF hS => opLoadT (C := cByte) (y := x60) rfl (hF.ev 0 rfl) (by kernel_rfl) (hS i _ hx61) rfl) (kM [false, true, true, true, true, true, true, true, true] rfl rfl) (by decide) (v := (.int .u8 (((x60.toNat) : Nat) : Int))) ?_
      have hi64 : 2 + ((i / 64) % ((4 + sz.toNat % 30) - 2)) < 4 + (sz.toNat % 30) := by omega
      have hj67 : 2 + ((i / 64) % ((4 + sz.toNat % 30) - 2)) < L.length := by first | exact hi64 | (simp only [List.length_drop, List.length_take]; omega) | omega
      obtain ⟨x65, hx66⟩ := get_at L (2 + ((i / 64) % ((4 + sz.toNat % 30) - 2))) hj67
      refine rxV 13 rfl (by kernel_rfl) rfl (fun _ _ => rfl) (fun _ _ hF => opIndex (i := 2 + ((i / 64) % ((4 + sz.toNat % 30) - 2))) (e := 47) (sz := 64) rfl (by kernel_rfl) (by kernel_rfl) (hF.ev 3 rfl) (hF.ev 2 rfl) rfl hi64) (kM [true, true, false, false, true, true, true, true, true] rfl rfl) (by decide) (v := (.pointer (some ⟨g2, 0 + (2 + ((i / 64) % ((4 + sz.toNat % 30) - 2))) * 64, none⟩))) ?_
      have hi68 : i % 64 < 64 := by omega
      refine rxV 14 rfl (by kernel_rfl) rfl (fun _ _ => rfl) (fun _ _ hF => opIndexA (i := i % 64) (e := 5) (sz := 1) rfl (by kernel_rfl) (by kernel_rfl) (hF.ev 0 rfl) (hF.ev 2 rfl) rfl hi68) (kM [false, true, false, true, true, true, true, true] rfl rfl) (by decide) (v := (.pointer (some ⟨g2, 0 + (2 + ((i / 64) % ((4 + sz.toNat % 30) - 2))) * 64 + (i % 64) * 1, none⟩))) ?_
      refine rx1 15 (by kernel_rfl) ?_
      obtain ⟨cur70, hcs71, hB69⟩ : ∃ cs, putL cur' (0 + (2 + ((i / 64) % ((4 + sz.toNat % 30) - 2))) * 64 + (i % 64) * 1) (cByte.enc x60).toList = cs ∧ Bk cSec (4 + (sz.toNat % 30)) cs (L.set (2 + ((i / 64) % ((4 + sz.toNat % 30) - 2))) (setF x65 (i % 64) x60)) := ⟨_, rfl, hB'.part hx66 (arr_fit hi68) (arr_set _ _ hi68)⟩
      refine moE0 0 rfl hH rfl (fun _ hF => smStoreT (C := cByte) (z := x60) rfl (hF.ev 0 rfl) (hF.ev 1 rfl) rfl (by kernel_rfl) (room_arr hB' hj67 hi68) hcs71) trivial rfl (fun _ _ => rfl) (PendOk.go [] (by kernel_rfl) (PendOk.nil _ [])) ?_
      clear hH
      rintro _ _ w rfl hH
      replace hH : HH w0 [] [[bl g2 47 cur70]] w := hH
      refine ⟨(fun _ hs => by cases hs), ?_⟩
      refine rxEnd (by kernel_rfl) ?_
      refine qxInN ?_
      refine qxThen ?_
      refine cxReg ?_
      refine pxV (v := (.int .i64 (((i + 1) : Nat) : Int))) (fun _ _ hF => opAdd rfl (hF.ev 2 rfl) rfl (wI (by omega) (by omega) (by omega))) rfl (fun _ _ => rfl) (kM [false, false, false, true, true, true, true] rfl rfl) (by decide) ?_
      refine pxV (v := (.int .i64 (((i + 1) : Nat) : Int))) (fun _ _ hF => opMove rfl (hF.ev 0 rfl)) rfl (fun _ _ => rfl) (kM [false, true, true, true, true] rfl rfl) (by decide) ?_
      refine pxEnd ?_
      exact qxRound (i + 1, (L.set (2 + ((i / 64) % ((4 + sz.toNat % 30) - 2))) (setF x65 (i % 64) x60)), cur70) ⟨hH, (show (i + 1) ≤ raw.length from (by omega)), hB69, (by rw [List.length_set]; exact hlen)⟩ (by omega) (slots_at [0, 1, 2, 3, 4] rfl)
    · refine cxExit ?_
      refine qxThenE ?_
      refine qxThenE ?_
      refine qxInE ?_
      refine qxThen ?_
      refine cxSeq ?_
      refine cxReg ?_
      refine pxV (v := (.int .i64 (((4 + (sz.toNat % 30)) : Nat) : Int))) (fun _ _ hF => opMove rfl (hF.ev 4 rfl)) rfl (fun _ _ => rfl) (kM [false, false, false, true, false, false] rfl rfl) (by decide) ?_
      refine pxM hH (fun _ hF => Does.small (new_c (((4 + (sz.toNat % 30)) : Nat) : Int) (4 + sz.toNat % 30) (by omega) (by omega)) (fun w => opCall rfl Try.func9 rfl rfl (Evs.cons (v := (.int .i64 (((4 + (sz.toNat % 30)) : Nat) : Int))) (hF.ev 0 rfl) Evs.nil) w)) trivial rfl (fun _ _ => rfl) (kM [false, true] rfl rfl) (by decide) ?_
      clear hH
      rintro _ E73 w ⟨g72, rfl, hD74⟩ hH
      replace hH : HH w0 [] [[bl g2 47 cur'], E73] w := hH
      refine pxV (v := (.pointer (some ⟨g72, 0, none⟩))) (fun _ _ hF => opAssign rfl (hF.ev 0 rfl)) rfl (fun _ _ => rfl) (kM [false, true] rfl rfl) (by decide) ?_
      refine pxEnd ?_
      refine qxThen ?_
      refine cxSeq ?_
      refine cxSeq ?_
      refine cxReg ?_
      refine pxV (v := (.slice (some ⟨g2, 0, none⟩) (4 + (sz.toNat % 30)) (4 + (sz.toNat % 30)))) (fun _ _ hF => opMove rfl (hF.ev 1 rfl)) rfl (fun _ _ => rfl) (kA rfl) (by decide) ?_
      refine pxV (v := (.int .i64 (((4 + (sz.toNat % 30)) : Nat) : Int))) (fun _ _ hF => opLen (e := 47) rfl (by kernel_rfl) (hF.ev 0 rfl)) rfl (fun _ _ => rfl) (kM [false, true, true] rfl rfl) (by decide) ?_
      refine pxV (v := (.int .i64 0)) (fun _ _ hF => opMove rfl rfl) rfl (fun _ _ => rfl) (kA rfl) (by decide) ?_
      refine pxEnd ?_
      refine qxThen ?_
      refine cxBlock ?_
      refine cxLoop (σ := Nat × Dk × Hl) (fun x => [(96, (.int .i64 (((x.1) : Nat) : Int))), (95, (.int .i64 (((4 + (sz.toNat % 30)) : Nat) : Int))), (22, (.pointer (some ⟨g72, 0, none⟩))), (20, (.slice (some ⟨g2, 0, none⟩) (4 + (sz.toNat % 30)) (4 + (sz.toNat % 30))))]) (fun x w => HH w0 [] [[bl g2 47 cur'], x.2.2] w ∧ (x.1 ≤ (4 + sz.toNat % 30)) ∧ (DkAt g72 x.2.1 x.2.2) ∧ (x.2.1.down = false) ∧ (x.2.1.fused = false) ∧ (x.2.1.now.length = (4 + sz.toNat % 30)) ∧ (x.2.1.uns.length ≤ x.1) ∧ (x.2.1.now = (L.take x.1).map nrm ++ List.replicate ((4 + sz.toNat % 30) - x.1) fun _ => 0)) (fun x => (4 + sz.toNat % 30) - x.1) (0, (Dk.new (4 + sz.toNat % 30)), E73) ⟨hH, (Nat.zero_le _), hD74, rfl, rfl, (new_now _), (Nat.le_refl _), (by rw [List.take_zero]; rfl)⟩ (slots_at [0, 1, 2, 3] rfl) ?_
      clear hH
      rintro ⟨j, D, Ed⟩ w ⟨hH, hj, hD, hdn, hfu, hln, hun, hN⟩
      change CX _ _ _ _ [(96, (.int .i64 (((j) : Nat) : Int))), (95, (.int .i64 (((4 + (sz.toNat % 30)) : Nat) : Int))), (22, (.pointer (some ⟨g72, 0, none⟩))), (20, (.slice (some ⟨g2, 0, none⟩) (4 + (sz.toNat % 30)) (4 + (sz.toNat % 30))))] _
      replace hH : HH w0 [] [[bl g2 47 cur'], Ed] w := hH
      replace hj : j ≤ (4 + sz.toNat % 30) := hj
      replace hD : DkAt g72 D Ed := hD
      replace hdn : D.down = false := hdn
      replace hfu : D.fused = false := hfu
      replace hln : D.now.length = (4 + sz.toNat % 30) := hln
      replace hun : D.uns.length ≤ j := hun
      replace hN : D.now = (L.take j).map nrm ++ List.replicate ((4 + sz.toNat % 30) - j) fun _ => 0 := hN
      refine cxSeq ?_
      refine cxReg ?_
      refine pxV (v := (.bool (decide (j < 4 + (sz.toNat % 30))))) (fun _ _ hF => opLss rfl (hF.ev 0 rfl) (hF.ev 1 rfl) (dc (by omega))) rfl (fun _ _ => rfl) (kA rfl) (by decide) ?_
      refine pxEnd ?_
      refine qxThen ?_
      refine cxSeq ?_
      refine cxP 0 rfl rfl (fun hc75 => ?_) (fun hc75 => ?_)
      · refine cxSkip ?_
        refine qxThen ?_
        refine cxSeq ?_
        refine cxBlock ?_
        refine cxSeq ?_
        refine cxReg ?_
        refine pxV (v := (.int .i64 (((j) : Nat) : Int))) (fun _ _ hF => opMove rfl (hF.ev 1 rfl)) rfl (fun _ _ => rfl) (kM [false, true, true, true, true] rfl rfl) (by decide) ?_
        refine pxV (v := (.int .i64 (((j) : Nat) : Int))) (fun _ _ hF => opAssign rfl (hF.ev 0 rfl)) rfl (fun _ _ => rfl) (kM [false, true, true, true, true] rfl rfl) (by decide) ?_
        refine pxEnd ?_
        refine qxThen ?_
        obtain ⟨x0, hx0⟩ := get_at L j (by omega)
        refine cxReg ?_
        refine pxV (v := (.pointer (some ⟨g72, 0, none⟩))) (fun _ _ hF => opMove rfl (hF.ev 3 rfl)) rfl (fun _ _ => rfl) (kA rfl) (by decide) ?_
        refine pxV (v := (.int .i64 (((j) : Nat) : Int))) (fun _ _ hF => opMove rfl (hF.ev 1 rfl)) rfl (fun _ _ => rfl) (kA rfl) (by decide) ?_
        refine pxV (v := (.slice (some ⟨g2, 0, none⟩) (4 + (sz.toNat % 30)) (4 + (sz.toNat % 30)))) (fun _ _ hF => opMove rfl (hF.ev 6 rfl)) rfl (fun _ _ => rfl) (kA rfl) (by decide) ?_
        refine pxV (v := (.int .i64 (((j) : Nat) : Int))) (fun _ _ hF => opMove rfl (hF.ev 3 rfl)) rfl (fun _ _ => rfl) (kM [true, true, true, false, true, true, true, true] rfl rfl) (by decide) ?_
        have hi76 : j < 4 + (sz.toNat % 30) := by omega
        have hj79 : j < L.length := by first | exact hi76 | (simp only [List.length_drop, List.length_take]; omega) | omega
        refine pxV (v := (.pointer (some ⟨g2, 0 + j * 64, none⟩))) (fun _ _ hF => opIndex (i := j) (e := 47) (sz := 64) rfl (by kernel_rfl) (by kernel_rfl) (hF.ev 1 rfl) (hF.ev 0 rfl) rfl hi76) rfl (fun _ _ => rfl) (kM [false, false, true, true, true, true, true, true] rfl rfl) (by decide) ?_
        refine pxV (v := (.slice (some ⟨g2, 0 + j * 64, none⟩) 64 64)) (fun _ _ hF => opSliceA (n := 64) (e := 5) (sz := 1) rfl (by kernel_rfl) (by kernel_rfl) (hF.ev 0 rfl)) rfl (fun _ _ => rfl) (kM [false, true, true, true, true, true, true] rfl rfl) (by decide) ?_
        refine pxE 1 hH rfl (fun _ hF => Does.small (wr_c g72 D Ed hD j x0 (some ⟨g2, 0 + j * 64, none⟩) 64 (hH.off2 1 0 rfl rfl rfl) hdn hfu (by omega) (by omega)) (fun w => opCall rfl Try.func22 rfl rfl (Evs.cons (v := (.pointer (some ⟨g72, 0, none⟩))) (hF.ev 2 rfl) (Evs.cons (v := (.int .i64 (((j) : Nat) : Int))) (hF.ev 1 rfl) (Evs.cons (v := (.slice (some ⟨g2, 0 + j * 64, none⟩) 64 64)) (hF.ev 0 rfl) Evs.nil))) w)) (vu_holds ((hB'.holdsL (hH.blk 0 rfl)) j _ hx0)) rfl (fun _ _ => rfl) (kM [false, false, false, true, true, true, true] rfl rfl) (by decide) ?_
        clear hH
        rintro _ E80 w ⟨rfl, hD81⟩ hH
        replace hH : HH w0 [] [[bl g2 47 cur'], E80] w := hH
        refine pxEnd ?_
        refine qxInN ?_
        refine qxThen ?_
        refine cxReg ?_
        refine pxV (v := (.int .i64 (((j + 1) : Nat) : Int))) (fun _ _ hF => opAdd rfl (hF.ev 1 rfl) rfl (wI (by omega) (by omega) (by omega))) rfl (fun _ _ => rfl) (kM [false, false, true, true, true] rfl rfl) (by decide) ?_
        refine pxV (v := (.int .i64 (((j + 1) : Nat) : Int))) (fun _ _ hF => opMove rfl (hF.ev 0 rfl)) rfl (fun _ _ => rfl) (kM [false, true, true, true] rfl rfl) (by decide) ?_
        refine pxEnd ?_
        exact qxRound (j + 1, (D.lay1 j x0), E80) ⟨hH, (show (j + 1) ≤ (4 + sz.toNat % 30) from (by omega)), hD81, hdn, hfu, (by show (List.set _ _ _).length = _; rw [List.length_set]; exact hln), (show (D.lay1 j x0).uns.length ≤ (j + 1) from (by show (_ ++ [_]).length ≤ _; rw [List.length_append]; simp; omega)), (lay_step hlen hx0 hN)⟩ (by omega) (slots_at [0, 1, 2, 3] rfl)
      · refine cxExit ?_
        refine qxThenE ?_
        refine qxThenE ?_
        refine qxInE ?_
        refine qxThen ?_
        refine cxSeq ?_
        have hNN : D.now = L.map nrm := by rw [hN, List.take_of_length_le (by omega), show (4 + sz.toNat % 30) - j = 0 by omega, List.replicate_zero, List.append_nil]
        have hvt : vtOf g72 D.now = vtOf g72 L := by rw [hNN]; exact vt_nrm _ (by omega)
        refine cxReg ?_
        refine pxV (v := (.pointer (some ⟨g72, 0, none⟩))) (fun _ _ hF => opMove rfl (hF.ev 3 rfl)) rfl (fun _ _ => rfl) (kM [false, false, false, false, true] rfl rfl) (by decide) ?_
        refine pxE 1 hH rfl (fun _ hF => Does.small (open_ok g72 D Ed hD (by omega) hdn) (fun w => opCall rfl Try.func10 rfl rfl (Evs.cons (v := (.pointer (some ⟨g72, 0, none⟩))) (hF.ev 0 rfl) Evs.nil) w)) trivial rfl (fun _ _ => rfl) (kM [false, true] rfl rfl) (by decide) ?_
        clear hH
        rintro _ _ w ⟨g82, E83, E84, rfl, rfl, hD85, hV86⟩ hH
        replace hH : HH w0 [] [[bl g2 47 cur'], ([E83, E84] : List Hl).flatten] w := hH
        replace hH : HH w0 [] [[bl g2 47 cur'], E83, E84] w := hH.cast (by simp)
        refine pxV (v := (.tuple #[(.pointer (some ⟨g82, 0, none⟩)), (.int .i64 0)])) (fun _ _ hF => opMove rfl (hF.ev 0 rfl)) rfl (fun _ _ => rfl) (kM [false, true] rfl rfl) (by decide) ?_
        refine pxV (v := (.pointer (some ⟨g82, 0, none⟩))) (fun _ _ hF => opExtract rfl (hF.ev 0 rfl) rfl) rfl (fun _ _ => rfl) (kA rfl) (by decide) ?_
        refine pxV (v := (.int .i64 0)) (fun _ _ hF => opExtract rfl (hF.ev 1 rfl) rfl) rfl (fun _ _ => rfl) (kM [true, false, true] rfl rfl) (by decide) ?_
        refine pxV (v := (.pointer (some ⟨g82, 0, none⟩))) (fun _ _ hF => opAssign rfl (hF.ev 1 rfl)) rfl (fun _ _ => rfl) (kM [true, false, true] rfl rfl) (by decide) ?_
        refine pxV (v := (.int .i64 0)) (fun _ _ hF => opAssign rfl (hF.ev 1 rfl)) rfl (fun _ _ => rfl) (kM [true, false, true] rfl rfl) (by decide) ?_
        refine pxEnd ?_
        refine qxThen ?_
        refine cxSeq ?_
        refine cxReg ?_
        refine pxV (v := (.slice (some ⟨g2, 0, none⟩) (4 + (sz.toNat % 30)) (4 + (sz.toNat % 30)))) (fun _ _ hF => opMove rfl (hF.ev 2 rfl)) rfl (fun _ _ => rfl) (kM [true, true, false] rfl rfl) (by decide) ?_
        refine pxM hH (fun _ hF => Does.small (found_n g72 (some ⟨g2, 0, none⟩) (4 + (sz.toNat % 30)) (4 + (sz.toNat % 30)) L hlen (by omega) (by omega)) (fun w => opCall rfl Try.func15 rfl rfl (Evs.cons (v := (.slice (some ⟨g2, 0, none⟩) (4 + (sz.toNat % 30)) (4 + (sz.toNat % 30)))) (hF.ev 0 rfl) Evs.nil) w)) (hB'.vu (hH.blk 0 rfl) hlen) rfl (fun _ _ => rfl) (kM [false, true, true] rfl rfl) (by decide) ?_
        clear hH
        rintro _ E89 w ⟨s88, rfl, hO90⟩ hH
        replace hH : HH w0 [] [[bl g2 47 cur'], E83, E84, E89] w := hH
        obtain ⟨A91, c92, rfl⟩ := hO90.slice
        refine pxV (v := (.tuple #[(.slice A91 ((vtOf g72 L).kept.length) c92), (.int .u64 ((((vtOf g72 L).number) : Nat) : Int))])) (fun _ _ hF => opMove rfl (hF.ev 0 rfl)) rfl (fun _ _ => rfl) (kM [false, true, true] rfl rfl) (by decide) ?_
        refine pxV (v := (.slice A91 ((vtOf g72 L).kept.length) c92)) (fun _ _ hF => opExtract rfl (hF.ev 0 rfl) rfl) rfl (fun _ _ => rfl) (kA rfl) (by decide) ?_
        refine pxV (v := (.int .u64 ((((vtOf g72 L).number) : Nat) : Int))) (fun _ _ hF => opExtract rfl (hF.ev 1 rfl) rfl) rfl (fun _ _ => rfl) (kM [true, false, true, true] rfl rfl) (by decide) ?_
        refine pxV (v := (.slice A91 ((vtOf g72 L).kept.length) c92)) (fun _ _ hF => opAssign rfl (hF.ev 1 rfl)) rfl (fun _ _ => rfl) (kM [true, false, true, true] rfl rfl) (by decide) ?_
        refine pxV (v := (.int .u64 ((((vtOf g72 L).number) : Nat) : Int))) (fun _ _ hF => opAssign rfl (hF.ev 1 rfl)) rfl (fun _ _ => rfl) (kM [true, false, true, true] rfl rfl) (by decide) ?_
        refine pxEnd ?_
        refine qxThen ?_
        refine cxSeq ?_
        refine cxRegX mixedOrders (by kernel_rfl) ?_
        replace hH := hH.drew
        refine rxV 0 rfl (by kernel_rfl) rfl (fun _ _ => rfl) (fun _ _ hF => opMove rfl (hF.ev 2 rfl)) (kM [true, true, false, true] rfl rfl) (by decide) (v := (.int .i64 0)) ?_
        refine rxV 1 rfl (by kernel_rfl) rfl (fun _ _ => rfl) (fun _ _ hF => opEqI rfl (hF.ev 0 rfl) rfl (by decide)) (kM [false, true, true, true] rfl rfl) (by decide) (v := (.bool true)) ?_
        refine rxV 2 rfl (by kernel_rfl) rfl (fun _ _ => rfl) (fun _ _ hF => opMove rfl (hF.ev 0 rfl)) (kM [false, true, true, true] rfl rfl) (by decide) (v := (.bool true)) ?_
        refine rxV 3 rfl (by kernel_rfl) rfl (gOn 0 rfl rfl rfl (by decide)) (fun _ _ hF => opMove rfl (hF.ev 3 rfl)) (kA rfl) (by decide) (v := (.pointer (some ⟨g82, 0, none⟩))) ?_
        refine rxV 6 rfl (by kernel_rfl) rfl (gOn 1 rfl rfl rfl (by decide)) (fun _ _ hF => opMove rfl (hF.ev 3 rfl)) (kM [true, true, true, false, true] rfl rfl) (by decide) (v := (.slice A91 ((vtOf g72 L).kept.length) c92)) ?_
        refine rxS (fun w => Vu cByte w A91 ((vtOf g72 L).kept.length) c92 ((vtOf g72 L).kept)) 7 rfl (by kernel_rfl) rfl (gOn 2 rfl rfl rfl (by decide)) (hO90.vuAt (hH.has 3 rfl)) (fun _ _ hF hS => opStr (e := 5) rfl (by kernel_rfl) (by kernel_rfl) (by kernel_rfl) (hF.ev 0 rfl) hS) (kM [false, true, true, true, true] rfl rfl) (by decide) (v := (.string (strL ((vtOf g72 L).kept)))) ?_
        refine rx1 4 (by kernel_rfl) ?_
        obtain ⟨A93, n94, c95, E96, hE98, hO97⟩ := hV86.at'
        obtain rfl : n94 = (vtOf g72 D.now).kept.length := hO97.len
        replace hH : HH w0 [] [[bl g2 47 cur'], E83, [bl g82 61 #[(.pointer (some ⟨(vtOf g72 D.now).gd, 0, none⟩)), (.int .i64 ((((vtOf g72 D.now).half) : Nat) : Int)), (.int .i64 ((((vtOf g72 D.now).sector) : Nat) : Int)), (.int .u64 ((((vtOf g72 D.now).number) : Nat) : Int)), (.int .u64 ((((vtOf g72 D.now).size) : Nat) : Int)), (.int .i64 ((((vtOf g72 D.now).area) : Nat) : Int)), (.slice A93 ((vtOf g72 D.now).kept.length) c95), (.bool ((vtOf g72 D.now).over))]], E96, E89] w.drew := hH.cast (by rw [hE98]; simp)
        refine moM rfl hH (fun _ hF => Does.small (load_c g82 (vtOf g72 D.now) A93 c95 (Nat.le_trans (kept_le (by omega)) (by decide))) (fun w => opCall rfl Try.func12 rfl rfl (Evs.cons (v := (.pointer (some ⟨g82, 0, none⟩))) (hF.ev 1 rfl) Evs.nil) w)) ⟨hH.blk 2 rfl, (hO97.vuAt (hH.has 3 rfl))⟩ rfl (gOn 2 rfl rfl rfl (by decide)) (kM [true, false, true, true, true] rfl rfl) (by decide) (PendOk.keep (PendOk.nil _ [])) ?_
        clear hH
        rintro v103 E99 w hO100 hH
        replace hH : HH w0 [] [[bl g2 47 cur'], E83, [bl g82 61 #[(.pointer (some ⟨(vtOf g72 D.now).gd, 0, none⟩)), (.int .i64 ((((vtOf g72 D.now).half) : Nat) : Int)), (.int .i64 ((((vtOf g72 D.now).sector) : Nat) : Int)), (.int .u64 ((((vtOf g72 D.now).number) : Nat) : Int)), (.int .u64 ((((vtOf g72 D.now).size) : Nat) : Int)), (.int .i64 ((((vtOf g72 D.now).area) : Nat) : Int)), (.slice A93 ((vtOf g72 D.now).kept.length) c95), (.bool ((vtOf g72 D.now).over))]], E96, E89, E99] w := hH
        obtain ⟨A101, c102, rfl⟩ := hO100.slice
        refine ⟨(by
          intro s hs
          simp only [List.mem_cons, List.not_mem_nil, or_false] at hs
          rcases hs with rfl
          · exact (hO90.vuAt (hH.has 4 rfl))
          ), ?_⟩
        refine rxS (fun w => Vu cByte w A101 ((vtOf g72 D.now).kept.length) c102 ((vtOf g72 D.now).kept)) 5 rfl (by kernel_rfl) rfl (gOn 2 rfl rfl rfl (by decide)) (hO100.vuAt (hH.has 5 rfl)) (fun _ _ hF hS => opStr (e := 5) rfl (by kernel_rfl) (by kernel_rfl) (by kernel_rfl) (hF.ev 0 rfl) hS) (kM [false, true, true, true, true] rfl rfl) (by decide) (v := (.string (strL ((vtOf g72 D.now).kept)))) ?_
        refine rxV 8 rfl (by kernel_rfl) rfl (gOn 2 rfl rfl rfl (by decide)) (fun _ _ hF => opEqS rfl (hF.ev 0 rfl) (hF.ev 1 rfl) (decide_eq_true (by rw [hvt]))) (kM [false, false, true, true, true] rfl rfl) (by decide) (v := (.bool true)) ?_
        refine rxV 9 rfl (by kernel_rfl) rfl (fun _ _ => rfl) (fun _ _ hF => opPickT rfl (hF.ev 1 rfl) (hF.ev 0 rfl)) (kM [false, false, true, true] rfl rfl) (by decide) (v := (.bool true)) ?_
        refine rxV 10 rfl (by kernel_rfl) rfl (fun _ _ => rfl) (fun _ _ hF => opMove rfl (hF.ev 0 rfl)) (kM [false, true, true] rfl rfl) (by decide) (v := (.bool true)) ?_
        refine rxV 11 rfl (by kernel_rfl) rfl (gOn 0 rfl rfl rfl (by decide)) (fun _ _ hF => opMove rfl (hF.ev 2 rfl)) (kM [true, true, false] rfl rfl) (by decide) (v := (.pointer (some ⟨g82, 0, none⟩))) ?_
        refine rxV 13 rfl (by kernel_rfl) rfl (gOn 1 rfl rfl rfl (by decide)) (fun _ _ hF => opMove rfl (hF.ev 2 rfl)) (kM [true, true, false] rfl rfl) (by decide) (v := (.int .u64 ((((vtOf g72 L).number) : Nat) : Int))) ?_
        refine rx1 12 (by kernel_rfl) ?_
        refine moM rfl hH (fun _ hF => Does.small ((Pure.as (v := (.int .u64 ((((vtOf g72 D.now).number) : Nat) : Int))) (number_c g82 (vtOf g72 D.now) A93 c95) rfl).does) (fun w => opCall rfl Try.func13 rfl rfl (Evs.cons (v := (.pointer (some ⟨g82, 0, none⟩))) (hF.ev 1 rfl) Evs.nil) w)) (hH.blk 2 rfl) rfl (gOn 2 rfl rfl rfl (by decide)) (kM [true, false, true] rfl rfl) (by decide) (PendOk.go [10, 9, 8] (by kernel_rfl) (PendOk.go [10, 9, 8] (by kernel_rfl) (PendOk.nil _ []))) ?_
        clear hH
        rintro _ _ w ⟨rfl, rfl⟩ hH
        replace hH : HH w0 [] [[bl g2 47 cur'], E83, [bl g82 61 #[(.pointer (some ⟨(vtOf g72 D.now).gd, 0, none⟩)), (.int .i64 ((((vtOf g72 D.now).half) : Nat) : Int)), (.int .i64 ((((vtOf g72 D.now).sector) : Nat) : Int)), (.int .u64 ((((vtOf g72 D.now).number) : Nat) : Int)), (.int .u64 ((((vtOf g72 D.now).size) : Nat) : Int)), (.int .i64 ((((vtOf g72 D.now).area) : Nat) : Int)), (.slice A93 ((vtOf g72 D.now).kept.length) c95), (.bool ((vtOf g72 D.now).over))]], E96, E89, E99] w := hH.unpad
        refine ⟨(fun _ hs => by cases hs), ?_⟩
        refine rxV 14 rfl (by kernel_rfl) rfl (gOn 2 rfl rfl rfl (by decide)) (fun _ _ hF => opEqI rfl (hF.ev 0 rfl) (hF.ev 1 rfl) (decide_eq_true (by rw [hvt]))) (kM [false, false, true] rfl rfl) (by decide) (v := (.bool true)) ?_
        refine rxV 15 rfl (by kernel_rfl) rfl (fun _ _ => rfl) (fun _ _ hF => opPickT rfl (hF.ev 1 rfl) (hF.ev 0 rfl)) (kM [false, false] rfl rfl) (by decide) (v := (.bool true)) ?_
        refine rxV 16 rfl (by kernel_rfl) rfl (fun _ _ => rfl) (fun _ _ hF => opAssign rfl (hF.ev 0 rfl)) (kM [false] rfl rfl) (by decide) (v := (.bool true)) ?_
        refine rxEnd (by kernel_rfl) ?_
        refine qxThen ?_
        refine cxRet ?_
        refine qxRet1 0 rfl rfl ?_
        exact ⟨rfl, HH.toBelow hH⟩
end Go.Proofs.Ytglplhbhpaegeaa
