/- VaultCrashes, walked (mkvp.py writes this text). -/
import Derived.Test.YtglplhbhpaegeaaVp
namespace Go.Proofs.Ytglplhbhpaegeaa
open Go Go.RowKit
set_option maxRecDepth 100000

/-- What is wanted: a text that came in, or a slice of the call's own. -/
def Want (w0 : World) (A : Option Addr) (c : Nat) (W : List UInt8) (E : Hl) : Prop := (E = [] ∧ Vu cByte w0 A W.length c W) ∨ OwnT cByte 5 (.slice A W.length c) W E
theorem Want.vu {w0 w : World} {A : Option Addr} {c : Nat} {W : List UInt8} {E : Hl} {Hs : List Hl} (h : Want w0 A c W E) (hH : HH w0 [] Hs w) (k : Nat) (hk : Hs[k]? = some E) : Vu cByte w A W.length c W := by
  rcases h with ⟨_, h⟩ | h
  · exact hH.vu h (by decide) (Off.nil _ _)
  · exact h.vuAt (hH.has k hk)
theorem lay_uns_le (D : Dk) (at_ : Nat) (b : List UInt8) : (D.lay at_ b).2.uns.length ≤ D.uns.length + b.length / 64 := by
  have h := (writes_uns D (at_ : Int) b).1
  unfold Dk.lay
  split
  · exact h
  · exact Nat.le_trans (sync_uns _).1 h
theorem keep_uns (V : Vt) (D : Dk) (b : List UInt8) : (V.keep D b).2.1.uns.length ≤ D.uns.length + b.length / 64 + 2 := by
  have hw : (V.write D (V.next b.length) b).2.uns.length ≤ D.uns.length + b.length / 64 + 2 := by
    have h1 := lay_uns_le D (startA V.half (V.next b.length).area) (padB b)
    rw [padB_div] at h1
    have h0 : nsec b.length ≤ b.length / 64 + 1 := by unfold nsec; omega
    unfold Vt.write
    split
    · omega
    · have h2 := lay_uns_le (D.lay (startA V.half (V.next b.length).area) (padB b)).2 (V.next b.length).sector (hdL (V.next b.length).number (V.next b.length).size (V.next b.length).area)
      rw [hdL_len] at h2
      omega
  unfold Vt.keep
  split
  · show D.uns.length ≤ _; omega
  · split
    · show D.uns.length ≤ _; omega
    · split
      · exact hw
      · exact hw

set_option maxHeartbeats 8000000 in
theorem crashes_l (sz : UInt8) (raws : List SlH) (fuses : List UInt8) (keep : List Bool) (A Af Ak : Option Addr) (c cf ck : Nat) (hbig : ∀ x ∈ raws, x.2.1 ≤ 140737488355328) (hlen : raws.length ≤ 140737488355328) : Pure Try.prog 4 #[(.int .u8 (((sz.toNat) : Nat) : Int)), (.slice A raws.length c), (.slice Af fuses.length cf), (.slice Ak keep.length ck)] (fun w => Vu cSl w A raws.length c raws ∧ (∀ x ∈ raws, ∃ bytes, x.2.1 = bytes.length ∧ Vu cByte w x.1 bytes.length x.2.2 bytes) ∧ Vu cByte w Af fuses.length cf fuses ∧ Vu cBool w Ak keep.length ck keep) (.bool true) := by
  refine pure_of (fn := Try.f4) Try.func4 rfl Try.ntmps4 (Nat.le_of_ble_eq_true rfl) rfl ?_
  intro w0 hH hR
  have hx := sz.toNat_lt
  refine cxSeq ?_
  refine cxReg ?_
  refine pxV (v := (.bool false)) (fun _ _ hF => opAssign rfl rfl) rfl (fun _ _ => rfl) (kA rfl) (by decide) ?_
  refine pxEnd ?_
  refine qxThen ?_
  refine cxSeq ?_
  refine cxSeq ?_
  refine cxReg ?_
  refine pxM hH (fun _ hF => Does.small ((awake_c ).does) (fun w => opCall rfl Try.func7 rfl rfl Evs.nil w)) trivial rfl (fun _ _ => rfl) (kM [false, true, true, true, true] rfl rfl) (by decide) ?_
  clear hH
  rintro _ _ w ⟨rfl, rfl⟩ hH
  replace hH : HH w0 [] [] w := hH.unpad
  refine pxV (v := (.bool false)) (fun _ _ hF => opNot rfl (hF.ev 0 rfl) rfl) rfl (fun _ _ => rfl) (kM [false, true, true, true, true] rfl rfl) (by decide) ?_
  refine pxV (v := (.bool false)) (fun _ _ hF => opMove rfl (hF.ev 0 rfl)) rfl (fun _ _ => rfl) (kM [false, true, true, true, true] rfl rfl) (by decide) ?_
  refine pxV (v := (.slice A raws.length c)) (fun _ _ hF => opMove rfl (hF.ev 2 rfl)) rfl (gOn 0 rfl rfl rfl (by decide)) (kA rfl) (by decide) ?_
  refine pxM hH (fun _ hF => Does.small (few_c raws A c hbig hlen) (fun w => opCall rfl Try.func8 rfl rfl (Evs.cons (v := (.slice A raws.length c)) (hF.ev 0 rfl) Evs.nil) w)) (hH.vu hR.1 (by decide) (Off.nil _ _)) rfl (gOn 1 rfl rfl rfl (by decide)) (kM [false, true, true, true, true, true] rfl rfl) (by decide) ?_
  clear hH
  rintro _ _ w ⟨rfl, b1, rfl, hfew⟩ hH
  replace hH : HH w0 [] [] w := hH.unpad
  refine pxV (v := (.bool (!(b1)))) (fun _ _ hF => opNot rfl (hF.ev 0 rfl) rfl) rfl (gOn 1 rfl rfl rfl (by decide)) (kM [false, true, true, true, true, true] rfl rfl) (by decide) ?_
  refine pxV (v := (.bool (!(b1)))) (fun _ _ hF => opPickF rfl (hF.ev 1 rfl) (hF.ev 0 rfl)) rfl (fun _ _ => rfl) (kM [false, false, true, true, true, true] rfl rfl) (by decide) ?_
  refine pxV (v := (.bool (!(b1)))) (fun _ _ hF => opMove rfl (hF.ev 0 rfl)) rfl (fun _ _ => rfl) (kM [false, true, true, true, true] rfl rfl) (by decide) ?_
  refine pxSplitB 0 rfl (l1 := [(23, (.bool true)), (0, (.int .u8 (((sz.toNat) : Nat) : Int))), (1, (.slice A raws.length c)), (2, (.slice Af fuses.length cf)), (3, (.slice Ak keep.length ck))]) (l2 := [(23, (.bool false)), (0, (.int .u8 (((sz.toNat) : Nat) : Int))), (1, (.slice A raws.length c)), (2, (.slice Af fuses.length cf)), (3, (.slice Ak keep.length ck))]) rfl rfl (fun hg1 => ?_) (fun hg1 => ?_)
  · refine pxU rfl (gOff 0 rfl rfl rfl (by decide)) (kA rfl) (by decide) ?_
    refine pxU rfl (gOff 0 rfl rfl rfl (by decide)) (kA rfl) (by decide) ?_
    refine pxU rfl (gOff 0 rfl rfl rfl (by decide)) (kA rfl) (by decide) ?_
    refine pxV (v := (.bool true)) (fun _ _ hF => opPickT rfl (hF.ev 0 rfl) rfl) rfl (fun _ _ => rfl) (kM [false, true, true, true, true] rfl rfl) (by decide) ?_
    refine pxEnd ?_
    refine qxThen ?_
    refine cxT 0 rfl rfl ?_
    refine cxSeq ?_
    refine cxReg ?_
    refine pxM hH (fun _ hF => Does.small ((awake_c ).does) (fun w => opCall rfl Try.func7 rfl rfl Evs.nil w)) trivial rfl (fun _ _ => rfl) (kM [false, false, false, false, false] rfl rfl) (by decide) ?_
    clear hH
    rintro _ _ w ⟨rfl, rfl⟩ hH
    replace hH : HH w0 [] [] w := hH.unpad
    refine pxV (v := (.bool true)) (fun _ _ hF => opAssign rfl (hF.ev 0 rfl)) rfl (fun _ _ => rfl) (kM [false] rfl rfl) (by decide) ?_
    refine pxEnd ?_
    refine qxThen ?_
    refine cxRet ?_
    refine qxThenR ?_
    refine qxRet1 0 rfl rfl ?_
    exact ⟨rfl, HH.toBelow hH⟩
  · obtain ⟨h60, htot⟩ := hfew (by simpa using hg1)
    refine pxV (v := (.slice Ak keep.length ck)) (fun _ _ hF => opMove rfl (hF.ev 4 rfl)) rfl (gOn 0 rfl rfl rfl (by decide)) (kA rfl) (by decide) ?_
    refine pxV (v := (.int .i64 (((keep.length) : Nat) : Int))) (fun _ _ hF => opLen (e := 4) rfl (by kernel_rfl) (hF.ev 0 rfl)) rfl (gOn 1 rfl rfl rfl (by decide)) (kM [false, true, true, true, true, true] rfl rfl) (by decide) ?_
    refine pxV (v := (.bool (decide (keep.length > 300)))) (fun _ _ hF => opGtr rfl (hF.ev 0 rfl) rfl (dc (by omega))) rfl (gOn 1 rfl rfl rfl (by decide)) (kM [false, true, true, true, true, true] rfl rfl) (by decide) ?_
    refine pxV (v := (.bool (decide (keep.length > 300)))) (fun _ _ hF => opPickF rfl (hF.ev 1 rfl) (hF.ev 0 rfl)) rfl (fun _ _ => rfl) (kM [false, false, true, true, true, true] rfl rfl) (by decide) ?_
    refine pxEnd ?_
    refine qxThen ?_
    refine cxP 0 rfl rfl (fun hc2 => ?_) (fun hc2 => ?_)
    · refine cxSeq ?_
      refine cxReg ?_
      refine pxM hH (fun _ hF => Does.small ((awake_c ).does) (fun w => opCall rfl Try.func7 rfl rfl Evs.nil w)) trivial rfl (fun _ _ => rfl) (kM [false, false, false, false, false] rfl rfl) (by decide) ?_
      clear hH
      rintro _ _ w ⟨rfl, rfl⟩ hH
      replace hH : HH w0 [] [] w := hH.unpad
      refine pxV (v := (.bool true)) (fun _ _ hF => opAssign rfl (hF.ev 0 rfl)) rfl (fun _ _ => rfl) (kM [false] rfl rfl) (by decide) ?_
      refine pxEnd ?_
      refine qxThen ?_
      refine cxRet ?_
      refine qxThenR ?_
      refine qxRet1 0 rfl rfl ?_
      exact ⟨rfl, HH.toBelow hH⟩
    · refine cxSkip ?_
      refine qxThen ?_
      refine cxSeq ?_
      refine cxReg ?_
      refine pxV (v := (.int .u8 (((sz.toNat) : Nat) : Int))) (fun _ _ hF => opMove rfl (hF.ev 1 rfl)) rfl (fun _ _ => rfl) (kM [false, false, true, true, true] rfl rfl) (by decide) ?_
      refine pxV (v := (.int .i64 (((sz.toNat) : Nat) : Int))) (fun _ _ hF => opConvI (k' := .i64) rfl (by kernel_rfl) (by kernel_rfl) (hF.ev 0 rfl) (wI rfl (by omega) (by omega))) rfl (fun _ _ => rfl) (kM [false, true, true, true] rfl rfl) (by decide) ?_
      refine pxV (v := (.int .i64 (((4 + sz.toNat) : Nat) : Int))) (fun _ _ hF => opAdd rfl rfl (hF.ev 0 rfl) (wI (by omega) (by omega) (by omega))) rfl (fun _ _ => rfl) (kM [false, true, true, true] rfl rfl) (by decide) ?_
      refine pxM hH (fun _ hF => Does.small (new_c (((4 + sz.toNat) : Nat) : Int) (4 + sz.toNat) (by omega) (by omega)) (fun w => opCall rfl Try.func9 rfl rfl (Evs.cons (v := (.int .i64 (((4 + sz.toNat) : Nat) : Int))) (hF.ev 0 rfl) Evs.nil) w)) trivial rfl (fun _ _ => rfl) (kM [false, true, true, true] rfl rfl) (by decide) ?_
      clear hH
      rintro _ E4 w ⟨g3, rfl, hD5⟩ hH
      replace hH : HH w0 [] [E4] w := hH
      refine pxV (v := (.pointer (some ⟨g3, 0, none⟩))) (fun _ _ hF => opAssign rfl (hF.ev 0 rfl)) rfl (fun _ _ => rfl) (kM [false, true, true, true] rfl rfl) (by decide) ?_
      refine pxEnd ?_
      refine qxThen ?_
      refine cxSeq ?_
      have hln : (Dk.new (4 + sz.toNat)).now.length = (4 + sz.toNat) := new_now _
      refine cxReg ?_
      refine pxV (v := (.pointer (some ⟨g3, 0, none⟩))) (fun _ _ hF => opMove rfl (hF.ev 0 rfl)) rfl (fun _ _ => rfl) (kA rfl) (by decide) ?_
      refine pxE 0 hH rfl (fun _ hF => Does.small (open_ok g3 (Dk.new (4 + sz.toNat)) E4 hD5 (by omega) (rest_new (4 + sz.toNat)).up) (fun w => opCall rfl Try.func10 rfl rfl (Evs.cons (v := (.pointer (some ⟨g3, 0, none⟩))) (hF.ev 0 rfl) Evs.nil) w)) trivial rfl (fun _ _ => rfl) (kM [false, true, true, true, true] rfl rfl) (by decide) ?_
      clear hH
      rintro _ _ w ⟨g6, E7, E8, rfl, rfl, hD9, hV10⟩ hH
      replace hH : HH w0 [] [([E7, E8] : List Hl).flatten] w := hH
      replace hH : HH w0 [] [E7, E8] w := hH.cast (by simp)
      refine pxV (v := (.tuple #[(.pointer (some ⟨g6, 0, none⟩)), (.int .i64 0)])) (fun _ _ hF => opMove rfl (hF.ev 0 rfl)) rfl (fun _ _ => rfl) (kM [false, true, true, true, true] rfl rfl) (by decide) ?_
      refine pxV (v := (.pointer (some ⟨g6, 0, none⟩))) (fun _ _ hF => opExtract rfl (hF.ev 0 rfl) rfl) rfl (fun _ _ => rfl) (kA rfl) (by decide) ?_
      refine pxV (v := (.int .i64 0)) (fun _ _ hF => opExtract rfl (hF.ev 1 rfl) rfl) rfl (fun _ _ => rfl) (kM [true, false, true, true, true, true] rfl rfl) (by decide) ?_
      refine pxV (v := (.pointer (some ⟨g6, 0, none⟩))) (fun _ _ hF => opAssign rfl (hF.ev 1 rfl)) rfl (fun _ _ => rfl) (kM [true, false, true, true, true, true] rfl rfl) (by decide) ?_
      refine pxV (v := (.int .i64 0)) (fun _ _ hF => opAssign rfl (hF.ev 1 rfl)) rfl (fun _ _ => rfl) (kM [true, false, true, true, true, true] rfl rfl) (by decide) ?_
      refine pxEnd ?_
      refine qxThen ?_
      refine cxSeq ?_
      refine cxSeq ?_
      refine cxReg ?_
      refine pxV (v := (.int .i64 0)) (fun _ _ hF => opMove rfl (hF.ev 0 rfl)) rfl (fun _ _ => rfl) (kM [false, true, true, true, true, true] rfl rfl) (by decide) ?_
      refine pxV (v := (.bool false)) (fun _ _ hF => opNeI rfl (hF.ev 0 rfl) rfl (by decide)) rfl (fun _ _ => rfl) (kM [false, true, true, true, true, true] rfl rfl) (by decide) ?_
      refine pxEnd ?_
      refine qxThen ?_
      refine cxF 0 rfl rfl ?_
      refine cxSkip ?_
      refine qxThen ?_
      refine cxSeq ?_
      refine cxReg ?_
      refine pxV (v := (.slice none 0 0)) (fun _ _ hF => opAssign rfl rfl) rfl (fun _ _ => rfl) (kM [false, true, true, true, true, true] rfl rfl) (by decide) ?_
      refine pxEnd ?_
      refine qxThen ?_
      refine cxSeq ?_
      refine cxSeq ?_
      refine cxReg ?_
      refine pxV (v := (.slice A raws.length c)) (fun _ _ hF => opMove rfl (hF.ev 3 rfl)) rfl (fun _ _ => rfl) (kA rfl) (by decide) ?_
      refine pxV (v := (.int .i64 (((raws.length) : Nat) : Int))) (fun _ _ hF => opLen (e := 32) rfl (by kernel_rfl) (hF.ev 0 rfl)) rfl (fun _ _ => rfl) (kM [false, true, true, true, true, true, true] rfl rfl) (by decide) ?_
      refine pxV (v := (.int .i64 0)) (fun _ _ hF => opMove rfl rfl) rfl (fun _ _ => rfl) (kA rfl) (by decide) ?_
      refine pxEnd ?_
      refine qxThen ?_
      refine cxBlock ?_
      replace hH := HH.pad hH 1
      refine cxLoop (σ := Nat × Dk × Hl × Hl × Nat × (List UInt8) × (Option Addr) × Nat × Hl) (fun x => [(42, (.int .i64 (((x.1) : Nat) : Int))), (41, (.int .i64 (((raws.length) : Nat) : Int))), (12, (.slice x.2.2.2.2.2.2.1 x.2.2.2.2.2.1.length x.2.2.2.2.2.2.2.1)), (10, (.pointer (some ⟨x.2.2.2.2.1, 0, none⟩))), (9, (.pointer (some ⟨g3, 0, none⟩))), (3, (.slice Ak keep.length ck)), (2, (.slice Af fuses.length cf)), (1, (.slice A raws.length c))]) (fun x w => HH w0 [] [x.2.2.1, x.2.2.2.1, x.2.2.2.2.2.2.2.2] w ∧ (x.1 ≤ raws.length) ∧ (DkAt g3 x.2.1 x.2.2.1) ∧ (VtAt x.2.2.2.2.1 (vtOf g3 x.2.1.now) x.2.2.2.1) ∧ (AtRest x.2.1) ∧ (x.2.1.now.length = (4 + sz.toNat)) ∧ ((vtOf g3 x.2.1.now).kept = x.2.2.2.2.2.1) ∧ ((vtOf g3 x.2.1.now).number ≤ x.1) ∧ (Want w0 x.2.2.2.2.2.2.1 x.2.2.2.2.2.2.2.1 x.2.2.2.2.2.1 x.2.2.2.2.2.2.2.2)) (fun x => raws.length - x.1) (0, (Dk.new (4 + sz.toNat)), E7, E8, g6, [], none, 0, []) ⟨hH, (Nat.zero_le _), hD9, hV10, (rest_new _), hln, (vt_new g3 (4 + sz.toNat)).1, (Nat.le_of_eq (vt_new g3 (4 + sz.toNat)).2), (.inl ⟨rfl, Vu.none _ _⟩)⟩ (slots_at [0, 1, 2, 3, 4, 7, 6, 5] rfl) ?_
      clear hH
      rintro ⟨i, D, Ed, Ev, gv, W, Aw, cw, Ew⟩ w ⟨hH, hi, hD, hV, hRt, hl, hkp, hni, hW⟩
      change CX _ _ _ _ [(42, (.int .i64 (((i) : Nat) : Int))), (41, (.int .i64 (((raws.length) : Nat) : Int))), (12, (.slice Aw W.length cw)), (10, (.pointer (some ⟨gv, 0, none⟩))), (9, (.pointer (some ⟨g3, 0, none⟩))), (3, (.slice Ak keep.length ck)), (2, (.slice Af fuses.length cf)), (1, (.slice A raws.length c))] _
      replace hH : HH w0 [] [Ed, Ev, Ew] w := hH
      replace hi : i ≤ raws.length := hi
      replace hD : DkAt g3 D Ed := hD
      replace hV : VtAt gv (vtOf g3 D.now) Ev := hV
      replace hRt : AtRest D := hRt
      replace hl : D.now.length = (4 + sz.toNat) := hl
      replace hkp : (vtOf g3 D.now).kept = W := hkp
      replace hni : (vtOf g3 D.now).number ≤ i := hni
      replace hW : Want w0 Aw cw W Ew := hW
      refine cxSeq ?_
      refine cxReg ?_
      refine pxV (v := (.bool (decide (i < raws.length)))) (fun _ _ hF => opLss rfl (hF.ev 0 rfl) (hF.ev 1 rfl) (dc (by omega))) rfl (fun _ _ => rfl) (kA rfl) (by decide) ?_
      refine pxEnd ?_
      refine qxThen ?_
      refine cxSeq ?_
      refine cxP 0 rfl rfl (fun hc11 => ?_) (fun hc11 => ?_)
      · refine cxSkip ?_
        refine qxThen ?_
        refine cxSeq ?_
        refine cxBlock ?_
        refine cxSeq ?_
        refine cxReg ?_
        refine pxV (v := (.int .i64 (((i) : Nat) : Int))) (fun _ _ hF => opMove rfl (hF.ev 1 rfl)) rfl (fun _ _ => rfl) (kM [false, true, true, true, true, true, true, true, true] rfl rfl) (by decide) ?_
        refine pxV (v := (.int .i64 (((i) : Nat) : Int))) (fun _ _ hF => opAssign rfl (hF.ev 0 rfl)) rfl (fun _ _ => rfl) (kM [false, true, true, true, true, true, true, true, true] rfl rfl) (by decide) ?_
        refine pxEnd ?_
        refine qxThen ?_
        refine cxSeq ?_
        refine cxSeq ?_
        refine cxReg ?_
        refine pxV (v := (.int .i64 (((i) : Nat) : Int))) (fun _ _ hF => opMove rfl (hF.ev 0 rfl)) rfl (fun _ _ => rfl) (kA rfl) (by decide) ?_
        refine pxV (v := (.slice Af fuses.length cf)) (fun _ _ hF => opMove rfl (hF.ev 8 rfl)) rfl (fun _ _ => rfl) (kA rfl) (by decide) ?_
        refine pxV (v := (.int .i64 (((fuses.length) : Nat) : Int))) (fun _ _ hF => opLen (e := 5) rfl (by kernel_rfl) (hF.ev 0 rfl)) rfl (fun _ _ => rfl) (kM [false, true, true, true, true, true, true, true, true, true, true] rfl rfl) (by decide) ?_
        refine pxV (v := (.bool (decide (i < fuses.length)))) (fun _ _ hF => opLss rfl (hF.ev 1 rfl) (hF.ev 0 rfl) (dc (by omega))) rfl (fun _ _ => rfl) (kM [false, false, true, true, true, true, true, true, true, true, true] rfl rfl) (by decide) ?_
        refine pxEnd ?_
        refine qxThen ?_
        refine cxP 0 rfl rfl (fun hc12 => ?_) (fun hc12 => ?_)
        · refine cxReg ?_
          refine pxV (v := (.pointer (some ⟨g3, 0, none⟩))) (fun _ _ hF => opMove rfl (hF.ev 6 rfl)) rfl (fun _ _ => rfl) (kM [false, true, true, true, true, true, true, true, true, true] rfl rfl) (by decide) ?_
          refine pxV (v := (.slice Af fuses.length cf)) (fun _ _ hF => opMove rfl (hF.ev 8 rfl)) rfl (fun _ _ => rfl) (kA rfl) (by decide) ?_
          refine pxV (v := (.int .i64 (((i) : Nat) : Int))) (fun _ _ hF => opMove rfl (hF.ev 2 rfl)) rfl (fun _ _ => rfl) (kA rfl) (by decide) ?_
          have hi13 : i < fuses.length := by omega
          obtain ⟨b14, off15, rfl, hL16, hb17, hR18⟩ := hR.2.2.1.blk (by decide) (Off.nil _ _) (by omega)
          have := hR.2.2.1.cap
          have hj21 : i < fuses.length := by first | exact hi13 | (simp only [List.length_drop, List.length_take]; omega) | omega
          obtain ⟨x19, hx20⟩ := get_at fuses i hj21
          have hb22 := UInt8.toNat_lt x19
          refine pxV (v := (.pointer (some ⟨b14, off15 + i * 1, none⟩))) (fun _ _ hF => opIndex (i := i) (e := 5) (sz := 1) rfl (by kernel_rfl) (by kernel_rfl) (hF.ev 1 rfl) (hF.ev 0 rfl) rfl hi13) rfl (fun _ _ => rfl) (kM [false, false, true, true, true, true, true, true, true, true, true, true] rfl rfl) (by decide) ?_
          refine pxS (v := (.int .u8 (((x19.toNat) : Nat) : Int))) (fun w => HoldsL cByte w b14 off15 fuses) (hH.holdsL hL16 hb17 hR18) (fun _ _ hF hS => opLoadT (C := cByte) (y := x19) rfl (hF.ev 0 rfl) (by kernel_rfl) (hS i _ hx20) rfl) rfl (fun _ _ => rfl) (kM [false, true, true, true, true, true, true, true, true, true, true] rfl rfl) (by decide) ?_
          refine pxV (v := (.int .i64 (((x19.toNat) : Nat) : Int))) (fun _ _ hF => opConvI (k' := .i64) rfl (by kernel_rfl) (by kernel_rfl) (hF.ev 0 rfl) (wI rfl (by omega) (by omega))) rfl (fun _ _ => rfl) (kM [false, true, true, true, true, true, true, true, true, true, true] rfl rfl) (by decide) ?_
          refine pxE 0 hH rfl (fun _ hF => Does.small (setFuse_c g3 D Ed hD (((x19.toNat) : Nat) : Int) (by omega)) (fun w => opCall rfl Try.func19 rfl rfl (Evs.cons (v := (.pointer (some ⟨g3, 0, none⟩))) (hF.ev 1 rfl) (Evs.cons (v := (.int .i64 (((x19.toNat) : Nat) : Int))) (hF.ev 0 rfl) Evs.nil)) w)) trivial rfl (fun _ _ => rfl) (kM [false, false, true, true, true, true, true, true, true, true, true] rfl rfl) (by decide) ?_
          clear hH
          rintro _ E23 w ⟨rfl, hD24⟩ hH
          replace hH : HH w0 [] [E23, Ev, Ew] w := hH
          refine pxEnd ?_
          refine qxThen ?_
          refine cxSeq ?_
          obtain ⟨⟨A0, n0, c0⟩, hx0⟩ := get_at raws i (by omega)
          obtain ⟨bytes, hnb, hvb⟩ := hR.2.1 _ (List.mem_of_getElem? hx0)
          obtain rfl : n0 = bytes.length := hnb
          have hbl : bytes.length ≤ totS raws := totS_le hx0
          have hhf : halfOf D.now = (2 + sz.toNat) / 2 := by unfold halfOf; omega
          rcases (show (halfOf D.now * 64 < bytes.length) ∨ (bytes.length ≤ halfOf D.now * 64) by omega) with hlong | hsh
          · have hk0 : (vtOf g3 D.now).keep ({ D with fused := decide (0 ≤ (((x19.toNat) : Nat) : Int)), left := (((x19.toNat) : Nat) : Int) } : Dk) bytes = (6, ({ D with fused := decide (0 ≤ (((x19.toNat) : Nat) : Int)), left := (((x19.toNat) : Nat) : Int) } : Dk), vtOf g3 D.now) := keep_long rfl hlong
            have hun : ({ D with fused := decide (0 ≤ (((x19.toNat) : Nat) : Int)), left := (((x19.toNat) : Nat) : Int) } : Dk).uns.length ≤ 1000 := by rw [(rest_fuse hRt _ _).uns]; exact Nat.zero_le _
            refine cxReg ?_
            refine pxV (v := (.pointer (some ⟨gv, 0, none⟩))) (fun _ _ hF => opMove rfl (hF.ev 5 rfl)) rfl (fun _ _ => rfl) (kM [false, true, true, true, true, true, true, true, true, true] rfl rfl) (by decide) ?_
            refine pxV (v := (.slice A raws.length c)) (fun _ _ hF => opMove rfl (hF.ev 9 rfl)) rfl (fun _ _ => rfl) (kA rfl) (by decide) ?_
            refine pxV (v := (.int .i64 (((i) : Nat) : Int))) (fun _ _ hF => opMove rfl (hF.ev 2 rfl)) rfl (fun _ _ => rfl) (kA rfl) (by decide) ?_
            have hi25 : i < raws.length := by omega
            obtain ⟨b26, off27, rfl, hL28, hb29, hR30⟩ := hR.1.blk (by decide) (Off.nil _ _) (by omega)
            have := hR.1.cap
            have hj33 : i < raws.length := by first | exact hi25 | (simp only [List.length_drop, List.length_take]; omega) | omega
            refine pxV (v := (.pointer (some ⟨b26, off27 + i * 1, none⟩))) (fun _ _ hF => opIndex (i := i) (e := 32) (sz := 1) rfl (by kernel_rfl) (by kernel_rfl) (hF.ev 1 rfl) (hF.ev 0 rfl) rfl hi25) rfl (fun _ _ => rfl) (kM [false, false, true, true, true, true, true, true, true, true, true, true] rfl rfl) (by decide) ?_
            refine pxS (v := (.slice A0 bytes.length c0)) (fun w => HoldsL cSl w b26 off27 raws) (hH.holdsL hL28 hb29 hR30) (fun _ _ hF hS => opLoadT (C := cSl) (y := (A0, bytes.length, c0)) rfl (hF.ev 0 rfl) (by kernel_rfl) (hS i _ hx0) rfl) rfl (fun _ _ => rfl) (kM [false, true, true, true, true, true, true, true, true, true, true] rfl rfl) (by decide) ?_
            replace hH : HH w0 [] [([E23, Ev] : List Hl).flatten, Ew] w := hH.cast (by simp)
            refine pxE 0 hH rfl (fun _ hF => Does.small (keep_as gv g3 (vtOf g3 D.now) ({ D with fused := decide (0 ≤ (((x19.toNat) : Nat) : Int)), left := (((x19.toNat) : Nat) : Int) } : Dk) E23 Ev hD24 hV rfl bytes A0 c0 (hH.off 0 rfl hvb (by decide) (Off.nil _ _)) (by omega) (by rw [(rest_fuse hRt _ _).uns]; exact Nat.zero_le _) hk0) (fun w => opCall rfl Try.func14 rfl rfl (Evs.cons (v := (.pointer (some ⟨gv, 0, none⟩))) (hF.ev 1 rfl) (Evs.cons (v := (.slice A0 bytes.length c0)) (hF.ev 0 rfl) Evs.nil)) w)) (hH.vu hvb (by decide) (Off.nil _ _)) rfl (fun _ _ => rfl) (kM [false, false, true, true, true, true, true, true, true, true, true] rfl rfl) (by decide) ?_
            clear hH
            rintro _ _ w ⟨rfl, E34, E35, rfl, hD36, hV37⟩ hH
            replace hH : HH w0 [] [([E34, E35] : List Hl).flatten, Ew] w := hH
            replace hH : HH w0 [] [E34, E35, Ew] w := hH.cast (by simp)
            refine pxV (v := (.int .i64 6)) (fun _ _ hF => opAssign rfl (hF.ev 0 rfl)) rfl (fun _ _ => rfl) (kM [false, true, true, true, true, true, true, true, true, true] rfl rfl) (by decide) ?_
            refine pxEnd ?_
            refine qxThen ?_
            refine cxSeq ?_
            refine cxSeq ?_
            refine cxReg ?_
            refine pxV (v := (.int .i64 6)) (fun _ _ hF => opMove rfl (hF.ev 0 rfl)) rfl (fun _ _ => rfl) (kA rfl) (by decide) ?_
            refine pxV (v := (.bool false)) (fun _ _ hF => opEqI rfl (hF.ev 0 rfl) rfl (by decide)) rfl (fun _ _ => rfl) (kM [false, true, true, true, true, true, true, true, true, true, true] rfl rfl) (by decide) ?_
            refine pxEnd ?_
            refine qxThen ?_
            refine cxF 0 rfl rfl ?_
            refine cxSkip ?_
            refine qxThen ?_
            refine cxSeq ?_
            refine cxSeq ?_
            refine cxRegX mixedOrders (by kernel_rfl) ?_
            replace hH := hH.drew
            refine rxV 0 rfl (by kernel_rfl) rfl (fun _ _ => rfl) (fun _ _ hF => opMove rfl (hF.ev 1 rfl)) (kM [false, true, true, true, true, true, true, true, true, true, true] rfl rfl) (by decide) (v := (.int .i64 6)) ?_
            refine rxV 1 rfl (by kernel_rfl) rfl (fun _ _ => rfl) (fun _ _ hF => opNeI rfl (hF.ev 0 rfl) rfl (by decide)) (kM [false, true, true, true, true, true, true, true, true, true, true] rfl rfl) (by decide) (v := (.bool true)) ?_
            refine rxV 2 rfl (by kernel_rfl) rfl (fun _ _ => rfl) (fun _ _ hF => opMove rfl (hF.ev 0 rfl)) (kM [false, true, true, true, true, true, true, true, true, true, true] rfl rfl) (by decide) (v := (.bool true)) ?_
            refine rxV 3 rfl (by kernel_rfl) rfl (gOn 0 rfl rfl rfl (by decide)) (fun _ _ hF => opMove rfl (hF.ev 1 rfl)) (kA rfl) (by decide) (v := (.int .i64 6)) ?_
            refine rxV 4 rfl (by kernel_rfl) rfl (gOn 1 rfl rfl rfl (by decide)) (fun _ _ hF => opNeI rfl (hF.ev 0 rfl) rfl (by decide)) (kM [false, true, true, true, true, true, true, true, true, true, true, true] rfl rfl) (by decide) (v := (.bool false)) ?_
            refine rxV 5 rfl (by kernel_rfl) rfl (fun _ _ => rfl) (fun _ _ hF => opPickT rfl (hF.ev 1 rfl) (hF.ev 0 rfl)) (kM [false, false, true, true, true, true, true, true, true, true, true, true] rfl rfl) (by decide) (v := (.bool false)) ?_
            refine rxV 6 rfl (by kernel_rfl) rfl (fun _ _ => rfl) (fun _ _ hF => opMove rfl (hF.ev 0 rfl)) (kM [false, true, true, true, true, true, true, true, true, true, true] rfl rfl) (by decide) (v := (.bool false)) ?_
            refine rxV 7 rfl (by kernel_rfl) rfl (gOn 0 rfl rfl rfl (by decide)) (fun _ _ hF => opMove rfl (hF.ev 6 rfl)) (kA rfl) (by decide) (v := (.pointer (some ⟨gv, 0, none⟩))) ?_
            refine rxV 9 rfl (by kernel_rfl) rfl (gOn 1 rfl rfl rfl (by decide)) (fun _ _ hF => opMove rfl (hF.ev 2 rfl)) (kM [true, true, false, true, true, true, true, true, true, true, true, true] rfl rfl) (by decide) (v := (.int .i64 6)) ?_
            refine rxV 10 rfl (by kernel_rfl) rfl (gOn 2 rfl rfl rfl (by decide)) (fun _ _ hF => opEqI rfl (hF.ev 0 rfl) rfl (by decide)) (kM [false, true, true, true, true, true, true, true, true, true, true, true] rfl rfl) (by decide) (v := (.bool false)) ?_
            refine rx1 8 (by kernel_rfl) ?_
            obtain ⟨A38, n39, c40, E41, hE43, hO42⟩ := hV37.at'
            obtain rfl : n39 = (vtOf g3 D.now).kept.length := hO42.len
            replace hH : HH w0 [] [E34, [bl gv 61 #[(.pointer (some ⟨(vtOf g3 D.now).gd, 0, none⟩)), (.int .i64 ((((vtOf g3 D.now).half) : Nat) : Int)), (.int .i64 ((((vtOf g3 D.now).sector) : Nat) : Int)), (.int .u64 ((((vtOf g3 D.now).number) : Nat) : Int)), (.int .u64 ((((vtOf g3 D.now).size) : Nat) : Int)), (.int .i64 ((((vtOf g3 D.now).area) : Nat) : Int)), (.slice A38 ((vtOf g3 D.now).kept.length) c40), (.bool ((vtOf g3 D.now).over))]], E41, Ew] w.drew := hH.cast (by rw [hE43]; simp)
            refine moM rfl hH (fun _ hF => Does.small ((Pure.as (v := (.bool false)) (over_c gv (vtOf g3 D.now) A38 c40) rfl).does) (fun w => opCall rfl Try.func17 rfl rfl (Evs.cons (v := (.pointer (some ⟨gv, 0, none⟩))) (hF.ev 1 rfl) Evs.nil) w)) (hH.blk 1 rfl) rfl (gOn 2 rfl rfl rfl (by decide)) (kM [true, false, true, true, true, true, true, true, true, true, true, true] rfl rfl) (by decide) (PendOk.nil _ []) ?_
            clear hH
            rintro _ _ w ⟨rfl, rfl⟩ hH
            replace hH : HH w0 [] [E34, [bl gv 61 #[(.pointer (some ⟨(vtOf g3 D.now).gd, 0, none⟩)), (.int .i64 ((((vtOf g3 D.now).half) : Nat) : Int)), (.int .i64 ((((vtOf g3 D.now).sector) : Nat) : Int)), (.int .u64 ((((vtOf g3 D.now).number) : Nat) : Int)), (.int .u64 ((((vtOf g3 D.now).size) : Nat) : Int)), (.int .i64 ((((vtOf g3 D.now).area) : Nat) : Int)), (.slice A38 ((vtOf g3 D.now).kept.length) c40), (.bool ((vtOf g3 D.now).over))]], E41, Ew] w := hH.unpad
            refine ⟨(fun _ hs => by cases hs), ?_⟩
            refine rxV 11 rfl (by kernel_rfl) rfl (gOn 2 rfl rfl rfl (by decide)) (fun _ _ hF => opNeB rfl (by kernel_rfl) (hF.ev 0 rfl) (hF.ev 1 rfl) rfl) (kM [false, false, true, true, true, true, true, true, true, true, true, true] rfl rfl) (by decide) (v := (.bool false)) ?_
            refine rxV 12 rfl (by kernel_rfl) rfl (fun _ _ => rfl) (fun _ _ hF => opPickF rfl (hF.ev 1 rfl) (hF.ev 0 rfl)) (kM [false, false, true, true, true, true, true, true, true, true, true] rfl rfl) (by decide) (v := (.bool false)) ?_
            refine rxV 13 rfl (by kernel_rfl) rfl (fun _ _ => rfl) (fun _ _ hF => opMove rfl (hF.ev 0 rfl)) (kM [false, true, true, true, true, true, true, true, true, true] rfl rfl) (by decide) (v := (.bool false)) ?_
            refine rxV 14 rfl (by kernel_rfl) rfl (gOn 0 rfl rfl rfl (by decide)) (fun _ _ hF => opMove rfl (hF.ev 5 rfl)) (kM [true, true, true, true, true, false, true, true, true, true] rfl rfl) (by decide) (v := (.pointer (some ⟨gv, 0, none⟩))) ?_
            refine rxV 17 rfl (by kernel_rfl) rfl (gOn 1 rfl rfl rfl (by decide)) (fun _ _ hF => opMove rfl (hF.ev 5 rfl)) (kA rfl) (by decide) (v := (.slice Aw W.length cw)) ?_
            refine rxS (fun w => Vu cByte w Aw W.length cw W) 18 rfl (by kernel_rfl) rfl (gOn 2 rfl rfl rfl (by decide)) (hW.vu hH 3 rfl) (fun _ _ hF hS => opStr (e := 5) rfl (by kernel_rfl) (by kernel_rfl) (by kernel_rfl) (hF.ev 0 rfl) hS) (kM [false, true, true, true, true, true, true, true, true, true, true] rfl rfl) (by decide) (v := (.string (strL W))) ?_
            refine rx1 15 (by kernel_rfl) ?_
            refine moM rfl hH (fun _ hF => Does.small (load_c gv (vtOf g3 D.now) A38 c40 (Nat.le_trans (kept_le (gd := g3) (by omega)) (by decide))) (fun w => opCall rfl Try.func12 rfl rfl (Evs.cons (v := (.pointer (some ⟨gv, 0, none⟩))) (hF.ev 1 rfl) Evs.nil) w)) ⟨hH.blk 1 rfl, (hO42.vuAt (hH.has 2 rfl))⟩ rfl (gOn 2 rfl rfl rfl (by decide)) (kM [true, false, true, true, true, true, true, true, true, true, true] rfl rfl) (by decide) (PendOk.keep (PendOk.nil _ [])) ?_
            clear hH
            rintro v48 E44 w hO45 hH
            replace hH : HH w0 [] [E34, [bl gv 61 #[(.pointer (some ⟨(vtOf g3 D.now).gd, 0, none⟩)), (.int .i64 ((((vtOf g3 D.now).half) : Nat) : Int)), (.int .i64 ((((vtOf g3 D.now).sector) : Nat) : Int)), (.int .u64 ((((vtOf g3 D.now).number) : Nat) : Int)), (.int .u64 ((((vtOf g3 D.now).size) : Nat) : Int)), (.int .i64 ((((vtOf g3 D.now).area) : Nat) : Int)), (.slice A38 ((vtOf g3 D.now).kept.length) c40), (.bool ((vtOf g3 D.now).over))]], E41, Ew, E44] w := hH
            obtain ⟨A46, c47, rfl⟩ := hO45.slice
            refine ⟨(by
              intro s hs
              simp only [List.mem_cons, List.not_mem_nil, or_false] at hs
              rcases hs with rfl
              · exact (hW.vu hH 3 rfl)
              ), ?_⟩
            refine rxS (fun w => Vu cByte w A46 ((vtOf g3 D.now).kept.length) c47 ((vtOf g3 D.now).kept)) 16 rfl (by kernel_rfl) rfl (gOn 2 rfl rfl rfl (by decide)) (hO45.vuAt (hH.has 4 rfl)) (fun _ _ hF hS => opStr (e := 5) rfl (by kernel_rfl) (by kernel_rfl) (by kernel_rfl) (hF.ev 0 rfl) hS) (kM [false, true, true, true, true, true, true, true, true, true, true] rfl rfl) (by decide) (v := (.string (strL ((vtOf g3 D.now).kept)))) ?_
            refine rxV 19 rfl (by kernel_rfl) rfl (gOn 2 rfl rfl rfl (by decide)) (fun _ _ hF => opNeS rfl (hF.ev 0 rfl) (hF.ev 1 rfl) (decide_eq_false (fun h => h (congrArg strL hkp)))) (kM [false, false, true, true, true, true, true, true, true, true, true] rfl rfl) (by decide) (v := (.bool false)) ?_
            refine rxV 20 rfl (by kernel_rfl) rfl (fun _ _ => rfl) (fun _ _ hF => opPickF rfl (hF.ev 1 rfl) (hF.ev 0 rfl)) (kM [false, false, true, true, true, true, true, true, true, true] rfl rfl) (by decide) (v := (.bool false)) ?_
            refine rxEnd (by kernel_rfl) ?_
            refine qxThen ?_
            refine cxF 0 rfl rfl ?_
            refine cxSkip ?_
            refine qxThen ?_
            refine cxSeq ?_
            have hcs := crash_rest (D := ({ D with fused := decide (0 ≤ (((x19.toNat) : Nat) : Int)), left := (((x19.toNat) : Nat) : Int) } : Dk)) (rest_fuse hRt _ _) keep
            have hR2 : AtRest (({ D with fused := decide (0 ≤ (((x19.toNat) : Nat) : Int)), left := (((x19.toNat) : Nat) : Int) } : Dk).crash keep) := hcs.1
            have he2 : (({ D with fused := decide (0 ≤ (((x19.toNat) : Nat) : Int)), left := (((x19.toNat) : Nat) : Int) } : Dk).crash keep).now = D.now := hcs.2
            have hl2 : (({ D with fused := decide (0 ≤ (((x19.toNat) : Nat) : Int)), left := (((x19.toNat) : Nat) : Int) } : Dk).crash keep).now.length = (4 + sz.toNat) := by rw [he2]; exact hl
            have hke : (vtOf g3 (({ D with fused := decide (0 ≤ (((x19.toNat) : Nat) : Int)), left := (((x19.toNat) : Nat) : Int) } : Dk).crash keep).now).kept = W := by rw [he2]; exact hkp
            have hnu : (vtOf g3 (({ D with fused := decide (0 ≤ (((x19.toNat) : Nat) : Int)), left := (((x19.toNat) : Nat) : Int) } : Dk).crash keep).now).number ≤ i + 1 := by rw [he2]; omega
            refine cxReg ?_
            refine pxV (v := (.pointer (some ⟨g3, 0, none⟩))) (fun _ _ hF => opMove rfl (hF.ev 5 rfl)) rfl (fun _ _ => rfl) (kM [false, true, true, true, true, true, true, true, true] rfl rfl) (by decide) ?_
            refine pxV (v := (.slice Ak keep.length ck)) (fun _ _ hF => opMove rfl (hF.ev 6 rfl)) rfl (fun _ _ => rfl) (kA rfl) (by decide) ?_
            refine pxE 0 hH rfl (fun _ hF => Does.small (crash_c g3 ({ D with fused := decide (0 ≤ (((x19.toNat) : Nat) : Int)), left := (((x19.toNat) : Nat) : Int) } : Dk) E34 hD36 keep Ak ck (hH.off 0 rfl hR.2.2.2 (by decide) (Off.nil _ _)) (by omega)) (fun w => opCall rfl Try.func20 rfl rfl (Evs.cons (v := (.pointer (some ⟨g3, 0, none⟩))) (hF.ev 1 rfl) (Evs.cons (v := (.slice Ak keep.length ck)) (hF.ev 0 rfl) Evs.nil)) w)) (hH.vu hR.2.2.2 (by decide) (Off.nil _ _)) rfl (fun _ _ => rfl) (kM [false, false, true, true, true, true, true, true, true, true] rfl rfl) (by decide) ?_
            clear hH
            rintro _ E50 w ⟨rfl, hD51⟩ hH
            replace hH : HH w0 [] [E50, [bl gv 61 #[(.pointer (some ⟨(vtOf g3 D.now).gd, 0, none⟩)), (.int .i64 ((((vtOf g3 D.now).half) : Nat) : Int)), (.int .i64 ((((vtOf g3 D.now).sector) : Nat) : Int)), (.int .u64 ((((vtOf g3 D.now).number) : Nat) : Int)), (.int .u64 ((((vtOf g3 D.now).size) : Nat) : Int)), (.int .i64 ((((vtOf g3 D.now).area) : Nat) : Int)), (.slice A38 ((vtOf g3 D.now).kept.length) c40), (.bool ((vtOf g3 D.now).over))]], E41, Ew, E44] w := hH
            refine pxEnd ?_
            refine qxThen ?_
            refine cxSeq ?_
            refine cxReg ?_
            refine pxV (v := (.pointer (some ⟨g3, 0, none⟩))) (fun _ _ hF => opMove rfl (hF.ev 5 rfl)) rfl (fun _ _ => rfl) (kM [false, true, true, true, true, true, true, true, true] rfl rfl) (by decide) ?_
            refine pxE 0 hH rfl (fun _ hF => Does.small (open_ok g3 (({ D with fused := decide (0 ≤ (((x19.toNat) : Nat) : Int)), left := (((x19.toNat) : Nat) : Int) } : Dk).crash keep) E50 hD51 (by omega) hR2.up) (fun w => opCall rfl Try.func10 rfl rfl (Evs.cons (v := (.pointer (some ⟨g3, 0, none⟩))) (hF.ev 0 rfl) Evs.nil) w)) trivial rfl (fun _ _ => rfl) (kM [false, true, true, true, true, true, true, true, true] rfl rfl) (by decide) ?_
            clear hH
            rintro _ _ w ⟨g52, E53, E54, rfl, rfl, hD55, hV56⟩ hH
            replace hH : HH w0 [] [([E53, E54] : List Hl).flatten, [bl gv 61 #[(.pointer (some ⟨(vtOf g3 D.now).gd, 0, none⟩)), (.int .i64 ((((vtOf g3 D.now).half) : Nat) : Int)), (.int .i64 ((((vtOf g3 D.now).sector) : Nat) : Int)), (.int .u64 ((((vtOf g3 D.now).number) : Nat) : Int)), (.int .u64 ((((vtOf g3 D.now).size) : Nat) : Int)), (.int .i64 ((((vtOf g3 D.now).area) : Nat) : Int)), (.slice A38 ((vtOf g3 D.now).kept.length) c40), (.bool ((vtOf g3 D.now).over))]], E41, Ew, E44] w := hH
            replace hH : HH w0 [] [E53, E54, [bl gv 61 #[(.pointer (some ⟨(vtOf g3 D.now).gd, 0, none⟩)), (.int .i64 ((((vtOf g3 D.now).half) : Nat) : Int)), (.int .i64 ((((vtOf g3 D.now).sector) : Nat) : Int)), (.int .u64 ((((vtOf g3 D.now).number) : Nat) : Int)), (.int .u64 ((((vtOf g3 D.now).size) : Nat) : Int)), (.int .i64 ((((vtOf g3 D.now).area) : Nat) : Int)), (.slice A38 ((vtOf g3 D.now).kept.length) c40), (.bool ((vtOf g3 D.now).over))]], E41, Ew, E44] w := hH.cast (by simp)
            refine pxV (v := (.tuple #[(.pointer (some ⟨g52, 0, none⟩)), (.int .i64 0)])) (fun _ _ hF => opMove rfl (hF.ev 0 rfl)) rfl (fun _ _ => rfl) (kM [false, true, true, true, true, true, true, true, true] rfl rfl) (by decide) ?_
            refine pxV (v := (.pointer (some ⟨g52, 0, none⟩))) (fun _ _ hF => opExtract rfl (hF.ev 0 rfl) rfl) rfl (fun _ _ => rfl) (kA rfl) (by decide) ?_
            refine pxV (v := (.int .i64 0)) (fun _ _ hF => opExtract rfl (hF.ev 1 rfl) rfl) rfl (fun _ _ => rfl) (kM [true, false, true, true, true, true, true, true, true, true] rfl rfl) (by decide) ?_
            refine pxV (v := (.pointer (some ⟨g52, 0, none⟩))) (fun _ _ hF => opAssign rfl (hF.ev 1 rfl)) rfl (fun _ _ => rfl) (kM [true, false, true, true, true, true, true, true, true, true] rfl rfl) (by decide) ?_
            refine pxV (v := (.int .i64 0)) (fun _ _ hF => opAssign rfl (hF.ev 1 rfl)) rfl (fun _ _ => rfl) (kM [true, false, true, true, true, true, true, true, true, true] rfl rfl) (by decide) ?_
            refine pxEnd ?_
            refine qxThen ?_
            refine cxSeq ?_
            refine cxSeq ?_
            refine cxReg ?_
            refine pxV (v := (.int .i64 0)) (fun _ _ hF => opMove rfl (hF.ev 0 rfl)) rfl (fun _ _ => rfl) (kM [false, true, true, true, true, true, true, true, true, true] rfl rfl) (by decide) ?_
            refine pxV (v := (.bool false)) (fun _ _ hF => opNeI rfl (hF.ev 0 rfl) rfl (by decide)) rfl (fun _ _ => rfl) (kM [false, true, true, true, true, true, true, true, true, true] rfl rfl) (by decide) ?_
            refine pxEnd ?_
            refine qxThen ?_
            refine cxF 0 rfl rfl ?_
            refine cxSkip ?_
            refine qxThen ?_
            refine cxSeq ?_
            refine cxReg ?_
            refine pxV (v := (.pointer (some ⟨g52, 0, none⟩))) (fun _ _ hF => opMove rfl (hF.ev 1 rfl)) rfl (fun _ _ => rfl) (kM [false, true, true, true, true, true, true, true, true, true] rfl rfl) (by decide) ?_
            obtain ⟨A57, n58, c59, E60, hE62, hO61⟩ := hV56.at'
            obtain rfl : n58 = (vtOf g3 (({ D with fused := decide (0 ≤ (((x19.toNat) : Nat) : Int)), left := (((x19.toNat) : Nat) : Int) } : Dk).crash keep).now).kept.length := hO61.len
            replace hH : HH w0 [] [E53, [bl g52 61 #[(.pointer (some ⟨(vtOf g3 (({ D with fused := decide (0 ≤ (((x19.toNat) : Nat) : Int)), left := (((x19.toNat) : Nat) : Int) } : Dk).crash keep).now).gd, 0, none⟩)), (.int .i64 ((((vtOf g3 (({ D with fused := decide (0 ≤ (((x19.toNat) : Nat) : Int)), left := (((x19.toNat) : Nat) : Int) } : Dk).crash keep).now).half) : Nat) : Int)), (.int .i64 ((((vtOf g3 (({ D with fused := decide (0 ≤ (((x19.toNat) : Nat) : Int)), left := (((x19.toNat) : Nat) : Int) } : Dk).crash keep).now).sector) : Nat) : Int)), (.int .u64 ((((vtOf g3 (({ D with fused := decide (0 ≤ (((x19.toNat) : Nat) : Int)), left := (((x19.toNat) : Nat) : Int) } : Dk).crash keep).now).number) : Nat) : Int)), (.int .u64 ((((vtOf g3 (({ D with fused := decide (0 ≤ (((x19.toNat) : Nat) : Int)), left := (((x19.toNat) : Nat) : Int) } : Dk).crash keep).now).size) : Nat) : Int)), (.int .i64 ((((vtOf g3 (({ D with fused := decide (0 ≤ (((x19.toNat) : Nat) : Int)), left := (((x19.toNat) : Nat) : Int) } : Dk).crash keep).now).area) : Nat) : Int)), (.slice A57 ((vtOf g3 (({ D with fused := decide (0 ≤ (((x19.toNat) : Nat) : Int)), left := (((x19.toNat) : Nat) : Int) } : Dk).crash keep).now).kept.length) c59), (.bool ((vtOf g3 (({ D with fused := decide (0 ≤ (((x19.toNat) : Nat) : Int)), left := (((x19.toNat) : Nat) : Int) } : Dk).crash keep).now).over))]], E60, [bl gv 61 #[(.pointer (some ⟨(vtOf g3 D.now).gd, 0, none⟩)), (.int .i64 ((((vtOf g3 D.now).half) : Nat) : Int)), (.int .i64 ((((vtOf g3 D.now).sector) : Nat) : Int)), (.int .u64 ((((vtOf g3 D.now).number) : Nat) : Int)), (.int .u64 ((((vtOf g3 D.now).size) : Nat) : Int)), (.int .i64 ((((vtOf g3 D.now).area) : Nat) : Int)), (.slice A38 ((vtOf g3 D.now).kept.length) c40), (.bool ((vtOf g3 D.now).over))]], E41, Ew, E44] w := hH.cast (by rw [hE62]; simp)
            refine pxM hH (fun _ hF => Does.small (load_c g52 (vtOf g3 (({ D with fused := decide (0 ≤ (((x19.toNat) : Nat) : Int)), left := (((x19.toNat) : Nat) : Int) } : Dk).crash keep).now) A57 c59 (Nat.le_trans (kept_le (gd := g3) (by omega)) (by decide))) (fun w => opCall rfl Try.func12 rfl rfl (Evs.cons (v := (.pointer (some ⟨g52, 0, none⟩))) (hF.ev 0 rfl) Evs.nil) w)) ⟨hH.blk 1 rfl, (hO61.vuAt (hH.has 2 rfl))⟩ rfl (fun _ _ => rfl) (kM [false, true, true, true, true, true, true, true, true, true] rfl rfl) (by decide) ?_
            clear hH
            rintro v67 E63 w hO64 hH
            replace hH : HH w0 [] [E53, [bl g52 61 #[(.pointer (some ⟨(vtOf g3 (({ D with fused := decide (0 ≤ (((x19.toNat) : Nat) : Int)), left := (((x19.toNat) : Nat) : Int) } : Dk).crash keep).now).gd, 0, none⟩)), (.int .i64 ((((vtOf g3 (({ D with fused := decide (0 ≤ (((x19.toNat) : Nat) : Int)), left := (((x19.toNat) : Nat) : Int) } : Dk).crash keep).now).half) : Nat) : Int)), (.int .i64 ((((vtOf g3 (({ D with fused := decide (0 ≤ (((x19.toNat) : Nat) : Int)), left := (((x19.toNat) : Nat) : Int) } : Dk).crash keep).now).sector) : Nat) : Int)), (.int .u64 ((((vtOf g3 (({ D with fused := decide (0 ≤ (((x19.toNat) : Nat) : Int)), left := (((x19.toNat) : Nat) : Int) } : Dk).crash keep).now).number) : Nat) : Int)), (.int .u64 ((((vtOf g3 (({ D with fused := decide (0 ≤ (((x19.toNat) : Nat) : Int)), left := (((x19.toNat) : Nat) : Int) } : Dk).crash keep).now).size) : Nat) : Int)), (.int .i64 ((((vtOf g3 (({ D with fused := decide (0 ≤ (((x19.toNat) : Nat) : Int)), left := (((x19.toNat) : Nat) : Int) } : Dk).crash keep).now).area) : Nat) : Int)), (.slice A57 ((vtOf g3 (({ D with fused := decide (0 ≤ (((x19.toNat) : Nat) : Int)), left := (((x19.toNat) : Nat) : Int) } : Dk).crash keep).now).kept.length) c59), (.bool ((vtOf g3 (({ D with fused := decide (0 ≤ (((x19.toNat) : Nat) : Int)), left := (((x19.toNat) : Nat) : Int) } : Dk).crash keep).now).over))]], E60, [bl gv 61 #[(.pointer (some ⟨(vtOf g3 D.now).gd, 0, none⟩)), (.int .i64 ((((vtOf g3 D.now).half) : Nat) : Int)), (.int .i64 ((((vtOf g3 D.now).sector) : Nat) : Int)), (.int .u64 ((((vtOf g3 D.now).number) : Nat) : Int)), (.int .u64 ((((vtOf g3 D.now).size) : Nat) : Int)), (.int .i64 ((((vtOf g3 D.now).area) : Nat) : Int)), (.slice A38 ((vtOf g3 D.now).kept.length) c40), (.bool ((vtOf g3 D.now).over))]], E41, Ew, E44, E63] w := hH
            obtain ⟨A65, c66, rfl⟩ := hO64.slice
            refine pxS (v := (.string (strL ((vtOf g3 (({ D with fused := decide (0 ≤ (((x19.toNat) : Nat) : Int)), left := (((x19.toNat) : Nat) : Int) } : Dk).crash keep).now).kept)))) (fun w => Vu cByte w A65 ((vtOf g3 (({ D with fused := decide (0 ≤ (((x19.toNat) : Nat) : Int)), left := (((x19.toNat) : Nat) : Int) } : Dk).crash keep).now).kept.length) c66 ((vtOf g3 (({ D with fused := decide (0 ≤ (((x19.toNat) : Nat) : Int)), left := (((x19.toNat) : Nat) : Int) } : Dk).crash keep).now).kept)) (hO64.vuAt (hH.has 7 rfl)) (fun _ _ hF hS => opStr (e := 5) rfl (by kernel_rfl) (by kernel_rfl) (by kernel_rfl) (hF.ev 0 rfl) hS) rfl (fun _ _ => rfl) (kM [false, true, true, true, true, true, true, true, true, true] rfl rfl) (by decide) ?_
            refine pxV (v := (.string (strL ((vtOf g3 (({ D with fused := decide (0 ≤ (((x19.toNat) : Nat) : Int)), left := (((x19.toNat) : Nat) : Int) } : Dk).crash keep).now).kept)))) (fun _ _ hF => opAssign rfl (hF.ev 0 rfl)) rfl (fun _ _ => rfl) (kM [false, true, true, true, true, true, true, true, true, true] rfl rfl) (by decide) ?_
            refine pxEnd ?_
            refine qxThen ?_
            refine cxSeq ?_
            refine cxSeq ?_
            refine cxRegX mixedOrders (by kernel_rfl) ?_
            replace hH := hH.drew
            refine rxV 0 rfl (by kernel_rfl) rfl (fun _ _ => rfl) (fun _ _ hF => opMove rfl (hF.ev 0 rfl)) (kA rfl) (by decide) (v := (.string (strL ((vtOf g3 (({ D with fused := decide (0 ≤ (((x19.toNat) : Nat) : Int)), left := (((x19.toNat) : Nat) : Int) } : Dk).crash keep).now).kept)))) ?_
            refine rxV 1 rfl (by kernel_rfl) rfl (fun _ _ => rfl) (fun _ _ hF => opMove rfl (hF.ev 6 rfl)) (kM [true, true, true, true, true, true, false, true, true, true, true] rfl rfl) (by decide) (v := (.slice Aw W.length cw)) ?_
            refine rxS (fun w => Vu cByte w Aw W.length cw W) 2 rfl (by kernel_rfl) rfl (fun _ _ => rfl) (hW.vu hH 5 rfl) (fun _ _ hF hS => opStr (e := 5) rfl (by kernel_rfl) (by kernel_rfl) (by kernel_rfl) (hF.ev 0 rfl) hS) (kM [false, true, true, true, true, true, true, true, true, true, true] rfl rfl) (by decide) (v := (.string (strL W))) ?_
            refine rxV 3 rfl (by kernel_rfl) rfl (fun _ _ => rfl) (fun _ _ hF => opNeS rfl (hF.ev 1 rfl) (hF.ev 0 rfl) (decide_eq_false (fun h => h (congrArg strL hke)))) (kM [false, false, true, true, true, true, true, true, true, true, true] rfl rfl) (by decide) (v := (.bool false)) ?_
            refine rxV 4 rfl (by kernel_rfl) rfl (fun _ _ => rfl) (fun _ _ hF => opMove rfl (hF.ev 0 rfl)) (kM [false, true, true, true, true, true, true, true, true, true] rfl rfl) (by decide) (v := (.bool false)) ?_
            refine rxU 5 rfl (by kernel_rfl) rfl (gOff 0 rfl rfl rfl (by decide)) (kM [true, false, true, true, true, true, true, true, true, true] rfl rfl) (by decide) ?_
            refine rxU 6 rfl (by kernel_rfl) rfl (gOff 0 rfl rfl rfl (by decide)) (kA rfl) (by decide) ?_
            refine rxU 7 rfl (by kernel_rfl) rfl (gOff 0 rfl rfl rfl (by decide)) (kA rfl) (by decide) ?_
            refine rxU 8 rfl (by kernel_rfl) rfl (gOff 0 rfl rfl rfl (by decide)) (kA rfl) (by decide) ?_
            refine rxU 9 rfl (by kernel_rfl) rfl (gOff 0 rfl rfl rfl (by decide)) (kA rfl) (by decide) ?_
            refine rxU 10 rfl (by kernel_rfl) rfl (gOff 0 rfl rfl rfl (by decide)) (kA rfl) (by decide) ?_
            refine rxU 11 rfl (by kernel_rfl) rfl (gOff 0 rfl rfl rfl (by decide)) (kA rfl) (by decide) ?_
            refine rxUK 12 rfl (by kernel_rfl) rfl (gOff 0 rfl rfl rfl (by decide)) (kA rfl) (by decide) ?_
            refine rxU 13 rfl (by kernel_rfl) rfl (gOffU 0 rfl rfl rfl) (kA rfl) (by decide) ?_
            refine rxU 14 rfl (by kernel_rfl) rfl (gOffU 0 rfl rfl rfl) (kM [true, true, true, false, true, true, true, true, true, true] rfl rfl) (by decide) ?_
            refine rxU 15 rfl (by kernel_rfl) rfl (gOffU 0 rfl rfl rfl) (kA rfl) (by decide) ?_
            refine rxU 16 rfl (by kernel_rfl) rfl (gOffU 0 rfl rfl rfl) (kA rfl) (by decide) ?_
            refine rxU 17 rfl (by kernel_rfl) rfl (gOffU 0 rfl rfl rfl) (kA rfl) (by decide) ?_
            refine rxU 18 rfl (by kernel_rfl) rfl (gOffU 0 rfl rfl rfl) (kA rfl) (by decide) ?_
            refine rxU 19 rfl (by kernel_rfl) rfl (gOffU 0 rfl rfl rfl) (kA rfl) (by decide) ?_
            refine rxU 20 rfl (by kernel_rfl) rfl (gOffU 0 rfl rfl rfl) (kA rfl) (by decide) ?_
            refine rxU 21 rfl (by kernel_rfl) rfl (gOff 1 rfl rfl rfl (by decide)) (kM [false, true, true, true, true, true, true, true, true] rfl rfl) (by decide) ?_
            refine rxV 22 rfl (by kernel_rfl) rfl (fun _ _ => rfl) (fun _ _ hF => opPickF rfl (hF.ev 0 rfl) rfl) (kM [false, true, true, true, true, true, true, true] rfl rfl) (by decide) (v := (.bool false)) ?_
            refine rxEnd (by kernel_rfl) ?_
            refine qxThen ?_
            refine cxF 0 rfl rfl ?_
            refine cxSkip ?_
            refine qxThen ?_
            refine cxReg ?_
            refine pxV (v := (.pointer (some ⟨g52, 0, none⟩))) (fun _ _ hF => opMove rfl (hF.ev 1 rfl)) rfl (fun _ _ => rfl) (kM [false, true, true, true, true, true, true, true] rfl rfl) (by decide) ?_
            refine pxM hH (fun _ hF => Does.small (load_c g52 (vtOf g3 (({ D with fused := decide (0 ≤ (((x19.toNat) : Nat) : Int)), left := (((x19.toNat) : Nat) : Int) } : Dk).crash keep).now) A57 c59 (Nat.le_trans (kept_le (gd := g3) (by omega)) (by decide))) (fun w => opCall rfl Try.func12 rfl rfl (Evs.cons (v := (.pointer (some ⟨g52, 0, none⟩))) (hF.ev 0 rfl) Evs.nil) w)) ⟨hH.blk 1 rfl, (hO61.vuAt (hH.has 2 rfl))⟩ rfl (fun _ _ => rfl) (kM [false, true, true, true, true, true, true, true] rfl rfl) (by decide) ?_
            clear hH
            rintro v73 E69 w hO70 hH
            replace hH : HH w0 [] [E53, [bl g52 61 #[(.pointer (some ⟨(vtOf g3 (({ D with fused := decide (0 ≤ (((x19.toNat) : Nat) : Int)), left := (((x19.toNat) : Nat) : Int) } : Dk).crash keep).now).gd, 0, none⟩)), (.int .i64 ((((vtOf g3 (({ D with fused := decide (0 ≤ (((x19.toNat) : Nat) : Int)), left := (((x19.toNat) : Nat) : Int) } : Dk).crash keep).now).half) : Nat) : Int)), (.int .i64 ((((vtOf g3 (({ D with fused := decide (0 ≤ (((x19.toNat) : Nat) : Int)), left := (((x19.toNat) : Nat) : Int) } : Dk).crash keep).now).sector) : Nat) : Int)), (.int .u64 ((((vtOf g3 (({ D with fused := decide (0 ≤ (((x19.toNat) : Nat) : Int)), left := (((x19.toNat) : Nat) : Int) } : Dk).crash keep).now).number) : Nat) : Int)), (.int .u64 ((((vtOf g3 (({ D with fused := decide (0 ≤ (((x19.toNat) : Nat) : Int)), left := (((x19.toNat) : Nat) : Int) } : Dk).crash keep).now).size) : Nat) : Int)), (.int .i64 ((((vtOf g3 (({ D with fused := decide (0 ≤ (((x19.toNat) : Nat) : Int)), left := (((x19.toNat) : Nat) : Int) } : Dk).crash keep).now).area) : Nat) : Int)), (.slice A57 ((vtOf g3 (({ D with fused := decide (0 ≤ (((x19.toNat) : Nat) : Int)), left := (((x19.toNat) : Nat) : Int) } : Dk).crash keep).now).kept.length) c59), (.bool ((vtOf g3 (({ D with fused := decide (0 ≤ (((x19.toNat) : Nat) : Int)), left := (((x19.toNat) : Nat) : Int) } : Dk).crash keep).now).over))]], E60, [bl gv 61 #[(.pointer (some ⟨(vtOf g3 D.now).gd, 0, none⟩)), (.int .i64 ((((vtOf g3 D.now).half) : Nat) : Int)), (.int .i64 ((((vtOf g3 D.now).sector) : Nat) : Int)), (.int .u64 ((((vtOf g3 D.now).number) : Nat) : Int)), (.int .u64 ((((vtOf g3 D.now).size) : Nat) : Int)), (.int .i64 ((((vtOf g3 D.now).area) : Nat) : Int)), (.slice A38 ((vtOf g3 D.now).kept.length) c40), (.bool ((vtOf g3 D.now).over))]], E41, Ew, E44, E63, E69] w := hH
            obtain ⟨A71, c72, rfl⟩ := hO70.slice
            refine pxV (v := (.slice A71 ((vtOf g3 (({ D with fused := decide (0 ≤ (((x19.toNat) : Nat) : Int)), left := (((x19.toNat) : Nat) : Int) } : Dk).crash keep).now).kept.length) c72)) (fun _ _ hF => opAssign rfl (hF.ev 0 rfl)) rfl (fun _ _ => rfl) (kM [false, true, true, true, true, true, true, true] rfl rfl) (by decide) ?_
            refine pxEnd ?_
            refine qxInN ?_
            refine qxThen ?_
            refine cxReg ?_
            refine pxV (v := (.int .i64 (((i + 1) : Nat) : Int))) (fun _ _ hF => opAdd rfl (hF.ev 2 rfl) rfl (wI (by omega) (by omega) (by omega))) rfl (fun _ _ => rfl) (kM [true, true, false, true, true, true, true, true] rfl rfl) (by decide) ?_
            refine pxV (v := (.int .i64 (((i + 1) : Nat) : Int))) (fun _ _ hF => opMove rfl (hF.ev 0 rfl)) rfl (fun _ _ => rfl) (kM [false, true, true, true, true, true, true, true] rfl rfl) (by decide) ?_
            refine pxEnd ?_
            obtain ⟨E75, hE76, hD77⟩ : ∃ E, E = ([[bl g52 61 #[(.pointer (some ⟨(vtOf g3 (({ D with fused := decide (0 ≤ (((x19.toNat) : Nat) : Int)), left := (((x19.toNat) : Nat) : Int) } : Dk).crash keep).now).gd, 0, none⟩)), (.int .i64 ((((vtOf g3 (({ D with fused := decide (0 ≤ (((x19.toNat) : Nat) : Int)), left := (((x19.toNat) : Nat) : Int) } : Dk).crash keep).now).half) : Nat) : Int)), (.int .i64 ((((vtOf g3 (({ D with fused := decide (0 ≤ (((x19.toNat) : Nat) : Int)), left := (((x19.toNat) : Nat) : Int) } : Dk).crash keep).now).sector) : Nat) : Int)), (.int .u64 ((((vtOf g3 (({ D with fused := decide (0 ≤ (((x19.toNat) : Nat) : Int)), left := (((x19.toNat) : Nat) : Int) } : Dk).crash keep).now).number) : Nat) : Int)), (.int .u64 ((((vtOf g3 (({ D with fused := decide (0 ≤ (((x19.toNat) : Nat) : Int)), left := (((x19.toNat) : Nat) : Int) } : Dk).crash keep).now).size) : Nat) : Int)), (.int .i64 ((((vtOf g3 (({ D with fused := decide (0 ≤ (((x19.toNat) : Nat) : Int)), left := (((x19.toNat) : Nat) : Int) } : Dk).crash keep).now).area) : Nat) : Int)), (.slice A57 ((vtOf g3 (({ D with fused := decide (0 ≤ (((x19.toNat) : Nat) : Int)), left := (((x19.toNat) : Nat) : Int) } : Dk).crash keep).now).kept.length) c59), (.bool ((vtOf g3 (({ D with fused := decide (0 ≤ (((x19.toNat) : Nat) : Int)), left := (((x19.toNat) : Nat) : Int) } : Dk).crash keep).now).over))]], E60] : List Hl).flatten ∧ VtAt g52 (vtOf g3 (({ D with fused := decide (0 ≤ (((x19.toNat) : Nat) : Int)), left := (((x19.toNat) : Nat) : Int) } : Dk).crash keep).now) E := ⟨_, rfl, hV56.ok, _, _, _, _, rfl, hO61⟩
            replace hH : HH w0 [] [E53, E75, [bl gv 61 #[(.pointer (some ⟨(vtOf g3 D.now).gd, 0, none⟩)), (.int .i64 ((((vtOf g3 D.now).half) : Nat) : Int)), (.int .i64 ((((vtOf g3 D.now).sector) : Nat) : Int)), (.int .u64 ((((vtOf g3 D.now).number) : Nat) : Int)), (.int .u64 ((((vtOf g3 D.now).size) : Nat) : Int)), (.int .i64 ((((vtOf g3 D.now).area) : Nat) : Int)), (.slice A38 ((vtOf g3 D.now).kept.length) c40), (.bool ((vtOf g3 D.now).over))]], E41, Ew, E44, E63, E69] w := hH.cast (by rw [hE76]; simp)
            replace hH : HH w0 [] [E53, E75, E69] w := HH.sel hH [0, 1, 7] rfl (by decide)
            exact qxRound (i + 1, (({ D with fused := decide (0 ≤ (((x19.toNat) : Nat) : Int)), left := (((x19.toNat) : Nat) : Int) } : Dk).crash keep), E53, E75, g52, (vtOf g3 (({ D with fused := decide (0 ≤ (((x19.toNat) : Nat) : Int)), left := (((x19.toNat) : Nat) : Int) } : Dk).crash keep).now).kept, A71, c72, E69) ⟨hH, (show (i + 1) ≤ raws.length from (by omega)), hD55, hD77, hR2, hl2, rfl, hnu, (.inr hO70)⟩ (by omega) (slots_at [0, 3, 1, 2, 4, 5, 6, 7] rfl)
          · rcases keep_rest (D := ({ D with fused := decide (0 ≤ (((x19.toNat) : Nat) : Int)), left := (((x19.toNat) : Nat) : Int) } : Dk)) (V := vtOf g3 D.now) (gd := g3) (b := bytes) (rest_fuse hRt _ _) rfl (show 4 ≤ D.now.length by omega) (show D.now.length ≤ 4000 by omega) hsh (by omega) with ⟨D', hk0, hR', hl', hk1, hn1, _⟩ | ⟨D', hk0, _, hcr⟩
            · have hl2 : D'.now.length = (4 + sz.toNat) := hl'.trans hl
              have hn2 : (vtOf g3 D'.now).number ≤ i + 1 := by rw [hn1]; omega
              refine cxReg ?_
              refine pxV (v := (.pointer (some ⟨gv, 0, none⟩))) (fun _ _ hF => opMove rfl (hF.ev 5 rfl)) rfl (fun _ _ => rfl) (kM [false, true, true, true, true, true, true, true, true, true] rfl rfl) (by decide) ?_
              refine pxV (v := (.slice A raws.length c)) (fun _ _ hF => opMove rfl (hF.ev 9 rfl)) rfl (fun _ _ => rfl) (kA rfl) (by decide) ?_
              refine pxV (v := (.int .i64 (((i) : Nat) : Int))) (fun _ _ hF => opMove rfl (hF.ev 2 rfl)) rfl (fun _ _ => rfl) (kA rfl) (by decide) ?_
              have hi78 : i < raws.length := by omega
              obtain ⟨b79, off80, rfl, hL81, hb82, hR83⟩ := hR.1.blk (by decide) (Off.nil _ _) (by omega)
              have := hR.1.cap
              have hj86 : i < raws.length := by first | exact hi78 | (simp only [List.length_drop, List.length_take]; omega) | omega
              refine pxV (v := (.pointer (some ⟨b79, off80 + i * 1, none⟩))) (fun _ _ hF => opIndex (i := i) (e := 32) (sz := 1) rfl (by kernel_rfl) (by kernel_rfl) (hF.ev 1 rfl) (hF.ev 0 rfl) rfl hi78) rfl (fun _ _ => rfl) (kM [false, false, true, true, true, true, true, true, true, true, true, true] rfl rfl) (by decide) ?_
              refine pxS (v := (.slice A0 bytes.length c0)) (fun w => HoldsL cSl w b79 off80 raws) (hH.holdsL hL81 hb82 hR83) (fun _ _ hF hS => opLoadT (C := cSl) (y := (A0, bytes.length, c0)) rfl (hF.ev 0 rfl) (by kernel_rfl) (hS i _ hx0) rfl) rfl (fun _ _ => rfl) (kM [false, true, true, true, true, true, true, true, true, true, true] rfl rfl) (by decide) ?_
              replace hH : HH w0 [] [([E23, Ev] : List Hl).flatten, Ew] w := hH.cast (by simp)
              refine pxE 0 hH rfl (fun _ hF => Does.small (keep_as gv g3 (vtOf g3 D.now) ({ D with fused := decide (0 ≤ (((x19.toNat) : Nat) : Int)), left := (((x19.toNat) : Nat) : Int) } : Dk) E23 Ev hD24 hV rfl bytes A0 c0 (hH.off 0 rfl hvb (by decide) (Off.nil _ _)) (by omega) (by rw [(rest_fuse hRt _ _).uns]; exact Nat.zero_le _) hk0) (fun w => opCall rfl Try.func14 rfl rfl (Evs.cons (v := (.pointer (some ⟨gv, 0, none⟩))) (hF.ev 1 rfl) (Evs.cons (v := (.slice A0 bytes.length c0)) (hF.ev 0 rfl) Evs.nil)) w)) (hH.vu hvb (by decide) (Off.nil _ _)) rfl (fun _ _ => rfl) (kM [false, false, true, true, true, true, true, true, true, true, true] rfl rfl) (by decide) ?_
              clear hH
              rintro _ _ w ⟨rfl, E87, E88, rfl, hD89, hV90⟩ hH
              replace hH : HH w0 [] [([E87, E88] : List Hl).flatten, Ew] w := hH
              replace hH : HH w0 [] [E87, E88, Ew] w := hH.cast (by simp)
              refine pxV (v := (.int .i64 0)) (fun _ _ hF => opAssign rfl (hF.ev 0 rfl)) rfl (fun _ _ => rfl) (kM [false, true, true, true, true, true, true, true, true, true] rfl rfl) (by decide) ?_
              refine pxEnd ?_
              refine qxThen ?_
              refine cxSeq ?_
              refine cxSeq ?_
              refine cxReg ?_
              refine pxV (v := (.int .i64 0)) (fun _ _ hF => opMove rfl (hF.ev 0 rfl)) rfl (fun _ _ => rfl) (kA rfl) (by decide) ?_
              refine pxV (v := (.bool true)) (fun _ _ hF => opEqI rfl (hF.ev 0 rfl) rfl (by decide)) rfl (fun _ _ => rfl) (kM [false, true, true, true, true, true, true, true, true, true, true] rfl rfl) (by decide) ?_
              refine pxEnd ?_
              refine qxThen ?_
              refine cxT 0 rfl rfl ?_
              refine cxSeq ?_
              refine cxReg ?_
              refine pxV (v := (.slice (some ⟨b79, off80, none⟩) raws.length c)) (fun _ _ hF => opMove rfl (hF.ev 10 rfl)) rfl (fun _ _ => rfl) (kM [false, false, true, true, true, false, true, true, true, true, true] rfl rfl) (by decide) ?_
              refine pxV (v := (.int .i64 (((i) : Nat) : Int))) (fun _ _ hF => opMove rfl (hF.ev 1 rfl)) rfl (fun _ _ => rfl) (kM [true, false, true, true, true, true, true, true, true] rfl rfl) (by decide) ?_
              have hi91 : i < raws.length := by omega
              have hj94 : i < raws.length := by first | exact hi91 | (simp only [List.length_drop, List.length_take]; omega) | omega
              refine pxV (v := (.pointer (some ⟨b79, off80 + i * 1, none⟩))) (fun _ _ hF => opIndex (i := i) (e := 32) (sz := 1) rfl (by kernel_rfl) (by kernel_rfl) (hF.ev 1 rfl) (hF.ev 0 rfl) rfl hi91) rfl (fun _ _ => rfl) (kM [false, false, true, true, true, true, true, true, true] rfl rfl) (by decide) ?_
              refine pxS (v := (.slice A0 bytes.length c0)) (fun w => HoldsL cSl w b79 off80 raws) (hH.holdsL hL81 hb82 hR83) (fun _ _ hF hS => opLoadT (C := cSl) (y := (A0, bytes.length, c0)) rfl (hF.ev 0 rfl) (by kernel_rfl) (hS i _ hx0) rfl) rfl (fun _ _ => rfl) (kM [false, true, true, true, true, true, true, true] rfl rfl) (by decide) ?_
              refine pxV (v := (.slice A0 bytes.length c0)) (fun _ _ hF => opAssign rfl (hF.ev 0 rfl)) rfl (fun _ _ => rfl) (kM [false, true, true, true, true, true, true, true] rfl rfl) (by decide) ?_
              refine pxEnd ?_
              refine qxThen ?_
              refine cxExit ?_
              refine qxThenE ?_
              refine qxInE ?_
              refine qxThen ?_
              refine cxReg ?_
              refine pxV (v := (.int .i64 (((i + 1) : Nat) : Int))) (fun _ _ hF => opAdd rfl (hF.ev 1 rfl) rfl (wI (by omega) (by omega) (by omega))) rfl (fun _ _ => rfl) (kM [true, false, true, true, true, true, true, true] rfl rfl) (by decide) ?_
              refine pxV (v := (.int .i64 (((i + 1) : Nat) : Int))) (fun _ _ hF => opMove rfl (hF.ev 0 rfl)) rfl (fun _ _ => rfl) (kM [false, true, true, true, true, true, true, true] rfl rfl) (by decide) ?_
              refine pxEnd ?_
              replace hH := HH.pad hH 1
              replace hH : HH w0 [] [E87, E88, []] w := HH.sel hH [0, 1, 3] rfl (by decide)
              exact qxRound (i + 1, D', E87, E88, gv, bytes, A0, c0, []) ⟨hH, (show (i + 1) ≤ raws.length from (by omega)), hD89, hV90, hR', hl2, hk1, hn2, (.inl ⟨rfl, hvb⟩)⟩ (by omega) (slots_at [0, 2, 1, 3, 4, 5, 6, 7] rfl)
            · have hun : D'.uns.length ≤ 1000 := by have h0 := keep_uns (vtOf g3 D.now) ({ D with fused := decide (0 ≤ (((x19.toNat) : Nat) : Int)), left := (((x19.toNat) : Nat) : Int) } : Dk) bytes; rw [hk0, (rest_fuse hRt _ _).uns] at h0; have h1 : D'.uns.length ≤ 0 + bytes.length / 64 + 2 := h0; omega
              refine cxReg ?_
              refine pxV (v := (.pointer (some ⟨gv, 0, none⟩))) (fun _ _ hF => opMove rfl (hF.ev 5 rfl)) rfl (fun _ _ => rfl) (kM [false, true, true, true, true, true, true, true, true, true] rfl rfl) (by decide) ?_
              refine pxV (v := (.slice A raws.length c)) (fun _ _ hF => opMove rfl (hF.ev 9 rfl)) rfl (fun _ _ => rfl) (kA rfl) (by decide) ?_
              refine pxV (v := (.int .i64 (((i) : Nat) : Int))) (fun _ _ hF => opMove rfl (hF.ev 2 rfl)) rfl (fun _ _ => rfl) (kA rfl) (by decide) ?_
              have hi95 : i < raws.length := by omega
              obtain ⟨b96, off97, rfl, hL98, hb99, hR100⟩ := hR.1.blk (by decide) (Off.nil _ _) (by omega)
              have := hR.1.cap
              have hj103 : i < raws.length := by first | exact hi95 | (simp only [List.length_drop, List.length_take]; omega) | omega
              refine pxV (v := (.pointer (some ⟨b96, off97 + i * 1, none⟩))) (fun _ _ hF => opIndex (i := i) (e := 32) (sz := 1) rfl (by kernel_rfl) (by kernel_rfl) (hF.ev 1 rfl) (hF.ev 0 rfl) rfl hi95) rfl (fun _ _ => rfl) (kM [false, false, true, true, true, true, true, true, true, true, true, true] rfl rfl) (by decide) ?_
              refine pxS (v := (.slice A0 bytes.length c0)) (fun w => HoldsL cSl w b96 off97 raws) (hH.holdsL hL98 hb99 hR100) (fun _ _ hF hS => opLoadT (C := cSl) (y := (A0, bytes.length, c0)) rfl (hF.ev 0 rfl) (by kernel_rfl) (hS i _ hx0) rfl) rfl (fun _ _ => rfl) (kM [false, true, true, true, true, true, true, true, true, true, true] rfl rfl) (by decide) ?_
              replace hH : HH w0 [] [([E23, Ev] : List Hl).flatten, Ew] w := hH.cast (by simp)
              refine pxE 0 hH rfl (fun _ hF => Does.small (keep_as gv g3 (vtOf g3 D.now) ({ D with fused := decide (0 ≤ (((x19.toNat) : Nat) : Int)), left := (((x19.toNat) : Nat) : Int) } : Dk) E23 Ev hD24 hV rfl bytes A0 c0 (hH.off 0 rfl hvb (by decide) (Off.nil _ _)) (by omega) (by rw [(rest_fuse hRt _ _).uns]; exact Nat.zero_le _) hk0) (fun w => opCall rfl Try.func14 rfl rfl (Evs.cons (v := (.pointer (some ⟨gv, 0, none⟩))) (hF.ev 1 rfl) (Evs.cons (v := (.slice A0 bytes.length c0)) (hF.ev 0 rfl) Evs.nil)) w)) (hH.vu hvb (by decide) (Off.nil _ _)) rfl (fun _ _ => rfl) (kM [false, false, true, true, true, true, true, true, true, true, true] rfl rfl) (by decide) ?_
              clear hH
              rintro _ _ w ⟨rfl, E104, E105, rfl, hD106, hV107⟩ hH
              replace hH : HH w0 [] [([E104, E105] : List Hl).flatten, Ew] w := hH
              replace hH : HH w0 [] [E104, E105, Ew] w := hH.cast (by simp)
              refine pxV (v := (.int .i64 8)) (fun _ _ hF => opAssign rfl (hF.ev 0 rfl)) rfl (fun _ _ => rfl) (kM [false, true, true, true, true, true, true, true, true, true] rfl rfl) (by decide) ?_
              refine pxEnd ?_
              refine qxThen ?_
              refine cxSeq ?_
              refine cxSeq ?_
              refine cxReg ?_
              refine pxV (v := (.int .i64 8)) (fun _ _ hF => opMove rfl (hF.ev 0 rfl)) rfl (fun _ _ => rfl) (kA rfl) (by decide) ?_
              refine pxV (v := (.bool false)) (fun _ _ hF => opEqI rfl (hF.ev 0 rfl) rfl (by decide)) rfl (fun _ _ => rfl) (kM [false, true, true, true, true, true, true, true, true, true, true] rfl rfl) (by decide) ?_
              refine pxEnd ?_
              refine qxThen ?_
              refine cxF 0 rfl rfl ?_
              refine cxSkip ?_
              refine qxThen ?_
              refine cxSeq ?_
              refine cxSeq ?_
              refine cxRegX mixedOrders (by kernel_rfl) ?_
              replace hH := hH.drew
              refine rxV 0 rfl (by kernel_rfl) rfl (fun _ _ => rfl) (fun _ _ hF => opMove rfl (hF.ev 1 rfl)) (kM [false, true, true, true, true, true, true, true, true, true, true] rfl rfl) (by decide) (v := (.int .i64 8)) ?_
              refine rxV 1 rfl (by kernel_rfl) rfl (fun _ _ => rfl) (fun _ _ hF => opNeI rfl (hF.ev 0 rfl) rfl (by decide)) (kM [false, true, true, true, true, true, true, true, true, true, true] rfl rfl) (by decide) (v := (.bool false)) ?_
              refine rxV 2 rfl (by kernel_rfl) rfl (fun _ _ => rfl) (fun _ _ hF => opMove rfl (hF.ev 0 rfl)) (kM [false, true, true, true, true, true, true, true, true, true, true] rfl rfl) (by decide) (v := (.bool false)) ?_
              refine rxU 3 rfl (by kernel_rfl) rfl (gOff 0 rfl rfl rfl (by decide)) (kA rfl) (by decide) ?_
              refine rxU 4 rfl (by kernel_rfl) rfl (gOff 0 rfl rfl rfl (by decide)) (kA rfl) (by decide) ?_
              refine rxV 5 rfl (by kernel_rfl) rfl (fun _ _ => rfl) (fun _ _ hF => opPickF rfl (hF.ev 0 rfl) rfl) (kM [false, true, true, true, true, true, true, true, true, true, true] rfl rfl) (by decide) (v := (.bool false)) ?_
              refine rxV 6 rfl (by kernel_rfl) rfl (fun _ _ => rfl) (fun _ _ hF => opMove rfl (hF.ev 0 rfl)) (kM [false, true, true, true, true, true, true, true, true, true, true] rfl rfl) (by decide) (v := (.bool false)) ?_
              refine rxV 7 rfl (by kernel_rfl) rfl (gOn 0 rfl rfl rfl (by decide)) (fun _ _ hF => opMove rfl (hF.ev 6 rfl)) (kA rfl) (by decide) (v := (.pointer (some ⟨gv, 0, none⟩))) ?_
              refine rxV 9 rfl (by kernel_rfl) rfl (gOn 1 rfl rfl rfl (by decide)) (fun _ _ hF => opMove rfl (hF.ev 2 rfl)) (kM [true, true, false, true, true, true, true, true, true, true, true, true] rfl rfl) (by decide) (v := (.int .i64 8)) ?_
              refine rxV 10 rfl (by kernel_rfl) rfl (gOn 2 rfl rfl rfl (by decide)) (fun _ _ hF => opEqI rfl (hF.ev 0 rfl) rfl (by decide)) (kM [false, true, true, true, true, true, true, true, true, true, true, true] rfl rfl) (by decide) (v := (.bool true)) ?_
              refine rx1 8 (by kernel_rfl) ?_
              obtain ⟨A108, n109, c110, E111, hE113, hO112⟩ := hV107.at'
              obtain rfl : n109 = ({ (vtOf g3 D.now) with over := true } : Vt).kept.length := hO112.len
              replace hH : HH w0 [] [E104, [bl gv 61 #[(.pointer (some ⟨({ (vtOf g3 D.now) with over := true } : Vt).gd, 0, none⟩)), (.int .i64 (((({ (vtOf g3 D.now) with over := true } : Vt).half) : Nat) : Int)), (.int .i64 (((({ (vtOf g3 D.now) with over := true } : Vt).sector) : Nat) : Int)), (.int .u64 (((({ (vtOf g3 D.now) with over := true } : Vt).number) : Nat) : Int)), (.int .u64 (((({ (vtOf g3 D.now) with over := true } : Vt).size) : Nat) : Int)), (.int .i64 (((({ (vtOf g3 D.now) with over := true } : Vt).area) : Nat) : Int)), (.slice A108 (({ (vtOf g3 D.now) with over := true } : Vt).kept.length) c110), (.bool (({ (vtOf g3 D.now) with over := true } : Vt).over))]], E111, Ew] w.drew := hH.cast (by rw [hE113]; simp)
              refine moM rfl hH (fun _ hF => Does.small ((Pure.as (v := (.bool true)) (over_c gv ({ (vtOf g3 D.now) with over := true } : Vt) A108 c110) rfl).does) (fun w => opCall rfl Try.func17 rfl rfl (Evs.cons (v := (.pointer (some ⟨gv, 0, none⟩))) (hF.ev 1 rfl) Evs.nil) w)) (hH.blk 1 rfl) rfl (gOn 2 rfl rfl rfl (by decide)) (kM [true, false, true, true, true, true, true, true, true, true, true, true] rfl rfl) (by decide) (PendOk.go [6, 5] (by kernel_rfl) (PendOk.go [6, 5, 4] (by kernel_rfl) (PendOk.nil _ []))) ?_
              clear hH
              rintro _ _ w ⟨rfl, rfl⟩ hH
              replace hH : HH w0 [] [E104, [bl gv 61 #[(.pointer (some ⟨({ (vtOf g3 D.now) with over := true } : Vt).gd, 0, none⟩)), (.int .i64 (((({ (vtOf g3 D.now) with over := true } : Vt).half) : Nat) : Int)), (.int .i64 (((({ (vtOf g3 D.now) with over := true } : Vt).sector) : Nat) : Int)), (.int .u64 (((({ (vtOf g3 D.now) with over := true } : Vt).number) : Nat) : Int)), (.int .u64 (((({ (vtOf g3 D.now) with over := true } : Vt).size) : Nat) : Int)), (.int .i64 (((({ (vtOf g3 D.now) with over := true } : Vt).area) : Nat) : Int)), (.slice A108 (({ (vtOf g3 D.now) with over := true } : Vt).kept.length) c110), (.bool (({ (vtOf g3 D.now) with over := true } : Vt).over))]], E111, Ew] w := hH.unpad
              refine ⟨(fun _ hs => by cases hs), ?_⟩
              refine rxV 11 rfl (by kernel_rfl) rfl (gOn 2 rfl rfl rfl (by decide)) (fun _ _ hF => opNeB rfl (by kernel_rfl) (hF.ev 0 rfl) (hF.ev 1 rfl) rfl) (kM [false, false, true, true, true, true, true, true, true, true, true, true] rfl rfl) (by decide) (v := (.bool false)) ?_
              refine rxV 12 rfl (by kernel_rfl) rfl (fun _ _ => rfl) (fun _ _ hF => opPickF rfl (hF.ev 1 rfl) (hF.ev 0 rfl)) (kM [false, false, true, true, true, true, true, true, true, true, true] rfl rfl) (by decide) (v := (.bool false)) ?_
              refine rxV 13 rfl (by kernel_rfl) rfl (fun _ _ => rfl) (fun _ _ hF => opMove rfl (hF.ev 0 rfl)) (kM [false, true, true, true, true, true, true, true, true, true] rfl rfl) (by decide) (v := (.bool false)) ?_
              refine rxV 14 rfl (by kernel_rfl) rfl (gOn 0 rfl rfl rfl (by decide)) (fun _ _ hF => opMove rfl (hF.ev 5 rfl)) (kM [true, true, true, true, true, false, true, true, true, true] rfl rfl) (by decide) (v := (.pointer (some ⟨gv, 0, none⟩))) ?_
              refine rxV 17 rfl (by kernel_rfl) rfl (gOn 1 rfl rfl rfl (by decide)) (fun _ _ hF => opMove rfl (hF.ev 5 rfl)) (kA rfl) (by decide) (v := (.slice Aw W.length cw)) ?_
              refine rxS (fun w => Vu cByte w Aw W.length cw W) 18 rfl (by kernel_rfl) rfl (gOn 2 rfl rfl rfl (by decide)) (hW.vu hH 3 rfl) (fun _ _ hF hS => opStr (e := 5) rfl (by kernel_rfl) (by kernel_rfl) (by kernel_rfl) (hF.ev 0 rfl) hS) (kM [false, true, true, true, true, true, true, true, true, true, true] rfl rfl) (by decide) (v := (.string (strL W))) ?_
              refine rx1 15 (by kernel_rfl) ?_
              refine moM rfl hH (fun _ hF => Does.small (load_c gv ({ (vtOf g3 D.now) with over := true } : Vt) A108 c110 (Nat.le_trans (kept_le (gd := g3) (by omega)) (by decide))) (fun w => opCall rfl Try.func12 rfl rfl (Evs.cons (v := (.pointer (some ⟨gv, 0, none⟩))) (hF.ev 1 rfl) Evs.nil) w)) ⟨hH.blk 1 rfl, (hO112.vuAt (hH.has 2 rfl))⟩ rfl (gOn 2 rfl rfl rfl (by decide)) (kM [true, false, true, true, true, true, true, true, true, true, true] rfl rfl) (by decide) (PendOk.keep (PendOk.nil _ [])) ?_
              clear hH
              rintro v118 E114 w hO115 hH
              replace hH : HH w0 [] [E104, [bl gv 61 #[(.pointer (some ⟨({ (vtOf g3 D.now) with over := true } : Vt).gd, 0, none⟩)), (.int .i64 (((({ (vtOf g3 D.now) with over := true } : Vt).half) : Nat) : Int)), (.int .i64 (((({ (vtOf g3 D.now) with over := true } : Vt).sector) : Nat) : Int)), (.int .u64 (((({ (vtOf g3 D.now) with over := true } : Vt).number) : Nat) : Int)), (.int .u64 (((({ (vtOf g3 D.now) with over := true } : Vt).size) : Nat) : Int)), (.int .i64 (((({ (vtOf g3 D.now) with over := true } : Vt).area) : Nat) : Int)), (.slice A108 (({ (vtOf g3 D.now) with over := true } : Vt).kept.length) c110), (.bool (({ (vtOf g3 D.now) with over := true } : Vt).over))]], E111, Ew, E114] w := hH
              obtain ⟨A116, c117, rfl⟩ := hO115.slice
              refine ⟨(by
                intro s hs
                simp only [List.mem_cons, List.not_mem_nil, or_false] at hs
                rcases hs with rfl
                · exact (hW.vu hH 3 rfl)
                ), ?_⟩
              refine rxS (fun w => Vu cByte w A116 (({ (vtOf g3 D.now) with over := true } : Vt).kept.length) c117 (({ (vtOf g3 D.now) with over := true } : Vt).kept)) 16 rfl (by kernel_rfl) rfl (gOn 2 rfl rfl rfl (by decide)) (hO115.vuAt (hH.has 4 rfl)) (fun _ _ hF hS => opStr (e := 5) rfl (by kernel_rfl) (by kernel_rfl) (by kernel_rfl) (hF.ev 0 rfl) hS) (kM [false, true, true, true, true, true, true, true, true, true, true] rfl rfl) (by decide) (v := (.string (strL (({ (vtOf g3 D.now) with over := true } : Vt).kept)))) ?_
              refine rxV 19 rfl (by kernel_rfl) rfl (gOn 2 rfl rfl rfl (by decide)) (fun _ _ hF => opNeS rfl (hF.ev 0 rfl) (hF.ev 1 rfl) (decide_eq_false (fun h => h (congrArg strL hkp)))) (kM [false, false, true, true, true, true, true, true, true, true, true] rfl rfl) (by decide) (v := (.bool false)) ?_
              refine rxV 20 rfl (by kernel_rfl) rfl (fun _ _ => rfl) (fun _ _ hF => opPickF rfl (hF.ev 1 rfl) (hF.ev 0 rfl)) (kM [false, false, true, true, true, true, true, true, true, true] rfl rfl) (by decide) (v := (.bool false)) ?_
              refine rxEnd (by kernel_rfl) ?_
              refine qxThen ?_
              refine cxF 0 rfl rfl ?_
              refine cxSkip ?_
              refine qxThen ?_
              refine cxSeq ?_
              obtain ⟨hR2, hl2', hor⟩ := hcr keep
              have hl2 : (D'.crash keep).now.length = (4 + sz.toNat) := hl2'.trans hl
              refine cxReg ?_
              refine pxV (v := (.pointer (some ⟨g3, 0, none⟩))) (fun _ _ hF => opMove rfl (hF.ev 5 rfl)) rfl (fun _ _ => rfl) (kM [false, true, true, true, true, true, true, true, true] rfl rfl) (by decide) ?_
              refine pxV (v := (.slice Ak keep.length ck)) (fun _ _ hF => opMove rfl (hF.ev 6 rfl)) rfl (fun _ _ => rfl) (kA rfl) (by decide) ?_
              refine pxE 0 hH rfl (fun _ hF => Does.small (crash_c g3 D' E104 hD106 keep Ak ck (hH.off 0 rfl hR.2.2.2 (by decide) (Off.nil _ _)) (by omega)) (fun w => opCall rfl Try.func20 rfl rfl (Evs.cons (v := (.pointer (some ⟨g3, 0, none⟩))) (hF.ev 1 rfl) (Evs.cons (v := (.slice Ak keep.length ck)) (hF.ev 0 rfl) Evs.nil)) w)) (hH.vu hR.2.2.2 (by decide) (Off.nil _ _)) rfl (fun _ _ => rfl) (kM [false, false, true, true, true, true, true, true, true, true] rfl rfl) (by decide) ?_
              clear hH
              rintro _ E120 w ⟨rfl, hD121⟩ hH
              replace hH : HH w0 [] [E120, [bl gv 61 #[(.pointer (some ⟨({ (vtOf g3 D.now) with over := true } : Vt).gd, 0, none⟩)), (.int .i64 (((({ (vtOf g3 D.now) with over := true } : Vt).half) : Nat) : Int)), (.int .i64 (((({ (vtOf g3 D.now) with over := true } : Vt).sector) : Nat) : Int)), (.int .u64 (((({ (vtOf g3 D.now) with over := true } : Vt).number) : Nat) : Int)), (.int .u64 (((({ (vtOf g3 D.now) with over := true } : Vt).size) : Nat) : Int)), (.int .i64 (((({ (vtOf g3 D.now) with over := true } : Vt).area) : Nat) : Int)), (.slice A108 (({ (vtOf g3 D.now) with over := true } : Vt).kept.length) c110), (.bool (({ (vtOf g3 D.now) with over := true } : Vt).over))]], E111, Ew, E114] w := hH
              refine pxEnd ?_
              refine qxThen ?_
              refine cxSeq ?_
              refine cxReg ?_
              refine pxV (v := (.pointer (some ⟨g3, 0, none⟩))) (fun _ _ hF => opMove rfl (hF.ev 5 rfl)) rfl (fun _ _ => rfl) (kM [false, true, true, true, true, true, true, true, true] rfl rfl) (by decide) ?_
              refine pxE 0 hH rfl (fun _ hF => Does.small (open_ok g3 (D'.crash keep) E120 hD121 (by omega) hR2.up) (fun w => opCall rfl Try.func10 rfl rfl (Evs.cons (v := (.pointer (some ⟨g3, 0, none⟩))) (hF.ev 0 rfl) Evs.nil) w)) trivial rfl (fun _ _ => rfl) (kM [false, true, true, true, true, true, true, true, true] rfl rfl) (by decide) ?_
              clear hH
              rintro _ _ w ⟨g122, E123, E124, rfl, rfl, hD125, hV126⟩ hH
              replace hH : HH w0 [] [([E123, E124] : List Hl).flatten, [bl gv 61 #[(.pointer (some ⟨({ (vtOf g3 D.now) with over := true } : Vt).gd, 0, none⟩)), (.int .i64 (((({ (vtOf g3 D.now) with over := true } : Vt).half) : Nat) : Int)), (.int .i64 (((({ (vtOf g3 D.now) with over := true } : Vt).sector) : Nat) : Int)), (.int .u64 (((({ (vtOf g3 D.now) with over := true } : Vt).number) : Nat) : Int)), (.int .u64 (((({ (vtOf g3 D.now) with over := true } : Vt).size) : Nat) : Int)), (.int .i64 (((({ (vtOf g3 D.now) with over := true } : Vt).area) : Nat) : Int)), (.slice A108 (({ (vtOf g3 D.now) with over := true } : Vt).kept.length) c110), (.bool (({ (vtOf g3 D.now) with over := true } : Vt).over))]], E111, Ew, E114] w := hH
              replace hH : HH w0 [] [E123, E124, [bl gv 61 #[(.pointer (some ⟨({ (vtOf g3 D.now) with over := true } : Vt).gd, 0, none⟩)), (.int .i64 (((({ (vtOf g3 D.now) with over := true } : Vt).half) : Nat) : Int)), (.int .i64 (((({ (vtOf g3 D.now) with over := true } : Vt).sector) : Nat) : Int)), (.int .u64 (((({ (vtOf g3 D.now) with over := true } : Vt).number) : Nat) : Int)), (.int .u64 (((({ (vtOf g3 D.now) with over := true } : Vt).size) : Nat) : Int)), (.int .i64 (((({ (vtOf g3 D.now) with over := true } : Vt).area) : Nat) : Int)), (.slice A108 (({ (vtOf g3 D.now) with over := true } : Vt).kept.length) c110), (.bool (({ (vtOf g3 D.now) with over := true } : Vt).over))]], E111, Ew, E114] w := hH.cast (by simp)
              refine pxV (v := (.tuple #[(.pointer (some ⟨g122, 0, none⟩)), (.int .i64 0)])) (fun _ _ hF => opMove rfl (hF.ev 0 rfl)) rfl (fun _ _ => rfl) (kM [false, true, true, true, true, true, true, true, true] rfl rfl) (by decide) ?_
              refine pxV (v := (.pointer (some ⟨g122, 0, none⟩))) (fun _ _ hF => opExtract rfl (hF.ev 0 rfl) rfl) rfl (fun _ _ => rfl) (kA rfl) (by decide) ?_
              refine pxV (v := (.int .i64 0)) (fun _ _ hF => opExtract rfl (hF.ev 1 rfl) rfl) rfl (fun _ _ => rfl) (kM [true, false, true, true, true, true, true, true, true, true] rfl rfl) (by decide) ?_
              refine pxV (v := (.pointer (some ⟨g122, 0, none⟩))) (fun _ _ hF => opAssign rfl (hF.ev 1 rfl)) rfl (fun _ _ => rfl) (kM [true, false, true, true, true, true, true, true, true, true] rfl rfl) (by decide) ?_
              refine pxV (v := (.int .i64 0)) (fun _ _ hF => opAssign rfl (hF.ev 1 rfl)) rfl (fun _ _ => rfl) (kM [true, false, true, true, true, true, true, true, true, true] rfl rfl) (by decide) ?_
              refine pxEnd ?_
              refine qxThen ?_
              refine cxSeq ?_
              refine cxSeq ?_
              refine cxReg ?_
              refine pxV (v := (.int .i64 0)) (fun _ _ hF => opMove rfl (hF.ev 0 rfl)) rfl (fun _ _ => rfl) (kM [false, true, true, true, true, true, true, true, true, true] rfl rfl) (by decide) ?_
              refine pxV (v := (.bool false)) (fun _ _ hF => opNeI rfl (hF.ev 0 rfl) rfl (by decide)) rfl (fun _ _ => rfl) (kM [false, true, true, true, true, true, true, true, true, true] rfl rfl) (by decide) ?_
              refine pxEnd ?_
              refine qxThen ?_
              refine cxF 0 rfl rfl ?_
              refine cxSkip ?_
              refine qxThen ?_
              refine cxSeq ?_
              refine cxReg ?_
              refine pxV (v := (.pointer (some ⟨g122, 0, none⟩))) (fun _ _ hF => opMove rfl (hF.ev 1 rfl)) rfl (fun _ _ => rfl) (kM [false, true, true, true, true, true, true, true, true, true] rfl rfl) (by decide) ?_
              obtain ⟨A127, n128, c129, E130, hE132, hO131⟩ := hV126.at'
              obtain rfl : n128 = (vtOf g3 (D'.crash keep).now).kept.length := hO131.len
              replace hH : HH w0 [] [E123, [bl g122 61 #[(.pointer (some ⟨(vtOf g3 (D'.crash keep).now).gd, 0, none⟩)), (.int .i64 ((((vtOf g3 (D'.crash keep).now).half) : Nat) : Int)), (.int .i64 ((((vtOf g3 (D'.crash keep).now).sector) : Nat) : Int)), (.int .u64 ((((vtOf g3 (D'.crash keep).now).number) : Nat) : Int)), (.int .u64 ((((vtOf g3 (D'.crash keep).now).size) : Nat) : Int)), (.int .i64 ((((vtOf g3 (D'.crash keep).now).area) : Nat) : Int)), (.slice A127 ((vtOf g3 (D'.crash keep).now).kept.length) c129), (.bool ((vtOf g3 (D'.crash keep).now).over))]], E130, [bl gv 61 #[(.pointer (some ⟨({ (vtOf g3 D.now) with over := true } : Vt).gd, 0, none⟩)), (.int .i64 (((({ (vtOf g3 D.now) with over := true } : Vt).half) : Nat) : Int)), (.int .i64 (((({ (vtOf g3 D.now) with over := true } : Vt).sector) : Nat) : Int)), (.int .u64 (((({ (vtOf g3 D.now) with over := true } : Vt).number) : Nat) : Int)), (.int .u64 (((({ (vtOf g3 D.now) with over := true } : Vt).size) : Nat) : Int)), (.int .i64 (((({ (vtOf g3 D.now) with over := true } : Vt).area) : Nat) : Int)), (.slice A108 (({ (vtOf g3 D.now) with over := true } : Vt).kept.length) c110), (.bool (({ (vtOf g3 D.now) with over := true } : Vt).over))]], E111, Ew, E114] w := hH.cast (by rw [hE132]; simp)
              refine pxM hH (fun _ hF => Does.small (load_c g122 (vtOf g3 (D'.crash keep).now) A127 c129 (Nat.le_trans (kept_le (gd := g3) (by omega)) (by decide))) (fun w => opCall rfl Try.func12 rfl rfl (Evs.cons (v := (.pointer (some ⟨g122, 0, none⟩))) (hF.ev 0 rfl) Evs.nil) w)) ⟨hH.blk 1 rfl, (hO131.vuAt (hH.has 2 rfl))⟩ rfl (fun _ _ => rfl) (kM [false, true, true, true, true, true, true, true, true, true] rfl rfl) (by decide) ?_
              clear hH
              rintro v137 E133 w hO134 hH
              replace hH : HH w0 [] [E123, [bl g122 61 #[(.pointer (some ⟨(vtOf g3 (D'.crash keep).now).gd, 0, none⟩)), (.int .i64 ((((vtOf g3 (D'.crash keep).now).half) : Nat) : Int)), (.int .i64 ((((vtOf g3 (D'.crash keep).now).sector) : Nat) : Int)), (.int .u64 ((((vtOf g3 (D'.crash keep).now).number) : Nat) : Int)), (.int .u64 ((((vtOf g3 (D'.crash keep).now).size) : Nat) : Int)), (.int .i64 ((((vtOf g3 (D'.crash keep).now).area) : Nat) : Int)), (.slice A127 ((vtOf g3 (D'.crash keep).now).kept.length) c129), (.bool ((vtOf g3 (D'.crash keep).now).over))]], E130, [bl gv 61 #[(.pointer (some ⟨({ (vtOf g3 D.now) with over := true } : Vt).gd, 0, none⟩)), (.int .i64 (((({ (vtOf g3 D.now) with over := true } : Vt).half) : Nat) : Int)), (.int .i64 (((({ (vtOf g3 D.now) with over := true } : Vt).sector) : Nat) : Int)), (.int .u64 (((({ (vtOf g3 D.now) with over := true } : Vt).number) : Nat) : Int)), (.int .u64 (((({ (vtOf g3 D.now) with over := true } : Vt).size) : Nat) : Int)), (.int .i64 (((({ (vtOf g3 D.now) with over := true } : Vt).area) : Nat) : Int)), (.slice A108 (({ (vtOf g3 D.now) with over := true } : Vt).kept.length) c110), (.bool (({ (vtOf g3 D.now) with over := true } : Vt).over))]], E111, Ew, E114, E133] w := hH
              obtain ⟨A135, c136, rfl⟩ := hO134.slice
              refine pxS (v := (.string (strL ((vtOf g3 (D'.crash keep).now).kept)))) (fun w => Vu cByte w A135 ((vtOf g3 (D'.crash keep).now).kept.length) c136 ((vtOf g3 (D'.crash keep).now).kept)) (hO134.vuAt (hH.has 7 rfl)) (fun _ _ hF hS => opStr (e := 5) rfl (by kernel_rfl) (by kernel_rfl) (by kernel_rfl) (hF.ev 0 rfl) hS) rfl (fun _ _ => rfl) (kM [false, true, true, true, true, true, true, true, true, true] rfl rfl) (by decide) ?_
              refine pxV (v := (.string (strL ((vtOf g3 (D'.crash keep).now).kept)))) (fun _ _ hF => opAssign rfl (hF.ev 0 rfl)) rfl (fun _ _ => rfl) (kM [false, true, true, true, true, true, true, true, true, true] rfl rfl) (by decide) ?_
              refine pxEnd ?_
              refine qxThen ?_
              refine cxSeq ?_
              refine cxSeq ?_
              rcases hor with ⟨hke, hnu⟩ | ⟨hke, hnu⟩
              · refine cxRegX mixedOrders (by kernel_rfl) ?_
                replace hH := hH.drew
                refine rxV 0 rfl (by kernel_rfl) rfl (fun _ _ => rfl) (fun _ _ hF => opMove rfl (hF.ev 0 rfl)) (kA rfl) (by decide) (v := (.string (strL ((vtOf g3 (D'.crash keep).now).kept)))) ?_
                refine rxV 1 rfl (by kernel_rfl) rfl (fun _ _ => rfl) (fun _ _ hF => opMove rfl (hF.ev 6 rfl)) (kM [true, true, true, true, true, true, false, true, true, true, true] rfl rfl) (by decide) (v := (.slice Aw W.length cw)) ?_
                refine rxS (fun w => Vu cByte w Aw W.length cw W) 2 rfl (by kernel_rfl) rfl (fun _ _ => rfl) (hW.vu hH 5 rfl) (fun _ _ hF hS => opStr (e := 5) rfl (by kernel_rfl) (by kernel_rfl) (by kernel_rfl) (hF.ev 0 rfl) hS) (kM [false, true, true, true, true, true, true, true, true, true, true] rfl rfl) (by decide) (v := (.string (strL W))) ?_
                refine rxV 3 rfl (by kernel_rfl) rfl (fun _ _ => rfl) (fun _ _ hF => opNeS rfl (hF.ev 1 rfl) (hF.ev 0 rfl) (decide_eq_false (fun h => h (congrArg strL (hke.trans hkp))))) (kM [false, false, true, true, true, true, true, true, true, true, true] rfl rfl) (by decide) (v := (.bool false)) ?_
                refine rxV 4 rfl (by kernel_rfl) rfl (fun _ _ => rfl) (fun _ _ hF => opMove rfl (hF.ev 0 rfl)) (kM [false, true, true, true, true, true, true, true, true, true] rfl rfl) (by decide) (v := (.bool false)) ?_
                refine rxU 5 rfl (by kernel_rfl) rfl (gOff 0 rfl rfl rfl (by decide)) (kM [true, false, true, true, true, true, true, true, true, true] rfl rfl) (by decide) ?_
                refine rxU 6 rfl (by kernel_rfl) rfl (gOff 0 rfl rfl rfl (by decide)) (kA rfl) (by decide) ?_
                refine rxU 7 rfl (by kernel_rfl) rfl (gOff 0 rfl rfl rfl (by decide)) (kA rfl) (by decide) ?_
                refine rxU 8 rfl (by kernel_rfl) rfl (gOff 0 rfl rfl rfl (by decide)) (kA rfl) (by decide) ?_
                refine rxU 9 rfl (by kernel_rfl) rfl (gOff 0 rfl rfl rfl (by decide)) (kA rfl) (by decide) ?_
                refine rxU 10 rfl (by kernel_rfl) rfl (gOff 0 rfl rfl rfl (by decide)) (kA rfl) (by decide) ?_
                refine rxU 11 rfl (by kernel_rfl) rfl (gOff 0 rfl rfl rfl (by decide)) (kA rfl) (by decide) ?_
                refine rxUK 12 rfl (by kernel_rfl) rfl (gOff 0 rfl rfl rfl (by decide)) (kA rfl) (by decide) ?_
                refine rxU 13 rfl (by kernel_rfl) rfl (gOffU 0 rfl rfl rfl) (kA rfl) (by decide) ?_
                refine rxU 14 rfl (by kernel_rfl) rfl (gOffU 0 rfl rfl rfl) (kM [true, true, true, false, true, true, true, true, true, true] rfl rfl) (by decide) ?_
                refine rxU 15 rfl (by kernel_rfl) rfl (gOffU 0 rfl rfl rfl) (kA rfl) (by decide) ?_
                refine rxU 16 rfl (by kernel_rfl) rfl (gOffU 0 rfl rfl rfl) (kA rfl) (by decide) ?_
                refine rxU 17 rfl (by kernel_rfl) rfl (gOffU 0 rfl rfl rfl) (kA rfl) (by decide) ?_
                refine rxU 18 rfl (by kernel_rfl) rfl (gOffU 0 rfl rfl rfl) (kA rfl) (by decide) ?_
                refine rxU 19 rfl (by kernel_rfl) rfl (gOffU 0 rfl rfl rfl) (kA rfl) (by decide) ?_
                refine rxU 20 rfl (by kernel_rfl) rfl (gOffU 0 rfl rfl rfl) (kA rfl) (by decide) ?_
                refine rxU 21 rfl (by kernel_rfl) rfl (gOff 1 rfl rfl rfl (by decide)) (kM [false, true, true, true, true, true, true, true, true] rfl rfl) (by decide) ?_
                refine rxV 22 rfl (by kernel_rfl) rfl (fun _ _ => rfl) (fun _ _ hF => opPickF rfl (hF.ev 0 rfl) rfl) (kM [false, true, true, true, true, true, true, true] rfl rfl) (by decide) (v := (.bool false)) ?_
                refine rxEnd (by kernel_rfl) ?_
                refine qxThen ?_
                refine cxF 0 rfl rfl ?_
                refine cxSkip ?_
                refine qxThen ?_
                refine cxReg ?_
                refine pxV (v := (.pointer (some ⟨g122, 0, none⟩))) (fun _ _ hF => opMove rfl (hF.ev 1 rfl)) rfl (fun _ _ => rfl) (kM [false, true, true, true, true, true, true, true] rfl rfl) (by decide) ?_
                refine pxM hH (fun _ hF => Does.small (load_c g122 (vtOf g3 (D'.crash keep).now) A127 c129 (Nat.le_trans (kept_le (gd := g3) (by omega)) (by decide))) (fun w => opCall rfl Try.func12 rfl rfl (Evs.cons (v := (.pointer (some ⟨g122, 0, none⟩))) (hF.ev 0 rfl) Evs.nil) w)) ⟨hH.blk 1 rfl, (hO131.vuAt (hH.has 2 rfl))⟩ rfl (fun _ _ => rfl) (kM [false, true, true, true, true, true, true, true] rfl rfl) (by decide) ?_
                clear hH
                rintro v143 E139 w hO140 hH
                replace hH : HH w0 [] [E123, [bl g122 61 #[(.pointer (some ⟨(vtOf g3 (D'.crash keep).now).gd, 0, none⟩)), (.int .i64 ((((vtOf g3 (D'.crash keep).now).half) : Nat) : Int)), (.int .i64 ((((vtOf g3 (D'.crash keep).now).sector) : Nat) : Int)), (.int .u64 ((((vtOf g3 (D'.crash keep).now).number) : Nat) : Int)), (.int .u64 ((((vtOf g3 (D'.crash keep).now).size) : Nat) : Int)), (.int .i64 ((((vtOf g3 (D'.crash keep).now).area) : Nat) : Int)), (.slice A127 ((vtOf g3 (D'.crash keep).now).kept.length) c129), (.bool ((vtOf g3 (D'.crash keep).now).over))]], E130, [bl gv 61 #[(.pointer (some ⟨({ (vtOf g3 D.now) with over := true } : Vt).gd, 0, none⟩)), (.int .i64 (((({ (vtOf g3 D.now) with over := true } : Vt).half) : Nat) : Int)), (.int .i64 (((({ (vtOf g3 D.now) with over := true } : Vt).sector) : Nat) : Int)), (.int .u64 (((({ (vtOf g3 D.now) with over := true } : Vt).number) : Nat) : Int)), (.int .u64 (((({ (vtOf g3 D.now) with over := true } : Vt).size) : Nat) : Int)), (.int .i64 (((({ (vtOf g3 D.now) with over := true } : Vt).area) : Nat) : Int)), (.slice A108 (({ (vtOf g3 D.now) with over := true } : Vt).kept.length) c110), (.bool (({ (vtOf g3 D.now) with over := true } : Vt).over))]], E111, Ew, E114, E133, E139] w := hH
                obtain ⟨A141, c142, rfl⟩ := hO140.slice
                refine pxV (v := (.slice A141 ((vtOf g3 (D'.crash keep).now).kept.length) c142)) (fun _ _ hF => opAssign rfl (hF.ev 0 rfl)) rfl (fun _ _ => rfl) (kM [false, true, true, true, true, true, true, true] rfl rfl) (by decide) ?_
                refine pxEnd ?_
                refine qxInN ?_
                refine qxThen ?_
                refine cxReg ?_
                refine pxV (v := (.int .i64 (((i + 1) : Nat) : Int))) (fun _ _ hF => opAdd rfl (hF.ev 2 rfl) rfl (wI (by omega) (by omega) (by omega))) rfl (fun _ _ => rfl) (kM [true, true, false, true, true, true, true, true] rfl rfl) (by decide) ?_
                refine pxV (v := (.int .i64 (((i + 1) : Nat) : Int))) (fun _ _ hF => opMove rfl (hF.ev 0 rfl)) rfl (fun _ _ => rfl) (kM [false, true, true, true, true, true, true, true] rfl rfl) (by decide) ?_
                refine pxEnd ?_
                obtain ⟨E145, hE146, hD147⟩ : ∃ E, E = ([[bl g122 61 #[(.pointer (some ⟨(vtOf g3 (D'.crash keep).now).gd, 0, none⟩)), (.int .i64 ((((vtOf g3 (D'.crash keep).now).half) : Nat) : Int)), (.int .i64 ((((vtOf g3 (D'.crash keep).now).sector) : Nat) : Int)), (.int .u64 ((((vtOf g3 (D'.crash keep).now).number) : Nat) : Int)), (.int .u64 ((((vtOf g3 (D'.crash keep).now).size) : Nat) : Int)), (.int .i64 ((((vtOf g3 (D'.crash keep).now).area) : Nat) : Int)), (.slice A127 ((vtOf g3 (D'.crash keep).now).kept.length) c129), (.bool ((vtOf g3 (D'.crash keep).now).over))]], E130] : List Hl).flatten ∧ VtAt g122 (vtOf g3 (D'.crash keep).now) E := ⟨_, rfl, hV126.ok, _, _, _, _, rfl, hO131⟩
                replace hH : HH w0 [] [E123, E145, [bl gv 61 #[(.pointer (some ⟨({ (vtOf g3 D.now) with over := true } : Vt).gd, 0, none⟩)), (.int .i64 (((({ (vtOf g3 D.now) with over := true } : Vt).half) : Nat) : Int)), (.int .i64 (((({ (vtOf g3 D.now) with over := true } : Vt).sector) : Nat) : Int)), (.int .u64 (((({ (vtOf g3 D.now) with over := true } : Vt).number) : Nat) : Int)), (.int .u64 (((({ (vtOf g3 D.now) with over := true } : Vt).size) : Nat) : Int)), (.int .i64 (((({ (vtOf g3 D.now) with over := true } : Vt).area) : Nat) : Int)), (.slice A108 (({ (vtOf g3 D.now) with over := true } : Vt).kept.length) c110), (.bool (({ (vtOf g3 D.now) with over := true } : Vt).over))]], E111, Ew, E114, E133, E139] w := hH.cast (by rw [hE146]; simp)
                replace hH : HH w0 [] [E123, E145, E139] w := HH.sel hH [0, 1, 7] rfl (by decide)
                exact qxRound (i + 1, (D'.crash keep), E123, E145, g122, (vtOf g3 (D'.crash keep).now).kept, A141, c142, E139) ⟨hH, (show (i + 1) ≤ raws.length from (by omega)), hD125, hD147, hR2, hl2, rfl, (show (vtOf g3 (D'.crash keep).now).number ≤ (i + 1) from (by omega)), (.inr hO140)⟩ (by omega) (slots_at [0, 3, 1, 2, 4, 5, 6, 7] rfl)
              · refine cxRegX mixedOrders (by kernel_rfl) ?_
                replace hH := hH.drew
                refine rxV 0 rfl (by kernel_rfl) rfl (fun _ _ => rfl) (fun _ _ hF => opMove rfl (hF.ev 0 rfl)) (kA rfl) (by decide) (v := (.string (strL ((vtOf g3 (D'.crash keep).now).kept)))) ?_
                refine rxV 1 rfl (by kernel_rfl) rfl (fun _ _ => rfl) (fun _ _ hF => opMove rfl (hF.ev 6 rfl)) (kM [true, true, true, true, true, true, false, true, true, true, true] rfl rfl) (by decide) (v := (.slice Aw W.length cw)) ?_
                refine rxS (fun w => Vu cByte w Aw W.length cw W) 2 rfl (by kernel_rfl) rfl (fun _ _ => rfl) (hW.vu hH 5 rfl) (fun _ _ hF hS => opStr (e := 5) rfl (by kernel_rfl) (by kernel_rfl) (by kernel_rfl) (hF.ev 0 rfl) hS) (kM [false, true, true, true, true, true, true, true, true, true, true] rfl rfl) (by decide) (v := (.string (strL W))) ?_
                refine rxV 3 rfl (by kernel_rfl) rfl (fun _ _ => rfl) (fun _ _ hF => opNeS rfl (hF.ev 1 rfl) (hF.ev 0 rfl) rfl) (kM [false, false, true, true, true, true, true, true, true, true, true] rfl rfl) (by decide) (v := (.bool (decide ((strL ((vtOf g3 (D'.crash keep).now).kept)) ≠ (strL W))))) ?_
                refine rxV 4 rfl (by kernel_rfl) rfl (fun _ _ => rfl) (fun _ _ hF => opMove rfl (hF.ev 0 rfl)) (kM [false, true, true, true, true, true, true, true, true, true] rfl rfl) (by decide) (v := (.bool (decide ((strL ((vtOf g3 (D'.crash keep).now).kept)) ≠ (strL W))))) ?_
                refine rxSplitP 0 rfl (l1 := [(106, (.bool true)), (15, (.string (strL ((vtOf g3 (D'.crash keep).now).kept)))), (10, (.pointer (some ⟨g122, 0, none⟩))), (13, (.int .i64 (((i) : Nat) : Int))), (42, (.int .i64 (((i) : Nat) : Int))), (41, (.int .i64 (((raws.length) : Nat) : Int))), (9, (.pointer (some ⟨g3, 0, none⟩))), (3, (.slice Ak keep.length ck)), (2, (.slice (some ⟨b14, off15, none⟩) fuses.length cf)), (1, (.slice (some ⟨b96, off97, none⟩) raws.length c))]) (l2 := [(106, (.bool false)), (15, (.string (strL ((vtOf g3 (D'.crash keep).now).kept)))), (10, (.pointer (some ⟨g122, 0, none⟩))), (13, (.int .i64 (((i) : Nat) : Int))), (42, (.int .i64 (((i) : Nat) : Int))), (41, (.int .i64 (((raws.length) : Nat) : Int))), (9, (.pointer (some ⟨g3, 0, none⟩))), (3, (.slice Ak keep.length ck)), (2, (.slice (some ⟨b14, off15, none⟩) fuses.length cf)), (1, (.slice (some ⟨b96, off97, none⟩) raws.length c))]) rfl rfl (fun hg148 => ?_) (fun hg148 => ?_)
                · refine rxV 5 rfl (by kernel_rfl) rfl (gOn 0 rfl rfl rfl (by decide)) (fun _ _ hF => opMove rfl (hF.ev 1 rfl)) (kM [true, false, true, true, true, true, true, true, true, true] rfl rfl) (by decide) (v := (.string (strL ((vtOf g3 (D'.crash keep).now).kept)))) ?_
                  refine rxV 6 rfl (by kernel_rfl) rfl (gOn 1 rfl rfl rfl (by decide)) (fun _ _ hF => opMove rfl (hF.ev 9 rfl)) (kA rfl) (by decide) (v := (.slice (some ⟨b96, off97, none⟩) raws.length c)) ?_
                  refine rxV 7 rfl (by kernel_rfl) rfl (gOn 2 rfl rfl rfl (by decide)) (fun _ _ hF => opMove rfl (hF.ev 4 rfl)) (kA rfl) (by decide) (v := (.int .i64 (((i) : Nat) : Int))) ?_
                  have hi149 : i < raws.length := by omega
                  have hj152 : i < raws.length := by first | exact hi149 | (simp only [List.length_drop, List.length_take]; omega) | omega
                  refine rxV 8 rfl (by kernel_rfl) rfl (gOn 3 rfl rfl rfl (by decide)) (fun _ _ hF => opIndex (i := i) (e := 32) (sz := 1) rfl (by kernel_rfl) (by kernel_rfl) (hF.ev 1 rfl) (hF.ev 0 rfl) rfl hi149) (kM [false, false, true, true, true, true, true, true, true, true, true, true] rfl rfl) (by decide) (v := (.pointer (some ⟨b96, off97 + i * 1, none⟩))) ?_
                  refine rxS (fun w => HoldsL cSl w b96 off97 raws) 9 rfl (by kernel_rfl) rfl (gOn 2 rfl rfl rfl (by decide)) (hH.holdsL hL98 hb99 hR100) (fun _ _ hF hS => opLoadT (C := cSl) (y := (A0, bytes.length, c0)) rfl (hF.ev 0 rfl) (by kernel_rfl) (hS i _ hx0) rfl) (kM [false, true, true, true, true, true, true, true, true, true, true] rfl rfl) (by decide) (v := (.slice A0 bytes.length c0)) ?_
                  refine rxS (fun w => Vu cByte w A0 bytes.length c0 bytes) 10 rfl (by kernel_rfl) rfl (gOn 2 rfl rfl rfl (by decide)) (hH.vu hvb (by decide) (Off.nil _ _)) (fun _ _ hF hS => opStr (e := 5) rfl (by kernel_rfl) (by kernel_rfl) (by kernel_rfl) (hF.ev 0 rfl) hS) (kM [false, true, true, true, true, true, true, true, true, true, true] rfl rfl) (by decide) (v := (.string (strL bytes))) ?_
                  refine rxV 11 rfl (by kernel_rfl) rfl (gOn 2 rfl rfl rfl (by decide)) (fun _ _ hF => opNeS rfl (hF.ev 1 rfl) (hF.ev 0 rfl) (decide_eq_false (fun h => h (congrArg strL hke)))) (kM [false, false, true, true, true, true, true, true, true, true, true] rfl rfl) (by decide) (v := (.bool false)) ?_
                  refine rxV 12 rfl (by kernel_rfl) rfl (gOn 1 rfl rfl rfl (by decide)) (fun _ _ hF => opMove rfl (hF.ev 0 rfl)) (kM [false, true, true, true, true, true, true, true, true, true] rfl rfl) (by decide) (v := (.bool false)) ?_
                  refine rxV 13 rfl (by kernel_rfl) rfl (gOn 0 rfl rfl rfl (by decide)) (fun _ _ hF => opMove rfl (hF.ev 9 rfl)) (kA rfl) (by decide) (v := (.slice (some ⟨b96, off97, none⟩) raws.length c)) ?_
                  refine rxV 14 rfl (by kernel_rfl) rfl (gOn 1 rfl rfl rfl (by decide)) (fun _ _ hF => opMove rfl (hF.ev 4 rfl)) (kM [true, true, true, true, false, true, true, true, true, true, true] rfl rfl) (by decide) (v := (.int .i64 (((i) : Nat) : Int))) ?_
                  have hi153 : i < raws.length := by omega
                  have hj156 : i < raws.length := by first | exact hi153 | (simp only [List.length_drop, List.length_take]; omega) | omega
                  refine rxV 15 rfl (by kernel_rfl) rfl (gOn 2 rfl rfl rfl (by decide)) (fun _ _ hF => opIndex (i := i) (e := 32) (sz := 1) rfl (by kernel_rfl) (by kernel_rfl) (hF.ev 1 rfl) (hF.ev 0 rfl) rfl hi153) (kM [false, false, true, true, true, true, true, true, true, true, true] rfl rfl) (by decide) (v := (.pointer (some ⟨b96, off97 + i * 1, none⟩))) ?_
                  refine rxS (fun w => HoldsL cSl w b96 off97 raws) 16 rfl (by kernel_rfl) rfl (gOn 1 rfl rfl rfl (by decide)) (hH.holdsL hL98 hb99 hR100) (fun _ _ hF hS => opLoadT (C := cSl) (y := (A0, bytes.length, c0)) rfl (hF.ev 0 rfl) (by kernel_rfl) (hS i _ hx0) rfl) (kM [false, true, true, true, true, true, true, true, true, true] rfl rfl) (by decide) (v := (.slice A0 bytes.length c0)) ?_
                  refine rxV 17 rfl (by kernel_rfl) rfl (gOn 1 rfl rfl rfl (by decide)) (fun _ _ hF => opLen (e := 5) rfl (by kernel_rfl) (hF.ev 0 rfl)) (kM [false, true, true, true, true, true, true, true, true, true] rfl rfl) (by decide) (v := (.int .i64 (((bytes.length) : Nat) : Int))) ?_
                  refine rxV 18 rfl (by kernel_rfl) rfl (gOn 1 rfl rfl rfl (by decide)) (fun _ _ hF => opMove rfl (hF.ev 3 rfl)) (kA rfl) (by decide) (v := (.pointer (some ⟨g122, 0, none⟩))) ?_
                  refine rx1 19 (by kernel_rfl) ?_
                  refine moM rfl hH (fun _ hF => Does.small ((Pure.as (v := (.int .i64 (((((vtOf g3 (D'.crash keep).now).half) * 64) : Nat) : Int))) (room_c g122 (vtOf g3 (D'.crash keep).now) A127 c129 (by show halfOf _ ≤ 1999; unfold halfOf; omega)) rfl).does) (fun w => opCall rfl Try.func11 rfl rfl (Evs.cons (v := (.pointer (some ⟨g122, 0, none⟩))) (hF.ev 0 rfl) Evs.nil) w)) (hH.blk 1 rfl) rfl (gOn 2 rfl rfl rfl (by decide)) (kM [false, true, true, true, true, true, true, true, true, true, true] rfl rfl) (by decide) (PendOk.keep (PendOk.go [12, 11] (by kernel_rfl) (PendOk.go [12, 11, 10] (by kernel_rfl) (PendOk.go [12, 4, 3] (by kernel_rfl) (PendOk.nil _ []))))) ?_
                  clear hH
                  rintro _ _ w ⟨rfl, rfl⟩ hH
                  replace hH : HH w0 [] [E123, [bl g122 61 #[(.pointer (some ⟨(vtOf g3 (D'.crash keep).now).gd, 0, none⟩)), (.int .i64 ((((vtOf g3 (D'.crash keep).now).half) : Nat) : Int)), (.int .i64 ((((vtOf g3 (D'.crash keep).now).sector) : Nat) : Int)), (.int .u64 ((((vtOf g3 (D'.crash keep).now).number) : Nat) : Int)), (.int .u64 ((((vtOf g3 (D'.crash keep).now).size) : Nat) : Int)), (.int .i64 ((((vtOf g3 (D'.crash keep).now).area) : Nat) : Int)), (.slice A127 ((vtOf g3 (D'.crash keep).now).kept.length) c129), (.bool ((vtOf g3 (D'.crash keep).now).over))]], E130, [bl gv 61 #[(.pointer (some ⟨({ (vtOf g3 D.now) with over := true } : Vt).gd, 0, none⟩)), (.int .i64 (((({ (vtOf g3 D.now) with over := true } : Vt).half) : Nat) : Int)), (.int .i64 (((({ (vtOf g3 D.now) with over := true } : Vt).sector) : Nat) : Int)), (.int .u64 (((({ (vtOf g3 D.now) with over := true } : Vt).number) : Nat) : Int)), (.int .u64 (((({ (vtOf g3 D.now) with over := true } : Vt).size) : Nat) : Int)), (.int .i64 (((({ (vtOf g3 D.now) with over := true } : Vt).area) : Nat) : Int)), (.slice A108 (({ (vtOf g3 D.now) with over := true } : Vt).kept.length) c110), (.bool (({ (vtOf g3 D.now) with over := true } : Vt).over))]], E111, Ew, E114, E133] w := hH.unpad
                  refine ⟨(by
                    intro s hs
                    simp only [List.mem_cons, List.not_mem_nil, or_false] at hs
                    rcases hs with rfl
                    · exact (hH.holdsL hL98 hb99 hR100)
                    ), ?_⟩
                  refine rxV 20 rfl (by kernel_rfl) rfl (gOn 2 rfl rfl rfl (by decide)) (fun _ _ hF => opGtr rfl (hF.ev 1 rfl) (hF.ev 0 rfl) (decide_eq_false (by show ¬ (((bytes.length : Nat) : Int) > ((halfOf (D'.crash keep).now * 64 : Nat) : Int)); have hq : halfOf (D'.crash keep).now = (2 + sz.toNat) / 2 := (by unfold halfOf; omega); omega))) (kM [false, false, true, true, true, true, true, true, true, true, true] rfl rfl) (by decide) (v := (.bool false)) ?_
                  refine rxV 21 rfl (by kernel_rfl) rfl (gOn 2 rfl rfl rfl (by decide)) (fun _ _ hF => opPickF rfl (hF.ev 1 rfl) (hF.ev 0 rfl)) (kM [false, false, true, true, true, true, true, true, true, true] rfl rfl) (by decide) (v := (.bool false)) ?_
                  refine rxV 22 rfl (by kernel_rfl) rfl (fun _ _ => rfl) (fun _ _ hF => opPickT rfl (hF.ev 1 rfl) (hF.ev 0 rfl)) (kM [false, false, true, true, true, true, true, true, true] rfl rfl) (by decide) (v := (.bool false)) ?_
                  refine rxEnd (by kernel_rfl) ?_
                  refine qxThen ?_
                  refine cxF 0 rfl rfl ?_
                  refine cxSkip ?_
                  refine qxThen ?_
                  refine cxReg ?_
                  refine pxV (v := (.pointer (some ⟨g122, 0, none⟩))) (fun _ _ hF => opMove rfl (hF.ev 1 rfl)) rfl (fun _ _ => rfl) (kM [false, true, true, true, true, true, true, true] rfl rfl) (by decide) ?_
                  refine pxM hH (fun _ hF => Does.small (load_c g122 (vtOf g3 (D'.crash keep).now) A127 c129 (Nat.le_trans (kept_le (gd := g3) (by omega)) (by decide))) (fun w => opCall rfl Try.func12 rfl rfl (Evs.cons (v := (.pointer (some ⟨g122, 0, none⟩))) (hF.ev 0 rfl) Evs.nil) w)) ⟨hH.blk 1 rfl, (hO131.vuAt (hH.has 2 rfl))⟩ rfl (fun _ _ => rfl) (kM [false, true, true, true, true, true, true, true] rfl rfl) (by decide) ?_
                  clear hH
                  rintro v161 E157 w hO158 hH
                  replace hH : HH w0 [] [E123, [bl g122 61 #[(.pointer (some ⟨(vtOf g3 (D'.crash keep).now).gd, 0, none⟩)), (.int .i64 ((((vtOf g3 (D'.crash keep).now).half) : Nat) : Int)), (.int .i64 ((((vtOf g3 (D'.crash keep).now).sector) : Nat) : Int)), (.int .u64 ((((vtOf g3 (D'.crash keep).now).number) : Nat) : Int)), (.int .u64 ((((vtOf g3 (D'.crash keep).now).size) : Nat) : Int)), (.int .i64 ((((vtOf g3 (D'.crash keep).now).area) : Nat) : Int)), (.slice A127 ((vtOf g3 (D'.crash keep).now).kept.length) c129), (.bool ((vtOf g3 (D'.crash keep).now).over))]], E130, [bl gv 61 #[(.pointer (some ⟨({ (vtOf g3 D.now) with over := true } : Vt).gd, 0, none⟩)), (.int .i64 (((({ (vtOf g3 D.now) with over := true } : Vt).half) : Nat) : Int)), (.int .i64 (((({ (vtOf g3 D.now) with over := true } : Vt).sector) : Nat) : Int)), (.int .u64 (((({ (vtOf g3 D.now) with over := true } : Vt).number) : Nat) : Int)), (.int .u64 (((({ (vtOf g3 D.now) with over := true } : Vt).size) : Nat) : Int)), (.int .i64 (((({ (vtOf g3 D.now) with over := true } : Vt).area) : Nat) : Int)), (.slice A108 (({ (vtOf g3 D.now) with over := true } : Vt).kept.length) c110), (.bool (({ (vtOf g3 D.now) with over := true } : Vt).over))]], E111, Ew, E114, E133, E157] w := hH
                  obtain ⟨A159, c160, rfl⟩ := hO158.slice
                  refine pxV (v := (.slice A159 ((vtOf g3 (D'.crash keep).now).kept.length) c160)) (fun _ _ hF => opAssign rfl (hF.ev 0 rfl)) rfl (fun _ _ => rfl) (kM [false, true, true, true, true, true, true, true] rfl rfl) (by decide) ?_
                  refine pxEnd ?_
                  refine qxInN ?_
                  refine qxThen ?_
                  refine cxReg ?_
                  refine pxV (v := (.int .i64 (((i + 1) : Nat) : Int))) (fun _ _ hF => opAdd rfl (hF.ev 2 rfl) rfl (wI (by omega) (by omega) (by omega))) rfl (fun _ _ => rfl) (kM [true, true, false, true, true, true, true, true] rfl rfl) (by decide) ?_
                  refine pxV (v := (.int .i64 (((i + 1) : Nat) : Int))) (fun _ _ hF => opMove rfl (hF.ev 0 rfl)) rfl (fun _ _ => rfl) (kM [false, true, true, true, true, true, true, true] rfl rfl) (by decide) ?_
                  refine pxEnd ?_
                  obtain ⟨E163, hE164, hD165⟩ : ∃ E, E = ([[bl g122 61 #[(.pointer (some ⟨(vtOf g3 (D'.crash keep).now).gd, 0, none⟩)), (.int .i64 ((((vtOf g3 (D'.crash keep).now).half) : Nat) : Int)), (.int .i64 ((((vtOf g3 (D'.crash keep).now).sector) : Nat) : Int)), (.int .u64 ((((vtOf g3 (D'.crash keep).now).number) : Nat) : Int)), (.int .u64 ((((vtOf g3 (D'.crash keep).now).size) : Nat) : Int)), (.int .i64 ((((vtOf g3 (D'.crash keep).now).area) : Nat) : Int)), (.slice A127 ((vtOf g3 (D'.crash keep).now).kept.length) c129), (.bool ((vtOf g3 (D'.crash keep).now).over))]], E130] : List Hl).flatten ∧ VtAt g122 (vtOf g3 (D'.crash keep).now) E := ⟨_, rfl, hV126.ok, _, _, _, _, rfl, hO131⟩
                  replace hH : HH w0 [] [E123, E163, [bl gv 61 #[(.pointer (some ⟨({ (vtOf g3 D.now) with over := true } : Vt).gd, 0, none⟩)), (.int .i64 (((({ (vtOf g3 D.now) with over := true } : Vt).half) : Nat) : Int)), (.int .i64 (((({ (vtOf g3 D.now) with over := true } : Vt).sector) : Nat) : Int)), (.int .u64 (((({ (vtOf g3 D.now) with over := true } : Vt).number) : Nat) : Int)), (.int .u64 (((({ (vtOf g3 D.now) with over := true } : Vt).size) : Nat) : Int)), (.int .i64 (((({ (vtOf g3 D.now) with over := true } : Vt).area) : Nat) : Int)), (.slice A108 (({ (vtOf g3 D.now) with over := true } : Vt).kept.length) c110), (.bool (({ (vtOf g3 D.now) with over := true } : Vt).over))]], E111, Ew, E114, E133, E157] w := hH.cast (by rw [hE164]; simp)
                  replace hH : HH w0 [] [E123, E163, E157] w := HH.sel hH [0, 1, 7] rfl (by decide)
                  exact qxRound (i + 1, (D'.crash keep), E123, E163, g122, (vtOf g3 (D'.crash keep).now).kept, A159, c160, E157) ⟨hH, (show (i + 1) ≤ raws.length from (by omega)), hD125, hD165, hR2, hl2, rfl, (show (vtOf g3 (D'.crash keep).now).number ≤ (i + 1) from (by omega)), (.inr hO158)⟩ (by omega) (slots_at [0, 3, 1, 2, 4, 5, 6, 7] rfl)
                · refine rxU 5 rfl (by kernel_rfl) rfl (gOff 0 rfl rfl rfl (by decide)) (kM [true, false, true, true, true, true, true, true, true, true] rfl rfl) (by decide) ?_
                  refine rxU 6 rfl (by kernel_rfl) rfl (gOff 0 rfl rfl rfl (by decide)) (kA rfl) (by decide) ?_
                  refine rxU 7 rfl (by kernel_rfl) rfl (gOff 0 rfl rfl rfl (by decide)) (kA rfl) (by decide) ?_
                  refine rxU 8 rfl (by kernel_rfl) rfl (gOff 0 rfl rfl rfl (by decide)) (kA rfl) (by decide) ?_
                  refine rxU 9 rfl (by kernel_rfl) rfl (gOff 0 rfl rfl rfl (by decide)) (kA rfl) (by decide) ?_
                  refine rxU 10 rfl (by kernel_rfl) rfl (gOff 0 rfl rfl rfl (by decide)) (kA rfl) (by decide) ?_
                  refine rxU 11 rfl (by kernel_rfl) rfl (gOff 0 rfl rfl rfl (by decide)) (kA rfl) (by decide) ?_
                  refine rxUK 12 rfl (by kernel_rfl) rfl (gOff 0 rfl rfl rfl (by decide)) (kA rfl) (by decide) ?_
                  refine rxU 13 rfl (by kernel_rfl) rfl (gOffU 0 rfl rfl rfl) (kA rfl) (by decide) ?_
                  refine rxU 14 rfl (by kernel_rfl) rfl (gOffU 0 rfl rfl rfl) (kM [true, true, true, false, true, true, true, true, true, true] rfl rfl) (by decide) ?_
                  refine rxU 15 rfl (by kernel_rfl) rfl (gOffU 0 rfl rfl rfl) (kA rfl) (by decide) ?_
                  refine rxU 16 rfl (by kernel_rfl) rfl (gOffU 0 rfl rfl rfl) (kA rfl) (by decide) ?_
                  refine rxU 17 rfl (by kernel_rfl) rfl (gOffU 0 rfl rfl rfl) (kA rfl) (by decide) ?_
                  refine rxU 18 rfl (by kernel_rfl) rfl (gOffU 0 rfl rfl rfl) (kA rfl) (by decide) ?_
                  refine rxU 19 rfl (by kernel_rfl) rfl (gOffU 0 rfl rfl rfl) (kA rfl) (by decide) ?_
                  refine rxU 20 rfl (by kernel_rfl) rfl (gOffU 0 rfl rfl rfl) (kA rfl) (by decide) ?_
                  refine rxU 21 rfl (by kernel_rfl) rfl (gOff 1 rfl rfl rfl (by decide)) (kM [false, true, true, true, true, true, true, true, true] rfl rfl) (by decide) ?_
                  refine rxV 22 rfl (by kernel_rfl) rfl (fun _ _ => rfl) (fun _ _ hF => opPickF rfl (hF.ev 0 rfl) rfl) (kM [false, true, true, true, true, true, true, true] rfl rfl) (by decide) (v := (.bool false)) ?_
                  refine rxEnd (by kernel_rfl) ?_
                  refine qxThen ?_
                  refine cxF 0 rfl rfl ?_
                  refine cxSkip ?_
                  refine qxThen ?_
                  refine cxReg ?_
                  refine pxV (v := (.pointer (some ⟨g122, 0, none⟩))) (fun _ _ hF => opMove rfl (hF.ev 1 rfl)) rfl (fun _ _ => rfl) (kM [false, true, true, true, true, true, true, true] rfl rfl) (by decide) ?_
                  refine pxM hH (fun _ hF => Does.small (load_c g122 (vtOf g3 (D'.crash keep).now) A127 c129 (Nat.le_trans (kept_le (gd := g3) (by omega)) (by decide))) (fun w => opCall rfl Try.func12 rfl rfl (Evs.cons (v := (.pointer (some ⟨g122, 0, none⟩))) (hF.ev 0 rfl) Evs.nil) w)) ⟨hH.blk 1 rfl, (hO131.vuAt (hH.has 2 rfl))⟩ rfl (fun _ _ => rfl) (kM [false, true, true, true, true, true, true, true] rfl rfl) (by decide) ?_
                  clear hH
                  rintro v170 E166 w hO167 hH
                  replace hH : HH w0 [] [E123, [bl g122 61 #[(.pointer (some ⟨(vtOf g3 (D'.crash keep).now).gd, 0, none⟩)), (.int .i64 ((((vtOf g3 (D'.crash keep).now).half) : Nat) : Int)), (.int .i64 ((((vtOf g3 (D'.crash keep).now).sector) : Nat) : Int)), (.int .u64 ((((vtOf g3 (D'.crash keep).now).number) : Nat) : Int)), (.int .u64 ((((vtOf g3 (D'.crash keep).now).size) : Nat) : Int)), (.int .i64 ((((vtOf g3 (D'.crash keep).now).area) : Nat) : Int)), (.slice A127 ((vtOf g3 (D'.crash keep).now).kept.length) c129), (.bool ((vtOf g3 (D'.crash keep).now).over))]], E130, [bl gv 61 #[(.pointer (some ⟨({ (vtOf g3 D.now) with over := true } : Vt).gd, 0, none⟩)), (.int .i64 (((({ (vtOf g3 D.now) with over := true } : Vt).half) : Nat) : Int)), (.int .i64 (((({ (vtOf g3 D.now) with over := true } : Vt).sector) : Nat) : Int)), (.int .u64 (((({ (vtOf g3 D.now) with over := true } : Vt).number) : Nat) : Int)), (.int .u64 (((({ (vtOf g3 D.now) with over := true } : Vt).size) : Nat) : Int)), (.int .i64 (((({ (vtOf g3 D.now) with over := true } : Vt).area) : Nat) : Int)), (.slice A108 (({ (vtOf g3 D.now) with over := true } : Vt).kept.length) c110), (.bool (({ (vtOf g3 D.now) with over := true } : Vt).over))]], E111, Ew, E114, E133, E166] w := hH
                  obtain ⟨A168, c169, rfl⟩ := hO167.slice
                  refine pxV (v := (.slice A168 ((vtOf g3 (D'.crash keep).now).kept.length) c169)) (fun _ _ hF => opAssign rfl (hF.ev 0 rfl)) rfl (fun _ _ => rfl) (kM [false, true, true, true, true, true, true, true] rfl rfl) (by decide) ?_
                  refine pxEnd ?_
                  refine qxInN ?_
                  refine qxThen ?_
                  refine cxReg ?_
                  refine pxV (v := (.int .i64 (((i + 1) : Nat) : Int))) (fun _ _ hF => opAdd rfl (hF.ev 2 rfl) rfl (wI (by omega) (by omega) (by omega))) rfl (fun _ _ => rfl) (kM [true, true, false, true, true, true, true, true] rfl rfl) (by decide) ?_
                  refine pxV (v := (.int .i64 (((i + 1) : Nat) : Int))) (fun _ _ hF => opMove rfl (hF.ev 0 rfl)) rfl (fun _ _ => rfl) (kM [false, true, true, true, true, true, true, true] rfl rfl) (by decide) ?_
                  refine pxEnd ?_
                  obtain ⟨E172, hE173, hD174⟩ : ∃ E, E = ([[bl g122 61 #[(.pointer (some ⟨(vtOf g3 (D'.crash keep).now).gd, 0, none⟩)), (.int .i64 ((((vtOf g3 (D'.crash keep).now).half) : Nat) : Int)), (.int .i64 ((((vtOf g3 (D'.crash keep).now).sector) : Nat) : Int)), (.int .u64 ((((vtOf g3 (D'.crash keep).now).number) : Nat) : Int)), (.int .u64 ((((vtOf g3 (D'.crash keep).now).size) : Nat) : Int)), (.int .i64 ((((vtOf g3 (D'.crash keep).now).area) : Nat) : Int)), (.slice A127 ((vtOf g3 (D'.crash keep).now).kept.length) c129), (.bool ((vtOf g3 (D'.crash keep).now).over))]], E130] : List Hl).flatten ∧ VtAt g122 (vtOf g3 (D'.crash keep).now) E := ⟨_, rfl, hV126.ok, _, _, _, _, rfl, hO131⟩
                  replace hH : HH w0 [] [E123, E172, [bl gv 61 #[(.pointer (some ⟨({ (vtOf g3 D.now) with over := true } : Vt).gd, 0, none⟩)), (.int .i64 (((({ (vtOf g3 D.now) with over := true } : Vt).half) : Nat) : Int)), (.int .i64 (((({ (vtOf g3 D.now) with over := true } : Vt).sector) : Nat) : Int)), (.int .u64 (((({ (vtOf g3 D.now) with over := true } : Vt).number) : Nat) : Int)), (.int .u64 (((({ (vtOf g3 D.now) with over := true } : Vt).size) : Nat) : Int)), (.int .i64 (((({ (vtOf g3 D.now) with over := true } : Vt).area) : Nat) : Int)), (.slice A108 (({ (vtOf g3 D.now) with over := true } : Vt).kept.length) c110), (.bool (({ (vtOf g3 D.now) with over := true } : Vt).over))]], E111, Ew, E114, E133, E166] w := hH.cast (by rw [hE173]; simp)
                  replace hH : HH w0 [] [E123, E172, E166] w := HH.sel hH [0, 1, 7] rfl (by decide)
                  exact qxRound (i + 1, (D'.crash keep), E123, E172, g122, (vtOf g3 (D'.crash keep).now).kept, A168, c169, E166) ⟨hH, (show (i + 1) ≤ raws.length from (by omega)), hD125, hD174, hR2, hl2, rfl, (show (vtOf g3 (D'.crash keep).now).number ≤ (i + 1) from (by omega)), (.inr hO167)⟩ (by omega) (slots_at [0, 3, 1, 2, 4, 5, 6, 7] rfl)
        · refine cxSkip ?_
          refine qxThen ?_
          refine cxSeq ?_
          obtain ⟨⟨A0, n0, c0⟩, hx0⟩ := get_at raws i (by omega)
          obtain ⟨bytes, hnb, hvb⟩ := hR.2.1 _ (List.mem_of_getElem? hx0)
          obtain rfl : n0 = bytes.length := hnb
          have hbl : bytes.length ≤ totS raws := totS_le hx0
          have hhf : halfOf D.now = (2 + sz.toNat) / 2 := by unfold halfOf; omega
          rcases (show (halfOf D.now * 64 < bytes.length) ∨ (bytes.length ≤ halfOf D.now * 64) by omega) with hlong | hsh
          · have hk0 : (vtOf g3 D.now).keep D bytes = (6, D, vtOf g3 D.now) := keep_long rfl hlong
            have hun : D.uns.length ≤ 1000 := by rw [hRt.uns]; exact Nat.zero_le _
            refine cxReg ?_
            refine pxV (v := (.pointer (some ⟨gv, 0, none⟩))) (fun _ _ hF => opMove rfl (hF.ev 5 rfl)) rfl (fun _ _ => rfl) (kM [false, true, true, true, true, true, true, true, true, true] rfl rfl) (by decide) ?_
            refine pxV (v := (.slice A raws.length c)) (fun _ _ hF => opMove rfl (hF.ev 9 rfl)) rfl (fun _ _ => rfl) (kA rfl) (by decide) ?_
            refine pxV (v := (.int .i64 (((i) : Nat) : Int))) (fun _ _ hF => opMove rfl (hF.ev 2 rfl)) rfl (fun _ _ => rfl) (kA rfl) (by decide) ?_
            have hi175 : i < raws.length := by omega
            obtain ⟨b176, off177, rfl, hL178, hb179, hR180⟩ := hR.1.blk (by decide) (Off.nil _ _) (by omega)
            have := hR.1.cap
            have hj183 : i < raws.length := by first | exact hi175 | (simp only [List.length_drop, List.length_take]; omega) | omega
            refine pxV (v := (.pointer (some ⟨b176, off177 + i * 1, none⟩))) (fun _ _ hF => opIndex (i := i) (e := 32) (sz := 1) rfl (by kernel_rfl) (by kernel_rfl) (hF.ev 1 rfl) (hF.ev 0 rfl) rfl hi175) rfl (fun _ _ => rfl) (kM [false, false, true, true, true, true, true, true, true, true, true, true] rfl rfl) (by decide) ?_
            refine pxS (v := (.slice A0 bytes.length c0)) (fun w => HoldsL cSl w b176 off177 raws) (hH.holdsL hL178 hb179 hR180) (fun _ _ hF hS => opLoadT (C := cSl) (y := (A0, bytes.length, c0)) rfl (hF.ev 0 rfl) (by kernel_rfl) (hS i _ hx0) rfl) rfl (fun _ _ => rfl) (kM [false, true, true, true, true, true, true, true, true, true, true] rfl rfl) (by decide) ?_
            replace hH : HH w0 [] [([Ed, Ev] : List Hl).flatten, Ew] w := hH.cast (by simp)
            refine pxE 0 hH rfl (fun _ hF => Does.small (keep_as gv g3 (vtOf g3 D.now) D Ed Ev hD hV rfl bytes A0 c0 (hH.off 0 rfl hvb (by decide) (Off.nil _ _)) (by omega) (by rw [hRt.uns]; exact Nat.zero_le _) hk0) (fun w => opCall rfl Try.func14 rfl rfl (Evs.cons (v := (.pointer (some ⟨gv, 0, none⟩))) (hF.ev 1 rfl) (Evs.cons (v := (.slice A0 bytes.length c0)) (hF.ev 0 rfl) Evs.nil)) w)) (hH.vu hvb (by decide) (Off.nil _ _)) rfl (fun _ _ => rfl) (kM [false, false, true, true, true, true, true, true, true, true, true] rfl rfl) (by decide) ?_
            clear hH
            rintro _ _ w ⟨rfl, E184, E185, rfl, hD186, hV187⟩ hH
            replace hH : HH w0 [] [([E184, E185] : List Hl).flatten, Ew] w := hH
            replace hH : HH w0 [] [E184, E185, Ew] w := hH.cast (by simp)
            refine pxV (v := (.int .i64 6)) (fun _ _ hF => opAssign rfl (hF.ev 0 rfl)) rfl (fun _ _ => rfl) (kM [false, true, true, true, true, true, true, true, true, true] rfl rfl) (by decide) ?_
            refine pxEnd ?_
            refine qxThen ?_
            refine cxSeq ?_
            refine cxSeq ?_
            refine cxReg ?_
            refine pxV (v := (.int .i64 6)) (fun _ _ hF => opMove rfl (hF.ev 0 rfl)) rfl (fun _ _ => rfl) (kA rfl) (by decide) ?_
            refine pxV (v := (.bool false)) (fun _ _ hF => opEqI rfl (hF.ev 0 rfl) rfl (by decide)) rfl (fun _ _ => rfl) (kM [false, true, true, true, true, true, true, true, true, true, true] rfl rfl) (by decide) ?_
            refine pxEnd ?_
            refine qxThen ?_
            refine cxF 0 rfl rfl ?_
            refine cxSkip ?_
            refine qxThen ?_
            refine cxSeq ?_
            refine cxSeq ?_
            refine cxRegX mixedOrders (by kernel_rfl) ?_
            replace hH := hH.drew
            refine rxV 0 rfl (by kernel_rfl) rfl (fun _ _ => rfl) (fun _ _ hF => opMove rfl (hF.ev 1 rfl)) (kM [false, true, true, true, true, true, true, true, true, true, true] rfl rfl) (by decide) (v := (.int .i64 6)) ?_
            refine rxV 1 rfl (by kernel_rfl) rfl (fun _ _ => rfl) (fun _ _ hF => opNeI rfl (hF.ev 0 rfl) rfl (by decide)) (kM [false, true, true, true, true, true, true, true, true, true, true] rfl rfl) (by decide) (v := (.bool true)) ?_
            refine rxV 2 rfl (by kernel_rfl) rfl (fun _ _ => rfl) (fun _ _ hF => opMove rfl (hF.ev 0 rfl)) (kM [false, true, true, true, true, true, true, true, true, true, true] rfl rfl) (by decide) (v := (.bool true)) ?_
            refine rxV 3 rfl (by kernel_rfl) rfl (gOn 0 rfl rfl rfl (by decide)) (fun _ _ hF => opMove rfl (hF.ev 1 rfl)) (kA rfl) (by decide) (v := (.int .i64 6)) ?_
            refine rxV 4 rfl (by kernel_rfl) rfl (gOn 1 rfl rfl rfl (by decide)) (fun _ _ hF => opNeI rfl (hF.ev 0 rfl) rfl (by decide)) (kM [false, true, true, true, true, true, true, true, true, true, true, true] rfl rfl) (by decide) (v := (.bool false)) ?_
            refine rxV 5 rfl (by kernel_rfl) rfl (fun _ _ => rfl) (fun _ _ hF => opPickT rfl (hF.ev 1 rfl) (hF.ev 0 rfl)) (kM [false, false, true, true, true, true, true, true, true, true, true, true] rfl rfl) (by decide) (v := (.bool false)) ?_
            refine rxV 6 rfl (by kernel_rfl) rfl (fun _ _ => rfl) (fun _ _ hF => opMove rfl (hF.ev 0 rfl)) (kM [false, true, true, true, true, true, true, true, true, true, true] rfl rfl) (by decide) (v := (.bool false)) ?_
            refine rxV 7 rfl (by kernel_rfl) rfl (gOn 0 rfl rfl rfl (by decide)) (fun _ _ hF => opMove rfl (hF.ev 6 rfl)) (kA rfl) (by decide) (v := (.pointer (some ⟨gv, 0, none⟩))) ?_
            refine rxV 9 rfl (by kernel_rfl) rfl (gOn 1 rfl rfl rfl (by decide)) (fun _ _ hF => opMove rfl (hF.ev 2 rfl)) (kM [true, true, false, true, true, true, true, true, true, true, true, true] rfl rfl) (by decide) (v := (.int .i64 6)) ?_
            refine rxV 10 rfl (by kernel_rfl) rfl (gOn 2 rfl rfl rfl (by decide)) (fun _ _ hF => opEqI rfl (hF.ev 0 rfl) rfl (by decide)) (kM [false, true, true, true, true, true, true, true, true, true, true, true] rfl rfl) (by decide) (v := (.bool false)) ?_
            refine rx1 8 (by kernel_rfl) ?_
            obtain ⟨A188, n189, c190, E191, hE193, hO192⟩ := hV187.at'
            obtain rfl : n189 = (vtOf g3 D.now).kept.length := hO192.len
            replace hH : HH w0 [] [E184, [bl gv 61 #[(.pointer (some ⟨(vtOf g3 D.now).gd, 0, none⟩)), (.int .i64 ((((vtOf g3 D.now).half) : Nat) : Int)), (.int .i64 ((((vtOf g3 D.now).sector) : Nat) : Int)), (.int .u64 ((((vtOf g3 D.now).number) : Nat) : Int)), (.int .u64 ((((vtOf g3 D.now).size) : Nat) : Int)), (.int .i64 ((((vtOf g3 D.now).area) : Nat) : Int)), (.slice A188 ((vtOf g3 D.now).kept.length) c190), (.bool ((vtOf g3 D.now).over))]], E191, Ew] w.drew := hH.cast (by rw [hE193]; simp)
            refine moM rfl hH (fun _ hF => Does.small ((Pure.as (v := (.bool false)) (over_c gv (vtOf g3 D.now) A188 c190) rfl).does) (fun w => opCall rfl Try.func17 rfl rfl (Evs.cons (v := (.pointer (some ⟨gv, 0, none⟩))) (hF.ev 1 rfl) Evs.nil) w)) (hH.blk 1 rfl) rfl (gOn 2 rfl rfl rfl (by decide)) (kM [true, false, true, true, true, true, true, true, true, true, true, true] rfl rfl) (by decide) (PendOk.nil _ []) ?_
            clear hH
            rintro _ _ w ⟨rfl, rfl⟩ hH
            replace hH : HH w0 [] [E184, [bl gv 61 #[(.pointer (some ⟨(vtOf g3 D.now).gd, 0, none⟩)), (.int .i64 ((((vtOf g3 D.now).half) : Nat) : Int)), (.int .i64 ((((vtOf g3 D.now).sector) : Nat) : Int)), (.int .u64 ((((vtOf g3 D.now).number) : Nat) : Int)), (.int .u64 ((((vtOf g3 D.now).size) : Nat) : Int)), (.int .i64 ((((vtOf g3 D.now).area) : Nat) : Int)), (.slice A188 ((vtOf g3 D.now).kept.length) c190), (.bool ((vtOf g3 D.now).over))]], E191, Ew] w := hH.unpad
            refine ⟨(fun _ hs => by cases hs), ?_⟩
            refine rxV 11 rfl (by kernel_rfl) rfl (gOn 2 rfl rfl rfl (by decide)) (fun _ _ hF => opNeB rfl (by kernel_rfl) (hF.ev 0 rfl) (hF.ev 1 rfl) rfl) (kM [false, false, true, true, true, true, true, true, true, true, true, true] rfl rfl) (by decide) (v := (.bool false)) ?_
            refine rxV 12 rfl (by kernel_rfl) rfl (fun _ _ => rfl) (fun _ _ hF => opPickF rfl (hF.ev 1 rfl) (hF.ev 0 rfl)) (kM [false, false, true, true, true, true, true, true, true, true, true] rfl rfl) (by decide) (v := (.bool false)) ?_
            refine rxV 13 rfl (by kernel_rfl) rfl (fun _ _ => rfl) (fun _ _ hF => opMove rfl (hF.ev 0 rfl)) (kM [false, true, true, true, true, true, true, true, true, true] rfl rfl) (by decide) (v := (.bool false)) ?_
            refine rxV 14 rfl (by kernel_rfl) rfl (gOn 0 rfl rfl rfl (by decide)) (fun _ _ hF => opMove rfl (hF.ev 5 rfl)) (kM [true, true, true, true, true, false, true, true, true, true] rfl rfl) (by decide) (v := (.pointer (some ⟨gv, 0, none⟩))) ?_
            refine rxV 17 rfl (by kernel_rfl) rfl (gOn 1 rfl rfl rfl (by decide)) (fun _ _ hF => opMove rfl (hF.ev 5 rfl)) (kA rfl) (by decide) (v := (.slice Aw W.length cw)) ?_
            refine rxS (fun w => Vu cByte w Aw W.length cw W) 18 rfl (by kernel_rfl) rfl (gOn 2 rfl rfl rfl (by decide)) (hW.vu hH 3 rfl) (fun _ _ hF hS => opStr (e := 5) rfl (by kernel_rfl) (by kernel_rfl) (by kernel_rfl) (hF.ev 0 rfl) hS) (kM [false, true, true, true, true, true, true, true, true, true, true] rfl rfl) (by decide) (v := (.string (strL W))) ?_
            refine rx1 15 (by kernel_rfl) ?_
            refine moM rfl hH (fun _ hF => Does.small (load_c gv (vtOf g3 D.now) A188 c190 (Nat.le_trans (kept_le (gd := g3) (by omega)) (by decide))) (fun w => opCall rfl Try.func12 rfl rfl (Evs.cons (v := (.pointer (some ⟨gv, 0, none⟩))) (hF.ev 1 rfl) Evs.nil) w)) ⟨hH.blk 1 rfl, (hO192.vuAt (hH.has 2 rfl))⟩ rfl (gOn 2 rfl rfl rfl (by decide)) (kM [true, false, true, true, true, true, true, true, true, true, true] rfl rfl) (by decide) (PendOk.keep (PendOk.nil _ [])) ?_
            clear hH
            rintro v198 E194 w hO195 hH
            replace hH : HH w0 [] [E184, [bl gv 61 #[(.pointer (some ⟨(vtOf g3 D.now).gd, 0, none⟩)), (.int .i64 ((((vtOf g3 D.now).half) : Nat) : Int)), (.int .i64 ((((vtOf g3 D.now).sector) : Nat) : Int)), (.int .u64 ((((vtOf g3 D.now).number) : Nat) : Int)), (.int .u64 ((((vtOf g3 D.now).size) : Nat) : Int)), (.int .i64 ((((vtOf g3 D.now).area) : Nat) : Int)), (.slice A188 ((vtOf g3 D.now).kept.length) c190), (.bool ((vtOf g3 D.now).over))]], E191, Ew, E194] w := hH
            obtain ⟨A196, c197, rfl⟩ := hO195.slice
            refine ⟨(by
              intro s hs
              simp only [List.mem_cons, List.not_mem_nil, or_false] at hs
              rcases hs with rfl
              · exact (hW.vu hH 3 rfl)
              ), ?_⟩
            refine rxS (fun w => Vu cByte w A196 ((vtOf g3 D.now).kept.length) c197 ((vtOf g3 D.now).kept)) 16 rfl (by kernel_rfl) rfl (gOn 2 rfl rfl rfl (by decide)) (hO195.vuAt (hH.has 4 rfl)) (fun _ _ hF hS => opStr (e := 5) rfl (by kernel_rfl) (by kernel_rfl) (by kernel_rfl) (hF.ev 0 rfl) hS) (kM [false, true, true, true, true, true, true, true, true, true, true] rfl rfl) (by decide) (v := (.string (strL ((vtOf g3 D.now).kept)))) ?_
            refine rxV 19 rfl (by kernel_rfl) rfl (gOn 2 rfl rfl rfl (by decide)) (fun _ _ hF => opNeS rfl (hF.ev 0 rfl) (hF.ev 1 rfl) (decide_eq_false (fun h => h (congrArg strL hkp)))) (kM [false, false, true, true, true, true, true, true, true, true, true] rfl rfl) (by decide) (v := (.bool false)) ?_
            refine rxV 20 rfl (by kernel_rfl) rfl (fun _ _ => rfl) (fun _ _ hF => opPickF rfl (hF.ev 1 rfl) (hF.ev 0 rfl)) (kM [false, false, true, true, true, true, true, true, true, true] rfl rfl) (by decide) (v := (.bool false)) ?_
            refine rxEnd (by kernel_rfl) ?_
            refine qxThen ?_
            refine cxF 0 rfl rfl ?_
            refine cxSkip ?_
            refine qxThen ?_
            refine cxSeq ?_
            have hcs := crash_rest (D := D) hRt keep
            have hR2 : AtRest (D.crash keep) := hcs.1
            have he2 : (D.crash keep).now = D.now := hcs.2
            have hl2 : (D.crash keep).now.length = (4 + sz.toNat) := by rw [he2]; exact hl
            have hke : (vtOf g3 (D.crash keep).now).kept = W := by rw [he2]; exact hkp
            have hnu : (vtOf g3 (D.crash keep).now).number ≤ i + 1 := by rw [he2]; omega
            refine cxReg ?_
            refine pxV (v := (.pointer (some ⟨g3, 0, none⟩))) (fun _ _ hF => opMove rfl (hF.ev 5 rfl)) rfl (fun _ _ => rfl) (kM [false, true, true, true, true, true, true, true, true] rfl rfl) (by decide) ?_
            refine pxV (v := (.slice Ak keep.length ck)) (fun _ _ hF => opMove rfl (hF.ev 6 rfl)) rfl (fun _ _ => rfl) (kA rfl) (by decide) ?_
            refine pxE 0 hH rfl (fun _ hF => Does.small (crash_c g3 D E184 hD186 keep Ak ck (hH.off 0 rfl hR.2.2.2 (by decide) (Off.nil _ _)) (by omega)) (fun w => opCall rfl Try.func20 rfl rfl (Evs.cons (v := (.pointer (some ⟨g3, 0, none⟩))) (hF.ev 1 rfl) (Evs.cons (v := (.slice Ak keep.length ck)) (hF.ev 0 rfl) Evs.nil)) w)) (hH.vu hR.2.2.2 (by decide) (Off.nil _ _)) rfl (fun _ _ => rfl) (kM [false, false, true, true, true, true, true, true, true, true] rfl rfl) (by decide) ?_
            clear hH
            rintro _ E200 w ⟨rfl, hD201⟩ hH
            replace hH : HH w0 [] [E200, [bl gv 61 #[(.pointer (some ⟨(vtOf g3 D.now).gd, 0, none⟩)), (.int .i64 ((((vtOf g3 D.now).half) : Nat) : Int)), (.int .i64 ((((vtOf g3 D.now).sector) : Nat) : Int)), (.int .u64 ((((vtOf g3 D.now).number) : Nat) : Int)), (.int .u64 ((((vtOf g3 D.now).size) : Nat) : Int)), (.int .i64 ((((vtOf g3 D.now).area) : Nat) : Int)), (.slice A188 ((vtOf g3 D.now).kept.length) c190), (.bool ((vtOf g3 D.now).over))]], E191, Ew, E194] w := hH
            refine pxEnd ?_
            refine qxThen ?_
            refine cxSeq ?_
            refine cxReg ?_
            refine pxV (v := (.pointer (some ⟨g3, 0, none⟩))) (fun _ _ hF => opMove rfl (hF.ev 5 rfl)) rfl (fun _ _ => rfl) (kM [false, true, true, true, true, true, true, true, true] rfl rfl) (by decide) ?_
            refine pxE 0 hH rfl (fun _ hF => Does.small (open_ok g3 (D.crash keep) E200 hD201 (by omega) hR2.up) (fun w => opCall rfl Try.func10 rfl rfl (Evs.cons (v := (.pointer (some ⟨g3, 0, none⟩))) (hF.ev 0 rfl) Evs.nil) w)) trivial rfl (fun _ _ => rfl) (kM [false, true, true, true, true, true, true, true, true] rfl rfl) (by decide) ?_
            clear hH
            rintro _ _ w ⟨g202, E203, E204, rfl, rfl, hD205, hV206⟩ hH
            replace hH : HH w0 [] [([E203, E204] : List Hl).flatten, [bl gv 61 #[(.pointer (some ⟨(vtOf g3 D.now).gd, 0, none⟩)), (.int .i64 ((((vtOf g3 D.now).half) : Nat) : Int)), (.int .i64 ((((vtOf g3 D.now).sector) : Nat) : Int)), (.int .u64 ((((vtOf g3 D.now).number) : Nat) : Int)), (.int .u64 ((((vtOf g3 D.now).size) : Nat) : Int)), (.int .i64 ((((vtOf g3 D.now).area) : Nat) : Int)), (.slice A188 ((vtOf g3 D.now).kept.length) c190), (.bool ((vtOf g3 D.now).over))]], E191, Ew, E194] w := hH
            replace hH : HH w0 [] [E203, E204, [bl gv 61 #[(.pointer (some ⟨(vtOf g3 D.now).gd, 0, none⟩)), (.int .i64 ((((vtOf g3 D.now).half) : Nat) : Int)), (.int .i64 ((((vtOf g3 D.now).sector) : Nat) : Int)), (.int .u64 ((((vtOf g3 D.now).number) : Nat) : Int)), (.int .u64 ((((vtOf g3 D.now).size) : Nat) : Int)), (.int .i64 ((((vtOf g3 D.now).area) : Nat) : Int)), (.slice A188 ((vtOf g3 D.now).kept.length) c190), (.bool ((vtOf g3 D.now).over))]], E191, Ew, E194] w := hH.cast (by simp)
            refine pxV (v := (.tuple #[(.pointer (some ⟨g202, 0, none⟩)), (.int .i64 0)])) (fun _ _ hF => opMove rfl (hF.ev 0 rfl)) rfl (fun _ _ => rfl) (kM [false, true, true, true, true, true, true, true, true] rfl rfl) (by decide) ?_
            refine pxV (v := (.pointer (some ⟨g202, 0, none⟩))) (fun _ _ hF => opExtract rfl (hF.ev 0 rfl) rfl) rfl (fun _ _ => rfl) (kA rfl) (by decide) ?_
            refine pxV (v := (.int .i64 0)) (fun _ _ hF => opExtract rfl (hF.ev 1 rfl) rfl) rfl (fun _ _ => rfl) (kM [true, false, true, true, true, true, true, true, true, true] rfl rfl) (by decide) ?_
            refine pxV (v := (.pointer (some ⟨g202, 0, none⟩))) (fun _ _ hF => opAssign rfl (hF.ev 1 rfl)) rfl (fun _ _ => rfl) (kM [true, false, true, true, true, true, true, true, true, true] rfl rfl) (by decide) ?_
            refine pxV (v := (.int .i64 0)) (fun _ _ hF => opAssign rfl (hF.ev 1 rfl)) rfl (fun _ _ => rfl) (kM [true, false, true, true, true, true, true, true, true, true] rfl rfl) (by decide) ?_
            refine pxEnd ?_
            refine qxThen ?_
            refine cxSeq ?_
            refine cxSeq ?_
            refine cxReg ?_
            refine pxV (v := (.int .i64 0)) (fun _ _ hF => opMove rfl (hF.ev 0 rfl)) rfl (fun _ _ => rfl) (kM [false, true, true, true, true, true, true, true, true, true] rfl rfl) (by decide) ?_
            refine pxV (v := (.bool false)) (fun _ _ hF => opNeI rfl (hF.ev 0 rfl) rfl (by decide)) rfl (fun _ _ => rfl) (kM [false, true, true, true, true, true, true, true, true, true] rfl rfl) (by decide) ?_
            refine pxEnd ?_
            refine qxThen ?_
            refine cxF 0 rfl rfl ?_
            refine cxSkip ?_
            refine qxThen ?_
            refine cxSeq ?_
            refine cxReg ?_
            refine pxV (v := (.pointer (some ⟨g202, 0, none⟩))) (fun _ _ hF => opMove rfl (hF.ev 1 rfl)) rfl (fun _ _ => rfl) (kM [false, true, true, true, true, true, true, true, true, true] rfl rfl) (by decide) ?_
            obtain ⟨A207, n208, c209, E210, hE212, hO211⟩ := hV206.at'
            obtain rfl : n208 = (vtOf g3 (D.crash keep).now).kept.length := hO211.len
            replace hH : HH w0 [] [E203, [bl g202 61 #[(.pointer (some ⟨(vtOf g3 (D.crash keep).now).gd, 0, none⟩)), (.int .i64 ((((vtOf g3 (D.crash keep).now).half) : Nat) : Int)), (.int .i64 ((((vtOf g3 (D.crash keep).now).sector) : Nat) : Int)), (.int .u64 ((((vtOf g3 (D.crash keep).now).number) : Nat) : Int)), (.int .u64 ((((vtOf g3 (D.crash keep).now).size) : Nat) : Int)), (.int .i64 ((((vtOf g3 (D.crash keep).now).area) : Nat) : Int)), (.slice A207 ((vtOf g3 (D.crash keep).now).kept.length) c209), (.bool ((vtOf g3 (D.crash keep).now).over))]], E210, [bl gv 61 #[(.pointer (some ⟨(vtOf g3 D.now).gd, 0, none⟩)), (.int .i64 ((((vtOf g3 D.now).half) : Nat) : Int)), (.int .i64 ((((vtOf g3 D.now).sector) : Nat) : Int)), (.int .u64 ((((vtOf g3 D.now).number) : Nat) : Int)), (.int .u64 ((((vtOf g3 D.now).size) : Nat) : Int)), (.int .i64 ((((vtOf g3 D.now).area) : Nat) : Int)), (.slice A188 ((vtOf g3 D.now).kept.length) c190), (.bool ((vtOf g3 D.now).over))]], E191, Ew, E194] w := hH.cast (by rw [hE212]; simp)
            refine pxM hH (fun _ hF => Does.small (load_c g202 (vtOf g3 (D.crash keep).now) A207 c209 (Nat.le_trans (kept_le (gd := g3) (by omega)) (by decide))) (fun w => opCall rfl Try.func12 rfl rfl (Evs.cons (v := (.pointer (some ⟨g202, 0, none⟩))) (hF.ev 0 rfl) Evs.nil) w)) ⟨hH.blk 1 rfl, (hO211.vuAt (hH.has 2 rfl))⟩ rfl (fun _ _ => rfl) (kM [false, true, true, true, true, true, true, true, true, true] rfl rfl) (by decide) ?_
            clear hH
            rintro v217 E213 w hO214 hH
            replace hH : HH w0 [] [E203, [bl g202 61 #[(.pointer (some ⟨(vtOf g3 (D.crash keep).now).gd, 0, none⟩)), (.int .i64 ((((vtOf g3 (D.crash keep).now).half) : Nat) : Int)), (.int .i64 ((((vtOf g3 (D.crash keep).now).sector) : Nat) : Int)), (.int .u64 ((((vtOf g3 (D.crash keep).now).number) : Nat) : Int)), (.int .u64 ((((vtOf g3 (D.crash keep).now).size) : Nat) : Int)), (.int .i64 ((((vtOf g3 (D.crash keep).now).area) : Nat) : Int)), (.slice A207 ((vtOf g3 (D.crash keep).now).kept.length) c209), (.bool ((vtOf g3 (D.crash keep).now).over))]], E210, [bl gv 61 #[(.pointer (some ⟨(vtOf g3 D.now).gd, 0, none⟩)), (.int .i64 ((((vtOf g3 D.now).half) : Nat) : Int)), (.int .i64 ((((vtOf g3 D.now).sector) : Nat) : Int)), (.int .u64 ((((vtOf g3 D.now).number) : Nat) : Int)), (.int .u64 ((((vtOf g3 D.now).size) : Nat) : Int)), (.int .i64 ((((vtOf g3 D.now).area) : Nat) : Int)), (.slice A188 ((vtOf g3 D.now).kept.length) c190), (.bool ((vtOf g3 D.now).over))]], E191, Ew, E194, E213] w := hH
            obtain ⟨A215, c216, rfl⟩ := hO214.slice
            refine pxS (v := (.string (strL ((vtOf g3 (D.crash keep).now).kept)))) (fun w => Vu cByte w A215 ((vtOf g3 (D.crash keep).now).kept.length) c216 ((vtOf g3 (D.crash keep).now).kept)) (hO214.vuAt (hH.has 7 rfl)) (fun _ _ hF hS => opStr (e := 5) rfl (by kernel_rfl) (by kernel_rfl) (by kernel_rfl) (hF.ev 0 rfl) hS) rfl (fun _ _ => rfl) (kM [false, true, true, true, true, true, true, true, true, true] rfl rfl) (by decide) ?_
            refine pxV (v := (.string (strL ((vtOf g3 (D.crash keep).now).kept)))) (fun _ _ hF => opAssign rfl (hF.ev 0 rfl)) rfl (fun _ _ => rfl) (kM [false, true, true, true, true, true, true, true, true, true] rfl rfl) (by decide) ?_
            refine pxEnd ?_
            refine qxThen ?_
            refine cxSeq ?_
            refine cxSeq ?_
            refine cxRegX mixedOrders (by kernel_rfl) ?_
            replace hH := hH.drew
            refine rxV 0 rfl (by kernel_rfl) rfl (fun _ _ => rfl) (fun _ _ hF => opMove rfl (hF.ev 0 rfl)) (kA rfl) (by decide) (v := (.string (strL ((vtOf g3 (D.crash keep).now).kept)))) ?_
            refine rxV 1 rfl (by kernel_rfl) rfl (fun _ _ => rfl) (fun _ _ hF => opMove rfl (hF.ev 6 rfl)) (kM [true, true, true, true, true, true, false, true, true, true, true] rfl rfl) (by decide) (v := (.slice Aw W.length cw)) ?_
            refine rxS (fun w => Vu cByte w Aw W.length cw W) 2 rfl (by kernel_rfl) rfl (fun _ _ => rfl) (hW.vu hH 5 rfl) (fun _ _ hF hS => opStr (e := 5) rfl (by kernel_rfl) (by kernel_rfl) (by kernel_rfl) (hF.ev 0 rfl) hS) (kM [false, true, true, true, true, true, true, true, true, true, true] rfl rfl) (by decide) (v := (.string (strL W))) ?_
            refine rxV 3 rfl (by kernel_rfl) rfl (fun _ _ => rfl) (fun _ _ hF => opNeS rfl (hF.ev 1 rfl) (hF.ev 0 rfl) (decide_eq_false (fun h => h (congrArg strL hke)))) (kM [false, false, true, true, true, true, true, true, true, true, true] rfl rfl) (by decide) (v := (.bool false)) ?_
            refine rxV 4 rfl (by kernel_rfl) rfl (fun _ _ => rfl) (fun _ _ hF => opMove rfl (hF.ev 0 rfl)) (kM [false, true, true, true, true, true, true, true, true, true] rfl rfl) (by decide) (v := (.bool false)) ?_
            refine rxU 5 rfl (by kernel_rfl) rfl (gOff 0 rfl rfl rfl (by decide)) (kM [true, false, true, true, true, true, true, true, true, true] rfl rfl) (by decide) ?_
            refine rxU 6 rfl (by kernel_rfl) rfl (gOff 0 rfl rfl rfl (by decide)) (kA rfl) (by decide) ?_
            refine rxU 7 rfl (by kernel_rfl) rfl (gOff 0 rfl rfl rfl (by decide)) (kA rfl) (by decide) ?_
            refine rxU 8 rfl (by kernel_rfl) rfl (gOff 0 rfl rfl rfl (by decide)) (kA rfl) (by decide) ?_
            refine rxU 9 rfl (by kernel_rfl) rfl (gOff 0 rfl rfl rfl (by decide)) (kA rfl) (by decide) ?_
            refine rxU 10 rfl (by kernel_rfl) rfl (gOff 0 rfl rfl rfl (by decide)) (kA rfl) (by decide) ?_
            refine rxU 11 rfl (by kernel_rfl) rfl (gOff 0 rfl rfl rfl (by decide)) (kA rfl) (by decide) ?_
            refine rxUK 12 rfl (by kernel_rfl) rfl (gOff 0 rfl rfl rfl (by decide)) (kA rfl) (by decide) ?_
            refine rxU 13 rfl (by kernel_rfl) rfl (gOffU 0 rfl rfl rfl) (kA rfl) (by decide) ?_
            refine rxU 14 rfl (by kernel_rfl) rfl (gOffU 0 rfl rfl rfl) (kM [true, true, true, false, true, true, true, true, true, true] rfl rfl) (by decide) ?_
            refine rxU 15 rfl (by kernel_rfl) rfl (gOffU 0 rfl rfl rfl) (kA rfl) (by decide) ?_
            refine rxU 16 rfl (by kernel_rfl) rfl (gOffU 0 rfl rfl rfl) (kA rfl) (by decide) ?_
            refine rxU 17 rfl (by kernel_rfl) rfl (gOffU 0 rfl rfl rfl) (kA rfl) (by decide) ?_
            refine rxU 18 rfl (by kernel_rfl) rfl (gOffU 0 rfl rfl rfl) (kA rfl) (by decide) ?_
            refine rxU 19 rfl (by kernel_rfl) rfl (gOffU 0 rfl rfl rfl) (kA rfl) (by decide) ?_
            refine rxU 20 rfl (by kernel_rfl) rfl (gOffU 0 rfl rfl rfl) (kA rfl) (by decide) ?_
            refine rxU 21 rfl (by kernel_rfl) rfl (gOff 1 rfl rfl rfl (by decide)) (kM [false, true, true, true, true, true, true, true, true] rfl rfl) (by decide) ?_
            refine rxV 22 rfl (by kernel_rfl) rfl (fun _ _ => rfl) (fun _ _ hF => opPickF rfl (hF.ev 0 rfl) rfl) (kM [false, true, true, true, true, true, true, true] rfl rfl) (by decide) (v := (.bool false)) ?_
            refine rxEnd (by kernel_rfl) ?_
            refine qxThen ?_
            refine cxF 0 rfl rfl ?_
            refine cxSkip ?_
            refine qxThen ?_
            refine cxReg ?_
            refine pxV (v := (.pointer (some ⟨g202, 0, none⟩))) (fun _ _ hF => opMove rfl (hF.ev 1 rfl)) rfl (fun _ _ => rfl) (kM [false, true, true, true, true, true, true, true] rfl rfl) (by decide) ?_
            refine pxM hH (fun _ hF => Does.small (load_c g202 (vtOf g3 (D.crash keep).now) A207 c209 (Nat.le_trans (kept_le (gd := g3) (by omega)) (by decide))) (fun w => opCall rfl Try.func12 rfl rfl (Evs.cons (v := (.pointer (some ⟨g202, 0, none⟩))) (hF.ev 0 rfl) Evs.nil) w)) ⟨hH.blk 1 rfl, (hO211.vuAt (hH.has 2 rfl))⟩ rfl (fun _ _ => rfl) (kM [false, true, true, true, true, true, true, true] rfl rfl) (by decide) ?_
            clear hH
            rintro v223 E219 w hO220 hH
            replace hH : HH w0 [] [E203, [bl g202 61 #[(.pointer (some ⟨(vtOf g3 (D.crash keep).now).gd, 0, none⟩)), (.int .i64 ((((vtOf g3 (D.crash keep).now).half) : Nat) : Int)), (.int .i64 ((((vtOf g3 (D.crash keep).now).sector) : Nat) : Int)), (.int .u64 ((((vtOf g3 (D.crash keep).now).number) : Nat) : Int)), (.int .u64 ((((vtOf g3 (D.crash keep).now).size) : Nat) : Int)), (.int .i64 ((((vtOf g3 (D.crash keep).now).area) : Nat) : Int)), (.slice A207 ((vtOf g3 (D.crash keep).now).kept.length) c209), (.bool ((vtOf g3 (D.crash keep).now).over))]], E210, [bl gv 61 #[(.pointer (some ⟨(vtOf g3 D.now).gd, 0, none⟩)), (.int .i64 ((((vtOf g3 D.now).half) : Nat) : Int)), (.int .i64 ((((vtOf g3 D.now).sector) : Nat) : Int)), (.int .u64 ((((vtOf g3 D.now).number) : Nat) : Int)), (.int .u64 ((((vtOf g3 D.now).size) : Nat) : Int)), (.int .i64 ((((vtOf g3 D.now).area) : Nat) : Int)), (.slice A188 ((vtOf g3 D.now).kept.length) c190), (.bool ((vtOf g3 D.now).over))]], E191, Ew, E194, E213, E219] w := hH
            obtain ⟨A221, c222, rfl⟩ := hO220.slice
            refine pxV (v := (.slice A221 ((vtOf g3 (D.crash keep).now).kept.length) c222)) (fun _ _ hF => opAssign rfl (hF.ev 0 rfl)) rfl (fun _ _ => rfl) (kM [false, true, true, true, true, true, true, true] rfl rfl) (by decide) ?_
            refine pxEnd ?_
            refine qxInN ?_
            refine qxThen ?_
            refine cxReg ?_
            refine pxV (v := (.int .i64 (((i + 1) : Nat) : Int))) (fun _ _ hF => opAdd rfl (hF.ev 2 rfl) rfl (wI (by omega) (by omega) (by omega))) rfl (fun _ _ => rfl) (kM [true, true, false, true, true, true, true, true] rfl rfl) (by decide) ?_
            refine pxV (v := (.int .i64 (((i + 1) : Nat) : Int))) (fun _ _ hF => opMove rfl (hF.ev 0 rfl)) rfl (fun _ _ => rfl) (kM [false, true, true, true, true, true, true, true] rfl rfl) (by decide) ?_
            refine pxEnd ?_
            obtain ⟨E225, hE226, hD227⟩ : ∃ E, E = ([[bl g202 61 #[(.pointer (some ⟨(vtOf g3 (D.crash keep).now).gd, 0, none⟩)), (.int .i64 ((((vtOf g3 (D.crash keep).now).half) : Nat) : Int)), (.int .i64 ((((vtOf g3 (D.crash keep).now).sector) : Nat) : Int)), (.int .u64 ((((vtOf g3 (D.crash keep).now).number) : Nat) : Int)), (.int .u64 ((((vtOf g3 (D.crash keep).now).size) : Nat) : Int)), (.int .i64 ((((vtOf g3 (D.crash keep).now).area) : Nat) : Int)), (.slice A207 ((vtOf g3 (D.crash keep).now).kept.length) c209), (.bool ((vtOf g3 (D.crash keep).now).over))]], E210] : List Hl).flatten ∧ VtAt g202 (vtOf g3 (D.crash keep).now) E := ⟨_, rfl, hV206.ok, _, _, _, _, rfl, hO211⟩
            replace hH : HH w0 [] [E203, E225, [bl gv 61 #[(.pointer (some ⟨(vtOf g3 D.now).gd, 0, none⟩)), (.int .i64 ((((vtOf g3 D.now).half) : Nat) : Int)), (.int .i64 ((((vtOf g3 D.now).sector) : Nat) : Int)), (.int .u64 ((((vtOf g3 D.now).number) : Nat) : Int)), (.int .u64 ((((vtOf g3 D.now).size) : Nat) : Int)), (.int .i64 ((((vtOf g3 D.now).area) : Nat) : Int)), (.slice A188 ((vtOf g3 D.now).kept.length) c190), (.bool ((vtOf g3 D.now).over))]], E191, Ew, E194, E213, E219] w := hH.cast (by rw [hE226]; simp)
            replace hH : HH w0 [] [E203, E225, E219] w := HH.sel hH [0, 1, 7] rfl (by decide)
            exact qxRound (i + 1, (D.crash keep), E203, E225, g202, (vtOf g3 (D.crash keep).now).kept, A221, c222, E219) ⟨hH, (show (i + 1) ≤ raws.length from (by omega)), hD205, hD227, hR2, hl2, rfl, hnu, (.inr hO220)⟩ (by omega) (slots_at [0, 3, 1, 2, 4, 5, 6, 7] rfl)
          · rcases keep_rest (D := D) (V := vtOf g3 D.now) (gd := g3) (b := bytes) hRt rfl (show 4 ≤ D.now.length by omega) (show D.now.length ≤ 4000 by omega) hsh (by omega) with ⟨D', hk0, hR', hl', hk1, hn1, _⟩ | ⟨D', hk0, _, hcr⟩
            · have hl2 : D'.now.length = (4 + sz.toNat) := hl'.trans hl
              have hn2 : (vtOf g3 D'.now).number ≤ i + 1 := by rw [hn1]; omega
              refine cxReg ?_
              refine pxV (v := (.pointer (some ⟨gv, 0, none⟩))) (fun _ _ hF => opMove rfl (hF.ev 5 rfl)) rfl (fun _ _ => rfl) (kM [false, true, true, true, true, true, true, true, true, true] rfl rfl) (by decide) ?_
              refine pxV (v := (.slice A raws.length c)) (fun _ _ hF => opMove rfl (hF.ev 9 rfl)) rfl (fun _ _ => rfl) (kA rfl) (by decide) ?_
              refine pxV (v := (.int .i64 (((i) : Nat) : Int))) (fun _ _ hF => opMove rfl (hF.ev 2 rfl)) rfl (fun _ _ => rfl) (kA rfl) (by decide) ?_
              have hi228 : i < raws.length := by omega
              obtain ⟨b229, off230, rfl, hL231, hb232, hR233⟩ := hR.1.blk (by decide) (Off.nil _ _) (by omega)
              have := hR.1.cap
              have hj236 : i < raws.length := by first | exact hi228 | (simp only [List.length_drop, List.length_take]; omega) | omega
              refine pxV (v := (.pointer (some ⟨b229, off230 + i * 1, none⟩))) (fun _ _ hF => opIndex (i := i) (e := 32) (sz := 1) rfl (by kernel_rfl) (by kernel_rfl) (hF.ev 1 rfl) (hF.ev 0 rfl) rfl hi228) rfl (fun _ _ => rfl) (kM [false, false, true, true, true, true, true, true, true, true, true, true] rfl rfl) (by decide) ?_
              refine pxS (v := (.slice A0 bytes.length c0)) (fun w => HoldsL cSl w b229 off230 raws) (hH.holdsL hL231 hb232 hR233) (fun _ _ hF hS => opLoadT (C := cSl) (y := (A0, bytes.length, c0)) rfl (hF.ev 0 rfl) (by kernel_rfl) (hS i _ hx0) rfl) rfl (fun _ _ => rfl) (kM [false, true, true, true, true, true, true, true, true, true, true] rfl rfl) (by decide) ?_
              replace hH : HH w0 [] [([Ed, Ev] : List Hl).flatten, Ew] w := hH.cast (by simp)
              refine pxE 0 hH rfl (fun _ hF => Does.small (keep_as gv g3 (vtOf g3 D.now) D Ed Ev hD hV rfl bytes A0 c0 (hH.off 0 rfl hvb (by decide) (Off.nil _ _)) (by omega) (by rw [hRt.uns]; exact Nat.zero_le _) hk0) (fun w => opCall rfl Try.func14 rfl rfl (Evs.cons (v := (.pointer (some ⟨gv, 0, none⟩))) (hF.ev 1 rfl) (Evs.cons (v := (.slice A0 bytes.length c0)) (hF.ev 0 rfl) Evs.nil)) w)) (hH.vu hvb (by decide) (Off.nil _ _)) rfl (fun _ _ => rfl) (kM [false, false, true, true, true, true, true, true, true, true, true] rfl rfl) (by decide) ?_
              clear hH
              rintro _ _ w ⟨rfl, E237, E238, rfl, hD239, hV240⟩ hH
              replace hH : HH w0 [] [([E237, E238] : List Hl).flatten, Ew] w := hH
              replace hH : HH w0 [] [E237, E238, Ew] w := hH.cast (by simp)
              refine pxV (v := (.int .i64 0)) (fun _ _ hF => opAssign rfl (hF.ev 0 rfl)) rfl (fun _ _ => rfl) (kM [false, true, true, true, true, true, true, true, true, true] rfl rfl) (by decide) ?_
              refine pxEnd ?_
              refine qxThen ?_
              refine cxSeq ?_
              refine cxSeq ?_
              refine cxReg ?_
              refine pxV (v := (.int .i64 0)) (fun _ _ hF => opMove rfl (hF.ev 0 rfl)) rfl (fun _ _ => rfl) (kA rfl) (by decide) ?_
              refine pxV (v := (.bool true)) (fun _ _ hF => opEqI rfl (hF.ev 0 rfl) rfl (by decide)) rfl (fun _ _ => rfl) (kM [false, true, true, true, true, true, true, true, true, true, true] rfl rfl) (by decide) ?_
              refine pxEnd ?_
              refine qxThen ?_
              refine cxT 0 rfl rfl ?_
              refine cxSeq ?_
              refine cxReg ?_
              refine pxV (v := (.slice (some ⟨b229, off230, none⟩) raws.length c)) (fun _ _ hF => opMove rfl (hF.ev 10 rfl)) rfl (fun _ _ => rfl) (kM [false, false, true, true, true, false, true, true, true, true, true] rfl rfl) (by decide) ?_
              refine pxV (v := (.int .i64 (((i) : Nat) : Int))) (fun _ _ hF => opMove rfl (hF.ev 1 rfl)) rfl (fun _ _ => rfl) (kM [true, false, true, true, true, true, true, true, true] rfl rfl) (by decide) ?_
              have hi241 : i < raws.length := by omega
              have hj244 : i < raws.length := by first | exact hi241 | (simp only [List.length_drop, List.length_take]; omega) | omega
              refine pxV (v := (.pointer (some ⟨b229, off230 + i * 1, none⟩))) (fun _ _ hF => opIndex (i := i) (e := 32) (sz := 1) rfl (by kernel_rfl) (by kernel_rfl) (hF.ev 1 rfl) (hF.ev 0 rfl) rfl hi241) rfl (fun _ _ => rfl) (kM [false, false, true, true, true, true, true, true, true] rfl rfl) (by decide) ?_
              refine pxS (v := (.slice A0 bytes.length c0)) (fun w => HoldsL cSl w b229 off230 raws) (hH.holdsL hL231 hb232 hR233) (fun _ _ hF hS => opLoadT (C := cSl) (y := (A0, bytes.length, c0)) rfl (hF.ev 0 rfl) (by kernel_rfl) (hS i _ hx0) rfl) rfl (fun _ _ => rfl) (kM [false, true, true, true, true, true, true, true] rfl rfl) (by decide) ?_
              refine pxV (v := (.slice A0 bytes.length c0)) (fun _ _ hF => opAssign rfl (hF.ev 0 rfl)) rfl (fun _ _ => rfl) (kM [false, true, true, true, true, true, true, true] rfl rfl) (by decide) ?_
              refine pxEnd ?_
              refine qxThen ?_
              refine cxExit ?_
              refine qxThenE ?_
              refine qxInE ?_
              refine qxThen ?_
              refine cxReg ?_
              refine pxV (v := (.int .i64 (((i + 1) : Nat) : Int))) (fun _ _ hF => opAdd rfl (hF.ev 1 rfl) rfl (wI (by omega) (by omega) (by omega))) rfl (fun _ _ => rfl) (kM [true, false, true, true, true, true, true, true] rfl rfl) (by decide) ?_
              refine pxV (v := (.int .i64 (((i + 1) : Nat) : Int))) (fun _ _ hF => opMove rfl (hF.ev 0 rfl)) rfl (fun _ _ => rfl) (kM [false, true, true, true, true, true, true, true] rfl rfl) (by decide) ?_
              refine pxEnd ?_
              replace hH := HH.pad hH 1
              replace hH : HH w0 [] [E237, E238, []] w := HH.sel hH [0, 1, 3] rfl (by decide)
              exact qxRound (i + 1, D', E237, E238, gv, bytes, A0, c0, []) ⟨hH, (show (i + 1) ≤ raws.length from (by omega)), hD239, hV240, hR', hl2, hk1, hn2, (.inl ⟨rfl, hvb⟩)⟩ (by omega) (slots_at [0, 2, 1, 3, 4, 5, 6, 7] rfl)
            · have hun : D'.uns.length ≤ 1000 := by have h0 := keep_uns (vtOf g3 D.now) D bytes; rw [hk0, hRt.uns] at h0; have h1 : D'.uns.length ≤ 0 + bytes.length / 64 + 2 := h0; omega
              refine cxReg ?_
              refine pxV (v := (.pointer (some ⟨gv, 0, none⟩))) (fun _ _ hF => opMove rfl (hF.ev 5 rfl)) rfl (fun _ _ => rfl) (kM [false, true, true, true, true, true, true, true, true, true] rfl rfl) (by decide) ?_
              refine pxV (v := (.slice A raws.length c)) (fun _ _ hF => opMove rfl (hF.ev 9 rfl)) rfl (fun _ _ => rfl) (kA rfl) (by decide) ?_
              refine pxV (v := (.int .i64 (((i) : Nat) : Int))) (fun _ _ hF => opMove rfl (hF.ev 2 rfl)) rfl (fun _ _ => rfl) (kA rfl) (by decide) ?_
              have hi245 : i < raws.length := by omega
              obtain ⟨b246, off247, rfl, hL248, hb249, hR250⟩ := hR.1.blk (by decide) (Off.nil _ _) (by omega)
              have := hR.1.cap
              have hj253 : i < raws.length := by first | exact hi245 | (simp only [List.length_drop, List.length_take]; omega) | omega
              refine pxV (v := (.pointer (some ⟨b246, off247 + i * 1, none⟩))) (fun _ _ hF => opIndex (i := i) (e := 32) (sz := 1) rfl (by kernel_rfl) (by kernel_rfl) (hF.ev 1 rfl) (hF.ev 0 rfl) rfl hi245) rfl (fun _ _ => rfl) (kM [false, false, true, true, true, true, true, true, true, true, true, true] rfl rfl) (by decide) ?_
              refine pxS (v := (.slice A0 bytes.length c0)) (fun w => HoldsL cSl w b246 off247 raws) (hH.holdsL hL248 hb249 hR250) (fun _ _ hF hS => opLoadT (C := cSl) (y := (A0, bytes.length, c0)) rfl (hF.ev 0 rfl) (by kernel_rfl) (hS i _ hx0) rfl) rfl (fun _ _ => rfl) (kM [false, true, true, true, true, true, true, true, true, true, true] rfl rfl) (by decide) ?_
              replace hH : HH w0 [] [([Ed, Ev] : List Hl).flatten, Ew] w := hH.cast (by simp)
              refine pxE 0 hH rfl (fun _ hF => Does.small (keep_as gv g3 (vtOf g3 D.now) D Ed Ev hD hV rfl bytes A0 c0 (hH.off 0 rfl hvb (by decide) (Off.nil _ _)) (by omega) (by rw [hRt.uns]; exact Nat.zero_le _) hk0) (fun w => opCall rfl Try.func14 rfl rfl (Evs.cons (v := (.pointer (some ⟨gv, 0, none⟩))) (hF.ev 1 rfl) (Evs.cons (v := (.slice A0 bytes.length c0)) (hF.ev 0 rfl) Evs.nil)) w)) (hH.vu hvb (by decide) (Off.nil _ _)) rfl (fun _ _ => rfl) (kM [false, false, true, true, true, true, true, true, true, true, true] rfl rfl) (by decide) ?_
              clear hH
              rintro _ _ w ⟨rfl, E254, E255, rfl, hD256, hV257⟩ hH
              replace hH : HH w0 [] [([E254, E255] : List Hl).flatten, Ew] w := hH
              replace hH : HH w0 [] [E254, E255, Ew] w := hH.cast (by simp)
              refine pxV (v := (.int .i64 8)) (fun _ _ hF => opAssign rfl (hF.ev 0 rfl)) rfl (fun _ _ => rfl) (kM [false, true, true, true, true, true, true, true, true, true] rfl rfl) (by decide) ?_
              refine pxEnd ?_
              refine qxThen ?_
              refine cxSeq ?_
              refine cxSeq ?_
              refine cxReg ?_
              refine pxV (v := (.int .i64 8)) (fun _ _ hF => opMove rfl (hF.ev 0 rfl)) rfl (fun _ _ => rfl) (kA rfl) (by decide) ?_
              refine pxV (v := (.bool false)) (fun _ _ hF => opEqI rfl (hF.ev 0 rfl) rfl (by decide)) rfl (fun _ _ => rfl) (kM [false, true, true, true, true, true, true, true, true, true, true] rfl rfl) (by decide) ?_
              refine pxEnd ?_
              refine qxThen ?_
              refine cxF 0 rfl rfl ?_
              refine cxSkip ?_
              refine qxThen ?_
              refine cxSeq ?_
              refine cxSeq ?_
              refine cxRegX mixedOrders (by kernel_rfl) ?_
              replace hH := hH.drew
              refine rxV 0 rfl (by kernel_rfl) rfl (fun _ _ => rfl) (fun _ _ hF => opMove rfl (hF.ev 1 rfl)) (kM [false, true, true, true, true, true, true, true, true, true, true] rfl rfl) (by decide) (v := (.int .i64 8)) ?_
              refine rxV 1 rfl (by kernel_rfl) rfl (fun _ _ => rfl) (fun _ _ hF => opNeI rfl (hF.ev 0 rfl) rfl (by decide)) (kM [false, true, true, true, true, true, true, true, true, true, true] rfl rfl) (by decide) (v := (.bool false)) ?_
              refine rxV 2 rfl (by kernel_rfl) rfl (fun _ _ => rfl) (fun _ _ hF => opMove rfl (hF.ev 0 rfl)) (kM [false, true, true, true, true, true, true, true, true, true, true] rfl rfl) (by decide) (v := (.bool false)) ?_
              refine rxU 3 rfl (by kernel_rfl) rfl (gOff 0 rfl rfl rfl (by decide)) (kA rfl) (by decide) ?_
              refine rxU 4 rfl (by kernel_rfl) rfl (gOff 0 rfl rfl rfl (by decide)) (kA rfl) (by decide) ?_
              refine rxV 5 rfl (by kernel_rfl) rfl (fun _ _ => rfl) (fun _ _ hF => opPickF rfl (hF.ev 0 rfl) rfl) (kM [false, true, true, true, true, true, true, true, true, true, true] rfl rfl) (by decide) (v := (.bool false)) ?_
              refine rxV 6 rfl (by kernel_rfl) rfl (fun _ _ => rfl) (fun _ _ hF => opMove rfl (hF.ev 0 rfl)) (kM [false, true, true, true, true, true, true, true, true, true, true] rfl rfl) (by decide) (v := (.bool false)) ?_
              refine rxV 7 rfl (by kernel_rfl) rfl (gOn 0 rfl rfl rfl (by decide)) (fun _ _ hF => opMove rfl (hF.ev 6 rfl)) (kA rfl) (by decide) (v := (.pointer (some ⟨gv, 0, none⟩))) ?_
              refine rxV 9 rfl (by kernel_rfl) rfl (gOn 1 rfl rfl rfl (by decide)) (fun _ _ hF => opMove rfl (hF.ev 2 rfl)) (kM [true, true, false, true, true, true, true, true, true, true, true, true] rfl rfl) (by decide) (v := (.int .i64 8)) ?_
              refine rxV 10 rfl (by kernel_rfl) rfl (gOn 2 rfl rfl rfl (by decide)) (fun _ _ hF => opEqI rfl (hF.ev 0 rfl) rfl (by decide)) (kM [false, true, true, true, true, true, true, true, true, true, true, true] rfl rfl) (by decide) (v := (.bool true)) ?_
              refine rx1 8 (by kernel_rfl) ?_
              obtain ⟨A258, n259, c260, E261, hE263, hO262⟩ := hV257.at'
              obtain rfl : n259 = ({ (vtOf g3 D.now) with over := true } : Vt).kept.length := hO262.len
              replace hH : HH w0 [] [E254, [bl gv 61 #[(.pointer (some ⟨({ (vtOf g3 D.now) with over := true } : Vt).gd, 0, none⟩)), (.int .i64 (((({ (vtOf g3 D.now) with over := true } : Vt).half) : Nat) : Int)), (.int .i64 (((({ (vtOf g3 D.now) with over := true } : Vt).sector) : Nat) : Int)), (.int .u64 (((({ (vtOf g3 D.now) with over := true } : Vt).number) : Nat) : Int)), (.int .u64 (((({ (vtOf g3 D.now) with over := true } : Vt).size) : Nat) : Int)), (.int .i64 (((({ (vtOf g3 D.now) with over := true } : Vt).area) : Nat) : Int)), (.slice A258 (({ (vtOf g3 D.now) with over := true } : Vt).kept.length) c260), (.bool (({ (vtOf g3 D.now) with over := true } : Vt).over))]], E261, Ew] w.drew := hH.cast (by rw [hE263]; simp)
              refine moM rfl hH (fun _ hF => Does.small ((Pure.as (v := (.bool true)) (over_c gv ({ (vtOf g3 D.now) with over := true } : Vt) A258 c260) rfl).does) (fun w => opCall rfl Try.func17 rfl rfl (Evs.cons (v := (.pointer (some ⟨gv, 0, none⟩))) (hF.ev 1 rfl) Evs.nil) w)) (hH.blk 1 rfl) rfl (gOn 2 rfl rfl rfl (by decide)) (kM [true, false, true, true, true, true, true, true, true, true, true, true] rfl rfl) (by decide) (PendOk.go [6, 5] (by kernel_rfl) (PendOk.go [6, 5, 4] (by kernel_rfl) (PendOk.nil _ []))) ?_
              clear hH
              rintro _ _ w ⟨rfl, rfl⟩ hH
              replace hH : HH w0 [] [E254, [bl gv 61 #[(.pointer (some ⟨({ (vtOf g3 D.now) with over := true } : Vt).gd, 0, none⟩)), (.int .i64 (((({ (vtOf g3 D.now) with over := true } : Vt).half) : Nat) : Int)), (.int .i64 (((({ (vtOf g3 D.now) with over := true } : Vt).sector) : Nat) : Int)), (.int .u64 (((({ (vtOf g3 D.now) with over := true } : Vt).number) : Nat) : Int)), (.int .u64 (((({ (vtOf g3 D.now) with over := true } : Vt).size) : Nat) : Int)), (.int .i64 (((({ (vtOf g3 D.now) with over := true } : Vt).area) : Nat) : Int)), (.slice A258 (({ (vtOf g3 D.now) with over := true } : Vt).kept.length) c260), (.bool (({ (vtOf g3 D.now) with over := true } : Vt).over))]], E261, Ew] w := hH.unpad
              refine ⟨(fun _ hs => by cases hs), ?_⟩
              refine rxV 11 rfl (by kernel_rfl) rfl (gOn 2 rfl rfl rfl (by decide)) (fun _ _ hF => opNeB rfl (by kernel_rfl) (hF.ev 0 rfl) (hF.ev 1 rfl) rfl) (kM [false, false, true, true, true, true, true, true, true, true, true, true] rfl rfl) (by decide) (v := (.bool false)) ?_
              refine rxV 12 rfl (by kernel_rfl) rfl (fun _ _ => rfl) (fun _ _ hF => opPickF rfl (hF.ev 1 rfl) (hF.ev 0 rfl)) (kM [false, false, true, true, true, true, true, true, true, true, true] rfl rfl) (by decide) (v := (.bool false)) ?_
              refine rxV 13 rfl (by kernel_rfl) rfl (fun _ _ => rfl) (fun _ _ hF => opMove rfl (hF.ev 0 rfl)) (kM [false, true, true, true, true, true, true, true, true, true] rfl rfl) (by decide) (v := (.bool false)) ?_
              refine rxV 14 rfl (by kernel_rfl) rfl (gOn 0 rfl rfl rfl (by decide)) (fun _ _ hF => opMove rfl (hF.ev 5 rfl)) (kM [true, true, true, true, true, false, true, true, true, true] rfl rfl) (by decide) (v := (.pointer (some ⟨gv, 0, none⟩))) ?_
              refine rxV 17 rfl (by kernel_rfl) rfl (gOn 1 rfl rfl rfl (by decide)) (fun _ _ hF => opMove rfl (hF.ev 5 rfl)) (kA rfl) (by decide) (v := (.slice Aw W.length cw)) ?_
              refine rxS (fun w => Vu cByte w Aw W.length cw W) 18 rfl (by kernel_rfl) rfl (gOn 2 rfl rfl rfl (by decide)) (hW.vu hH 3 rfl) (fun _ _ hF hS => opStr (e := 5) rfl (by kernel_rfl) (by kernel_rfl) (by kernel_rfl) (hF.ev 0 rfl) hS) (kM [false, true, true, true, true, true, true, true, true, true, true] rfl rfl) (by decide) (v := (.string (strL W))) ?_
              refine rx1 15 (by kernel_rfl) ?_
              refine moM rfl hH (fun _ hF => Does.small (load_c gv ({ (vtOf g3 D.now) with over := true } : Vt) A258 c260 (Nat.le_trans (kept_le (gd := g3) (by omega)) (by decide))) (fun w => opCall rfl Try.func12 rfl rfl (Evs.cons (v := (.pointer (some ⟨gv, 0, none⟩))) (hF.ev 1 rfl) Evs.nil) w)) ⟨hH.blk 1 rfl, (hO262.vuAt (hH.has 2 rfl))⟩ rfl (gOn 2 rfl rfl rfl (by decide)) (kM [true, false, true, true, true, true, true, true, true, true, true] rfl rfl) (by decide) (PendOk.keep (PendOk.nil _ [])) ?_
              clear hH
              rintro v268 E264 w hO265 hH
              replace hH : HH w0 [] [E254, [bl gv 61 #[(.pointer (some ⟨({ (vtOf g3 D.now) with over := true } : Vt).gd, 0, none⟩)), (.int .i64 (((({ (vtOf g3 D.now) with over := true } : Vt).half) : Nat) : Int)), (.int .i64 (((({ (vtOf g3 D.now) with over := true } : Vt).sector) : Nat) : Int)), (.int .u64 (((({ (vtOf g3 D.now) with over := true } : Vt).number) : Nat) : Int)), (.int .u64 (((({ (vtOf g3 D.now) with over := true } : Vt).size) : Nat) : Int)), (.int .i64 (((({ (vtOf g3 D.now) with over := true } : Vt).area) : Nat) : Int)), (.slice A258 (({ (vtOf g3 D.now) with over := true } : Vt).kept.length) c260), (.bool (({ (vtOf g3 D.now) with over := true } : Vt).over))]], E261, Ew, E264] w := hH
              obtain ⟨A266, c267, rfl⟩ := hO265.slice
              refine ⟨(by
                intro s hs
                simp only [List.mem_cons, List.not_mem_nil, or_false] at hs
                rcases hs with rfl
                · exact (hW.vu hH 3 rfl)
                ), ?_⟩
              refine rxS (fun w => Vu cByte w A266 (({ (vtOf g3 D.now) with over := true } : Vt).kept.length) c267 (({ (vtOf g3 D.now) with over := true } : Vt).kept)) 16 rfl (by kernel_rfl) rfl (gOn 2 rfl rfl rfl (by decide)) (hO265.vuAt (hH.has 4 rfl)) (fun _ _ hF hS => opStr (e := 5) rfl (by kernel_rfl) (by kernel_rfl) (by kernel_rfl) (hF.ev 0 rfl) hS) (kM [false, true, true, true, true, true, true, true, true, true, true] rfl rfl) (by decide) (v := (.string (strL (({ (vtOf g3 D.now) with over := true } : Vt).kept)))) ?_
              refine rxV 19 rfl (by kernel_rfl) rfl (gOn 2 rfl rfl rfl (by decide)) (fun _ _ hF => opNeS rfl (hF.ev 0 rfl) (hF.ev 1 rfl) (decide_eq_false (fun h => h (congrArg strL hkp)))) (kM [false, false, true, true, true, true, true, true, true, true, true] rfl rfl) (by decide) (v := (.bool false)) ?_
              refine rxV 20 rfl (by kernel_rfl) rfl (fun _ _ => rfl) (fun _ _ hF => opPickF rfl (hF.ev 1 rfl) (hF.ev 0 rfl)) (kM [false, false, true, true, true, true, true, true, true, true] rfl rfl) (by decide) (v := (.bool false)) ?_
              refine rxEnd (by kernel_rfl) ?_
              refine qxThen ?_
              refine cxF 0 rfl rfl ?_
              refine cxSkip ?_
              refine qxThen ?_
              refine cxSeq ?_
              obtain ⟨hR2, hl2', hor⟩ := hcr keep
              have hl2 : (D'.crash keep).now.length = (4 + sz.toNat) := hl2'.trans hl
              refine cxReg ?_
              refine pxV (v := (.pointer (some ⟨g3, 0, none⟩))) (fun _ _ hF => opMove rfl (hF.ev 5 rfl)) rfl (fun _ _ => rfl) (kM [false, true, true, true, true, true, true, true, true] rfl rfl) (by decide) ?_
              refine pxV (v := (.slice Ak keep.length ck)) (fun _ _ hF => opMove rfl (hF.ev 6 rfl)) rfl (fun _ _ => rfl) (kA rfl) (by decide) ?_
              refine pxE 0 hH rfl (fun _ hF => Does.small (crash_c g3 D' E254 hD256 keep Ak ck (hH.off 0 rfl hR.2.2.2 (by decide) (Off.nil _ _)) (by omega)) (fun w => opCall rfl Try.func20 rfl rfl (Evs.cons (v := (.pointer (some ⟨g3, 0, none⟩))) (hF.ev 1 rfl) (Evs.cons (v := (.slice Ak keep.length ck)) (hF.ev 0 rfl) Evs.nil)) w)) (hH.vu hR.2.2.2 (by decide) (Off.nil _ _)) rfl (fun _ _ => rfl) (kM [false, false, true, true, true, true, true, true, true, true] rfl rfl) (by decide) ?_
              clear hH
              rintro _ E270 w ⟨rfl, hD271⟩ hH
              replace hH : HH w0 [] [E270, [bl gv 61 #[(.pointer (some ⟨({ (vtOf g3 D.now) with over := true } : Vt).gd, 0, none⟩)), (.int .i64 (((({ (vtOf g3 D.now) with over := true } : Vt).half) : Nat) : Int)), (.int .i64 (((({ (vtOf g3 D.now) with over := true } : Vt).sector) : Nat) : Int)), (.int .u64 (((({ (vtOf g3 D.now) with over := true } : Vt).number) : Nat) : Int)), (.int .u64 (((({ (vtOf g3 D.now) with over := true } : Vt).size) : Nat) : Int)), (.int .i64 (((({ (vtOf g3 D.now) with over := true } : Vt).area) : Nat) : Int)), (.slice A258 (({ (vtOf g3 D.now) with over := true } : Vt).kept.length) c260), (.bool (({ (vtOf g3 D.now) with over := true } : Vt).over))]], E261, Ew, E264] w := hH
              refine pxEnd ?_
              refine qxThen ?_
              refine cxSeq ?_
              refine cxReg ?_
              refine pxV (v := (.pointer (some ⟨g3, 0, none⟩))) (fun _ _ hF => opMove rfl (hF.ev 5 rfl)) rfl (fun _ _ => rfl) (kM [false, true, true, true, true, true, true, true, true] rfl rfl) (by decide) ?_
              refine pxE 0 hH rfl (fun _ hF => Does.small (open_ok g3 (D'.crash keep) E270 hD271 (by omega) hR2.up) (fun w => opCall rfl Try.func10 rfl rfl (Evs.cons (v := (.pointer (some ⟨g3, 0, none⟩))) (hF.ev 0 rfl) Evs.nil) w)) trivial rfl (fun _ _ => rfl) (kM [false, true, true, true, true, true, true, true, true] rfl rfl) (by decide) ?_
              clear hH
              rintro _ _ w ⟨g272, E273, E274, rfl, rfl, hD275, hV276⟩ hH
              replace hH : HH w0 [] [([E273, E274] : List Hl).flatten, [bl gv 61 #[(.pointer (some ⟨({ (vtOf g3 D.now) with over := true } : Vt).gd, 0, none⟩)), (.int .i64 (((({ (vtOf g3 D.now) with over := true } : Vt).half) : Nat) : Int)), (.int .i64 (((({ (vtOf g3 D.now) with over := true } : Vt).sector) : Nat) : Int)), (.int .u64 (((({ (vtOf g3 D.now) with over := true } : Vt).number) : Nat) : Int)), (.int .u64 (((({ (vtOf g3 D.now) with over := true } : Vt).size) : Nat) : Int)), (.int .i64 (((({ (vtOf g3 D.now) with over := true } : Vt).area) : Nat) : Int)), (.slice A258 (({ (vtOf g3 D.now) with over := true } : Vt).kept.length) c260), (.bool (({ (vtOf g3 D.now) with over := true } : Vt).over))]], E261, Ew, E264] w := hH
              replace hH : HH w0 [] [E273, E274, [bl gv 61 #[(.pointer (some ⟨({ (vtOf g3 D.now) with over := true } : Vt).gd, 0, none⟩)), (.int .i64 (((({ (vtOf g3 D.now) with over := true } : Vt).half) : Nat) : Int)), (.int .i64 (((({ (vtOf g3 D.now) with over := true } : Vt).sector) : Nat) : Int)), (.int .u64 (((({ (vtOf g3 D.now) with over := true } : Vt).number) : Nat) : Int)), (.int .u64 (((({ (vtOf g3 D.now) with over := true } : Vt).size) : Nat) : Int)), (.int .i64 (((({ (vtOf g3 D.now) with over := true } : Vt).area) : Nat) : Int)), (.slice A258 (({ (vtOf g3 D.now) with over := true } : Vt).kept.length) c260), (.bool (({ (vtOf g3 D.now) with over := true } : Vt).over))]], E261, Ew, E264] w := hH.cast (by simp)
              refine pxV (v := (.tuple #[(.pointer (some ⟨g272, 0, none⟩)), (.int .i64 0)])) (fun _ _ hF => opMove rfl (hF.ev 0 rfl)) rfl (fun _ _ => rfl) (kM [false, true, true, true, true, true, true, true, true] rfl rfl) (by decide) ?_
              refine pxV (v := (.pointer (some ⟨g272, 0, none⟩))) (fun _ _ hF => opExtract rfl (hF.ev 0 rfl) rfl) rfl (fun _ _ => rfl) (kA rfl) (by decide) ?_
              refine pxV (v := (.int .i64 0)) (fun _ _ hF => opExtract rfl (hF.ev 1 rfl) rfl) rfl (fun _ _ => rfl) (kM [true, false, true, true, true, true, true, true, true, true] rfl rfl) (by decide) ?_
              refine pxV (v := (.pointer (some ⟨g272, 0, none⟩))) (fun _ _ hF => opAssign rfl (hF.ev 1 rfl)) rfl (fun _ _ => rfl) (kM [true, false, true, true, true, true, true, true, true, true] rfl rfl) (by decide) ?_
              refine pxV (v := (.int .i64 0)) (fun _ _ hF => opAssign rfl (hF.ev 1 rfl)) rfl (fun _ _ => rfl) (kM [true, false, true, true, true, true, true, true, true, true] rfl rfl) (by decide) ?_
              refine pxEnd ?_
              refine qxThen ?_
              refine cxSeq ?_
              refine cxSeq ?_
              refine cxReg ?_
              refine pxV (v := (.int .i64 0)) (fun _ _ hF => opMove rfl (hF.ev 0 rfl)) rfl (fun _ _ => rfl) (kM [false, true, true, true, true, true, true, true, true, true] rfl rfl) (by decide) ?_
              refine pxV (v := (.bool false)) (fun _ _ hF => opNeI rfl (hF.ev 0 rfl) rfl (by decide)) rfl (fun _ _ => rfl) (kM [false, true, true, true, true, true, true, true, true, true] rfl rfl) (by decide) ?_
              refine pxEnd ?_
              refine qxThen ?_
              refine cxF 0 rfl rfl ?_
              refine cxSkip ?_
              refine qxThen ?_
              refine cxSeq ?_
              refine cxReg ?_
              refine pxV (v := (.pointer (some ⟨g272, 0, none⟩))) (fun _ _ hF => opMove rfl (hF.ev 1 rfl)) rfl (fun _ _ => rfl) (kM [false, true, true, true, true, true, true, true, true, true] rfl rfl) (by decide) ?_
              obtain ⟨A277, n278, c279, E280, hE282, hO281⟩ := hV276.at'
              obtain rfl : n278 = (vtOf g3 (D'.crash keep).now).kept.length := hO281.len
              replace hH : HH w0 [] [E273, [bl g272 61 #[(.pointer (some ⟨(vtOf g3 (D'.crash keep).now).gd, 0, none⟩)), (.int .i64 ((((vtOf g3 (D'.crash keep).now).half) : Nat) : Int)), (.int .i64 ((((vtOf g3 (D'.crash keep).now).sector) : Nat) : Int)), (.int .u64 ((((vtOf g3 (D'.crash keep).now).number) : Nat) : Int)), (.int .u64 ((((vtOf g3 (D'.crash keep).now).size) : Nat) : Int)), (.int .i64 ((((vtOf g3 (D'.crash keep).now).area) : Nat) : Int)), (.slice A277 ((vtOf g3 (D'.crash keep).now).kept.length) c279), (.bool ((vtOf g3 (D'.crash keep).now).over))]], E280, [bl gv 61 #[(.pointer (some ⟨({ (vtOf g3 D.now) with over := true } : Vt).gd, 0, none⟩)), (.int .i64 (((({ (vtOf g3 D.now) with over := true } : Vt).half) : Nat) : Int)), (.int .i64 (((({ (vtOf g3 D.now) with over := true } : Vt).sector) : Nat) : Int)), (.int .u64 (((({ (vtOf g3 D.now) with over := true } : Vt).number) : Nat) : Int)), (.int .u64 (((({ (vtOf g3 D.now) with over := true } : Vt).size) : Nat) : Int)), (.int .i64 (((({ (vtOf g3 D.now) with over := true } : Vt).area) : Nat) : Int)), (.slice A258 (({ (vtOf g3 D.now) with over := true } : Vt).kept.length) c260), (.bool (({ (vtOf g3 D.now) with over := true } : Vt).over))]], E261, Ew, E264] w := hH.cast (by rw [hE282]; simp)
              refine pxM hH (fun _ hF => Does.small (load_c g272 (vtOf g3 (D'.crash keep).now) A277 c279 (Nat.le_trans (kept_le (gd := g3) (by omega)) (by decide))) (fun w => opCall rfl Try.func12 rfl rfl (Evs.cons (v := (.pointer (some ⟨g272, 0, none⟩))) (hF.ev 0 rfl) Evs.nil) w)) ⟨hH.blk 1 rfl, (hO281.vuAt (hH.has 2 rfl))⟩ rfl (fun _ _ => rfl) (kM [false, true, true, true, true, true, true, true, true, true] rfl rfl) (by decide) ?_
              clear hH
              rintro v287 E283 w hO284 hH
              replace hH : HH w0 [] [E273, [bl g272 61 #[(.pointer (some ⟨(vtOf g3 (D'.crash keep).now).gd, 0, none⟩)), (.int .i64 ((((vtOf g3 (D'.crash keep).now).half) : Nat) : Int)), (.int .i64 ((((vtOf g3 (D'.crash keep).now).sector) : Nat) : Int)), (.int .u64 ((((vtOf g3 (D'.crash keep).now).number) : Nat) : Int)), (.int .u64 ((((vtOf g3 (D'.crash keep).now).size) : Nat) : Int)), (.int .i64 ((((vtOf g3 (D'.crash keep).now).area) : Nat) : Int)), (.slice A277 ((vtOf g3 (D'.crash keep).now).kept.length) c279), (.bool ((vtOf g3 (D'.crash keep).now).over))]], E280, [bl gv 61 #[(.pointer (some ⟨({ (vtOf g3 D.now) with over := true } : Vt).gd, 0, none⟩)), (.int .i64 (((({ (vtOf g3 D.now) with over := true } : Vt).half) : Nat) : Int)), (.int .i64 (((({ (vtOf g3 D.now) with over := true } : Vt).sector) : Nat) : Int)), (.int .u64 (((({ (vtOf g3 D.now) with over := true } : Vt).number) : Nat) : Int)), (.int .u64 (((({ (vtOf g3 D.now) with over := true } : Vt).size) : Nat) : Int)), (.int .i64 (((({ (vtOf g3 D.now) with over := true } : Vt).area) : Nat) : Int)), (.slice A258 (({ (vtOf g3 D.now) with over := true } : Vt).kept.length) c260), (.bool (({ (vtOf g3 D.now) with over := true } : Vt).over))]], E261, Ew, E264, E283] w := hH
              obtain ⟨A285, c286, rfl⟩ := hO284.slice
              refine pxS (v := (.string (strL ((vtOf g3 (D'.crash keep).now).kept)))) (fun w => Vu cByte w A285 ((vtOf g3 (D'.crash keep).now).kept.length) c286 ((vtOf g3 (D'.crash keep).now).kept)) (hO284.vuAt (hH.has 7 rfl)) (fun _ _ hF hS => opStr (e := 5) rfl (by kernel_rfl) (by kernel_rfl) (by kernel_rfl) (hF.ev 0 rfl) hS) rfl (fun _ _ => rfl) (kM [false, true, true, true, true, true, true, true, true, true] rfl rfl) (by decide) ?_
              refine pxV (v := (.string (strL ((vtOf g3 (D'.crash keep).now).kept)))) (fun _ _ hF => opAssign rfl (hF.ev 0 rfl)) rfl (fun _ _ => rfl) (kM [false, true, true, true, true, true, true, true, true, true] rfl rfl) (by decide) ?_
              refine pxEnd ?_
              refine qxThen ?_
              refine cxSeq ?_
              refine cxSeq ?_
              rcases hor with ⟨hke, hnu⟩ | ⟨hke, hnu⟩
              · refine cxRegX mixedOrders (by kernel_rfl) ?_
                replace hH := hH.drew
                refine rxV 0 rfl (by kernel_rfl) rfl (fun _ _ => rfl) (fun _ _ hF => opMove rfl (hF.ev 0 rfl)) (kA rfl) (by decide) (v := (.string (strL ((vtOf g3 (D'.crash keep).now).kept)))) ?_
                refine rxV 1 rfl (by kernel_rfl) rfl (fun _ _ => rfl) (fun _ _ hF => opMove rfl (hF.ev 6 rfl)) (kM [true, true, true, true, true, true, false, true, true, true, true] rfl rfl) (by decide) (v := (.slice Aw W.length cw)) ?_
                refine rxS (fun w => Vu cByte w Aw W.length cw W) 2 rfl (by kernel_rfl) rfl (fun _ _ => rfl) (hW.vu hH 5 rfl) (fun _ _ hF hS => opStr (e := 5) rfl (by kernel_rfl) (by kernel_rfl) (by kernel_rfl) (hF.ev 0 rfl) hS) (kM [false, true, true, true, true, true, true, true, true, true, true] rfl rfl) (by decide) (v := (.string (strL W))) ?_
                refine rxV 3 rfl (by kernel_rfl) rfl (fun _ _ => rfl) (fun _ _ hF => opNeS rfl (hF.ev 1 rfl) (hF.ev 0 rfl) (decide_eq_false (fun h => h (congrArg strL (hke.trans hkp))))) (kM [false, false, true, true, true, true, true, true, true, true, true] rfl rfl) (by decide) (v := (.bool false)) ?_
                refine rxV 4 rfl (by kernel_rfl) rfl (fun _ _ => rfl) (fun _ _ hF => opMove rfl (hF.ev 0 rfl)) (kM [false, true, true, true, true, true, true, true, true, true] rfl rfl) (by decide) (v := (.bool false)) ?_
                refine rxU 5 rfl (by kernel_rfl) rfl (gOff 0 rfl rfl rfl (by decide)) (kM [true, false, true, true, true, true, true, true, true, true] rfl rfl) (by decide) ?_
                refine rxU 6 rfl (by kernel_rfl) rfl (gOff 0 rfl rfl rfl (by decide)) (kA rfl) (by decide) ?_
                refine rxU 7 rfl (by kernel_rfl) rfl (gOff 0 rfl rfl rfl (by decide)) (kA rfl) (by decide) ?_
                refine rxU 8 rfl (by kernel_rfl) rfl (gOff 0 rfl rfl rfl (by decide)) (kA rfl) (by decide) ?_
                refine rxU 9 rfl (by kernel_rfl) rfl (gOff 0 rfl rfl rfl (by decide)) (kA rfl) (by decide) ?_
                refine rxU 10 rfl (by kernel_rfl) rfl (gOff 0 rfl rfl rfl (by decide)) (kA rfl) (by decide) ?_
                refine rxU 11 rfl (by kernel_rfl) rfl (gOff 0 rfl rfl rfl (by decide)) (kA rfl) (by decide) ?_
                refine rxUK 12 rfl (by kernel_rfl) rfl (gOff 0 rfl rfl rfl (by decide)) (kA rfl) (by decide) ?_
                refine rxU 13 rfl (by kernel_rfl) rfl (gOffU 0 rfl rfl rfl) (kA rfl) (by decide) ?_
                refine rxU 14 rfl (by kernel_rfl) rfl (gOffU 0 rfl rfl rfl) (kM [true, true, true, false, true, true, true, true, true, true] rfl rfl) (by decide) ?_
                refine rxU 15 rfl (by kernel_rfl) rfl (gOffU 0 rfl rfl rfl) (kA rfl) (by decide) ?_
                refine rxU 16 rfl (by kernel_rfl) rfl (gOffU 0 rfl rfl rfl) (kA rfl) (by decide) ?_
                refine rxU 17 rfl (by kernel_rfl) rfl (gOffU 0 rfl rfl rfl) (kA rfl) (by decide) ?_
                refine rxU 18 rfl (by kernel_rfl) rfl (gOffU 0 rfl rfl rfl) (kA rfl) (by decide) ?_
                refine rxU 19 rfl (by kernel_rfl) rfl (gOffU 0 rfl rfl rfl) (kA rfl) (by decide) ?_
                refine rxU 20 rfl (by kernel_rfl) rfl (gOffU 0 rfl rfl rfl) (kA rfl) (by decide) ?_
                refine rxU 21 rfl (by kernel_rfl) rfl (gOff 1 rfl rfl rfl (by decide)) (kM [false, true, true, true, true, true, true, true, true] rfl rfl) (by decide) ?_
                refine rxV 22 rfl (by kernel_rfl) rfl (fun _ _ => rfl) (fun _ _ hF => opPickF rfl (hF.ev 0 rfl) rfl) (kM [false, true, true, true, true, true, true, true] rfl rfl) (by decide) (v := (.bool false)) ?_
                refine rxEnd (by kernel_rfl) ?_
                refine qxThen ?_
                refine cxF 0 rfl rfl ?_
                refine cxSkip ?_
                refine qxThen ?_
                refine cxReg ?_
                refine pxV (v := (.pointer (some ⟨g272, 0, none⟩))) (fun _ _ hF => opMove rfl (hF.ev 1 rfl)) rfl (fun _ _ => rfl) (kM [false, true, true, true, true, true, true, true] rfl rfl) (by decide) ?_
                refine pxM hH (fun _ hF => Does.small (load_c g272 (vtOf g3 (D'.crash keep).now) A277 c279 (Nat.le_trans (kept_le (gd := g3) (by omega)) (by decide))) (fun w => opCall rfl Try.func12 rfl rfl (Evs.cons (v := (.pointer (some ⟨g272, 0, none⟩))) (hF.ev 0 rfl) Evs.nil) w)) ⟨hH.blk 1 rfl, (hO281.vuAt (hH.has 2 rfl))⟩ rfl (fun _ _ => rfl) (kM [false, true, true, true, true, true, true, true] rfl rfl) (by decide) ?_
                clear hH
                rintro v293 E289 w hO290 hH
                replace hH : HH w0 [] [E273, [bl g272 61 #[(.pointer (some ⟨(vtOf g3 (D'.crash keep).now).gd, 0, none⟩)), (.int .i64 ((((vtOf g3 (D'.crash keep).now).half) : Nat) : Int)), (.int .i64 ((((vtOf g3 (D'.crash keep).now).sector) : Nat) : Int)), (.int .u64 ((((vtOf g3 (D'.crash keep).now).number) : Nat) : Int)), (.int .u64 ((((vtOf g3 (D'.crash keep).now).size) : Nat) : Int)), (.int .i64 ((((vtOf g3 (D'.crash keep).now).area) : Nat) : Int)), (.slice A277 ((vtOf g3 (D'.crash keep).now).kept.length) c279), (.bool ((vtOf g3 (D'.crash keep).now).over))]], E280, [bl gv 61 #[(.pointer (some ⟨({ (vtOf g3 D.now) with over := true } : Vt).gd, 0, none⟩)), (.int .i64 (((({ (vtOf g3 D.now) with over := true } : Vt).half) : Nat) : Int)), (.int .i64 (((({ (vtOf g3 D.now) with over := true } : Vt).sector) : Nat) : Int)), (.int .u64 (((({ (vtOf g3 D.now) with over := true } : Vt).number) : Nat) : Int)), (.int .u64 (((({ (vtOf g3 D.now) with over := true } : Vt).size) : Nat) : Int)), (.int .i64 (((({ (vtOf g3 D.now) with over := true } : Vt).area) : Nat) : Int)), (.slice A258 (({ (vtOf g3 D.now) with over := true } : Vt).kept.length) c260), (.bool (({ (vtOf g3 D.now) with over := true } : Vt).over))]], E261, Ew, E264, E283, E289] w := hH
                obtain ⟨A291, c292, rfl⟩ := hO290.slice
                refine pxV (v := (.slice A291 ((vtOf g3 (D'.crash keep).now).kept.length) c292)) (fun _ _ hF => opAssign rfl (hF.ev 0 rfl)) rfl (fun _ _ => rfl) (kM [false, true, true, true, true, true, true, true] rfl rfl) (by decide) ?_
                refine pxEnd ?_
                refine qxInN ?_
                refine qxThen ?_
                refine cxReg ?_
                refine pxV (v := (.int .i64 (((i + 1) : Nat) : Int))) (fun _ _ hF => opAdd rfl (hF.ev 2 rfl) rfl (wI (by omega) (by omega) (by omega))) rfl (fun _ _ => rfl) (kM [true, true, false, true, true, true, true, true] rfl rfl) (by decide) ?_
                refine pxV (v := (.int .i64 (((i + 1) : Nat) : Int))) (fun _ _ hF => opMove rfl (hF.ev 0 rfl)) rfl (fun _ _ => rfl) (kM [false, true, true, true, true, true, true, true] rfl rfl) (by decide) ?_
                refine pxEnd ?_
                obtain ⟨E295, hE296, hD297⟩ : ∃ E, E = ([[bl g272 61 #[(.pointer (some ⟨(vtOf g3 (D'.crash keep).now).gd, 0, none⟩)), (.int .i64 ((((vtOf g3 (D'.crash keep).now).half) : Nat) : Int)), (.int .i64 ((((vtOf g3 (D'.crash keep).now).sector) : Nat) : Int)), (.int .u64 ((((vtOf g3 (D'.crash keep).now).number) : Nat) : Int)), (.int .u64 ((((vtOf g3 (D'.crash keep).now).size) : Nat) : Int)), (.int .i64 ((((vtOf g3 (D'.crash keep).now).area) : Nat) : Int)), (.slice A277 ((vtOf g3 (D'.crash keep).now).kept.length) c279), (.bool ((vtOf g3 (D'.crash keep).now).over))]], E280] : List Hl).flatten ∧ VtAt g272 (vtOf g3 (D'.crash keep).now) E := ⟨_, rfl, hV276.ok, _, _, _, _, rfl, hO281⟩
                replace hH : HH w0 [] [E273, E295, [bl gv 61 #[(.pointer (some ⟨({ (vtOf g3 D.now) with over := true } : Vt).gd, 0, none⟩)), (.int .i64 (((({ (vtOf g3 D.now) with over := true } : Vt).half) : Nat) : Int)), (.int .i64 (((({ (vtOf g3 D.now) with over := true } : Vt).sector) : Nat) : Int)), (.int .u64 (((({ (vtOf g3 D.now) with over := true } : Vt).number) : Nat) : Int)), (.int .u64 (((({ (vtOf g3 D.now) with over := true } : Vt).size) : Nat) : Int)), (.int .i64 (((({ (vtOf g3 D.now) with over := true } : Vt).area) : Nat) : Int)), (.slice A258 (({ (vtOf g3 D.now) with over := true } : Vt).kept.length) c260), (.bool (({ (vtOf g3 D.now) with over := true } : Vt).over))]], E261, Ew, E264, E283, E289] w := hH.cast (by rw [hE296]; simp)
                replace hH : HH w0 [] [E273, E295, E289] w := HH.sel hH [0, 1, 7] rfl (by decide)
                exact qxRound (i + 1, (D'.crash keep), E273, E295, g272, (vtOf g3 (D'.crash keep).now).kept, A291, c292, E289) ⟨hH, (show (i + 1) ≤ raws.length from (by omega)), hD275, hD297, hR2, hl2, rfl, (show (vtOf g3 (D'.crash keep).now).number ≤ (i + 1) from (by omega)), (.inr hO290)⟩ (by omega) (slots_at [0, 3, 1, 2, 4, 5, 6, 7] rfl)
              · refine cxRegX mixedOrders (by kernel_rfl) ?_
                replace hH := hH.drew
                refine rxV 0 rfl (by kernel_rfl) rfl (fun _ _ => rfl) (fun _ _ hF => opMove rfl (hF.ev 0 rfl)) (kA rfl) (by decide) (v := (.string (strL ((vtOf g3 (D'.crash keep).now).kept)))) ?_
                refine rxV 1 rfl (by kernel_rfl) rfl (fun _ _ => rfl) (fun _ _ hF => opMove rfl (hF.ev 6 rfl)) (kM [true, true, true, true, true, true, false, true, true, true, true] rfl rfl) (by decide) (v := (.slice Aw W.length cw)) ?_
                refine rxS (fun w => Vu cByte w Aw W.length cw W) 2 rfl (by kernel_rfl) rfl (fun _ _ => rfl) (hW.vu hH 5 rfl) (fun _ _ hF hS => opStr (e := 5) rfl (by kernel_rfl) (by kernel_rfl) (by kernel_rfl) (hF.ev 0 rfl) hS) (kM [false, true, true, true, true, true, true, true, true, true, true] rfl rfl) (by decide) (v := (.string (strL W))) ?_
                refine rxV 3 rfl (by kernel_rfl) rfl (fun _ _ => rfl) (fun _ _ hF => opNeS rfl (hF.ev 1 rfl) (hF.ev 0 rfl) rfl) (kM [false, false, true, true, true, true, true, true, true, true, true] rfl rfl) (by decide) (v := (.bool (decide ((strL ((vtOf g3 (D'.crash keep).now).kept)) ≠ (strL W))))) ?_
                refine rxV 4 rfl (by kernel_rfl) rfl (fun _ _ => rfl) (fun _ _ hF => opMove rfl (hF.ev 0 rfl)) (kM [false, true, true, true, true, true, true, true, true, true] rfl rfl) (by decide) (v := (.bool (decide ((strL ((vtOf g3 (D'.crash keep).now).kept)) ≠ (strL W))))) ?_
                refine rxSplitP 0 rfl (l1 := [(106, (.bool true)), (15, (.string (strL ((vtOf g3 (D'.crash keep).now).kept)))), (10, (.pointer (some ⟨g272, 0, none⟩))), (13, (.int .i64 (((i) : Nat) : Int))), (42, (.int .i64 (((i) : Nat) : Int))), (41, (.int .i64 (((raws.length) : Nat) : Int))), (9, (.pointer (some ⟨g3, 0, none⟩))), (3, (.slice Ak keep.length ck)), (2, (.slice Af fuses.length cf)), (1, (.slice (some ⟨b246, off247, none⟩) raws.length c))]) (l2 := [(106, (.bool false)), (15, (.string (strL ((vtOf g3 (D'.crash keep).now).kept)))), (10, (.pointer (some ⟨g272, 0, none⟩))), (13, (.int .i64 (((i) : Nat) : Int))), (42, (.int .i64 (((i) : Nat) : Int))), (41, (.int .i64 (((raws.length) : Nat) : Int))), (9, (.pointer (some ⟨g3, 0, none⟩))), (3, (.slice Ak keep.length ck)), (2, (.slice Af fuses.length cf)), (1, (.slice (some ⟨b246, off247, none⟩) raws.length c))]) rfl rfl (fun hg298 => ?_) (fun hg298 => ?_)
                · refine rxV 5 rfl (by kernel_rfl) rfl (gOn 0 rfl rfl rfl (by decide)) (fun _ _ hF => opMove rfl (hF.ev 1 rfl)) (kM [true, false, true, true, true, true, true, true, true, true] rfl rfl) (by decide) (v := (.string (strL ((vtOf g3 (D'.crash keep).now).kept)))) ?_
                  refine rxV 6 rfl (by kernel_rfl) rfl (gOn 1 rfl rfl rfl (by decide)) (fun _ _ hF => opMove rfl (hF.ev 9 rfl)) (kA rfl) (by decide) (v := (.slice (some ⟨b246, off247, none⟩) raws.length c)) ?_
                  refine rxV 7 rfl (by kernel_rfl) rfl (gOn 2 rfl rfl rfl (by decide)) (fun _ _ hF => opMove rfl (hF.ev 4 rfl)) (kA rfl) (by decide) (v := (.int .i64 (((i) : Nat) : Int))) ?_
                  have hi299 : i < raws.length := by omega
                  have hj302 : i < raws.length := by first | exact hi299 | (simp only [List.length_drop, List.length_take]; omega) | omega
                  refine rxV 8 rfl (by kernel_rfl) rfl (gOn 3 rfl rfl rfl (by decide)) (fun _ _ hF => opIndex (i := i) (e := 32) (sz := 1) rfl (by kernel_rfl) (by kernel_rfl) (hF.ev 1 rfl) (hF.ev 0 rfl) rfl hi299) (kM [false, false, true, true, true, true, true, true, true, true, true, true] rfl rfl) (by decide) (v := (.pointer (some ⟨b246, off247 + i * 1, none⟩))) ?_
                  refine rxS (fun w => HoldsL cSl w b246 off247 raws) 9 rfl (by kernel_rfl) rfl (gOn 2 rfl rfl rfl (by decide)) (hH.holdsL hL248 hb249 hR250) (fun _ _ hF hS => opLoadT (C := cSl) (y := (A0, bytes.length, c0)) rfl (hF.ev 0 rfl) (by kernel_rfl) (hS i _ hx0) rfl) (kM [false, true, true, true, true, true, true, true, true, true, true] rfl rfl) (by decide) (v := (.slice A0 bytes.length c0)) ?_
                  refine rxS (fun w => Vu cByte w A0 bytes.length c0 bytes) 10 rfl (by kernel_rfl) rfl (gOn 2 rfl rfl rfl (by decide)) (hH.vu hvb (by decide) (Off.nil _ _)) (fun _ _ hF hS => opStr (e := 5) rfl (by kernel_rfl) (by kernel_rfl) (by kernel_rfl) (hF.ev 0 rfl) hS) (kM [false, true, true, true, true, true, true, true, true, true, true] rfl rfl) (by decide) (v := (.string (strL bytes))) ?_
                  refine rxV 11 rfl (by kernel_rfl) rfl (gOn 2 rfl rfl rfl (by decide)) (fun _ _ hF => opNeS rfl (hF.ev 1 rfl) (hF.ev 0 rfl) (decide_eq_false (fun h => h (congrArg strL hke)))) (kM [false, false, true, true, true, true, true, true, true, true, true] rfl rfl) (by decide) (v := (.bool false)) ?_
                  refine rxV 12 rfl (by kernel_rfl) rfl (gOn 1 rfl rfl rfl (by decide)) (fun _ _ hF => opMove rfl (hF.ev 0 rfl)) (kM [false, true, true, true, true, true, true, true, true, true] rfl rfl) (by decide) (v := (.bool false)) ?_
                  refine rxV 13 rfl (by kernel_rfl) rfl (gOn 0 rfl rfl rfl (by decide)) (fun _ _ hF => opMove rfl (hF.ev 9 rfl)) (kA rfl) (by decide) (v := (.slice (some ⟨b246, off247, none⟩) raws.length c)) ?_
                  refine rxV 14 rfl (by kernel_rfl) rfl (gOn 1 rfl rfl rfl (by decide)) (fun _ _ hF => opMove rfl (hF.ev 4 rfl)) (kM [true, true, true, true, false, true, true, true, true, true, true] rfl rfl) (by decide) (v := (.int .i64 (((i) : Nat) : Int))) ?_
                  have hi303 : i < raws.length := by omega
                  have hj306 : i < raws.length := by first | exact hi303 | (simp only [List.length_drop, List.length_take]; omega) | omega
                  refine rxV 15 rfl (by kernel_rfl) rfl (gOn 2 rfl rfl rfl (by decide)) (fun _ _ hF => opIndex (i := i) (e := 32) (sz := 1) rfl (by kernel_rfl) (by kernel_rfl) (hF.ev 1 rfl) (hF.ev 0 rfl) rfl hi303) (kM [false, false, true, true, true, true, true, true, true, true, true] rfl rfl) (by decide) (v := (.pointer (some ⟨b246, off247 + i * 1, none⟩))) ?_
                  refine rxS (fun w => HoldsL cSl w b246 off247 raws) 16 rfl (by kernel_rfl) rfl (gOn 1 rfl rfl rfl (by decide)) (hH.holdsL hL248 hb249 hR250) (fun _ _ hF hS => opLoadT (C := cSl) (y := (A0, bytes.length, c0)) rfl (hF.ev 0 rfl) (by kernel_rfl) (hS i _ hx0) rfl) (kM [false, true, true, true, true, true, true, true, true, true] rfl rfl) (by decide) (v := (.slice A0 bytes.length c0)) ?_
                  refine rxV 17 rfl (by kernel_rfl) rfl (gOn 1 rfl rfl rfl (by decide)) (fun _ _ hF => opLen (e := 5) rfl (by kernel_rfl) (hF.ev 0 rfl)) (kM [false, true, true, true, true, true, true, true, true, true] rfl rfl) (by decide) (v := (.int .i64 (((bytes.length) : Nat) : Int))) ?_
                  refine rxV 18 rfl (by kernel_rfl) rfl (gOn 1 rfl rfl rfl (by decide)) (fun _ _ hF => opMove rfl (hF.ev 3 rfl)) (kA rfl) (by decide) (v := (.pointer (some ⟨g272, 0, none⟩))) ?_
                  refine rx1 19 (by kernel_rfl) ?_
                  refine moM rfl hH (fun _ hF => Does.small ((Pure.as (v := (.int .i64 (((((vtOf g3 (D'.crash keep).now).half) * 64) : Nat) : Int))) (room_c g272 (vtOf g3 (D'.crash keep).now) A277 c279 (by show halfOf _ ≤ 1999; unfold halfOf; omega)) rfl).does) (fun w => opCall rfl Try.func11 rfl rfl (Evs.cons (v := (.pointer (some ⟨g272, 0, none⟩))) (hF.ev 0 rfl) Evs.nil) w)) (hH.blk 1 rfl) rfl (gOn 2 rfl rfl rfl (by decide)) (kM [false, true, true, true, true, true, true, true, true, true, true] rfl rfl) (by decide) (PendOk.keep (PendOk.go [12, 11] (by kernel_rfl) (PendOk.go [12, 11, 10] (by kernel_rfl) (PendOk.go [12, 4, 3] (by kernel_rfl) (PendOk.nil _ []))))) ?_
                  clear hH
                  rintro _ _ w ⟨rfl, rfl⟩ hH
                  replace hH : HH w0 [] [E273, [bl g272 61 #[(.pointer (some ⟨(vtOf g3 (D'.crash keep).now).gd, 0, none⟩)), (.int .i64 ((((vtOf g3 (D'.crash keep).now).half) : Nat) : Int)), (.int .i64 ((((vtOf g3 (D'.crash keep).now).sector) : Nat) : Int)), (.int .u64 ((((vtOf g3 (D'.crash keep).now).number) : Nat) : Int)), (.int .u64 ((((vtOf g3 (D'.crash keep).now).size) : Nat) : Int)), (.int .i64 ((((vtOf g3 (D'.crash keep).now).area) : Nat) : Int)), (.slice A277 ((vtOf g3 (D'.crash keep).now).kept.length) c279), (.bool ((vtOf g3 (D'.crash keep).now).over))]], E280, [bl gv 61 #[(.pointer (some ⟨({ (vtOf g3 D.now) with over := true } : Vt).gd, 0, none⟩)), (.int .i64 (((({ (vtOf g3 D.now) with over := true } : Vt).half) : Nat) : Int)), (.int .i64 (((({ (vtOf g3 D.now) with over := true } : Vt).sector) : Nat) : Int)), (.int .u64 (((({ (vtOf g3 D.now) with over := true } : Vt).number) : Nat) : Int)), (.int .u64 (((({ (vtOf g3 D.now) with over := true } : Vt).size) : Nat) : Int)), (.int .i64 (((({ (vtOf g3 D.now) with over := true } : Vt).area) : Nat) : Int)), (.slice A258 (({ (vtOf g3 D.now) with over := true } : Vt).kept.length) c260), (.bool (({ (vtOf g3 D.now) with over := true } : Vt).over))]], E261, Ew, E264, E283] w := hH.unpad
                  refine ⟨(by
                    intro s hs
                    simp only [List.mem_cons, List.not_mem_nil, or_false] at hs
                    rcases hs with rfl
                    · exact (hH.holdsL hL248 hb249 hR250)
                    ), ?_⟩
                  refine rxV 20 rfl (by kernel_rfl) rfl (gOn 2 rfl rfl rfl (by decide)) (fun _ _ hF => opGtr rfl (hF.ev 1 rfl) (hF.ev 0 rfl) (decide_eq_false (by show ¬ (((bytes.length : Nat) : Int) > ((halfOf (D'.crash keep).now * 64 : Nat) : Int)); have hq : halfOf (D'.crash keep).now = (2 + sz.toNat) / 2 := (by unfold halfOf; omega); omega))) (kM [false, false, true, true, true, true, true, true, true, true, true] rfl rfl) (by decide) (v := (.bool false)) ?_
                  refine rxV 21 rfl (by kernel_rfl) rfl (gOn 2 rfl rfl rfl (by decide)) (fun _ _ hF => opPickF rfl (hF.ev 1 rfl) (hF.ev 0 rfl)) (kM [false, false, true, true, true, true, true, true, true, true] rfl rfl) (by decide) (v := (.bool false)) ?_
                  refine rxV 22 rfl (by kernel_rfl) rfl (fun _ _ => rfl) (fun _ _ hF => opPickT rfl (hF.ev 1 rfl) (hF.ev 0 rfl)) (kM [false, false, true, true, true, true, true, true, true] rfl rfl) (by decide) (v := (.bool false)) ?_
                  refine rxEnd (by kernel_rfl) ?_
                  refine qxThen ?_
                  refine cxF 0 rfl rfl ?_
                  refine cxSkip ?_
                  refine qxThen ?_
                  refine cxReg ?_
                  refine pxV (v := (.pointer (some ⟨g272, 0, none⟩))) (fun _ _ hF => opMove rfl (hF.ev 1 rfl)) rfl (fun _ _ => rfl) (kM [false, true, true, true, true, true, true, true] rfl rfl) (by decide) ?_
                  refine pxM hH (fun _ hF => Does.small (load_c g272 (vtOf g3 (D'.crash keep).now) A277 c279 (Nat.le_trans (kept_le (gd := g3) (by omega)) (by decide))) (fun w => opCall rfl Try.func12 rfl rfl (Evs.cons (v := (.pointer (some ⟨g272, 0, none⟩))) (hF.ev 0 rfl) Evs.nil) w)) ⟨hH.blk 1 rfl, (hO281.vuAt (hH.has 2 rfl))⟩ rfl (fun _ _ => rfl) (kM [false, true, true, true, true, true, true, true] rfl rfl) (by decide) ?_
                  clear hH
                  rintro v311 E307 w hO308 hH
                  replace hH : HH w0 [] [E273, [bl g272 61 #[(.pointer (some ⟨(vtOf g3 (D'.crash keep).now).gd, 0, none⟩)), (.int .i64 ((((vtOf g3 (D'.crash keep).now).half) : Nat) : Int)), (.int .i64 ((((vtOf g3 (D'.crash keep).now).sector) : Nat) : Int)), (.int .u64 ((((vtOf g3 (D'.crash keep).now).number) : Nat) : Int)), (.int .u64 ((((vtOf g3 (D'.crash keep).now).size) : Nat) : Int)), (.int .i64 ((((vtOf g3 (D'.crash keep).now).area) : Nat) : Int)), (.slice A277 ((vtOf g3 (D'.crash keep).now).kept.length) c279), (.bool ((vtOf g3 (D'.crash keep).now).over))]], E280, [bl gv 61 #[(.pointer (some ⟨({ (vtOf g3 D.now) with over := true } : Vt).gd, 0, none⟩)), (.int .i64 (((({ (vtOf g3 D.now) with over := true } : Vt).half) : Nat) : Int)), (.int .i64 (((({ (vtOf g3 D.now) with over := true } : Vt).sector) : Nat) : Int)), (.int .u64 (((({ (vtOf g3 D.now) with over := true } : Vt).number) : Nat) : Int)), (.int .u64 (((({ (vtOf g3 D.now) with over := true } : Vt).size) : Nat) : Int)), (.int .i64 (((({ (vtOf g3 D.now) with over := true } : Vt).area) : Nat) : Int)), (.slice A258 (({ (vtOf g3 D.now) with over := true } : Vt).kept.length) c260), (.bool (({ (vtOf g3 D.now) with over := true } : Vt).over))]], E261, Ew, E264, E283, E307] w := hH
                  obtain ⟨A309, c310, rfl⟩ := hO308.slice
                  refine pxV (v := (.slice A309 ((vtOf g3 (D'.crash keep).now).kept.length) c310)) (fun _ _ hF => opAssign rfl (hF.ev 0 rfl)) rfl (fun _ _ => rfl) (kM [false, true, true, true, true, true, true, true] rfl rfl) (by decide) ?_
                  refine pxEnd ?_
                  refine qxInN ?_
                  refine qxThen ?_
                  refine cxReg ?_
                  refine pxV (v := (.int .i64 (((i + 1) : Nat) : Int))) (fun _ _ hF => opAdd rfl (hF.ev 2 rfl) rfl (wI (by omega) (by omega) (by omega))) rfl (fun _ _ => rfl) (kM [true, true, false, true, true, true, true, true] rfl rfl) (by decide) ?_
                  refine pxV (v := (.int .i64 (((i + 1) : Nat) : Int))) (fun _ _ hF => opMove rfl (hF.ev 0 rfl)) rfl (fun _ _ => rfl) (kM [false, true, true, true, true, true, true, true] rfl rfl) (by decide) ?_
                  refine pxEnd ?_
                  obtain ⟨E313, hE314, hD315⟩ : ∃ E, E = ([[bl g272 61 #[(.pointer (some ⟨(vtOf g3 (D'.crash keep).now).gd, 0, none⟩)), (.int .i64 ((((vtOf g3 (D'.crash keep).now).half) : Nat) : Int)), (.int .i64 ((((vtOf g3 (D'.crash keep).now).sector) : Nat) : Int)), (.int .u64 ((((vtOf g3 (D'.crash keep).now).number) : Nat) : Int)), (.int .u64 ((((vtOf g3 (D'.crash keep).now).size) : Nat) : Int)), (.int .i64 ((((vtOf g3 (D'.crash keep).now).area) : Nat) : Int)), (.slice A277 ((vtOf g3 (D'.crash keep).now).kept.length) c279), (.bool ((vtOf g3 (D'.crash keep).now).over))]], E280] : List Hl).flatten ∧ VtAt g272 (vtOf g3 (D'.crash keep).now) E := ⟨_, rfl, hV276.ok, _, _, _, _, rfl, hO281⟩
                  replace hH : HH w0 [] [E273, E313, [bl gv 61 #[(.pointer (some ⟨({ (vtOf g3 D.now) with over := true } : Vt).gd, 0, none⟩)), (.int .i64 (((({ (vtOf g3 D.now) with over := true } : Vt).half) : Nat) : Int)), (.int .i64 (((({ (vtOf g3 D.now) with over := true } : Vt).sector) : Nat) : Int)), (.int .u64 (((({ (vtOf g3 D.now) with over := true } : Vt).number) : Nat) : Int)), (.int .u64 (((({ (vtOf g3 D.now) with over := true } : Vt).size) : Nat) : Int)), (.int .i64 (((({ (vtOf g3 D.now) with over := true } : Vt).area) : Nat) : Int)), (.slice A258 (({ (vtOf g3 D.now) with over := true } : Vt).kept.length) c260), (.bool (({ (vtOf g3 D.now) with over := true } : Vt).over))]], E261, Ew, E264, E283, E307] w := hH.cast (by rw [hE314]; simp)
                  replace hH : HH w0 [] [E273, E313, E307] w := HH.sel hH [0, 1, 7] rfl (by decide)
                  exact qxRound (i + 1, (D'.crash keep), E273, E313, g272, (vtOf g3 (D'.crash keep).now).kept, A309, c310, E307) ⟨hH, (show (i + 1) ≤ raws.length from (by omega)), hD275, hD315, hR2, hl2, rfl, (show (vtOf g3 (D'.crash keep).now).number ≤ (i + 1) from (by omega)), (.inr hO308)⟩ (by omega) (slots_at [0, 3, 1, 2, 4, 5, 6, 7] rfl)
                · refine rxU 5 rfl (by kernel_rfl) rfl (gOff 0 rfl rfl rfl (by decide)) (kM [true, false, true, true, true, true, true, true, true, true] rfl rfl) (by decide) ?_
                  refine rxU 6 rfl (by kernel_rfl) rfl (gOff 0 rfl rfl rfl (by decide)) (kA rfl) (by decide) ?_
                  refine rxU 7 rfl (by kernel_rfl) rfl (gOff 0 rfl rfl rfl (by decide)) (kA rfl) (by decide) ?_
                  refine rxU 8 rfl (by kernel_rfl) rfl (gOff 0 rfl rfl rfl (by decide)) (kA rfl) (by decide) ?_
                  refine rxU 9 rfl (by kernel_rfl) rfl (gOff 0 rfl rfl rfl (by decide)) (kA rfl) (by decide) ?_
                  refine rxU 10 rfl (by kernel_rfl) rfl (gOff 0 rfl rfl rfl (by decide)) (kA rfl) (by decide) ?_
                  refine rxU 11 rfl (by kernel_rfl) rfl (gOff 0 rfl rfl rfl (by decide)) (kA rfl) (by decide) ?_
                  refine rxUK 12 rfl (by kernel_rfl) rfl (gOff 0 rfl rfl rfl (by decide)) (kA rfl) (by decide) ?_
                  refine rxU 13 rfl (by kernel_rfl) rfl (gOffU 0 rfl rfl rfl) (kA rfl) (by decide) ?_
                  refine rxU 14 rfl (by kernel_rfl) rfl (gOffU 0 rfl rfl rfl) (kM [true, true, true, false, true, true, true, true, true, true] rfl rfl) (by decide) ?_
                  refine rxU 15 rfl (by kernel_rfl) rfl (gOffU 0 rfl rfl rfl) (kA rfl) (by decide) ?_
                  refine rxU 16 rfl (by kernel_rfl) rfl (gOffU 0 rfl rfl rfl) (kA rfl) (by decide) ?_
                  refine rxU 17 rfl (by kernel_rfl) rfl (gOffU 0 rfl rfl rfl) (kA rfl) (by decide) ?_
                  refine rxU 18 rfl (by kernel_rfl) rfl (gOffU 0 rfl rfl rfl) (kA rfl) (by decide) ?_
                  refine rxU 19 rfl (by kernel_rfl) rfl (gOffU 0 rfl rfl rfl) (kA rfl) (by decide) ?_
                  refine rxU 20 rfl (by kernel_rfl) rfl (gOffU 0 rfl rfl rfl) (kA rfl) (by decide) ?_
                  refine rxU 21 rfl (by kernel_rfl) rfl (gOff 1 rfl rfl rfl (by decide)) (kM [false, true, true, true, true, true, true, true, true] rfl rfl) (by decide) ?_
                  refine rxV 22 rfl (by kernel_rfl) rfl (fun _ _ => rfl) (fun _ _ hF => opPickF rfl (hF.ev 0 rfl) rfl) (kM [false, true, true, true, true, true, true, true] rfl rfl) (by decide) (v := (.bool false)) ?_
                  refine rxEnd (by kernel_rfl) ?_
                  refine qxThen ?_
                  refine cxF 0 rfl rfl ?_
                  refine cxSkip ?_
                  refine qxThen ?_
                  refine cxReg ?_
                  refine pxV (v := (.pointer (some ⟨g272, 0, none⟩))) (fun _ _ hF => opMove rfl (hF.ev 1 rfl)) rfl (fun _ _ => rfl) (kM [false, true, true, true, true, true, true, true] rfl rfl) (by decide) ?_
                  refine pxM hH (fun _ hF => Does.small (load_c g272 (vtOf g3 (D'.crash keep).now) A277 c279 (Nat.le_trans (kept_le (gd := g3) (by omega)) (by decide))) (fun w => opCall rfl Try.func12 rfl rfl (Evs.cons (v := (.pointer (some ⟨g272, 0, none⟩))) (hF.ev 0 rfl) Evs.nil) w)) ⟨hH.blk 1 rfl, (hO281.vuAt (hH.has 2 rfl))⟩ rfl (fun _ _ => rfl) (kM [false, true, true, true, true, true, true, true] rfl rfl) (by decide) ?_
                  clear hH
                  rintro v320 E316 w hO317 hH
                  replace hH : HH w0 [] [E273, [bl g272 61 #[(.pointer (some ⟨(vtOf g3 (D'.crash keep).now).gd, 0, none⟩)), (.int .i64 ((((vtOf g3 (D'.crash keep).now).half) : Nat) : Int)), (.int .i64 ((((vtOf g3 (D'.crash keep).now).sector) : Nat) : Int)), (.int .u64 ((((vtOf g3 (D'.crash keep).now).number) : Nat) : Int)), (.int .u64 ((((vtOf g3 (D'.crash keep).now).size) : Nat) : Int)), (.int .i64 ((((vtOf g3 (D'.crash keep).now).area) : Nat) : Int)), (.slice A277 ((vtOf g3 (D'.crash keep).now).kept.length) c279), (.bool ((vtOf g3 (D'.crash keep).now).over))]], E280, [bl gv 61 #[(.pointer (some ⟨({ (vtOf g3 D.now) with over := true } : Vt).gd, 0, none⟩)), (.int .i64 (((({ (vtOf g3 D.now) with over := true } : Vt).half) : Nat) : Int)), (.int .i64 (((({ (vtOf g3 D.now) with over := true } : Vt).sector) : Nat) : Int)), (.int .u64 (((({ (vtOf g3 D.now) with over := true } : Vt).number) : Nat) : Int)), (.int .u64 (((({ (vtOf g3 D.now) with over := true } : Vt).size) : Nat) : Int)), (.int .i64 (((({ (vtOf g3 D.now) with over := true } : Vt).area) : Nat) : Int)), (.slice A258 (({ (vtOf g3 D.now) with over := true } : Vt).kept.length) c260), (.bool (({ (vtOf g3 D.now) with over := true } : Vt).over))]], E261, Ew, E264, E283, E316] w := hH
                  obtain ⟨A318, c319, rfl⟩ := hO317.slice
                  refine pxV (v := (.slice A318 ((vtOf g3 (D'.crash keep).now).kept.length) c319)) (fun _ _ hF => opAssign rfl (hF.ev 0 rfl)) rfl (fun _ _ => rfl) (kM [false, true, true, true, true, true, true, true] rfl rfl) (by decide) ?_
                  refine pxEnd ?_
                  refine qxInN ?_
                  refine qxThen ?_
                  refine cxReg ?_
                  refine pxV (v := (.int .i64 (((i + 1) : Nat) : Int))) (fun _ _ hF => opAdd rfl (hF.ev 2 rfl) rfl (wI (by omega) (by omega) (by omega))) rfl (fun _ _ => rfl) (kM [true, true, false, true, true, true, true, true] rfl rfl) (by decide) ?_
                  refine pxV (v := (.int .i64 (((i + 1) : Nat) : Int))) (fun _ _ hF => opMove rfl (hF.ev 0 rfl)) rfl (fun _ _ => rfl) (kM [false, true, true, true, true, true, true, true] rfl rfl) (by decide) ?_
                  refine pxEnd ?_
                  obtain ⟨E322, hE323, hD324⟩ : ∃ E, E = ([[bl g272 61 #[(.pointer (some ⟨(vtOf g3 (D'.crash keep).now).gd, 0, none⟩)), (.int .i64 ((((vtOf g3 (D'.crash keep).now).half) : Nat) : Int)), (.int .i64 ((((vtOf g3 (D'.crash keep).now).sector) : Nat) : Int)), (.int .u64 ((((vtOf g3 (D'.crash keep).now).number) : Nat) : Int)), (.int .u64 ((((vtOf g3 (D'.crash keep).now).size) : Nat) : Int)), (.int .i64 ((((vtOf g3 (D'.crash keep).now).area) : Nat) : Int)), (.slice A277 ((vtOf g3 (D'.crash keep).now).kept.length) c279), (.bool ((vtOf g3 (D'.crash keep).now).over))]], E280] : List Hl).flatten ∧ VtAt g272 (vtOf g3 (D'.crash keep).now) E := ⟨_, rfl, hV276.ok, _, _, _, _, rfl, hO281⟩
                  replace hH : HH w0 [] [E273, E322, [bl gv 61 #[(.pointer (some ⟨({ (vtOf g3 D.now) with over := true } : Vt).gd, 0, none⟩)), (.int .i64 (((({ (vtOf g3 D.now) with over := true } : Vt).half) : Nat) : Int)), (.int .i64 (((({ (vtOf g3 D.now) with over := true } : Vt).sector) : Nat) : Int)), (.int .u64 (((({ (vtOf g3 D.now) with over := true } : Vt).number) : Nat) : Int)), (.int .u64 (((({ (vtOf g3 D.now) with over := true } : Vt).size) : Nat) : Int)), (.int .i64 (((({ (vtOf g3 D.now) with over := true } : Vt).area) : Nat) : Int)), (.slice A258 (({ (vtOf g3 D.now) with over := true } : Vt).kept.length) c260), (.bool (({ (vtOf g3 D.now) with over := true } : Vt).over))]], E261, Ew, E264, E283, E316] w := hH.cast (by rw [hE323]; simp)
                  replace hH : HH w0 [] [E273, E322, E316] w := HH.sel hH [0, 1, 7] rfl (by decide)
                  exact qxRound (i + 1, (D'.crash keep), E273, E322, g272, (vtOf g3 (D'.crash keep).now).kept, A318, c319, E316) ⟨hH, (show (i + 1) ≤ raws.length from (by omega)), hD275, hD324, hR2, hl2, rfl, (show (vtOf g3 (D'.crash keep).now).number ≤ (i + 1) from (by omega)), (.inr hO317)⟩ (by omega) (slots_at [0, 3, 1, 2, 4, 5, 6, 7] rfl)
      · refine cxExit ?_
        refine qxThenE ?_
        refine qxThenE ?_
        refine qxInE ?_
        refine qxThen ?_
        refine cxSeq ?_
        refine cxReg ?_
        refine pxV (v := (.bool true)) (fun _ _ hF => opAssign rfl rfl) rfl (fun _ _ => rfl) (kM [false, false, false, false, false, false, false, false, false] rfl rfl) (by decide) ?_
        refine pxEnd ?_
        refine qxThen ?_
        refine cxRet ?_
        refine qxRet1 0 rfl rfl ?_
        exact ⟨rfl, HH.toBelow hH⟩
end Go.Proofs.Ytglplhbhpaegeaa
