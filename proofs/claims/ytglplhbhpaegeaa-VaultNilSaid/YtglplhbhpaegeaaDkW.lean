/- The program's disk: Write, Read (mkdkw.py writes this text). -/
import Derived.Test.YtglplhbhpaegeaaDk
namespace Go.Proofs.Ytglplhbhpaegeaa
open Go Go.RowKit
set_option maxRecDepth 100000

/-- The whole sectors of some bytes. -/
def secs (b : List UInt8) : List Sec := (List.range (b.length / 64)).map fun i => cutF b (i * 64)
theorem secs_len (b : List UInt8) : (secs b).length = b.length / 64 := by simp [secs]
theorem secs_get {b : List UInt8} {i : Nat} (h : i < b.length / 64) : (secs b)[i]? = some (cutF b (i * 64)) := by simp [secs, h]
def Dk.write (D : Dk) (at_ : Nat) : List Sec → Bool × Dk
  | [] => (true, D)
  | s :: r => if D.lasts.1 = true then (D.lasts.2.put at_ s).write (at_ + 1) r else (false, D.lasts.2)
/-- Are there n sectors from here on? -/
def Dk.has (D : Dk) (at_ n : Int) : Prop := 0 ≤ at_ ∧ 0 ≤ n ∧ n ≤ (D.now.length : Int) - at_
instance (D : Dk) (at_ n : Int) : Decidable (D.has at_ n) := by unfold Dk.has; infer_instance
def Dk.writes (D : Dk) (at_ : Int) (b : List UInt8) : Nat × Dk :=
  if b.length % 64 ≠ 0 then (1, D) else if ¬ D.has at_ ((b.length / 64 : Nat) : Int) then (1, D) else if D.down = true then (8, D) else (if (D.write at_.toNat (secs b)).1 = true then 0 else 8, (D.write at_.toNat (secs b)).2)
theorem lasts_now (D : Dk) : D.lasts.2.now = D.now := by
  unfold Dk.lasts
  split
  · rfl
  · split <;> rfl
theorem write_step {D : Dk} {p i : Nat} {b : List UInt8} (hi : i < b.length / 64) (h : D.lasts.1 = true) : D.write (p + i) ((secs b).drop i) = (D.lasts.2.put (p + i) (cutF b (i * 64))).write (p + (i + 1)) ((secs b).drop (i + 1)) := by
  rw [drop_at (secs_get hi)]
  show (if _ then _ else _) = _
  rw [if_pos h]; rfl
theorem write_stop {D : Dk} {p i : Nat} {b : List UInt8} (hi : i < b.length / 64) (h : D.lasts.1 = false) : D.write (p + i) ((secs b).drop i) = (false, D.lasts.2) := by
  rw [drop_at (secs_get hi)]
  show (if _ then _ else _) = _
  rw [if_neg (by rw [h]; simp)]
theorem write_done {D : Dk} {p i : Nat} {b : List UInt8} (hi : ¬ i < b.length / 64) : D.write (p + i) ((secs b).drop i) = (true, D) := by
  rw [List.drop_eq_nil_of_le (by rw [secs_len]; omega)]; rfl

set_option maxHeartbeats 8000000 in
theorem write_c (g : Nat) (D : Dk) (E : Hl) (hD : DkAt g D E) (at_ : Int) (b : List UInt8) (h1 : -9223372036854775808 ≤ at_) (h2 : at_ ≤ 9223372036854775807) (A : Option Addr) (c : Nat) (hA : Off A b.length (bks E)) (hb : b.length ≤ 140737488355328) (hU : D.uns.length ≤ 900000) (hsz : D.now.length ≤ 4000) : Does Try.prog 22 #[(.pointer (some ⟨g, 0, none⟩)), (.int .i64 (at_)), (.slice A b.length c)] E (fun w => Vu cByte w A b.length c b) (fun v E' => v = .int .i64 ((D.writes at_ b).1 : Int) ∧ DkAt g (D.writes at_ b).2 E') := by
  refine does_of (fn := Try.f22) Try.func22 rfl Try.ntmps22 (Nat.le_of_ble_eq_true rfl) rfl ?_
  intro w0 hH hR
  refine cxSeq ?_
  refine cxReg ?_
  refine pxV (v := (.int .i64 0)) (fun _ _ hF => opAssign rfl rfl) rfl (fun _ _ => rfl) (kA rfl) (by decide) ?_
  refine pxEnd ?_
  refine qxThen ?_
  refine cxSeq ?_
  refine cxReg ?_
  refine pxV (v := (.slice A b.length c)) (fun _ _ hF => opMove rfl (hF.ev 3 rfl)) rfl (fun _ _ => rfl) (kM [false, true, true, true] rfl rfl) (by decide) ?_
  refine pxV (v := (.int .i64 (((b.length) : Nat) : Int))) (fun _ _ hF => opLen (e := 5) rfl (by kernel_rfl) (hF.ev 0 rfl)) rfl (fun _ _ => rfl) (kM [false, true, true, true] rfl rfl) (by decide) ?_
  refine pxV (v := (.int .i64 (((b.length / 64) : Nat) : Int))) (fun _ _ hF => opQuo (z := ((b.length / 64 : Nat) : Int)) rfl (hF.ev 0 rfl) rfl (by omega) (wI quoN (by omega) (by omega))) rfl (fun _ _ => rfl) (kM [false, true, true, true] rfl rfl) (by decide) ?_
  refine pxV (v := (.int .i64 (((b.length / 64) : Nat) : Int))) (fun _ _ hF => opAssign rfl (hF.ev 0 rfl)) rfl (fun _ _ => rfl) (kM [false, true, true, true] rfl rfl) (by decide) ?_
  refine pxEnd ?_
  refine qxThen ?_
  refine cxSeq ?_
  refine cxSeq ?_
  refine cxReg ?_
  refine pxV (v := (.pointer (some ⟨g, 0, none⟩))) (fun _ _ hF => opMove rfl (hF.ev 1 rfl)) rfl (fun _ _ => rfl) (kA rfl) (by decide) ?_
  refine pxV (v := (.bool false)) (fun _ _ hF => opEqNil (e := 55) rfl (by kernel_rfl) (hF.ev 0 rfl) rfl rfl) rfl (fun _ _ => rfl) (kM [false, true, true, true, true] rfl rfl) (by decide) ?_
  refine pxV (v := (.bool false)) (fun _ _ hF => opMove rfl (hF.ev 0 rfl)) rfl (fun _ _ => rfl) (kM [false, true, true, true, true] rfl rfl) (by decide) ?_
  refine pxV (v := (.slice A b.length c)) (fun _ _ hF => opMove rfl (hF.ev 4 rfl)) rfl (gOn 0 rfl rfl rfl (by decide)) (kA rfl) (by decide) ?_
  refine pxV (v := (.int .i64 (((b.length) : Nat) : Int))) (fun _ _ hF => opLen (e := 5) rfl (by kernel_rfl) (hF.ev 0 rfl)) rfl (gOn 1 rfl rfl rfl (by decide)) (kM [false, true, true, true, true, true] rfl rfl) (by decide) ?_
  refine pxV (v := (.int .i64 (((b.length % 64) : Nat) : Int))) (fun _ _ hF => opRem (z := ((b.length % 64 : Nat) : Int)) rfl (hF.ev 0 rfl) rfl (by omega) remN) rfl (gOn 1 rfl rfl rfl (by decide)) (kM [false, true, true, true, true, true] rfl rfl) (by decide) ?_
  refine pxV (v := (.bool (decide (b.length % 64 ≠ 0)))) (fun _ _ hF => opNeI rfl (hF.ev 0 rfl) rfl (dc (by omega))) rfl (gOn 1 rfl rfl rfl (by decide)) (kM [false, true, true, true, true, true] rfl rfl) (by decide) ?_
  refine pxV (v := (.bool (decide (b.length % 64 ≠ 0)))) (fun _ _ hF => opPickF rfl (hF.ev 1 rfl) (hF.ev 0 rfl)) rfl (fun _ _ => rfl) (kM [false, false, true, true, true, true] rfl rfl) (by decide) ?_
  refine pxV (v := (.bool (decide (b.length % 64 ≠ 0)))) (fun _ _ hF => opMove rfl (hF.ev 0 rfl)) rfl (fun _ _ => rfl) (kM [false, true, true, true, true] rfl rfl) (by decide) ?_
  refine pxSplitP 0 rfl (l1 := [(20, (.bool true)), (7, (.int .i64 (((b.length / 64) : Nat) : Int))), (0, (.pointer (some ⟨g, 0, none⟩))), (1, (.int .i64 (at_))), (2, (.slice A b.length c))]) (l2 := [(20, (.bool false)), (7, (.int .i64 (((b.length / 64) : Nat) : Int))), (0, (.pointer (some ⟨g, 0, none⟩))), (1, (.int .i64 (at_))), (2, (.slice A b.length c))]) rfl rfl (fun hg1 => ?_) (fun hg1 => ?_)
  · refine pxU rfl (gOff 0 rfl rfl rfl (by decide)) (kA rfl) (by decide) ?_
    refine pxU rfl (gOff 0 rfl rfl rfl (by decide)) (kA rfl) (by decide) ?_
    refine pxU rfl (gOff 0 rfl rfl rfl (by decide)) (kA rfl) (by decide) ?_
    refine pxU rfl (gOff 0 rfl rfl rfl (by decide)) (kA rfl) (by decide) ?_
    refine pxU rfl (gOff 0 rfl rfl rfl (by decide)) (kA rfl) (by decide) ?_
    refine pxV (v := (.bool true)) (fun _ _ hF => opPickT rfl (hF.ev 0 rfl) rfl) rfl (fun _ _ => rfl) (kM [false, true, true, true, true] rfl rfl) (by decide) ?_
    refine pxEnd ?_
    refine qxThen ?_
    refine cxT 0 rfl rfl ?_
    refine cxSeq ?_
    refine cxReg ?_
    refine pxV (v := (.int .i64 1)) (fun _ _ hF => opAssign rfl rfl) rfl (fun _ _ => rfl) (kM [false, false, false, false, false] rfl rfl) (by decide) ?_
    refine pxEnd ?_
    refine qxThen ?_
    refine cxRet ?_
    refine qxThenR ?_
    refine qxRet1 0 rfl rfl ?_
    have he : D.writes at_ b = (1, D) := by unfold Dk.writes; rw [if_pos hg1]
    exact ⟨_, _, rfl, ⟨by rw [he]; rfl, by rw [he]; exact hD⟩, hH.out1 [true] rfl⟩
  · refine pxV (v := (.pointer (some ⟨g, 0, none⟩))) (fun _ _ hF => opMove rfl (hF.ev 2 rfl)) rfl (gOn 0 rfl rfl rfl (by decide)) (kA rfl) (by decide) ?_
    refine pxV (v := (.int .i64 (at_))) (fun _ _ hF => opMove rfl (hF.ev 4 rfl)) rfl (gOn 1 rfl rfl rfl (by decide)) (kA rfl) (by decide) ?_
    refine pxV (v := (.int .i64 (((b.length / 64) : Nat) : Int))) (fun _ _ hF => opMove rfl (hF.ev 3 rfl)) rfl (gOn 2 rfl rfl rfl (by decide)) (kA rfl) (by decide) ?_
    refine pxE 0 hH rfl (fun _ hF => Does.small (has_c g D E hD (at_) (((b.length / 64) : Nat) : Int) (by omega) (by omega)) (fun w => opCall rfl Try.func34 rfl rfl (Evs.cons (v := (.pointer (some ⟨g, 0, none⟩))) (hF.ev 2 rfl) (Evs.cons (v := (.int .i64 (at_))) (hF.ev 1 rfl) (Evs.cons (v := (.int .i64 (((b.length / 64) : Nat) : Int))) (hF.ev 0 rfl) Evs.nil))) w)) trivial rfl (gOn 3 rfl rfl rfl (by decide)) (kM [false, false, false, true, true, true, true, true] rfl rfl) (by decide) ?_
    clear hH
    rintro _ E2 w ⟨rfl, hD⟩ hH
    replace hH : HH w0 (bks E) [E2] w := hH
    refine pxV (v := (.bool (decide (¬ (0 ≤ (at_) ∧ 0 ≤ (((b.length / 64) : Nat) : Int) ∧ (((b.length / 64) : Nat) : Int) ≤ ((D.now.length : Nat) : Int) - (at_)))))) (fun _ _ hF => opNot rfl (hF.ev 0 rfl) decide_not.symm) rfl (gOn 1 rfl rfl rfl (by decide)) (kM [false, true, true, true, true, true] rfl rfl) (by decide) ?_
    refine pxV (v := (.bool (decide (¬ (0 ≤ (at_) ∧ 0 ≤ (((b.length / 64) : Nat) : Int) ∧ (((b.length / 64) : Nat) : Int) ≤ ((D.now.length : Nat) : Int) - (at_)))))) (fun _ _ hF => opPickF rfl (hF.ev 1 rfl) (hF.ev 0 rfl)) rfl (fun _ _ => rfl) (kM [false, false, true, true, true, true] rfl rfl) (by decide) ?_
    refine pxEnd ?_
    refine qxThen ?_
    refine cxP 0 rfl rfl (fun hc3 => ?_) (fun hc3 => ?_)
    · refine cxSeq ?_
      refine cxReg ?_
      refine pxV (v := (.int .i64 1)) (fun _ _ hF => opAssign rfl rfl) rfl (fun _ _ => rfl) (kM [false, false, false, false, false] rfl rfl) (by decide) ?_
      refine pxEnd ?_
      refine qxThen ?_
      refine cxRet ?_
      refine qxThenR ?_
      refine qxRet1 0 rfl rfl ?_
      have he : D.writes at_ b = (1, D) := by unfold Dk.writes; rw [if_neg hg1, if_pos (show ¬ D.has at_ ((b.length / 64 : Nat) : Int) from hc3)]
      exact ⟨_, _, rfl, ⟨by rw [he]; rfl, by rw [he]; exact hD⟩, hH.out1 [true] rfl⟩
    · refine cxSkip ?_
      refine qxThen ?_
      refine cxSeq ?_
      refine cxSeq ?_
      refine cxReg ?_
      refine pxV (v := (.pointer (some ⟨g, 0, none⟩))) (fun _ _ hF => opMove rfl (hF.ev 2 rfl)) rfl (fun _ _ => rfl) (kM [false, true, true, true, true] rfl rfl) (by decide) ?_
      refine pxV (v := (.pointer (some ⟨g, 0, none⟩))) (fun _ _ hF => opNilCheck rfl (hF.ev 0 rfl)) rfl (fun _ _ => rfl) (kM [false, true, true, true, true] rfl rfl) (by decide) ?_
      refine pxV (v := (.pointer (some ⟨g, 3, none⟩))) (fun _ _ hF => opField (off := 3) rfl (hF.ev 0 rfl) (by kernel_rfl)) rfl (fun _ _ => rfl) (kM [false, true, true, true, true] rfl rfl) (by decide) ?_
      obtain ⟨A4, n5, c6, E7, A8, n9, c10, E11, A12, n13, c14, E15, hE19, hO16, hO17, hO18⟩ := hD.at'
      obtain rfl : n5 = D.now.length := hO16.len
      obtain rfl : n9 = D.syn.length := hO17.len
      obtain rfl : n13 = D.uns.length := hO18.len
      replace hH : HH w0 (bks E) [[bl g 55 #[(.slice A4 D.now.length c6), (.slice A8 D.syn.length c10), (.slice A12 D.uns.length c14), (.bool (D.down)), (.bool (D.fused)), (.int .i64 (D.left))]], E7, E11, E15] w := hH.cast (by rw [hE19]; simp)
      refine pxS (v := (.bool (D.down))) (fun w => w.heap[g]? = some (.cells #[(.slice A4 D.now.length c6), (.slice A8 D.syn.length c10), (.slice A12 D.uns.length c14), (.bool (D.down)), (.bool (D.fused)), (.int .i64 (D.left))] 55 (0, 0))) (hH.blk 0 rfl) (fun _ _ hF hS => opLoadK hS rfl (hF.ev 0 rfl) (by kernel_rfl) rfl) rfl (fun _ _ => rfl) (kM [false, true, true, true, true] rfl rfl) (by decide) ?_
      refine pxEnd ?_
      refine qxThen ?_
      refine cxB 0 rfl rfl (fun hc20 => ?_) (fun hc20 => ?_)
      · refine cxSeq ?_
        refine cxReg ?_
        refine pxV (v := (.int .i64 8)) (fun _ _ hF => opAssign rfl rfl) rfl (fun _ _ => rfl) (kM [false, false, false, false, false] rfl rfl) (by decide) ?_
        refine pxEnd ?_
        refine qxThen ?_
        refine cxRet ?_
        refine qxThenR ?_
        refine qxRet1 0 rfl rfl ?_
        obtain ⟨E21, hE22, hD⟩ : ∃ E, E = ([[bl g 55 #[(.slice A4 D.now.length c6), (.slice A8 D.syn.length c10), (.slice A12 D.uns.length c14), (.bool (D.down)), (.bool (D.fused)), (.int .i64 (D.left))]], E7, E11, E15] : List Hl).flatten ∧ DkAt g D E := ⟨_, rfl, hD.ok, _, _, _, _, _, _, _, _, _, _, _, _, rfl, hO16, hO17, hO18⟩
        replace hH : HH w0 (bks E) [E21] w := hH.cast (by rw [hE22]; simp)
        have he : D.writes at_ b = (8, D) := by unfold Dk.writes; rw [if_neg hg1, if_neg (show ¬ ¬ D.has at_ ((b.length / 64 : Nat) : Int) from hc3), if_pos hc20]
        exact ⟨_, _, rfl, ⟨by rw [he]; rfl, by rw [he]; exact hD⟩, hH.out1 [true] rfl⟩
      · refine cxSkip ?_
        refine qxThen ?_
        refine cxSeq ?_
        refine cxSeq ?_
        refine cxReg ?_
        refine pxV (v := (.int .i64 (((b.length / 64) : Nat) : Int))) (fun _ _ hF => opMove rfl (hF.ev 1 rfl)) rfl (fun _ _ => rfl) (kM [false, false, true, true, true] rfl rfl) (by decide) ?_
        refine pxV (v := (.int .i64 0)) (fun _ _ hF => opMove rfl rfl) rfl (fun _ _ => rfl) (kA rfl) (by decide) ?_
        refine pxEnd ?_
        refine qxThen ?_
        refine cxBlock ?_
        obtain ⟨E23, hE24, hD⟩ : ∃ E, E = ([[bl g 55 #[(.slice A4 D.now.length c6), (.slice A8 D.syn.length c10), (.slice A12 D.uns.length c14), (.bool (D.down)), (.bool (D.fused)), (.int .i64 (D.left))]], E7, E11, E15] : List Hl).flatten ∧ DkAt g D E := ⟨_, rfl, hD.ok, _, _, _, _, _, _, _, _, _, _, _, _, rfl, hO16, hO17, hO18⟩
        replace hH : HH w0 (bks E) [E23] w := hH.cast (by rw [hE24]; simp)
        refine cxLoop (σ := Nat × Dk × Hl) (fun x => [(32, (.int .i64 (((x.1) : Nat) : Int))), (31, (.int .i64 (((b.length / 64) : Nat) : Int))), (2, (.slice A b.length c)), (1, (.int .i64 (at_))), (0, (.pointer (some ⟨g, 0, none⟩)))]) (fun x w => HH w0 (bks E) [x.2.2] w ∧ (x.1 ≤ b.length / 64) ∧ (DkAt g x.2.1 x.2.2) ∧ (D.write at_.toNat (secs b) = x.2.1.write (at_.toNat + x.1) ((secs b).drop x.1)) ∧ (x.2.1.now.length = D.now.length) ∧ (x.2.1.uns.length ≤ D.uns.length + x.1)) (fun x => b.length / 64 - x.1) (0, D, E23) ⟨hH, (Nat.zero_le _), hD, rfl, rfl, (Nat.le_refl _)⟩ (slots_at [0, 1, 4, 3, 2] rfl) ?_
        clear hH
        rintro ⟨i, D', E'⟩ w ⟨hH, hi, hD', hw, hl, hu⟩
        change CX _ _ _ _ [(32, (.int .i64 (((i) : Nat) : Int))), (31, (.int .i64 (((b.length / 64) : Nat) : Int))), (2, (.slice A b.length c)), (1, (.int .i64 (at_))), (0, (.pointer (some ⟨g, 0, none⟩)))] _
        replace hH : HH w0 (bks E) [E'] w := hH
        replace hi : i ≤ b.length / 64 := hi
        replace hD' : DkAt g D' E' := hD'
        replace hw : D.write at_.toNat (secs b) = D'.write (at_.toNat + i) ((secs b).drop i) := hw
        replace hl : D'.now.length = D.now.length := hl
        replace hu : D'.uns.length ≤ D.uns.length + i := hu
        refine cxSeq ?_
        refine cxReg ?_
        refine pxV (v := (.bool (decide (i < b.length / 64)))) (fun _ _ hF => opLss rfl (hF.ev 0 rfl) (hF.ev 1 rfl) (dc (by omega))) rfl (fun _ _ => rfl) (kA rfl) (by decide) ?_
        refine pxEnd ?_
        refine qxThen ?_
        refine cxSeq ?_
        refine cxP 0 rfl rfl (fun hc25 => ?_) (fun hc25 => ?_)
        · refine cxSkip ?_
          refine qxThen ?_
          refine cxSeq ?_
          refine cxBlock ?_
          refine cxSeq ?_
          refine cxReg ?_
          refine pxV (v := (.int .i64 (((i) : Nat) : Int))) (fun _ _ hF => opMove rfl (hF.ev 1 rfl)) rfl (fun _ _ => rfl) (kM [false, true, true, true, true, true] rfl rfl) (by decide) ?_
          refine pxV (v := (.int .i64 (((i) : Nat) : Int))) (fun _ _ hF => opAssign rfl (hF.ev 0 rfl)) rfl (fun _ _ => rfl) (kM [false, true, true, true, true, true] rfl rfl) (by decide) ?_
          refine pxEnd ?_
          refine qxThen ?_
          refine cxSeq ?_
          refine cxSeq ?_
          refine cxReg ?_
          refine pxV (v := (.pointer (some ⟨g, 0, none⟩))) (fun _ _ hF => opMove rfl (hF.ev 5 rfl)) rfl (fun _ _ => rfl) (kA rfl) (by decide) ?_
          refine pxE 0 hH rfl (fun _ hF => Does.small (lasts_c g D' E' hD' ) (fun w => opCall rfl Try.func35 rfl rfl (Evs.cons (v := (.pointer (some ⟨g, 0, none⟩))) (hF.ev 0 rfl) Evs.nil) w)) trivial rfl (fun _ _ => rfl) (kM [false, true, true, true, true, true, true] rfl rfl) (by decide) ?_
          clear hH
          rintro _ E26 w ⟨rfl, hD⟩ hH
          replace hH : HH w0 (bks E) [E26] w := hH
          refine pxV (v := (.bool (!(D'.lasts.1)))) (fun _ _ hF => opNot rfl (hF.ev 0 rfl) rfl) rfl (fun _ _ => rfl) (kM [false, true, true, true, true, true, true] rfl rfl) (by decide) ?_
          refine pxEnd ?_
          refine qxThen ?_
          refine cxB 0 rfl rfl (fun hc27 => ?_) (fun hc27 => ?_)
          · replace hc27 : D'.lasts.1 = false := by simpa using hc27
            refine cxSeq ?_
            refine cxReg ?_
            refine pxV (v := (.int .i64 8)) (fun _ _ hF => opAssign rfl rfl) rfl (fun _ _ => rfl) (kM [false, false, false, false, false, false, false] rfl rfl) (by decide) ?_
            refine pxEnd ?_
            refine qxThen ?_
            refine cxRet ?_
            refine qxThenR ?_
            refine qxInR ?_
            refine qxThenR ?_
            refine qxThenR ?_
            refine qxInR ?_
            refine qxThenR ?_
            refine qxRet1 0 rfl rfl ?_
            have he : D.writes at_ b = (8, D'.lasts.2) := by unfold Dk.writes; rw [if_neg hg1, if_neg (show ¬ ¬ D.has at_ ((b.length / 64 : Nat) : Int) from hc3), if_neg (by simp [hc20]), hw, write_stop (by omega) hc27] ; rfl
            exact ⟨_, _, rfl, ⟨by rw [he]; rfl, by rw [he]; exact hD⟩, hH.out1 [true] rfl⟩
          · replace hc27 : D'.lasts.1 = true := by simpa using hc27
            refine cxSkip ?_
            refine qxThen ?_
            refine cxReg ?_
            refine pxV (v := (.pointer (some ⟨g, 0, none⟩))) (fun _ _ hF => opMove rfl (hF.ev 6 rfl)) rfl (fun _ _ => rfl) (kM [false, true, true, true, true, true, true] rfl rfl) (by decide) ?_
            refine pxV (v := (.int .i64 (at_))) (fun _ _ hF => opMove rfl (hF.ev 5 rfl)) rfl (fun _ _ => rfl) (kA rfl) (by decide) ?_
            refine pxV (v := (.int .i64 (((i) : Nat) : Int))) (fun _ _ hF => opMove rfl (hF.ev 2 rfl)) rfl (fun _ _ => rfl) (kA rfl) (by decide) ?_
            refine pxV (v := (.int .i64 (((at_.toNat + i) : Nat) : Int))) (fun _ _ hF => opAdd rfl (hF.ev 1 rfl) (hF.ev 0 rfl) (wI (by omega) (by omega) (by omega))) rfl (fun _ _ => rfl) (kM [false, false, true, true, true, true, true, true, true] rfl rfl) (by decide) ?_
            refine pxV (v := (.slice A b.length c)) (fun _ _ hF => opMove rfl (hF.ev 5 rfl)) rfl (fun _ _ => rfl) (kA rfl) (by decide) ?_
            refine pxV (v := (.int .i64 (((i) : Nat) : Int))) (fun _ _ hF => opMove rfl (hF.ev 3 rfl)) rfl (fun _ _ => rfl) (kM [true, true, true, false, true, true, true, true, true] rfl rfl) (by decide) ?_
            refine pxV (v := (.int .i64 (((i * 64) : Nat) : Int))) (fun _ _ hF => opMul rfl (hF.ev 0 rfl) rfl (wI (by omega) (by omega) (by omega))) rfl (fun _ _ => rfl) (kM [false, true, true, true, true, true, true, true, true] rfl rfl) (by decide) ?_
            obtain ⟨b28, off29, rfl, hL30, hb31, hR32⟩ := hR.blk (by decide) hA (by omega)
            have := hR.cap
            refine pxV (v := (.slice (some ⟨b28, off29 + (i * 64) * 1, none⟩) (b.length - (i * 64)) (c - (i * 64)))) (fun _ _ hF => opSlcL (k := i * 64) (e := 5) (sz := 1) rfl (by kernel_rfl) (by kernel_rfl) (hF.ev 1 rfl) (hF.ev 0 rfl) rfl (by omega) (by omega)) rfl (fun _ _ => rfl) (kM [false, false, true, true, true, true, true, true, true] rfl rfl) (by decide) ?_
            refine pxV (v := (.pointer (some ⟨b28, off29 + (i * 64) * 1, none⟩))) (fun _ _ hF => opToArray (m := 64) (e := 5) rfl (by kernel_rfl) (hF.ev 0 rfl) (by omega)) rfl (fun _ _ => rfl) (kM [false, true, true, true, true, true, true, true] rfl rfl) (by decide) ?_
            refine pxS (v := ((cArr 64).val (cutF b (i * 64)))) (fun w => HoldsL cByte w b28 off29 b) (hH.holdsL hL30 hb31 hR32) (fun _ _ hF hS => opLoadT (C := (cArr 64)) (y := (cutF b (i * 64))) rfl (hF.ev 0 rfl) (by kernel_rfl) (hS.arr (i * 64) 64 (by first | omega | (simp only [List.length_drop, List.length_take]; omega))) rfl) rfl (fun _ _ => rfl) (kM [false, true, true, true, true, true, true, true] rfl rfl) (by decide) ?_
            refine pxV (v := (cChg.val (at_.toNat + i, (cutF b (i * 64))))) (fun _ _ hF => opBuildP (cells := cChg.enc (at_.toNat + i, (cutF b (i * 64)))) rfl (EvP.cons (v := (.int .i64 (((at_.toNat + i) : Nat) : Int))) (hF.ev 1 rfl) (EvP.cons (v := ((cArr 64).val (cutF b (i * 64)))) (hF.ev 0 rfl) EvP.nil)) (built_pair (x := (at_.toNat + i, (cutF b (i * 64)))) (by kernel_rfl) rfl rfl) _) rfl (fun _ _ => rfl) (kM [false, false, true, true, true, true, true, true] rfl rfl) (by decide) ?_
            refine pxE 0 hH rfl (fun _ hF => Does.small (put_c g D'.lasts.2 E26 hD (at_.toNat + i) (cutF b (i * 64)) (by rw [lasts_now, hl]; omega) (by rw [lasts_uns]; omega)) (fun w => opCall rfl Try.func36 rfl rfl (Evs.cons (v := (.pointer (some ⟨g, 0, none⟩))) (hF.ev 1 rfl) (Evs.cons (v := (cChg.val (at_.toNat + i, (cutF b (i * 64))))) (hF.ev 0 rfl) Evs.nil)) w)) trivial rfl (fun _ _ => rfl) (kM [false, false, true, true, true, true, true] rfl rfl) (by decide) ?_
            clear hH
            rintro _ E33 w ⟨rfl, hD⟩ hH
            replace hH : HH w0 (bks E) [E33] w := hH
            refine pxEnd ?_
            refine qxInN ?_
            refine qxThen ?_
            refine cxReg ?_
            refine pxV (v := (.int .i64 (((i + 1) : Nat) : Int))) (fun _ _ hF => opAdd rfl (hF.ev 1 rfl) rfl (wI (by omega) (by omega) (by omega))) rfl (fun _ _ => rfl) (kM [false, false, true, true, true, true] rfl rfl) (by decide) ?_
            refine pxV (v := (.int .i64 (((i + 1) : Nat) : Int))) (fun _ _ hF => opMove rfl (hF.ev 0 rfl)) rfl (fun _ _ => rfl) (kM [false, true, true, true, true] rfl rfl) (by decide) ?_
            refine pxEnd ?_
            exact qxRound (i + 1, D'.lasts.2.put (at_.toNat + i) (cutF b (i * 64)), E33) ⟨hH, (show (i + 1) ≤ b.length / 64 from (by omega)), hD, (show D.write at_.toNat (secs b) = (D'.lasts.2.put (at_.toNat + i) (cutF b (i * 64))).write (at_.toNat + (i + 1)) ((secs b).drop (i + 1)) from (by rw [hw, write_step (by omega) hc27])), (by show (List.set _ _ _).length = _; rw [List.length_set, lasts_now]; exact hl), (show (D'.lasts.2.put (at_.toNat + i) (cutF b (i * 64))).uns.length ≤ D.uns.length + (i + 1) from (by show (_ ++ [_]).length ≤ _; rw [List.length_append, lasts_uns]; simp; omega))⟩ (by omega) (slots_at [0, 1, 2, 3, 4] rfl)
        · refine cxExit ?_
          refine qxThenE ?_
          refine qxThenE ?_
          refine qxInE ?_
          refine qxThen ?_
          refine cxSeq ?_
          refine cxReg ?_
          refine pxV (v := (.int .i64 0)) (fun _ _ hF => opAssign rfl rfl) rfl (fun _ _ => rfl) (kM [false, false, false, false, false, false] rfl rfl) (by decide) ?_
          refine pxEnd ?_
          refine qxThen ?_
          refine cxRet ?_
          refine qxRet1 0 rfl rfl ?_
          have he : D.writes at_ b = (0, D') := by unfold Dk.writes; rw [if_neg hg1, if_neg (show ¬ ¬ D.has at_ ((b.length / 64 : Nat) : Int) from hc3), if_neg (by simp [hc20]), hw, write_done (by omega)] ; rfl
          exact ⟨_, _, rfl, ⟨by rw [he]; rfl, by rw [he]; exact hD'⟩, hH.out1 [true] rfl⟩

/-- The bytes of sectors. -/
def unsec (l : List Sec) : List UInt8 := l.flatMap (lst 64)
theorem unsec_len (l : List Sec) : (unsec l).length = l.length * 64 := by
  induction l with
  | nil => rfl
  | cons a r ih => simp only [unsec, List.flatMap_cons, List.length_append, lst_len, List.length_cons] at ih ⊢; omega
theorem unsec_take {S : List Sec} {i : Nat} {x : Sec} (hx : S[i]? = some x) : unsec (S.take (i + 1)) = unsec (S.take i) ++ lst 64 x := by
  rw [List.take_add_one, hx]
  simp [unsec]
theorem read_step {L : List UInt8} {S : List Sec} {i : Nat} {x : Sec} (hx : S[i]? = some x) (hT : L.take (i * 64) = unsec (S.take i)) (hl : i * 64 + 64 ≤ L.length) :
    (L.take (i * 64) ++ (lst 64 x ++ L.drop (i * 64 + (lst 64 x).length))).take ((i + 1) * 64) = unsec (S.take (i + 1)) := by
  rw [unsec_take hx, ← hT, ← List.append_assoc]
  refine List.take_left' ?_
  rw [List.length_append, List.length_take, lst_len]; omega
def Dk.reads (D : Dk) (at_ n : Int) : Nat × List UInt8 :=
  if ¬ D.has at_ n then (1, []) else if D.down = true then (8, []) else (0, unsec ((D.now.take (at_.toNat + n.toNat)).drop at_.toNat))

set_option maxHeartbeats 8000000 in
theorem read_c (g : Nat) (D : Dk) (E : Hl) (hD : DkAt g D E) (at_ n : Int) (h1 : -9223372036854775808 ≤ at_) (h2 : at_ ≤ 9223372036854775807) (hsz : D.now.length ≤ 4000) : Does Try.prog 24 #[(.pointer (some ⟨g, 0, none⟩)), (.int .i64 (at_)), (.int .i64 (n))] E (fun _ => True) (fun v E' => ∃ s E1 E2, v = .tuple #[s, .int .i64 ((D.reads at_ n).1 : Int)] ∧ E' = ([E2, E1] : List Hl).flatten ∧ DkAt g D E2 ∧ OwnT cByte 5 s (D.reads at_ n).2 E1) := by
  refine does_of (fn := Try.f24) Try.func24 rfl Try.ntmps24 (Nat.le_of_ble_eq_true rfl) rfl ?_
  intro w0 hH hR
  refine cxSeq ?_
  refine cxReg ?_
  refine pxV (v := (.slice none 0 0)) (fun _ _ hF => opAssign rfl rfl) rfl (fun _ _ => rfl) (kA rfl) (by decide) ?_
  refine pxV (v := (.int .i64 0)) (fun _ _ hF => opAssign rfl rfl) rfl (fun _ _ => rfl) (kM [false, true, true, true] rfl rfl) (by decide) ?_
  refine pxEnd ?_
  refine qxThen ?_
  refine cxSeq ?_
  refine cxSeq ?_
  refine cxReg ?_
  refine pxV (v := (.pointer (some ⟨g, 0, none⟩))) (fun _ _ hF => opMove rfl (hF.ev 1 rfl)) rfl (fun _ _ => rfl) (kM [false, true, true, true] rfl rfl) (by decide) ?_
  refine pxV (v := (.bool false)) (fun _ _ hF => opEqNil (e := 55) rfl (by kernel_rfl) (hF.ev 0 rfl) rfl rfl) rfl (fun _ _ => rfl) (kM [false, true, true, true] rfl rfl) (by decide) ?_
  refine pxV (v := (.bool false)) (fun _ _ hF => opMove rfl (hF.ev 0 rfl)) rfl (fun _ _ => rfl) (kM [false, true, true, true] rfl rfl) (by decide) ?_
  refine pxV (v := (.pointer (some ⟨g, 0, none⟩))) (fun _ _ hF => opMove rfl (hF.ev 1 rfl)) rfl (gOn 0 rfl rfl rfl (by decide)) (kA rfl) (by decide) ?_
  refine pxV (v := (.int .i64 (at_))) (fun _ _ hF => opMove rfl (hF.ev 3 rfl)) rfl (gOn 1 rfl rfl rfl (by decide)) (kA rfl) (by decide) ?_
  refine pxV (v := (.int .i64 (n))) (fun _ _ hF => opMove rfl (hF.ev 5 rfl)) rfl (gOn 2 rfl rfl rfl (by decide)) (kA rfl) (by decide) ?_
  refine pxE 0 hH rfl (fun _ hF => Does.small (has_c g D E hD (at_) (n) (by omega) (by omega)) (fun w => opCall rfl Try.func34 rfl rfl (Evs.cons (v := (.pointer (some ⟨g, 0, none⟩))) (hF.ev 2 rfl) (Evs.cons (v := (.int .i64 (at_))) (hF.ev 1 rfl) (Evs.cons (v := (.int .i64 (n))) (hF.ev 0 rfl) Evs.nil))) w)) trivial rfl (gOn 3 rfl rfl rfl (by decide)) (kM [false, false, false, true, true, true, true] rfl rfl) (by decide) ?_
  clear hH
  rintro _ E1 w ⟨rfl, hD⟩ hH
  replace hH : HH w0 (bks E) [E1] w := hH
  refine pxV (v := (.bool (decide (¬ (0 ≤ (at_) ∧ 0 ≤ (n) ∧ (n) ≤ ((D.now.length : Nat) : Int) - (at_)))))) (fun _ _ hF => opNot rfl (hF.ev 0 rfl) decide_not.symm) rfl (gOn 1 rfl rfl rfl (by decide)) (kM [false, true, true, true, true] rfl rfl) (by decide) ?_
  refine pxV (v := (.bool (decide (¬ (0 ≤ (at_) ∧ 0 ≤ (n) ∧ (n) ≤ ((D.now.length : Nat) : Int) - (at_)))))) (fun _ _ hF => opPickF rfl (hF.ev 1 rfl) (hF.ev 0 rfl)) rfl (fun _ _ => rfl) (kM [false, false, true, true, true] rfl rfl) (by decide) ?_
  refine pxEnd ?_
  refine qxThen ?_
  refine cxP 0 rfl rfl (fun hc2 => ?_) (fun hc2 => ?_)
  · refine cxSeq ?_
    refine cxReg ?_
    refine pxV (v := (.slice none 0 0)) (fun _ _ hF => opAssign rfl rfl) rfl (fun _ _ => rfl) (kM [false, false, false, false] rfl rfl) (by decide) ?_
    refine pxV (v := (.int .i64 1)) (fun _ _ hF => opAssign rfl rfl) rfl (fun _ _ => rfl) (kA rfl) (by decide) ?_
    refine pxEnd ?_
    refine qxThen ?_
    refine cxRet ?_
    refine qxThenR ?_
    refine qxRet2 1 0 rfl rfl rfl ?_
    have he : D.reads at_ n = (1, []) := by unfold Dk.reads; rw [if_pos (show ¬ D.has at_ n from hc2)]
    exact ⟨_, _, rfl, ⟨_, _, _, by rw [he]; rfl, rfl, hD, by rw [he]; exact OwnT.nil _ _⟩, HH.out (HH.pad hH 1) [true, true]⟩
  · refine cxSkip ?_
    refine qxThen ?_
    refine cxSeq ?_
    refine cxSeq ?_
    refine cxReg ?_
    refine pxV (v := (.pointer (some ⟨g, 0, none⟩))) (fun _ _ hF => opMove rfl (hF.ev 1 rfl)) rfl (fun _ _ => rfl) (kM [false, true, true, true] rfl rfl) (by decide) ?_
    refine pxV (v := (.pointer (some ⟨g, 0, none⟩))) (fun _ _ hF => opNilCheck rfl (hF.ev 0 rfl)) rfl (fun _ _ => rfl) (kM [false, true, true, true] rfl rfl) (by decide) ?_
    refine pxV (v := (.pointer (some ⟨g, 3, none⟩))) (fun _ _ hF => opField (off := 3) rfl (hF.ev 0 rfl) (by kernel_rfl)) rfl (fun _ _ => rfl) (kM [false, true, true, true] rfl rfl) (by decide) ?_
    obtain ⟨A3, n4, c5, E6, A7, n8, c9, E10, A11, n12, c13, E14, hE18, hO15, hO16, hO17⟩ := hD.at'
    obtain rfl : n4 = D.now.length := hO15.len
    obtain rfl : n8 = D.syn.length := hO16.len
    obtain rfl : n12 = D.uns.length := hO17.len
    replace hH : HH w0 (bks E) [[bl g 55 #[(.slice A3 D.now.length c5), (.slice A7 D.syn.length c9), (.slice A11 D.uns.length c13), (.bool (D.down)), (.bool (D.fused)), (.int .i64 (D.left))]], E6, E10, E14] w := hH.cast (by rw [hE18]; simp)
    refine pxS (v := (.bool (D.down))) (fun w => w.heap[g]? = some (.cells #[(.slice A3 D.now.length c5), (.slice A7 D.syn.length c9), (.slice A11 D.uns.length c13), (.bool (D.down)), (.bool (D.fused)), (.int .i64 (D.left))] 55 (0, 0))) (hH.blk 0 rfl) (fun _ _ hF hS => opLoadK hS rfl (hF.ev 0 rfl) (by kernel_rfl) rfl) rfl (fun _ _ => rfl) (kM [false, true, true, true] rfl rfl) (by decide) ?_
    refine pxEnd ?_
    refine qxThen ?_
    refine cxB 0 rfl rfl (fun hc19 => ?_) (fun hc19 => ?_)
    · refine cxSeq ?_
      refine cxReg ?_
      refine pxV (v := (.slice none 0 0)) (fun _ _ hF => opAssign rfl rfl) rfl (fun _ _ => rfl) (kM [false, false, false, false] rfl rfl) (by decide) ?_
      refine pxV (v := (.int .i64 8)) (fun _ _ hF => opAssign rfl rfl) rfl (fun _ _ => rfl) (kA rfl) (by decide) ?_
      refine pxEnd ?_
      refine qxThen ?_
      refine cxRet ?_
      refine qxThenR ?_
      refine qxRet2 1 0 rfl rfl rfl ?_
      have he : D.reads at_ n = (8, []) := by unfold Dk.reads; rw [if_neg (show ¬ ¬ D.has at_ n from hc2), if_pos hc19]
      obtain ⟨E20, hE21, hD⟩ : ∃ E, E = ([[bl g 55 #[(.slice A3 D.now.length c5), (.slice A7 D.syn.length c9), (.slice A11 D.uns.length c13), (.bool (D.down)), (.bool (D.fused)), (.int .i64 (D.left))]], E6, E10, E14] : List Hl).flatten ∧ DkAt g D E := ⟨_, rfl, hD.ok, _, _, _, _, _, _, _, _, _, _, _, _, rfl, hO15, hO16, hO17⟩
      replace hH : HH w0 (bks E) [E20] w := hH.cast (by rw [hE21]; simp)
      exact ⟨_, _, rfl, ⟨_, _, _, by rw [he]; rfl, rfl, hD, by rw [he]; exact OwnT.nil _ _⟩, HH.out (HH.pad hH 1) [true, true]⟩
    · refine cxSkip ?_
      refine qxThen ?_
      refine cxSeq ?_
      refine cxReg ?_
      refine pxV (v := (.int .i64 (n))) (fun _ _ hF => opMove rfl (hF.ev 3 rfl)) rfl (fun _ _ => rfl) (kM [false, true, true, true] rfl rfl) (by decide) ?_
      refine pxV (v := (.int .i64 (((n.toNat * 64) : Nat) : Int))) (fun _ _ hF => opMul rfl (hF.ev 0 rfl) rfl (wI (by omega) (by omega) (by omega))) rfl (fun _ _ => rfl) (kM [false, true, true, true] rfl rfl) (by decide) ?_
      refine pxM hH (fun _ hF => smMake (e := 5) (n := n.toNat * 64) (sz := 1) (by_ := 1) (z := (.int .u8 0)) (cs := madeCells (cByte.enc 0) ((n.toNat * 64) * 1)) rfl (by kernel_rfl) (by kernel_rfl) (hF.ev 0 rfl) (hF.ev 0 rfl) rfl rfl (by omega) (by omega) rfl) trivial rfl (fun _ _ => rfl) (kM [false, true, true, true] rfl rfl) (by decide) ?_
      clear hH
      rintro _ _ w ⟨g22, rfl, rfl⟩ hH
      replace hH : HH w0 (bks E) [[bl g 55 #[(.slice A3 D.now.length c5), (.slice A7 D.syn.length c9), (.slice A11 D.uns.length c13), (.bool (D.down)), (.bool (D.fused)), (.int .i64 (D.left))]], E6, E10, E14, [bl g22 5 (madeCells (cByte.enc 0) ((n.toNat * 64) * 1))]] w := hH
      refine pxV (v := (.slice (some ⟨g22, 0, none⟩) (n.toNat * 64) (n.toNat * 64))) (fun _ _ hF => opAssign rfl (hF.ev 0 rfl)) rfl (fun _ _ => rfl) (kM [false, true, true, true] rfl rfl) (by decide) ?_
      refine pxEnd ?_
      refine qxThen ?_
      refine cxSeq ?_
      refine cxSeq ?_
      refine cxReg ?_
      refine pxV (v := (.pointer (some ⟨g, 0, none⟩))) (fun _ _ hF => opMove rfl (hF.ev 1 rfl)) rfl (fun _ _ => rfl) (kM [true, false, true, true] rfl rfl) (by decide) ?_
      refine pxV (v := (.pointer (some ⟨g, 0, none⟩))) (fun _ _ hF => opNilCheck rfl (hF.ev 0 rfl)) rfl (fun _ _ => rfl) (kM [false, true, true, true] rfl rfl) (by decide) ?_
      refine pxV (v := (.pointer (some ⟨g, 0, none⟩))) (fun _ _ hF => opField (off := 0) rfl (hF.ev 0 rfl) (by kernel_rfl)) rfl (fun _ _ => rfl) (kM [false, true, true, true] rfl rfl) (by decide) ?_
      refine pxS (v := (.slice A3 D.now.length c5)) (fun w => w.heap[g]? = some (.cells #[(.slice A3 D.now.length c5), (.slice A7 D.syn.length c9), (.slice A11 D.uns.length c13), (.bool (D.down)), (.bool (D.fused)), (.int .i64 (D.left))] 55 (0, 0))) (hH.blk 0 rfl) (fun _ _ hF hS => opLoadK hS rfl (hF.ev 0 rfl) (by kernel_rfl) rfl) rfl (fun _ _ => rfl) (kM [false, true, true, true] rfl rfl) (by decide) ?_
      refine pxV (v := (.int .i64 (at_))) (fun _ _ hF => opMove rfl (hF.ev 2 rfl)) rfl (fun _ _ => rfl) (kA rfl) (by decide) ?_
      refine pxV (v := (.int .i64 (at_))) (fun _ _ hF => opMove rfl (hF.ev 3 rfl)) rfl (fun _ _ => rfl) (kM [true, true, true, false, true] rfl rfl) (by decide) ?_
      refine pxV (v := (.int .i64 (n))) (fun _ _ hF => opMove rfl (hF.ev 4 rfl)) rfl (fun _ _ => rfl) (kM [true, true, true, true, false] rfl rfl) (by decide) ?_
      refine pxV (v := (.int .i64 ((at_) + (n)))) (fun _ _ hF => opAdd rfl (hF.ev 1 rfl) (hF.ev 0 rfl) (wI rfl (by omega) (by omega))) rfl (fun _ _ => rfl) (kM [false, false, true, true, true] rfl rfl) (by decide) ?_
      have hcap := hO15.capLe
      refine pxV (v := (.slice (cutA A3 c5 at_.toNat 64) ((at_.toNat + n.toNat) - at_.toNat) (c5 - at_.toNat))) (fun _ _ hF => opCutLH (k := at_.toNat) (h := at_.toNat + n.toNat) (e := 71) (sz := 64) rfl (by kernel_rfl) (by kernel_rfl) (hF.ev 2 rfl) (hF.ev 1 rfl) (hF.ev 0 rfl) (by omega) (by omega) (by omega) (by omega)) rfl (fun _ _ => rfl) (kM [false, false, false, true] rfl rfl) (by decide) ?_
      refine pxV (v := (.int .i64 (((((at_.toNat + n.toNat) - at_.toNat)) : Nat) : Int))) (fun _ _ hF => opLen (e := 71) rfl (by kernel_rfl) (hF.ev 0 rfl)) rfl (fun _ _ => rfl) (kA rfl) (by decide) ?_
      refine pxV (v := (.int .i64 0)) (fun _ _ hF => opMove rfl rfl) rfl (fun _ _ => rfl) (kA rfl) (by decide) ?_
      refine pxEnd ?_
      refine qxThen ?_
      refine cxBlock ?_
      refine cxLoop (σ := Nat × (List UInt8) × (Array Value)) (fun x => [(37, (.int .i64 (((x.1) : Nat) : Int))), (36, (.int .i64 (((((at_.toNat + n.toNat) - at_.toNat)) : Nat) : Int))), (35, (.slice (cutA A3 c5 at_.toNat 64) ((at_.toNat + n.toNat) - at_.toNat) (c5 - at_.toNat))), (8, (.slice (some ⟨g22, 0, none⟩) (n.toNat * 64) (n.toNat * 64)))]) (fun x w => HH w0 (bks E) [[bl g 55 #[(.slice A3 D.now.length c5), (.slice A7 D.syn.length c9), (.slice A11 D.uns.length c13), (.bool (D.down)), (.bool (D.fused)), (.int .i64 (D.left))]], E6, E10, E14, [bl g22 5 x.2.2]] w ∧ (x.1 ≤ n.toNat) ∧ (Bk cByte (n.toNat * 64) x.2.2 x.2.1) ∧ (x.2.1.length = n.toNat * 64) ∧ (x.2.1.take (x.1 * 64) = unsec (((D.now.take (at_.toNat + n.toNat)).drop at_.toNat).take x.1))) (fun x => n.toNat - x.1) (0, (List.replicate (n.toNat * 64) 0), (madeCells (cByte.enc 0) ((n.toNat * 64) * 1))) ⟨hH, (Nat.zero_le _), (Bk.make (C := cByte) 0 (n.toNat * 64) (ltb rfl) (by unfold maxLen; omega)), (by simp), (by simp [unsec])⟩ (slots_at [0, 1, 2, 3] rfl) ?_
      clear hH
      rintro ⟨i, L, cur'⟩ w ⟨hH, hi, hB', hL, hT⟩
      change CX _ _ _ _ [(37, (.int .i64 (((i) : Nat) : Int))), (36, (.int .i64 (((((at_.toNat + n.toNat) - at_.toNat)) : Nat) : Int))), (35, (.slice (cutA A3 c5 at_.toNat 64) ((at_.toNat + n.toNat) - at_.toNat) (c5 - at_.toNat))), (8, (.slice (some ⟨g22, 0, none⟩) (n.toNat * 64) (n.toNat * 64)))] _
      replace hH : HH w0 (bks E) [[bl g 55 #[(.slice A3 D.now.length c5), (.slice A7 D.syn.length c9), (.slice A11 D.uns.length c13), (.bool (D.down)), (.bool (D.fused)), (.int .i64 (D.left))]], E6, E10, E14, [bl g22 5 cur']] w := hH
      replace hi : i ≤ n.toNat := hi
      replace hB' : Bk cByte (n.toNat * 64) cur' L := hB'
      replace hL : L.length = n.toNat * 64 := hL
      replace hT : L.take (i * 64) = unsec (((D.now.take (at_.toNat + n.toNat)).drop at_.toNat).take i) := hT
      refine cxSeq ?_
      refine cxReg ?_
      refine pxV (v := (.bool (decide (i < ((at_.toNat + n.toNat) - at_.toNat))))) (fun _ _ hF => opLss rfl (hF.ev 0 rfl) (hF.ev 1 rfl) (dc (by omega))) rfl (fun _ _ => rfl) (kA rfl) (by decide) ?_
      refine pxEnd ?_
      refine qxThen ?_
      refine cxSeq ?_
      refine cxP 0 rfl rfl (fun hc23 => ?_) (fun hc23 => ?_)
      · refine cxSkip ?_
        refine qxThen ?_
        refine cxSeq ?_
        refine cxBlock ?_
        refine cxSeq ?_
        refine cxReg ?_
        refine pxV (v := (.int .i64 (((i) : Nat) : Int))) (fun _ _ hF => opMove rfl (hF.ev 1 rfl)) rfl (fun _ _ => rfl) (kM [false, true, true, true, true] rfl rfl) (by decide) ?_
        have hi24 : i < ((at_.toNat + n.toNat) - at_.toNat) := by omega
        obtain ⟨g25, cap26, cur27, hv29, rfl, hB28⟩ := hO15.open (by omega)
        obtain ⟨rfl, rfl⟩ : A3 = some ⟨g25, 0, none⟩ ∧ c5 = cap26 := by injection hv29 with h1 h2 h3; exact ⟨h1, h3⟩
        have := hB28.le
        have hj32 : i < ((D.now.take (at_.toNat + n.toNat)).drop at_.toNat).length := by first | exact hi24 | (simp only [List.length_drop, List.length_take]; omega) | omega
        obtain ⟨x30, hx31⟩ := get_at ((D.now.take (at_.toNat + n.toNat)).drop at_.toNat) i hj32
        refine pxV (v := (.pointer (some ⟨g25, 0 + at_.toNat * 64 + i * 64, none⟩))) (fun _ _ hF => opIndexC (i := i) (e := 71) (sz := 64) rfl (by kernel_rfl) (by kernel_rfl) (hF.ev 3 rfl) (cutA_some (by omega)) (hF.ev 1 rfl) rfl hi24) rfl (fun _ _ => rfl) (kA rfl) (by decide) ?_
        refine pxS (v := (cSec.val x30)) (fun w => w.heap[g25]? = some (.cells cur27 71 (0, 0))) (hH.blk 1 rfl) (fun _ _ hF hS => opLoadT (C := cSec) (y := x30) rfl (hF.ev 0 rfl) (by kernel_rfl) (((hB28.holdsL hS).cut at_.toNat (at_.toNat + n.toNat)) i _ hx31) rfl) rfl (fun _ _ => rfl) (kM [false, true, true, true, true, true] rfl rfl) (by decide) ?_
        refine pxM hH (fun _ hF => smAlloc (cs := cSec.enc (fun _ => 0)) (z := (cSec.val (fun _ => 0))) rfl (by kernel_rfl) rfl) trivial rfl (fun _ _ => rfl) (kA rfl) (by decide) ?_
        clear hH
        rintro _ _ w ⟨g33, rfl, rfl⟩ hH
        replace hH : HH w0 (bks E) [[bl g 55 #[(.slice (some ⟨g25, 0, none⟩) D.now.length c5), (.slice A7 D.syn.length c9), (.slice A11 D.uns.length c13), (.bool (D.down)), (.bool (D.fused)), (.int .i64 (D.left))]], [bl g25 71 cur27], E10, E14, [bl g22 5 cur'], [bl g33 71 (cSec.enc (fun _ => 0))]] w := hH
        refine pxV (v := (.int .i64 (((i) : Nat) : Int))) (fun _ _ hF => opAssign rfl (hF.ev 2 rfl)) rfl (fun _ _ => rfl) (kM [true, true, false, true, true, true, true] rfl rfl) (by decide) ?_
        refine pxE0 5 hH rfl (fun _ hF => smStoreT (C := cSec) (z := x30) rfl (hF.ev 1 rfl) (hF.ev 2 rfl) rfl (by kernel_rfl) (by rw [Cod.size]; exact Nat.le_refl _) (put_whole cSec _ _)) trivial rfl (fun _ _ => rfl) ?_
        clear hH
        rintro _ _ w rfl hH
        replace hH : HH w0 (bks E) [[bl g 55 #[(.slice (some ⟨g25, 0, none⟩) D.now.length c5), (.slice A7 D.syn.length c9), (.slice A11 D.uns.length c13), (.bool (D.down)), (.bool (D.fused)), (.int .i64 (D.left))]], [bl g25 71 cur27], E10, E14, [bl g22 5 cur'], [bl g33 71 (cSec.enc x30)]] w := hH
        refine pxEnd ?_
        refine qxThen ?_
        refine cxRegX mixedOrders (by kernel_rfl) ?_
        replace hH := hH.drew
        refine rxV 0 rfl (by kernel_rfl) rfl (fun _ _ => rfl) (fun _ _ hF => opMove rfl (hF.ev 6 rfl)) (kM [true, true, false, true, true, true, true] rfl rfl) (by decide) (v := (.slice (some ⟨g22, 0, none⟩) (n.toNat * 64) (n.toNat * 64))) ?_
        refine rxV 1 rfl (by kernel_rfl) rfl (fun _ _ => rfl) (fun _ _ hF => opMove rfl (hF.ev 1 rfl)) (kM [true, false, true, true, true, true, true] rfl rfl) (by decide) (v := (.int .i64 (((i) : Nat) : Int))) ?_
        refine rxV 2 rfl (by kernel_rfl) rfl (fun _ _ => rfl) (fun _ _ hF => opMul rfl (hF.ev 0 rfl) rfl (wI (by omega) (by omega) (by omega))) (kM [false, true, true, true, true, true, true] rfl rfl) (by decide) (v := (.int .i64 (((i * 64) : Nat) : Int))) ?_
        refine rxV 3 rfl (by kernel_rfl) rfl (fun _ _ => rfl) (fun _ _ hF => opSlcL (k := i * 64) (e := 5) (sz := 1) rfl (by kernel_rfl) (by kernel_rfl) (hF.ev 1 rfl) (hF.ev 0 rfl) rfl (by omega) (by omega)) (kM [false, false, true, true, true, true, true] rfl rfl) (by decide) (v := (.slice (some ⟨g22, 0 + (i * 64) * 1, none⟩) ((n.toNat * 64) - (i * 64)) ((n.toNat * 64) - (i * 64)))) ?_
        refine rxV 4 rfl (by kernel_rfl) rfl (fun _ _ => rfl) (fun _ _ hF => opSliceA (n := 64) (e := 5) (sz := 1) rfl (by kernel_rfl) (by kernel_rfl) (hF.ev 1 rfl)) (kM [true, false, true, true, true, true] rfl rfl) (by decide) (v := (.slice (some ⟨g33, 0, none⟩) 64 64)) ?_
        refine rx1 5 (by kernel_rfl) ?_
        obtain ⟨cur35, hcs36, hB34⟩ : ∃ cs, putL cur' (0 + (i * 64) * 1) (flat cByte (lst 64 x30)) = cs ∧ Bk cByte (n.toNat * 64) cs (L.take (i * 64) ++ ((lst 64 x30) ++ L.drop (i * 64 + (lst 64 x30).length))) := ⟨_, rfl, hB'.copy (i * 64) (lst 64 x30) (by rw [lst_len]; omega)⟩
        refine moE 4 rfl hH rfl (fun _ hF => smCopyT (C := cByte) (m := (lst 64 x30)) (e := 5) rfl (by kernel_rfl) (by kernel_rfl) (ltb rfl) (hF.ev 1 rfl) (hF.ev 0 rfl) (by omega) (lst_len _ _) (room_cp hB' (by omega)) hcs36) (vu_arr (hH.blk 5 rfl)) rfl (fun _ _ => rfl) (kM [false, false, true, true, true, true] rfl rfl) (by decide) (PendOk.nil _ []) ?_
        clear hH
        rintro _ _ w ⟨rfl, rfl⟩ hH
        replace hH : HH w0 (bks E) [[bl g 55 #[(.slice (some ⟨g25, 0, none⟩) D.now.length c5), (.slice A7 D.syn.length c9), (.slice A11 D.uns.length c13), (.bool (D.down)), (.bool (D.fused)), (.int .i64 (D.left))]], [bl g25 71 cur27], E10, E14, [bl g22 5 cur35], [bl g33 71 (cSec.enc x30)]] w := hH
        refine ⟨(fun _ hs => by cases hs), ?_⟩
        refine rxEnd (by kernel_rfl) ?_
        refine qxInN ?_
        refine qxThen ?_
        refine cxReg ?_
        refine pxV (v := (.int .i64 (((i + 1) : Nat) : Int))) (fun _ _ hF => opAdd rfl (hF.ev 1 rfl) rfl (wI (by omega) (by omega) (by omega))) rfl (fun _ _ => rfl) (kM [false, false, true, true, true] rfl rfl) (by decide) ?_
        refine pxV (v := (.int .i64 (((i + 1) : Nat) : Int))) (fun _ _ hF => opMove rfl (hF.ev 0 rfl)) rfl (fun _ _ => rfl) (kM [false, true, true, true] rfl rfl) (by decide) ?_
        refine pxEnd ?_
        replace hH : HH w0 (bks E) [[bl g 55 #[(.slice (some ⟨g25, 0, none⟩) D.now.length c5), (.slice A7 D.syn.length c9), (.slice A11 D.uns.length c13), (.bool (D.down)), (.bool (D.fused)), (.int .i64 (D.left))]], [bl g25 71 cur27], E10, E14, [bl g22 5 cur35]] w := hH.only [true, true, true, true, true, false]
        exact qxRound (i + 1, (L.take (i * 64) ++ ((lst 64 x30) ++ L.drop (i * 64 + (lst 64 x30).length))), cur35) ⟨hH, (show (i + 1) ≤ n.toNat from (by omega)), hB34, (show (L.take (i * 64) ++ ((lst 64 x30) ++ L.drop (i * 64 + (lst 64 x30).length))).length = n.toNat * 64 from (by simp [lst_len]; omega)), (show (L.take (i * 64) ++ ((lst 64 x30) ++ L.drop (i * 64 + (lst 64 x30).length))).take ((i + 1) * 64) = unsec (((D.now.take (at_.toNat + n.toNat)).drop at_.toNat).take (i + 1)) from (read_step hx31 hT (by omega)))⟩ (by omega) (slots_at [0, 1, 2, 3] rfl)
      · refine cxExit ?_
        refine qxThenE ?_
        refine qxThenE ?_
        refine qxInE ?_
        refine qxThen ?_
        refine cxSeq ?_
        refine cxReg ?_
        refine pxV (v := (.slice (some ⟨g22, 0, none⟩) (n.toNat * 64) (n.toNat * 64))) (fun _ _ hF => opMove rfl (hF.ev 4 rfl)) rfl (fun _ _ => rfl) (kM [false, false, false, false, false] rfl rfl) (by decide) ?_
        refine pxV (v := (.slice (some ⟨g22, 0, none⟩) (n.toNat * 64) (n.toNat * 64))) (fun _ _ hF => opAssign rfl (hF.ev 0 rfl)) rfl (fun _ _ => rfl) (kM [false] rfl rfl) (by decide) ?_
        refine pxV (v := (.int .i64 0)) (fun _ _ hF => opAssign rfl rfl) rfl (fun _ _ => rfl) (kA rfl) (by decide) ?_
        refine pxEnd ?_
        refine qxThen ?_
        refine cxRet ?_
        refine qxRet2 1 0 rfl rfl rfl ?_
        have he : D.reads at_ n = (0, unsec ((D.now.take (at_.toNat + n.toNat)).drop at_.toNat)) := by unfold Dk.reads; rw [if_neg (show ¬ ¬ D.has at_ n from hc2), if_neg (by simp [hc19])]
        obtain ⟨E37, hE38, hD⟩ : ∃ E, E = ([[bl g 55 #[(.slice A3 D.now.length c5), (.slice A7 D.syn.length c9), (.slice A11 D.uns.length c13), (.bool (D.down)), (.bool (D.fused)), (.int .i64 (D.left))]], E6, E10, E14] : List Hl).flatten ∧ DkAt g D E := ⟨_, rfl, hD.ok, _, _, _, _, _, _, _, _, _, _, _, _, rfl, hO15, hO16, hO17⟩
        replace hH : HH w0 (bks E) [E37, [bl g22 5 cur']] w := hH.cast (by rw [hE38]; simp)
        have hS : L = unsec ((D.now.take (at_.toNat + n.toNat)).drop at_.toNat) := by
          have h1 : L.take (i * 64) = L := List.take_of_length_le (by omega)
          have h2 : ((D.now.take (at_.toNat + n.toNat)).drop at_.toNat).take i = ((D.now.take (at_.toNat + n.toNat)).drop at_.toNat) := List.take_of_length_le (by rw [List.length_drop, List.length_take]; omega)
          rw [← h1, hT, h2]
        exact ⟨_, _, rfl, ⟨_, _, _, by rw [he]; rfl, rfl, hD, by rw [he, ← hS]; exact hB'.own 5 g22 hL⟩, HH.out hH [true, true]⟩
end Go.Proofs.Ytglplhbhpaegeaa
