/- The laws of layer 11: parts (mkpn.py writes this text). -/
import Derived.Test.YtjncbpmigpocbaaPkA
namespace Go.Proofs.Ytjncbpmigpocbaa
open Go Go.RowKit
set_option maxRecDepth 100000

/-- What was put together: parts ahead of the rest. -/
structure PInv (k : Nat) (body P : List UInt8) (i m : Nat) (right : Bool) : Prop where
  ri : right = true → ∀ z, frs (mayT k) [] (P ++ z) = frs (mayT k) (body.take m) z
  wr : right = false → ∀ z, frs (mayT k) [] (P ++ z) = (2, [], [])
  ip : right = true → 0 < i → mayT k = true ∧ 0 < m
  z0 : i = 0 → P = [] ∧ m = 0
theorem PInv.init (k : Nat) (body : List UInt8) : PInv k body [] 0 0 true := ⟨fun _ z => by rw [List.take_zero, List.nil_append], (fun h => by cases h), fun _ h => absurd h (by decide), fun _ => ⟨rfl, rfl⟩⟩
section
variable {k i m p : Nat} {body P : List UInt8} {right : Bool}
theorem part_z (T z : List UInt8) (c : UInt8) : ((P ++ [c]) ++ T) ++ z = P ++ (c :: (T ++ z)) := by simp
theorem PInv.same (h : PInv k body P i m right) (hr : right = false) (T : List UInt8) (c : UInt8) (m' : Nat) : PInv k body ((P ++ [c]) ++ T) (i + 1) m' false :=
  ⟨(fun q => by cases q), fun _ z => by rw [part_z]; exact h.wr hr _, (fun q => by cases q), fun q => absurd q (by omega)⟩
theorem PInv.bad {q : Nat} (hq : 2 ^ p = q) (h : PInv k body P i m right) (hr : right = true) (hp : p < 14) (hb : mayT k = false ∨ (i = 0 ∧ q < 512)) (T : List UInt8) (m' : Nat) : PInv k body ((P ++ [UInt8.ofNat (224 + p)]) ++ T) (i + 1) m' false := by
  subst hq
  refine ⟨(fun q => by cases q), fun _ z => ?_, (fun q => by cases q), fun q => absurd q (by omega)⟩
  have hi : i = 0 := by
    rcases hb with hb | hb
    · rcases Nat.eq_zero_or_pos i with h0 | h0
      · exact h0
      · have := (h.ip hr h0).1; rw [hb] at this; cases this
    · exact hb.1
  obtain ⟨h1, h2⟩ := h.z0 hi
  rw [part_z, h.ri hr, h2, List.take_zero]
  exact frs_wrong hp (hb.imp id (fun q => q.2)) _
theorem PInv.good {q : Nat} (hq : 2 ^ p = q) (h : PInv k body P i m right) (hr : right = true) (hp : p < 14) (hm : mayT k = true) (hi : 0 < i ∨ 512 ≤ q) (hn : q + m ≤ body.length) (hb : body.length ≤ 20000) : PInv k body ((P ++ [UInt8.ofNat (224 + p)]) ++ (body.drop m).take q) (i + 1) (m + q) true := by
  subst hq
  have hpos : 0 < 2 ^ p := Nat.pow_pos (by decide)
  refine ⟨fun _ z => ?_, (fun q => by cases q), fun _ _ => ⟨hm, by omega⟩, fun q => absurd q (by omega)⟩
  have hl : ((body.drop m).take (2 ^ p)).length = 2 ^ p := by rw [List.length_take, List.length_drop]; omega
  have hl2 : (body.take m).length = m := by rw [List.length_take]; omega
  rw [part_z, h.ri hr, hm, frs_part hp hl ?_ (by rw [hl, hl2]; omega), List.take_add]
  rcases hi with hi | hi
  · refine .inl fun q => ?_
    have := (h.ip hr hi).2
    rw [q, List.length_nil] at hl2
    omega
  · exact .inr hi
end

set_option maxHeartbeats 8000000 in
theorem partial_l (tag : UInt8) (Ab Ap : Option Addr) (cb cp : Nat) (body pw : List UInt8) : Pure Try.prog 6 #[(.int .u8 (((tag.toNat) : Nat) : Int)), (.slice Ab body.length cb), (.slice Ap pw.length cp)] (fun w => Vu cByte w Ab body.length cb body ∧ Vu cByte w Ap pw.length cp pw) (.bool true) := by
  refine pure_of (fn := Try.f6) Try.func6 rfl Try.ntmps6 (Nat.le_of_ble_eq_true rfl) rfl ?_
  intro w0 hH hR
  have htag := UInt8.toNat_lt tag
  refine cxSeq ?_
  refine cxReg ?_
  refine pxV (v := (.bool false)) (fun _ _ hF => opAssign rfl rfl) rfl (fun _ _ => rfl) (kA rfl) (by decide) ?_
  refine pxEnd ?_
  refine qxThen ?_
  refine cxSeq ?_
  refine cxSeq ?_
  refine cxReg ?_
  refine pxM hH (fun _ hF => Does.small ((awake_c ).does) (fun w => opCall rfl Try.func8 rfl rfl Evs.nil w)) trivial rfl (fun _ _ => rfl) (kM [false, true, true, true] rfl rfl) (by decide) ?_
  clear hH
  rintro _ _ w ⟨rfl, rfl⟩ hH
  replace hH : HH w0 [] [] w := hH.unpad
  refine pxV (v := (.bool false)) (fun _ _ hF => opNot rfl (hF.ev 0 rfl) rfl) rfl (fun _ _ => rfl) (kM [false, true, true, true] rfl rfl) (by decide) ?_
  refine pxV (v := (.bool false)) (fun _ _ hF => opMove rfl (hF.ev 0 rfl)) rfl (fun _ _ => rfl) (kM [false, true, true, true] rfl rfl) (by decide) ?_
  refine pxV (v := (.slice Ab body.length cb)) (fun _ _ hF => opMove rfl (hF.ev 2 rfl)) rfl (gOn 0 rfl rfl rfl (by decide)) (kA rfl) (by decide) ?_
  refine pxV (v := (.int .i64 (((body.length) : Nat) : Int))) (fun _ _ hF => opLen (e := 5) rfl (by kernel_rfl) (hF.ev 0 rfl)) rfl (gOn 1 rfl rfl rfl (by decide)) (kM [false, true, true, true, true] rfl rfl) (by decide) ?_
  refine pxV (v := (.bool (decide (body.length > 20000)))) (fun _ _ hF => opGtr rfl (hF.ev 0 rfl) rfl (dc (by omega))) rfl (gOn 1 rfl rfl rfl (by decide)) (kM [false, true, true, true, true] rfl rfl) (by decide) ?_
  refine pxV (v := (.bool (decide (body.length > 20000)))) (fun _ _ hF => opPickF rfl (hF.ev 1 rfl) (hF.ev 0 rfl)) rfl (fun _ _ => rfl) (kM [false, false, true, true, true] rfl rfl) (by decide) ?_
  refine pxV (v := (.bool (decide (body.length > 20000)))) (fun _ _ hF => opMove rfl (hF.ev 0 rfl)) rfl (fun _ _ => rfl) (kM [false, true, true, true] rfl rfl) (by decide) ?_
  refine pxSplitP 0 rfl (l1 := [(22, (.bool true)), (0, (.int .u8 (((tag.toNat) : Nat) : Int))), (1, (.slice Ab body.length cb)), (2, (.slice Ap pw.length cp))]) (l2 := [(22, (.bool false)), (0, (.int .u8 (((tag.toNat) : Nat) : Int))), (1, (.slice Ab body.length cb)), (2, (.slice Ap pw.length cp))]) rfl rfl (fun hg1 => ?_) (fun hg1 => ?_)
  · refine pxU rfl (gOff 0 rfl rfl rfl (by decide)) (kA rfl) (by decide) ?_
    refine pxU rfl (gOff 0 rfl rfl rfl (by decide)) (kA rfl) (by decide) ?_
    refine pxU rfl (gOff 0 rfl rfl rfl (by decide)) (kA rfl) (by decide) ?_
    refine pxV (v := (.bool true)) (fun _ _ hF => opPickT rfl (hF.ev 0 rfl) rfl) rfl (fun _ _ => rfl) (kM [false, true, true, true] rfl rfl) (by decide) ?_
    refine pxEnd ?_
    refine qxThen ?_
    refine cxT 0 rfl rfl ?_
    refine cxSeq ?_
    refine cxReg ?_
    refine pxM hH (fun _ hF => Does.small ((awake_c ).does) (fun w => opCall rfl Try.func8 rfl rfl Evs.nil w)) trivial rfl (fun _ _ => rfl) (kM [false, false, false, false] rfl rfl) (by decide) ?_
    clear hH
    rintro _ _ w ⟨rfl, rfl⟩ hH
    replace hH : HH w0 [] [] w := hH.unpad
    refine pxV (v := (.bool true)) (fun _ _ hF => opAssign rfl (hF.ev 0 rfl)) rfl (fun _ _ => rfl) (kM [false] rfl rfl) (by decide) ?_
    refine pxEnd ?_
    refine qxThen ?_
    refine cxRet ?_
    refine qxThenR ?_
    refine qxRet1 0 rfl rfl ?_
    exact ⟨rfl, HH.toBelow hH⟩
  · refine pxV (v := (.slice Ap pw.length cp)) (fun _ _ hF => opMove rfl (hF.ev 3 rfl)) rfl (gOn 0 rfl rfl rfl (by decide)) (kA rfl) (by decide) ?_
    refine pxV (v := (.int .i64 (((pw.length) : Nat) : Int))) (fun _ _ hF => opLen (e := 5) rfl (by kernel_rfl) (hF.ev 0 rfl)) rfl (gOn 1 rfl rfl rfl (by decide)) (kM [false, true, true, true, true] rfl rfl) (by decide) ?_
    refine pxV (v := (.bool (decide (pw.length > 20)))) (fun _ _ hF => opGtr rfl (hF.ev 0 rfl) rfl (dc (by omega))) rfl (gOn 1 rfl rfl rfl (by decide)) (kM [false, true, true, true, true] rfl rfl) (by decide) ?_
    refine pxV (v := (.bool (decide (pw.length > 20)))) (fun _ _ hF => opPickF rfl (hF.ev 1 rfl) (hF.ev 0 rfl)) rfl (fun _ _ => rfl) (kM [false, false, true, true, true] rfl rfl) (by decide) ?_
    refine pxEnd ?_
    refine qxThen ?_
    refine cxP 0 rfl rfl (fun hc2 => ?_) (fun hc2 => ?_)
    · refine cxSeq ?_
      refine cxReg ?_
      refine pxM hH (fun _ hF => Does.small ((awake_c ).does) (fun w => opCall rfl Try.func8 rfl rfl Evs.nil w)) trivial rfl (fun _ _ => rfl) (kM [false, false, false, false] rfl rfl) (by decide) ?_
      clear hH
      rintro _ _ w ⟨rfl, rfl⟩ hH
      replace hH : HH w0 [] [] w := hH.unpad
      refine pxV (v := (.bool true)) (fun _ _ hF => opAssign rfl (hF.ev 0 rfl)) rfl (fun _ _ => rfl) (kM [false] rfl rfl) (by decide) ?_
      refine pxEnd ?_
      refine qxThen ?_
      refine cxRet ?_
      refine qxThenR ?_
      refine qxRet1 0 rfl rfl ?_
      exact ⟨rfl, HH.toBelow hH⟩
    · have hbody : body.length ≤ 20000 := by omega
      have hpl : pw.length ≤ 20 := by omega
      refine cxSkip ?_
      refine qxThen ?_
      refine cxSeq ?_
      refine cxReg ?_
      refine pxV (v := (.int .u8 (((tag.toNat) : Nat) : Int))) (fun _ _ hF => opMove rfl (hF.ev 1 rfl)) rfl (fun _ _ => rfl) (kM [false, false, true, true] rfl rfl) (by decide) ?_
      refine pxV (v := (.int .u8 (((tag.toNat % 20) : Nat) : Int))) (fun _ _ hF => opRem (z := ((tag.toNat % 20 : Nat) : Int)) rfl (hF.ev 0 rfl) rfl (by omega) remN) rfl (fun _ _ => rfl) (kM [false, true, true] rfl rfl) (by decide) ?_
      refine pxV (v := (.int .i64 (((tag.toNat % 20) : Nat) : Int))) (fun _ _ hF => opConvI (k' := .i64) rfl (by kernel_rfl) (by kernel_rfl) (hF.ev 0 rfl) (wI rfl (by omega) (by omega))) rfl (fun _ _ => rfl) (kM [false, true, true] rfl rfl) (by decide) ?_
      refine pxV (v := (.int .i64 (((1 + tag.toNat % 20) : Nat) : Int))) (fun _ _ hF => opAdd rfl rfl (hF.ev 0 rfl) (wI rfl (by omega) (by omega))) rfl (fun _ _ => rfl) (kM [false, true, true] rfl rfl) (by decide) ?_
      refine pxV (v := (.int .i64 (((1 + tag.toNat % 20) : Nat) : Int))) (fun _ _ hF => opAssign rfl (hF.ev 0 rfl)) rfl (fun _ _ => rfl) (kM [false, true, true] rfl rfl) (by decide) ?_
      refine pxEnd ?_
      refine qxThen ?_
      refine cxSeq ?_
      refine cxReg ?_
      refine pxV (v := (.int .i64 (((1 + tag.toNat % 20) : Nat) : Int))) (fun _ _ hF => opMove rfl (hF.ev 0 rfl)) rfl (fun _ _ => rfl) (kA rfl) (by decide) ?_
      refine pxV (v := (.int .i64 (((192 + (1 + tag.toNat % 20)) : Nat) : Int))) (fun _ _ hF => opAdd rfl rfl (hF.ev 0 rfl) (wI rfl (by omega) (by omega))) rfl (fun _ _ => rfl) (kM [false, true, true, true] rfl rfl) (by decide) ?_
      refine pxV (v := (.int .u8 ((((UInt8.ofNat (192 + (1 + tag.toNat % 20))).toNat) : Nat) : Int))) (fun _ _ hF => opConvU (k' := .u8) rfl rfl (by kernel_rfl) (by kernel_rfl) (hF.ev 0 rfl) (UInt8.toNat_ofNat' (n := 192 + (1 + tag.toNat % 20))).symm) rfl (fun _ _ => rfl) (kM [false, true, true, true] rfl rfl) (by decide) ?_
      refine pxM hH (fun _ hF => smLit1 (e := 5) (sz := 1) (z := (.int .u8 0)) (by_ := 1) (cs := cByte.enc (UInt8.ofNat (192 + (1 + tag.toNat % 20)))) rfl (by kernel_rfl) (by kernel_rfl) (hF.ev 0 rfl) (cByte.len (UInt8.ofNat (192 + (1 + tag.toNat % 20)))) (ltb rfl) (leb rfl) rfl) trivial rfl (fun _ _ => rfl) (kM [false, true, true, true] rfl rfl) (by decide) ?_
      clear hH
      rintro _ _ w ⟨g3, rfl, rfl⟩ hH
      replace hH : HH w0 [] [[bl g3 5 (cByte.enc (UInt8.ofNat (192 + (1 + tag.toNat % 20))))]] w := hH
      refine pxV (v := (.slice (some ⟨g3, 0, none⟩) 1 1)) (fun _ _ hF => opAssign rfl (hF.ev 0 rfl)) rfl (fun _ _ => rfl) (kM [false, true, true, true] rfl rfl) (by decide) ?_
      refine pxEnd ?_
      refine qxThen ?_
      refine cxSeq ?_
      refine cxReg ?_
      refine pxV (v := (.slice Ab body.length cb)) (fun _ _ hF => opMove rfl (hF.ev 2 rfl)) rfl (fun _ _ => rfl) (kA rfl) (by decide) ?_
      refine pxV (v := (.slice Ab body.length cb)) (fun _ _ hF => opAssign rfl (hF.ev 0 rfl)) rfl (fun _ _ => rfl) (kM [false, true, true, true, true] rfl rfl) (by decide) ?_
      refine pxEnd ?_
      refine qxThen ?_
      refine cxSeq ?_
      refine cxReg ?_
      refine pxV (v := (.bool true)) (fun _ _ hF => opAssign rfl rfl) rfl (fun _ _ => rfl) (kA rfl) (by decide) ?_
      refine pxEnd ?_
      refine qxThen ?_
      refine cxSeq ?_
      refine cxSeq ?_
      refine cxReg ?_
      refine pxV (v := (.slice Ap pw.length cp)) (fun _ _ hF => opMove rfl (hF.ev 5 rfl)) rfl (fun _ _ => rfl) (kA rfl) (by decide) ?_
      refine pxV (v := (.int .i64 (((pw.length) : Nat) : Int))) (fun _ _ hF => opLen (e := 5) rfl (by kernel_rfl) (hF.ev 0 rfl)) rfl (fun _ _ => rfl) (kM [false, true, true, true, true, true, true] rfl rfl) (by decide) ?_
      refine pxV (v := (.int .i64 0)) (fun _ _ hF => opMove rfl rfl) rfl (fun _ _ => rfl) (kA rfl) (by decide) ?_
      refine pxEnd ?_
      refine qxThen ?_
      refine cxBlock ?_
      refine cxLoop (σ := Nat × (Option Addr) × Nat × (List UInt8) × Hl × (Option Addr) × Nat × Nat × Nat × (List UInt8) × Bool) (fun x => [(39, (.int .i64 (((x.1) : Nat) : Int))), (38, (.int .i64 (((pw.length) : Nat) : Int))), (10, (.bool (x.2.2.2.2.2.2.2.2.2.2))), (9, (.slice x.2.2.2.2.2.1 x.2.2.2.2.2.2.1 x.2.2.2.2.2.2.2.1)), (8, (.slice x.2.1 x.2.2.2.1.length x.2.2.1)), (7, (.int .i64 (((1 + tag.toNat % 20) : Nat) : Int))), (2, (.slice Ap pw.length cp)), (1, (.slice Ab body.length cb))]) (fun x w => HH w0 [] [x.2.2.2.2.1] w ∧ (x.1 ≤ pw.length) ∧ (OwnT cByte 5 (.slice x.2.1 x.2.2.2.1.length x.2.2.1) x.2.2.2.1 x.2.2.2.2.1) ∧ (x.2.2.2.1 = [UInt8.ofNat (192 + (1 + tag.toNat % 20))] ++ x.2.2.2.2.2.2.2.2.2.1) ∧ (PInv (1 + tag.toNat % 20) body x.2.2.2.2.2.2.2.2.2.1 x.1 x.2.2.2.2.2.2.2.2.1 x.2.2.2.2.2.2.2.2.2.2) ∧ (Vu cByte w0 x.2.2.2.2.2.1 x.2.2.2.2.2.2.1 x.2.2.2.2.2.2.2.1 (body.drop x.2.2.2.2.2.2.2.2.1)) ∧ (x.2.2.2.2.2.2.1 + x.2.2.2.2.2.2.2.2.1 = body.length) ∧ (x.2.2.2.1.length ≤ 1 + x.1 + x.2.2.2.2.2.2.2.2.1)) (fun x => pw.length - x.1) (0, (some ⟨g3, 0, none⟩), 1, [(UInt8.ofNat (192 + (1 + tag.toNat % 20)))], [bl g3 5 (cByte.enc (UInt8.ofNat (192 + (1 + tag.toNat % 20))))], Ab, body.length, cb, 0, [], true) ⟨hH, (Nat.zero_le _), ((Bk.lit1 (C := cByte) (UInt8.ofNat (192 + (1 + tag.toNat % 20)))).own 5 g3 rfl), rfl, (PInv.init _ _), hR.1, rfl, (leb rfl)⟩ (slots_at [0, 1, 2, 3, 4, 5, 7, 6] rfl) ?_
      clear hH
      rintro ⟨i, A1, c1, B, E1, Ar, nr, cr, m, P, right⟩ w ⟨hH, hi, hO, hB, hI, hVr, hnr, hbl⟩
      change CX _ _ _ _ [(39, (.int .i64 (((i) : Nat) : Int))), (38, (.int .i64 (((pw.length) : Nat) : Int))), (10, (.bool (right))), (9, (.slice Ar nr cr)), (8, (.slice A1 B.length c1)), (7, (.int .i64 (((1 + tag.toNat % 20) : Nat) : Int))), (2, (.slice Ap pw.length cp)), (1, (.slice Ab body.length cb))] _
      replace hH : HH w0 [] [E1] w := hH
      replace hi : i ≤ pw.length := hi
      replace hO : OwnT cByte 5 (.slice A1 B.length c1) B E1 := hO
      replace hB : B = [UInt8.ofNat (192 + (1 + tag.toNat % 20))] ++ P := hB
      replace hI : PInv (1 + tag.toNat % 20) body P i m right := hI
      replace hVr : Vu cByte w0 Ar nr cr (body.drop m) := hVr
      replace hnr : nr + m = body.length := hnr
      replace hbl : B.length ≤ 1 + i + m := hbl
      have hcr := hVr.cap
      refine cxSeq ?_
      refine cxReg ?_
      refine pxV (v := (.bool (decide (i < pw.length)))) (fun _ _ hF => opLss rfl (hF.ev 0 rfl) (hF.ev 1 rfl) (dc (by omega))) rfl (fun _ _ => rfl) (kA rfl) (by decide) ?_
      refine pxEnd ?_
      refine qxThen ?_
      refine cxSeq ?_
      refine cxP 0 rfl rfl (fun hc4 => ?_) (fun hc4 => ?_)
      · refine cxSkip ?_
        refine qxThen ?_
        refine cxSeq ?_
        refine cxBlock ?_
        refine cxSeq ?_
        refine cxReg ?_
        refine pxV (v := (.int .i64 (((i) : Nat) : Int))) (fun _ _ hF => opMove rfl (hF.ev 1 rfl)) rfl (fun _ _ => rfl) (kM [false, true, true, true, true, true, true, true, true] rfl rfl) (by decide) ?_
        refine pxV (v := (.int .i64 (((i) : Nat) : Int))) (fun _ _ hF => opAssign rfl (hF.ev 0 rfl)) rfl (fun _ _ => rfl) (kM [false, true, true, true, true, true, true, true, true] rfl rfl) (by decide) ?_
        refine pxEnd ?_
        refine qxThen ?_
        refine cxSeq ?_
        obtain ⟨x0, hx0⟩ := get_at pw i (by omega)
        have hb0 := UInt8.toNat_lt x0
        obtain ⟨pn, hpn⟩ : ∃ pn, 2 ^ (x0.toNat % 14) = pn := ⟨_, rfl⟩
        have hpw : pn ≤ 8192 := hpn ▸ Nat.le_trans (Nat.pow_le_pow_right (by decide) (show x0.toNat % 14 ≤ 13 by omega)) (by decide)
        refine cxReg ?_
        refine pxV (v := (.slice Ap pw.length cp)) (fun _ _ hF => opMove rfl (hF.ev 7 rfl)) rfl (fun _ _ => rfl) (kA rfl) (by decide) ?_
        refine pxV (v := (.int .i64 (((i) : Nat) : Int))) (fun _ _ hF => opMove rfl (hF.ev 1 rfl)) rfl (fun _ _ => rfl) (kA rfl) (by decide) ?_
        have hi5 : i < pw.length := by omega
        obtain ⟨b6, off7, rfl, hL8, hb9, hR10⟩ := hR.2.blk (by decide) (Off.nil _ _) (by omega)
        have := hR.2.cap
        have hj13 : i < pw.length := by first | exact hi5 | (simp only [List.length_drop, List.length_take]; omega) | omega
        refine pxV (v := (.pointer (some ⟨b6, off7 + i * 1, none⟩))) (fun _ _ hF => opIndex (i := i) (e := 5) (sz := 1) rfl (by kernel_rfl) (by kernel_rfl) (hF.ev 1 rfl) (hF.ev 0 rfl) rfl hi5) rfl (fun _ _ => rfl) (kM [false, false, true, true, true, true, true, true, true, true, true] rfl rfl) (by decide) ?_
        refine pxS (v := (.int .u8 (((x0.toNat) : Nat) : Int))) (fun w => HoldsL cByte w b6 off7 pw) (hH.holdsL hL8 hb9 hR10) (fun _ _ hF hS => opLoadT (C := cByte) (y := x0) rfl (hF.ev 0 rfl) (by kernel_rfl) (hS i _ hx0) rfl) rfl (fun _ _ => rfl) (kM [false, true, true, true, true, true, true, true, true, true] rfl rfl) (by decide) ?_
        refine pxV (v := (.int .u8 (((x0.toNat % 14) : Nat) : Int))) (fun _ _ hF => opRem (z := ((x0.toNat % 14 : Nat) : Int)) rfl (hF.ev 0 rfl) rfl (by omega) remN) rfl (fun _ _ => rfl) (kM [false, true, true, true, true, true, true, true, true, true] rfl rfl) (by decide) ?_
        refine pxV (v := (.int .i64 (((pn) : Nat) : Int))) (fun _ _ hF => opShlI (m := 1) (n := x0.toNat % 14) (z := pn) rfl rfl (hF.ev 0 rfl) (by omega) (by rw [Nat.one_mul]; exact hpn) (by omega)) rfl (fun _ _ => rfl) (kM [false, true, true, true, true, true, true, true, true, true] rfl rfl) (by decide) ?_
        refine pxV (v := (.int .i64 (((pn) : Nat) : Int))) (fun _ _ hF => opAssign rfl (hF.ev 0 rfl)) rfl (fun _ _ => rfl) (kM [false, true, true, true, true, true, true, true, true, true] rfl rfl) (by decide) ?_
        refine pxEnd ?_
        refine qxThen ?_
        refine cxSeq ?_
        refine cxSeq ?_
        refine cxReg ?_
        refine pxV (v := (.int .i64 (((pn) : Nat) : Int))) (fun _ _ hF => opMove rfl (hF.ev 0 rfl)) rfl (fun _ _ => rfl) (kA rfl) (by decide) ?_
        refine pxV (v := (.slice Ar nr cr)) (fun _ _ hF => opMove rfl (hF.ev 6 rfl)) rfl (fun _ _ => rfl) (kA rfl) (by decide) ?_
        refine pxV (v := (.int .i64 (((nr) : Nat) : Int))) (fun _ _ hF => opLen (e := 5) rfl (by kernel_rfl) (hF.ev 0 rfl)) rfl (fun _ _ => rfl) (kM [false, true, true, true, true, true, true, true, true, true, true, true] rfl rfl) (by decide) ?_
        refine pxV (v := (.bool (decide (pn > nr)))) (fun _ _ hF => opGtr rfl (hF.ev 1 rfl) (hF.ev 0 rfl) (dc (by omega))) rfl (fun _ _ => rfl) (kM [false, false, true, true, true, true, true, true, true, true, true, true] rfl rfl) (by decide) ?_
        refine pxEnd ?_
        refine qxThen ?_
        refine cxP 0 rfl rfl (fun hc14 => ?_) (fun hc14 => ?_)
        · refine cxExit ?_
          refine qxThenE ?_
          refine qxInO rfl ?_
          refine qxThenE ?_
          refine qxThenE ?_
          refine qxInE ?_
          refine qxThen ?_
          refine cxSeq ?_
          have hl0 := (lenL_len (n := nr)).2
          have hdl : (body.drop m).length = nr := by rw [List.length_drop]; omega
          refine cxReg ?_
          refine pxV (v := (.slice A1 B.length c1)) (fun _ _ hF => opMove rfl (hF.ev 7 rfl)) rfl (fun _ _ => rfl) (kM [false, false, false, false, false, true, true, false, true, false, true] rfl rfl) (by decide) ?_
          refine pxV (v := (.slice Ar nr cr)) (fun _ _ hF => opMove rfl (hF.ev 2 rfl)) rfl (fun _ _ => rfl) (kA rfl) (by decide) ?_
          refine pxV (v := (.int .i64 (((nr) : Nat) : Int))) (fun _ _ hF => opLen (e := 5) rfl (by kernel_rfl) (hF.ev 0 rfl)) rfl (fun _ _ => rfl) (kM [false, true, true, true, true, true] rfl rfl) (by decide) ?_
          refine pxM hH (fun _ hF => Does.small (length_r nr (by omega)) (fun w => opCall rfl Try.func18 rfl rfl (Evs.cons (v := (.int .i64 (((nr) : Nat) : Int))) (hF.ev 0 rfl) Evs.nil) w)) trivial rfl (fun _ _ => rfl) (kM [false, true, true, true, true, true] rfl rfl) (by decide) ?_
          clear hH
          rintro v19 E15 w hO16 hH
          replace hH : HH w0 [] [E1, E15] w := hH
          obtain ⟨A17, c18, rfl⟩ := hO16.slice
          refine pxE 0 hH rfl (fun _ hF => smAppT (C := cByte) (l := B) (m := (lenL nr)) (e := 5) (z := (.int .u8 0)) (by_ := 1) rfl (by kernel_rfl) (by kernel_rfl) rfl (ltb rfl) (hF.ev 1 rfl) hO (hF.ev 0 rfl) rfl hO16.nilA (by unfold maxLen; omega) (by omega)) (hO16.vuAt (hH.has 1 rfl)) rfl (fun _ _ => rfl) (kM [false, false, true, true, true, true] rfl rfl) (by decide) ?_
          clear hH
          rintro v23 E24 w ⟨hO25, _⟩ hH
          replace hH : HH w0 [] [E24, E15] w := hH
          replace hO25 : OwnT cByte 5 v23 (B ++ (lenL nr)) E24 := hO25
          obtain ⟨A21, c22, rfl⟩ := hO25.slice
          refine pxV (v := (.slice Ar nr cr)) (fun _ _ hF => opMove rfl (hF.ev 2 rfl)) rfl (fun _ _ => rfl) (kM [true, true, false, true, true] rfl rfl) (by decide) ?_
          refine pxE 0 hH rfl (fun _ hF => smAppT (C := cByte) (l := (B ++ (lenL nr))) (m := (body.drop m)) (e := 5) (z := (.int .u8 0)) (by_ := 1) rfl (by kernel_rfl) (by kernel_rfl) rfl (ltb rfl) (hF.ev 1 rfl) hO25 (hF.ev 0 rfl) hdl hVr.nilA (by rw [List.length_append]; unfold maxLen; omega) (by rw [List.length_append]; omega)) (hH.vu hVr (by decide) (Off.nil _ _)) rfl (fun _ _ => rfl) (kM [false, false, true, true, true] rfl rfl) (by decide) ?_
          clear hH
          rintro v28 E29 w ⟨hO30, _⟩ hH
          replace hH : HH w0 [] [E29, E15] w := hH
          replace hO30 : OwnT cByte 5 v28 ((B ++ (lenL nr)) ++ (body.drop m)) E29 := hO30
          obtain ⟨A26, c27, rfl⟩ := hO30.slice
          refine pxV (v := (.slice A26 (((B ++ (lenL nr)) ++ (body.drop m)).length) c27)) (fun _ _ hF => opAssign rfl (hF.ev 0 rfl)) rfl (fun _ _ => rfl) (kM [false, true, true, true] rfl rfl) (by decide) ?_
          refine pxEnd ?_
          refine qxThen ?_
          refine cxSeq ?_
          refine cxReg ?_
          refine pxV (v := (.slice A26 (((B ++ (lenL nr)) ++ (body.drop m)).length) c27)) (fun _ _ hF => opMove rfl (hF.ev 0 rfl)) rfl (fun _ _ => rfl) (kM [false, true, true, true] rfl rfl) (by decide) ?_
          refine pxM hH (fun _ hF => Does.small (parse_c c27 A26 ((B ++ (lenL nr)) ++ (body.drop m)) (by simp only [List.length_append]; omega)) (fun w => opCall rfl Try.func14 rfl rfl (Evs.cons (v := (.slice A26 (((B ++ (lenL nr)) ++ (body.drop m)).length) c27)) (hF.ev 0 rfl) Evs.nil) w)) (hO30.vuAt (hH.has 0 rfl)) rfl (fun _ _ => rfl) (kM [false, true, true, true] rfl rfl) (by decide) ?_
          clear hH
          rintro _ _ w ⟨s31, rfl, L36, E32, E33, rfl, hO34, hB35⟩ hH
          replace hH : HH w0 [] [E29, E15, ([E32, E33] : List Hl).flatten] w := hH
          obtain ⟨A37, c38, rfl⟩ := hO34.slice
          replace hH : HH w0 [] [E29, E15, E32, E33] w := hH.cast (by simp)
          refine pxV (v := (.tuple #[(.slice A37 L36.length c38), (.int .i64 ((((prs [] ((B ++ (lenL nr)) ++ (body.drop m))).1) : Nat) : Int))])) (fun _ _ hF => opMove rfl (hF.ev 0 rfl)) rfl (fun _ _ => rfl) (kM [false, true, true, true] rfl rfl) (by decide) ?_
          refine pxV (v := (.slice A37 L36.length c38)) (fun _ _ hF => opExtract rfl (hF.ev 0 rfl) rfl) rfl (fun _ _ => rfl) (kA rfl) (by decide) ?_
          refine pxV (v := (.int .i64 ((((prs [] ((B ++ (lenL nr)) ++ (body.drop m))).1) : Nat) : Int))) (fun _ _ hF => opExtract rfl (hF.ev 1 rfl) rfl) rfl (fun _ _ => rfl) (kM [true, false, true, true, true] rfl rfl) (by decide) ?_
          refine pxV (v := (.slice A37 L36.length c38)) (fun _ _ hF => opAssign rfl (hF.ev 1 rfl)) rfl (fun _ _ => rfl) (kM [true, false, true, true, true] rfl rfl) (by decide) ?_
          refine pxV (v := (.int .i64 ((((prs [] ((B ++ (lenL nr)) ++ (body.drop m))).1) : Nat) : Int))) (fun _ _ hF => opAssign rfl (hF.ev 1 rfl)) rfl (fun _ _ => rfl) (kM [true, false, true, true, true] rfl rfl) (by decide) ?_
          refine pxEnd ?_
          refine qxThen ?_
          refine cxSeq ?_
          refine cxSeq ?_
          refine cxReg ?_
          refine pxV (v := (.bool (right))) (fun _ _ hF => opMove rfl (hF.ev 2 rfl)) rfl (fun _ _ => rfl) (kM [true, true, false, true, true] rfl rfl) (by decide) ?_
          refine pxV (v := (.bool (!(right)))) (fun _ _ hF => opNot rfl (hF.ev 0 rfl) rfl) rfl (fun _ _ => rfl) (kM [false, true, true, true, true] rfl rfl) (by decide) ?_
          refine pxEnd ?_
          refine qxThen ?_
          refine cxB 0 rfl rfl (fun hc41 => ?_) (fun hc41 => ?_)
          · replace hc41 : right = false := by simpa using hc41
            have hp : prs [] ((B ++ (lenL nr)) ++ (body.drop m)) = (2, []) := by rw [hB]; exact parts_wrong (by omega) (by omega) (hI.wr hc41) _ _
            refine cxSeq ?_
            refine cxReg ?_
            refine pxV (v := (.int .i64 ((((prs [] ((B ++ (lenL nr)) ++ (body.drop m))).1) : Nat) : Int))) (fun _ _ hF => opMove rfl (hF.ev 1 rfl)) rfl (fun _ _ => rfl) (kM [false, false, true, false, false] rfl rfl) (by decide) ?_
            refine pxV (v := (.bool true)) (fun _ _ hF => opEqI rfl (hF.ev 0 rfl) rfl (decide_eq_true (by rw [hp]; rfl))) rfl (fun _ _ => rfl) (kM [false, true] rfl rfl) (by decide) ?_
            refine pxV (v := (.bool true)) (fun _ _ hF => opMove rfl (hF.ev 0 rfl)) rfl (fun _ _ => rfl) (kM [false, true] rfl rfl) (by decide) ?_
            refine pxV (v := (.slice A37 L36.length c38)) (fun _ _ hF => opMove rfl (hF.ev 1 rfl)) rfl (gOn 0 rfl rfl rfl (by decide)) (kM [true, false] rfl rfl) (by decide) ?_
            refine pxV (v := (.int .i64 (((L36.length) : Nat) : Int))) (fun _ _ hF => opLen (e := 31) rfl (by kernel_rfl) (hF.ev 0 rfl)) rfl (gOn 1 rfl rfl rfl (by decide)) (kM [false, true] rfl rfl) (by decide) ?_
            refine pxV (v := (.bool true)) (fun _ _ hF => opEqI rfl (hF.ev 0 rfl) rfl (decide_eq_true (by rw [hB35.len, hp]; rfl))) rfl (gOn 1 rfl rfl rfl (by decide)) (kM [false, true] rfl rfl) (by decide) ?_
            refine pxV (v := (.bool true)) (fun _ _ hF => opPickT rfl (hF.ev 1 rfl) (hF.ev 0 rfl)) rfl (fun _ _ => rfl) (kM [false, false] rfl rfl) (by decide) ?_
            refine pxV (v := (.bool true)) (fun _ _ hF => opAssign rfl (hF.ev 0 rfl)) rfl (fun _ _ => rfl) (kM [false] rfl rfl) (by decide) ?_
            refine pxEnd ?_
            refine qxThen ?_
            refine cxRet ?_
            refine qxThenR ?_
            refine qxRet1 0 rfl rfl ?_
            exact ⟨rfl, HH.toBelow hH⟩
          · replace hc41 : right = true := by simpa using hc41
            have hp : prs [] ((B ++ (lenL nr)) ++ (body.drop m)) = (0, [((((1 + tag.toNat % 20) : Nat) : Int), body)]) := by rw [hB, show nr = body.length - m by omega]; exact parts_right (by omega) (by omega) (hI.ri hc41) hbody (by omega)
            refine cxSkip ?_
            refine qxThen ?_
            refine cxSeq ?_
            refine cxReg ?_
            refine pxV (v := (.int .i64 ((((prs [] ((B ++ (lenL nr)) ++ (body.drop m))).1) : Nat) : Int))) (fun _ _ hF => opMove rfl (hF.ev 1 rfl)) rfl (fun _ _ => rfl) (kM [false, false, true, true, true] rfl rfl) (by decide) ?_
            refine pxV (v := (.bool true)) (fun _ _ hF => opEqI rfl (hF.ev 0 rfl) rfl (decide_eq_true (by rw [hp]; rfl))) rfl (fun _ _ => rfl) (kM [false, true, true, true] rfl rfl) (by decide) ?_
            refine pxV (v := (.bool true)) (fun _ _ hF => opMove rfl (hF.ev 0 rfl)) rfl (fun _ _ => rfl) (kM [false, true, true, true] rfl rfl) (by decide) ?_
            refine pxV (v := (.slice A37 L36.length c38)) (fun _ _ hF => opMove rfl (hF.ev 1 rfl)) rfl (gOn 0 rfl rfl rfl (by decide)) (kM [true, false, true, true] rfl rfl) (by decide) ?_
            refine pxV (v := (.int .i64 (((1 + tag.toNat % 20) : Nat) : Int))) (fun _ _ hF => opMove rfl (hF.ev 2 rfl)) rfl (gOn 1 rfl rfl rfl (by decide)) (kM [true, true, false, true] rfl rfl) (by decide) ?_
            refine pxV (v := (.slice Ab body.length cb)) (fun _ _ hF => opMove rfl (hF.ev 3 rfl)) rfl (gOn 2 rfl rfl rfl (by decide)) (kM [true, true, true, false] rfl rfl) (by decide) ?_
            refine pxV (v := (.agg #[(.int .i64 (((1 + tag.toNat % 20) : Nat) : Int)), (.slice Ab body.length cb)])) (fun _ _ hF => opBuildP (cells := #[(.int .i64 (((1 + tag.toNat % 20) : Nat) : Int)), (.slice Ab body.length cb)]) rfl (EvP.cons (v := (.int .i64 (((1 + tag.toNat % 20) : Nat) : Int))) (hF.ev 1 rfl) (EvP.cons (v := (.slice Ab body.length cb)) (hF.ev 0 rfl) EvP.nil)) rfl _) rfl (gOn 3 rfl rfl rfl (by decide)) (kM [false, false, true, true] rfl rfl) (by decide) ?_
            refine pxM hH (fun _ hF => smLit1 (e := 31) (sz := 2) (z := (cPk.val (0, none, 0, 0))) (by_ := 32) (cs := cPk.enc ((((1 + tag.toNat % 20) : Nat) : Int), Ab, body.length, cb)) rfl (by kernel_rfl) (by kernel_rfl) ((hF.ev 0 rfl).trans (cPk_val (((1 + tag.toNat % 20) : Nat) : Int) Ab body.length cb)) (cPk.len ((((1 + tag.toNat % 20) : Nat) : Int), Ab, body.length, cb)) (ltb rfl) (leb rfl) rfl) trivial rfl (gOn 2 rfl rfl rfl (by decide)) (kM [false, true, true] rfl rfl) (by decide) ?_
            clear hH
            rintro _ _ w ⟨g42, rfl, rfl⟩ hH
            replace hH : HH w0 [] [E29, E15, E32, E33, [bl g42 31 (cPk.enc ((((1 + tag.toNat % 20) : Nat) : Int), Ab, body.length, cb))]] w := hH
            refine pxM hH (fun _ hF => Does.small ((Pure.as (v := (.bool true)) (same_c L36 ([((((1 + tag.toNat % 20) : Nat) : Int), Ab, body.length, cb)]) ((prs [] ((B ++ (lenL nr)) ++ (body.drop m))).2) ([((((1 + tag.toNat % 20) : Nat) : Int), body)]) A37 (some ⟨g42, 0, none⟩) c38 1 (by rw [hB35.len, hp]; exact (by decide : (1 : Nat) ≤ 140737488355328))) (congrArg Value.bool (decide_eq_true (by rw [hp])))).does) (fun w => opCall rfl Try.func15 rfl rfl (Evs.cons (v := (.slice A37 L36.length c38)) (hF.ev 1 rfl) (Evs.cons (v := (.slice (some ⟨g42, 0, none⟩) 1 1)) (hF.ev 0 rfl) Evs.nil)) w)) ⟨(hO34.vuAt (hH.has 2 rfl)), (hB35.beh (hH.has 3 rfl)), ((Bk.lit1 (C := cPk) ((((1 + tag.toNat % 20) : Nat) : Int), Ab, body.length, cb)).vu (hH.blk 4 rfl) rfl), (Beh.one (hH.vu hR.1 (by decide) (Off.nil _ _)))⟩ rfl (gOn 2 rfl rfl rfl (by decide)) (kM [false, false, true] rfl rfl) (by decide) ?_
            clear hH
            rintro _ _ w ⟨rfl, rfl⟩ hH
            replace hH : HH w0 [] [E29, E15, E32, E33, [bl g42 31 (cPk.enc ((((1 + tag.toNat % 20) : Nat) : Int), Ab, body.length, cb))]] w := hH.unpad
            refine pxV (v := (.bool true)) (fun _ _ hF => opPickT rfl (hF.ev 1 rfl) (hF.ev 0 rfl)) rfl (fun _ _ => rfl) (kM [false, false] rfl rfl) (by decide) ?_
            refine pxV (v := (.bool true)) (fun _ _ hF => opAssign rfl (hF.ev 0 rfl)) rfl (fun _ _ => rfl) (kM [false] rfl rfl) (by decide) ?_
            refine pxEnd ?_
            refine qxThen ?_
            refine cxRet ?_
            refine qxRet1 0 rfl rfl ?_
            exact ⟨rfl, HH.toBelow hH⟩
        · refine cxSkip ?_
          refine qxThen ?_
          refine cxSeq ?_
          rcases Nat.lt_or_ge (pn) 512 with h5 | h5
          · refine cxReg ?_
            refine pxV (v := (.bool (right))) (fun _ _ hF => opMove rfl (hF.ev 5 rfl)) rfl (fun _ _ => rfl) (kM [false, true, true, true, true, false, true, true, true, true, true] rfl rfl) (by decide) ?_
            refine pxV (v := (.bool (right))) (fun _ _ hF => opMove rfl (hF.ev 0 rfl)) rfl (fun _ _ => rfl) (kM [false, true, true, true, true, true, true, true, true, true] rfl rfl) (by decide) ?_
            refine pxSplitB 0 rfl (l1 := [(53, (.bool true)), (12, (.int .i64 (((pn) : Nat) : Int))), (11, (.int .i64 (((i) : Nat) : Int))), (39, (.int .i64 (((i) : Nat) : Int))), (38, (.int .i64 (((pw.length) : Nat) : Int))), (9, (.slice Ar nr cr)), (8, (.slice A1 B.length c1)), (7, (.int .i64 (((1 + tag.toNat % 20) : Nat) : Int))), (2, (.slice (some ⟨b6, off7, none⟩) pw.length cp)), (1, (.slice Ab body.length cb))]) (l2 := [(53, (.bool false)), (12, (.int .i64 (((pn) : Nat) : Int))), (11, (.int .i64 (((i) : Nat) : Int))), (39, (.int .i64 (((i) : Nat) : Int))), (38, (.int .i64 (((pw.length) : Nat) : Int))), (9, (.slice Ar nr cr)), (8, (.slice A1 B.length c1)), (7, (.int .i64 (((1 + tag.toNat % 20) : Nat) : Int))), (2, (.slice (some ⟨b6, off7, none⟩) pw.length cp)), (1, (.slice Ab body.length cb))]) rfl rfl (fun hg43 => ?_) (fun hg43 => ?_)
            · refine pxV (v := (.int .i64 (((1 + tag.toNat % 20) : Nat) : Int))) (fun _ _ hF => opMove rfl (hF.ev 7 rfl)) rfl (gOn 0 rfl rfl rfl (by decide)) (kA rfl) (by decide) ?_
              refine pxV (v := (.bool (decide (1 + tag.toNat % 20 = 8)))) (fun _ _ hF => opEqI rfl (hF.ev 0 rfl) rfl (dc (by omega))) rfl (gOn 1 rfl rfl rfl (by decide)) (kM [false, true, true, true, true, true, true, true, true, true, true] rfl rfl) (by decide) ?_
              refine pxV (v := (.bool (decide (1 + tag.toNat % 20 = 8)))) (fun _ _ hF => opMove rfl (hF.ev 0 rfl)) rfl (gOn 1 rfl rfl rfl (by decide)) (kM [false, true, true, true, true, true, true, true, true, true, true] rfl rfl) (by decide) ?_
              refine pxSplitP 0 rfl (l1 := [(56, (.bool true)), (53, (.bool true)), (12, (.int .i64 (((pn) : Nat) : Int))), (11, (.int .i64 (((i) : Nat) : Int))), (39, (.int .i64 (((i) : Nat) : Int))), (38, (.int .i64 (((pw.length) : Nat) : Int))), (9, (.slice Ar nr cr)), (8, (.slice A1 B.length c1)), (7, (.int .i64 (((1 + tag.toNat % 20) : Nat) : Int))), (2, (.slice (some ⟨b6, off7, none⟩) pw.length cp)), (1, (.slice Ab body.length cb))]) (l2 := [(56, (.bool false)), (53, (.bool true)), (12, (.int .i64 (((pn) : Nat) : Int))), (11, (.int .i64 (((i) : Nat) : Int))), (39, (.int .i64 (((i) : Nat) : Int))), (38, (.int .i64 (((pw.length) : Nat) : Int))), (9, (.slice Ar nr cr)), (8, (.slice A1 B.length c1)), (7, (.int .i64 (((1 + tag.toNat % 20) : Nat) : Int))), (2, (.slice (some ⟨b6, off7, none⟩) pw.length cp)), (1, (.slice Ab body.length cb))]) rfl rfl (fun hg44 => ?_) (fun hg44 => ?_)
              · have hmay : mayT (1 + tag.toNat % 20) = true := mayT_yes (by omega)
                refine pxU rfl (gOff 0 rfl rfl rfl (by decide)) (kA rfl) (by decide) ?_
                refine pxU rfl (gOff 0 rfl rfl rfl (by decide)) (kA rfl) (by decide) ?_
                refine pxV (v := (.bool true)) (fun _ _ hF => opPickT rfl (hF.ev 0 rfl) rfl) rfl (gOn 1 rfl rfl rfl (by decide)) (kM [false, true, true, true, true, true, true, true, true, true, true] rfl rfl) (by decide) ?_
                refine pxV (v := (.bool true)) (fun _ _ hF => opMove rfl (hF.ev 0 rfl)) rfl (gOn 1 rfl rfl rfl (by decide)) (kM [false, true, true, true, true, true, true, true, true, true, true] rfl rfl) (by decide) ?_
                refine pxU rfl (gOff 0 rfl rfl rfl (by decide)) (kA rfl) (by decide) ?_
                refine pxU rfl (gOff 0 rfl rfl rfl (by decide)) (kA rfl) (by decide) ?_
                refine pxV (v := (.bool true)) (fun _ _ hF => opPickT rfl (hF.ev 0 rfl) rfl) rfl (gOn 1 rfl rfl rfl (by decide)) (kM [false, true, true, true, true, true, true, true, true, true, true] rfl rfl) (by decide) ?_
                refine pxV (v := (.bool true)) (fun _ _ hF => opMove rfl (hF.ev 0 rfl)) rfl (gOn 1 rfl rfl rfl (by decide)) (kM [false, true, true, true, true, true, true, true, true, true, true] rfl rfl) (by decide) ?_
                refine pxU rfl (gOff 0 rfl rfl rfl (by decide)) (kA rfl) (by decide) ?_
                refine pxU rfl (gOff 0 rfl rfl rfl (by decide)) (kA rfl) (by decide) ?_
                refine pxV (v := (.bool true)) (fun _ _ hF => opPickT rfl (hF.ev 0 rfl) rfl) rfl (gOn 1 rfl rfl rfl (by decide)) (kM [false, true, true, true, true, true, true, true, true, true, true] rfl rfl) (by decide) ?_
                refine pxV (v := (.bool true)) (fun _ _ hF => opPickT rfl (hF.ev 1 rfl) (hF.ev 0 rfl)) rfl (fun _ _ => rfl) (kM [false, false, true, true, true, true, true, true, true, true, true] rfl rfl) (by decide) ?_
                refine pxV (v := (.bool true)) (fun _ _ hF => opMove rfl (hF.ev 0 rfl)) rfl (fun _ _ => rfl) (kM [false, true, true, true, true, true, true, true, true, true] rfl rfl) (by decide) ?_
                refine pxV (v := (.int .i64 (((i) : Nat) : Int))) (fun _ _ hF => opMove rfl (hF.ev 2 rfl)) rfl (gOn 0 rfl rfl rfl (by decide)) (kA rfl) (by decide) ?_
                refine pxV (v := (.bool (decide (i > 0)))) (fun _ _ hF => opGtr rfl (hF.ev 0 rfl) rfl (dc (by omega))) rfl (gOn 1 rfl rfl rfl (by decide)) (kM [false, true, true, true, true, true, true, true, true, true, true] rfl rfl) (by decide) ?_
                refine pxV (v := (.bool (decide (i > 0)))) (fun _ _ hF => opMove rfl (hF.ev 0 rfl)) rfl (gOn 1 rfl rfl rfl (by decide)) (kM [false, true, true, true, true, true, true, true, true, true, true] rfl rfl) (by decide) ?_
                refine pxSplitP 0 rfl (l1 := [(72, (.bool true)), (69, (.bool true)), (12, (.int .i64 (((pn) : Nat) : Int))), (11, (.int .i64 (((i) : Nat) : Int))), (39, (.int .i64 (((i) : Nat) : Int))), (38, (.int .i64 (((pw.length) : Nat) : Int))), (9, (.slice Ar nr cr)), (8, (.slice A1 B.length c1)), (7, (.int .i64 (((1 + tag.toNat % 20) : Nat) : Int))), (2, (.slice (some ⟨b6, off7, none⟩) pw.length cp)), (1, (.slice Ab body.length cb))]) (l2 := [(72, (.bool false)), (69, (.bool true)), (12, (.int .i64 (((pn) : Nat) : Int))), (11, (.int .i64 (((i) : Nat) : Int))), (39, (.int .i64 (((i) : Nat) : Int))), (38, (.int .i64 (((pw.length) : Nat) : Int))), (9, (.slice Ar nr cr)), (8, (.slice A1 B.length c1)), (7, (.int .i64 (((1 + tag.toNat % 20) : Nat) : Int))), (2, (.slice (some ⟨b6, off7, none⟩) pw.length cp)), (1, (.slice Ab body.length cb))]) rfl rfl (fun hg45 => ?_) (fun hg45 => ?_)
                · refine pxU rfl (gOff 0 rfl rfl rfl (by decide)) (kA rfl) (by decide) ?_
                  refine pxU rfl (gOff 0 rfl rfl rfl (by decide)) (kA rfl) (by decide) ?_
                  refine pxV (v := (.bool true)) (fun _ _ hF => opPickT rfl (hF.ev 0 rfl) rfl) rfl (gOn 1 rfl rfl rfl (by decide)) (kM [false, true, true, true, true, true, true, true, true, true, true] rfl rfl) (by decide) ?_
                  refine pxV (v := (.bool true)) (fun _ _ hF => opPickT rfl (hF.ev 1 rfl) (hF.ev 0 rfl)) rfl (fun _ _ => rfl) (kM [false, false, true, true, true, true, true, true, true, true, true] rfl rfl) (by decide) ?_
                  refine pxV (v := (.bool true)) (fun _ _ hF => opAssign rfl (hF.ev 0 rfl)) rfl (fun _ _ => rfl) (kM [false, true, true, true, true, true, true, true, true, true] rfl rfl) (by decide) ?_
                  refine pxEnd ?_
                  refine qxThen ?_
                  refine cxSeq ?_
                  refine cxRegX mixedOrders (by kernel_rfl) ?_
                  replace hH := hH.drew
                  refine rxV 0 rfl (by kernel_rfl) rfl (fun _ _ => rfl) (fun _ _ hF => opMove rfl (hF.ev 6 rfl)) (kA rfl) (by decide) (v := (.slice A1 B.length c1)) ?_
                  refine rxV 1 rfl (by kernel_rfl) rfl (fun _ _ => rfl) (fun _ _ hF => opMove rfl (hF.ev 9 rfl)) (kA rfl) (by decide) (v := (.slice (some ⟨b6, off7, none⟩) pw.length cp)) ?_
                  refine rxV 2 rfl (by kernel_rfl) rfl (fun _ _ => rfl) (fun _ _ hF => opMove rfl (hF.ev 4 rfl)) (kM [true, true, true, true, false, true, true, true, true, true, true, true] rfl rfl) (by decide) (v := (.int .i64 (((i) : Nat) : Int))) ?_
                  have hi46 : i < pw.length := by omega
                  have hj49 : i < pw.length := by first | exact hi46 | (simp only [List.length_drop, List.length_take]; omega) | omega
                  refine rxV 3 rfl (by kernel_rfl) rfl (fun _ _ => rfl) (fun _ _ hF => opIndex (i := i) (e := 5) (sz := 1) rfl (by kernel_rfl) (by kernel_rfl) (hF.ev 1 rfl) (hF.ev 0 rfl) rfl hi46) (kM [false, false, true, true, true, true, true, true, true, true, true, true] rfl rfl) (by decide) (v := (.pointer (some ⟨b6, off7 + i * 1, none⟩))) ?_
                  refine rxS (fun w => HoldsL cByte w b6 off7 pw) 4 rfl (by kernel_rfl) rfl (fun _ _ => rfl) (hH.holdsL hL8 hb9 hR10) (fun _ _ hF hS => opLoadT (C := cByte) (y := x0) rfl (hF.ev 0 rfl) (by kernel_rfl) (hS i _ hx0) rfl) (kM [false, true, true, true, true, true, true, true, true, true, true] rfl rfl) (by decide) (v := (.int .u8 (((x0.toNat) : Nat) : Int))) ?_
                  refine rxV 5 rfl (by kernel_rfl) rfl (fun _ _ => rfl) (fun _ _ hF => opRem (z := ((x0.toNat % 14 : Nat) : Int)) rfl (hF.ev 0 rfl) rfl (by omega) remN) (kM [false, true, true, true, true, true, true, true, true, true, true] rfl rfl) (by decide) (v := (.int .u8 (((x0.toNat % 14) : Nat) : Int))) ?_
                  refine rxV 6 rfl (by kernel_rfl) rfl (fun _ _ => rfl) (fun _ _ hF => opAddU (m := 224) (j := x0.toNat % 14) (z := ((UInt8.ofNat (224 + x0.toNat % 14)).toNat)) rfl rfl rfl (hF.ev 0 rfl) (by rw [ofNat_toNat (by omega)]; show (224 + x0.toNat % 14) % 256 = _; omega)) (kM [false, true, true, true, true, true, true, true, true, true, true] rfl rfl) (by decide) (v := (.int .u8 ((((UInt8.ofNat (224 + x0.toNat % 14)).toNat) : Nat) : Int))) ?_
                  refine rxV 9 rfl (by kernel_rfl) rfl (fun _ _ => rfl) (fun _ _ hF => opMove rfl (hF.ev 6 rfl)) (kA rfl) (by decide) (v := (.slice Ar nr cr)) ?_
                  refine rxV 10 rfl (by kernel_rfl) rfl (fun _ _ => rfl) (fun _ _ hF => opMove rfl (hF.ev 4 rfl)) (kA rfl) (by decide) (v := (.int .i64 (((pn) : Nat) : Int))) ?_
                  refine rxV 11 rfl (by kernel_rfl) rfl (fun _ _ => rfl) (fun _ _ hF => opCutH (h := pn) (e := 5) (sz := 1) rfl (by kernel_rfl) (by kernel_rfl) (hF.ev 1 rfl) (hF.ev 0 rfl) rfl (by omega)) (kM [false, false, true, true, true, true, true, true, true, true, true, true, true] rfl rfl) (by decide) (v := (.slice Ar pn cr)) ?_
                  refine rx1 7 (by kernel_rfl) ?_
                  refine moM rfl hH (fun _ hF => smLit1 (e := 5) (sz := 1) (z := (.int .u8 0)) (by_ := 1) (cs := cByte.enc (UInt8.ofNat (224 + x0.toNat % 14))) rfl (by kernel_rfl) (by kernel_rfl) (hF.ev 1 rfl) (cByte.len (UInt8.ofNat (224 + x0.toNat % 14))) (ltb rfl) (leb rfl) rfl) trivial rfl (fun _ _ => rfl) (kM [true, false, true, true, true, true, true, true, true, true, true, true] rfl rfl) (by decide) (PendOk.go [6, 5] (by kernel_rfl) (PendOk.nil _ [])) ?_
                  clear hH
                  rintro _ _ w ⟨g50, rfl, rfl⟩ hH
                  replace hH : HH w0 [] [E1, [bl g50 5 (cByte.enc (UInt8.ofNat (224 + x0.toNat % 14)))]] w := hH
                  refine ⟨(fun _ hs => by cases hs), ?_⟩
                  refine rx1 8 (by kernel_rfl) ?_
                  refine moE 0 rfl hH rfl (fun _ hF => smAppT (C := cByte) (l := B) (m := [(UInt8.ofNat (224 + x0.toNat % 14))]) (e := 5) (z := (.int .u8 0)) (by_ := 1) rfl (by kernel_rfl) (by kernel_rfl) rfl (ltb rfl) (hF.ev 2 rfl) hO (hF.ev 0 rfl) rfl (fun h => by cases h) (by unfold maxLen; omega) (by omega)) ((Bk.lit1 (C := cByte) (UInt8.ofNat (224 + x0.toNat % 14))).vu (hH.blk 1 rfl) rfl) rfl (fun _ _ => rfl) (kM [false, true, false, true, true, true, true, true, true, true, true, true] rfl rfl) (by decide) (PendOk.nil _ []) ?_
                  clear hH
                  rintro v53 E54 w ⟨hO55, _⟩ hH
                  replace hH : HH w0 [] [E54, [bl g50 5 (cByte.enc (UInt8.ofNat (224 + x0.toNat % 14)))]] w := hH
                  replace hO55 : OwnT cByte 5 v53 (B ++ [(UInt8.ofNat (224 + x0.toNat % 14))]) E54 := hO55
                  obtain ⟨A51, c52, rfl⟩ := hO55.slice
                  refine ⟨(fun _ hs => by cases hs), ?_⟩
                  refine rx1 12 (by kernel_rfl) ?_
                  refine moE 0 rfl hH rfl (fun _ hF => smAppT (C := cByte) (l := (B ++ [(UInt8.ofNat (224 + x0.toNat % 14))])) (m := ((body.drop m).take pn)) (e := 5) (z := (.int .u8 0)) (by_ := 1) rfl (by kernel_rfl) (by kernel_rfl) rfl (ltb rfl) (hF.ev 0 rfl) hO55 (hF.ev 1 rfl) (by rw [List.length_take, List.length_drop]; omega) (((hH.vu hVr (by decide) (Off.nil _ _)).head (m := pn) (by omega))).nilA (by simp only [List.length_append, List.length_cons, List.length_nil]; unfold maxLen; omega) (by simp only [List.length_append, List.length_cons, List.length_nil]; omega)) ((hH.vu hVr (by decide) (Off.nil _ _)).head (m := pn) (by omega)) rfl (fun _ _ => rfl) (kM [false, false, true, true, true, true, true, true, true, true, true] rfl rfl) (by decide) (PendOk.nil _ []) ?_
                  clear hH
                  rintro v58 E59 w ⟨hO60, _⟩ hH
                  replace hH : HH w0 [] [E59, [bl g50 5 (cByte.enc (UInt8.ofNat (224 + x0.toNat % 14)))]] w := hH
                  replace hO60 : OwnT cByte 5 v58 ((B ++ [(UInt8.ofNat (224 + x0.toNat % 14))]) ++ ((body.drop m).take pn)) E59 := hO60
                  obtain ⟨A56, c57, rfl⟩ := hO60.slice
                  refine ⟨(fun _ hs => by cases hs), ?_⟩
                  refine rxV 13 rfl (by kernel_rfl) rfl (fun _ _ => rfl) (fun _ _ hF => opAssign rfl (hF.ev 0 rfl)) (kM [false, true, true, true, true, true, false, true, true, true] rfl rfl) (by decide) (v := (.slice A56 (((B ++ [(UInt8.ofNat (224 + x0.toNat % 14))]) ++ ((body.drop m).take pn)).length) c57)) ?_
                  refine rxEnd (by kernel_rfl) ?_
                  refine qxThen ?_
                  refine cxReg ?_
                  refine pxV (v := (.slice Ar nr cr)) (fun _ _ hF => opMove rfl (hF.ev 5 rfl)) rfl (fun _ _ => rfl) (kM [true, true, true, true, true, false, true, true, true] rfl rfl) (by decide) ?_
                  refine pxV (v := (.int .i64 (((pn) : Nat) : Int))) (fun _ _ hF => opMove rfl (hF.ev 3 rfl)) rfl (fun _ _ => rfl) (kM [true, true, true, false, true, true, true, true, true] rfl rfl) (by decide) ?_
                  refine pxV (v := (.slice (cutA Ar cr pn 1) (nr - pn) (cr - pn))) (fun _ _ hF => opCutL (k := pn) (e := 5) (sz := 1) rfl (by kernel_rfl) (by kernel_rfl) (hF.ev 1 rfl) (hF.ev 0 rfl) rfl (by omega)) rfl (fun _ _ => rfl) (kM [false, false, true, true, true, true, true, true, true] rfl rfl) (by decide) ?_
                  refine pxV (v := (.slice (cutA Ar cr pn 1) (nr - pn) (cr - pn))) (fun _ _ hF => opAssign rfl (hF.ev 0 rfl)) rfl (fun _ _ => rfl) (kM [false, true, true, true, true, true, true, true] rfl rfl) (by decide) ?_
                  refine pxEnd ?_
                  refine qxInN ?_
                  refine qxThen ?_
                  refine cxReg ?_
                  refine pxV (v := (.int .i64 (((i + 1) : Nat) : Int))) (fun _ _ hF => opAdd rfl (hF.ev 3 rfl) rfl (wI (by omega) (by omega) (by omega))) rfl (fun _ _ => rfl) (kM [true, true, true, false, true, true, true, true] rfl rfl) (by decide) ?_
                  refine pxV (v := (.int .i64 (((i + 1) : Nat) : Int))) (fun _ _ hF => opMove rfl (hF.ev 0 rfl)) rfl (fun _ _ => rfl) (kM [false, true, true, true, true, true, true, true] rfl rfl) (by decide) ?_
                  refine pxEnd ?_
                  replace hH : HH w0 [] [E59] w := hH.only [true, false]
                  have hV2 := hVr.from (k := pn) (by omega)
                  rw [List.drop_drop] at hV2
                  exact qxRound (i + 1, A56, c57, ((B ++ [(UInt8.ofNat (224 + x0.toNat % 14))]) ++ ((body.drop m).take pn)), E59, (cutA Ar cr pn 1), (nr - pn), (cr - pn), m + pn, ((P ++ [UInt8.ofNat (224 + x0.toNat % 14)]) ++ (body.drop m).take (pn)), true) ⟨hH, (show (i + 1) ≤ pw.length from (by omega)), hO60, (by rw [hB]; simp), (show PInv (1 + tag.toNat % 20) body ((P ++ [UInt8.ofNat (224 + x0.toNat % 14)]) ++ (body.drop m).take (pn)) (i + 1) (m + pn) true from (PInv.good hpn hI hg43 (Nat.mod_lt _ (by decide)) hmay (by omega) (by omega) hbody)), hV2, (show (nr - pn) + (m + pn) = body.length from (by omega)), (show ((B ++ [(UInt8.ofNat (224 + x0.toNat % 14))]) ++ ((body.drop m).take pn)).length ≤ 1 + (i + 1) + (m + pn) from (by simp only [List.length_append, List.length_cons, List.length_nil, List.length_take, List.length_drop]; omega))⟩ (by omega) (slots_at [0, 4, 3, 1, 2, 5, 6, 7] rfl)
                · refine pxV (v := (.int .i64 (((pn) : Nat) : Int))) (fun _ _ hF => opMove rfl (hF.ev 2 rfl)) rfl (gOn 0 rfl rfl rfl (by decide)) (kA rfl) (by decide) ?_
                  refine pxV (v := (.bool false)) (fun _ _ hF => opGeq rfl (hF.ev 0 rfl) rfl (decide_eq_false (by omega))) rfl (gOn 1 rfl rfl rfl (by decide)) (kM [false, true, true, true, true, true, true, true, true, true, true, true] rfl rfl) (by decide) ?_
                  refine pxV (v := (.bool false)) (fun _ _ hF => opPickF rfl (hF.ev 1 rfl) (hF.ev 0 rfl)) rfl (gOn 2 rfl rfl rfl (by decide)) (kM [false, false, true, true, true, true, true, true, true, true, true, true] rfl rfl) (by decide) ?_
                  refine pxV (v := (.bool false)) (fun _ _ hF => opPickT rfl (hF.ev 1 rfl) (hF.ev 0 rfl)) rfl (fun _ _ => rfl) (kM [false, false, true, true, true, true, true, true, true, true, true] rfl rfl) (by decide) ?_
                  refine pxV (v := (.bool false)) (fun _ _ hF => opAssign rfl (hF.ev 0 rfl)) rfl (fun _ _ => rfl) (kM [false, true, true, true, true, true, true, true, true, true] rfl rfl) (by decide) ?_
                  refine pxEnd ?_
                  refine qxThen ?_
                  refine cxSeq ?_
                  refine cxRegX mixedOrders (by kernel_rfl) ?_
                  replace hH := hH.drew
                  refine rxV 0 rfl (by kernel_rfl) rfl (fun _ _ => rfl) (fun _ _ hF => opMove rfl (hF.ev 6 rfl)) (kA rfl) (by decide) (v := (.slice A1 B.length c1)) ?_
                  refine rxV 1 rfl (by kernel_rfl) rfl (fun _ _ => rfl) (fun _ _ hF => opMove rfl (hF.ev 9 rfl)) (kA rfl) (by decide) (v := (.slice (some ⟨b6, off7, none⟩) pw.length cp)) ?_
                  refine rxV 2 rfl (by kernel_rfl) rfl (fun _ _ => rfl) (fun _ _ hF => opMove rfl (hF.ev 4 rfl)) (kM [true, true, true, true, false, true, true, true, true, true, true, true] rfl rfl) (by decide) (v := (.int .i64 (((i) : Nat) : Int))) ?_
                  have hi61 : i < pw.length := by omega
                  have hj64 : i < pw.length := by first | exact hi61 | (simp only [List.length_drop, List.length_take]; omega) | omega
                  refine rxV 3 rfl (by kernel_rfl) rfl (fun _ _ => rfl) (fun _ _ hF => opIndex (i := i) (e := 5) (sz := 1) rfl (by kernel_rfl) (by kernel_rfl) (hF.ev 1 rfl) (hF.ev 0 rfl) rfl hi61) (kM [false, false, true, true, true, true, true, true, true, true, true, true] rfl rfl) (by decide) (v := (.pointer (some ⟨b6, off7 + i * 1, none⟩))) ?_
                  refine rxS (fun w => HoldsL cByte w b6 off7 pw) 4 rfl (by kernel_rfl) rfl (fun _ _ => rfl) (hH.holdsL hL8 hb9 hR10) (fun _ _ hF hS => opLoadT (C := cByte) (y := x0) rfl (hF.ev 0 rfl) (by kernel_rfl) (hS i _ hx0) rfl) (kM [false, true, true, true, true, true, true, true, true, true, true] rfl rfl) (by decide) (v := (.int .u8 (((x0.toNat) : Nat) : Int))) ?_
                  refine rxV 5 rfl (by kernel_rfl) rfl (fun _ _ => rfl) (fun _ _ hF => opRem (z := ((x0.toNat % 14 : Nat) : Int)) rfl (hF.ev 0 rfl) rfl (by omega) remN) (kM [false, true, true, true, true, true, true, true, true, true, true] rfl rfl) (by decide) (v := (.int .u8 (((x0.toNat % 14) : Nat) : Int))) ?_
                  refine rxV 6 rfl (by kernel_rfl) rfl (fun _ _ => rfl) (fun _ _ hF => opAddU (m := 224) (j := x0.toNat % 14) (z := ((UInt8.ofNat (224 + x0.toNat % 14)).toNat)) rfl rfl rfl (hF.ev 0 rfl) (by rw [ofNat_toNat (by omega)]; show (224 + x0.toNat % 14) % 256 = _; omega)) (kM [false, true, true, true, true, true, true, true, true, true, true] rfl rfl) (by decide) (v := (.int .u8 ((((UInt8.ofNat (224 + x0.toNat % 14)).toNat) : Nat) : Int))) ?_
                  refine rxV 9 rfl (by kernel_rfl) rfl (fun _ _ => rfl) (fun _ _ hF => opMove rfl (hF.ev 6 rfl)) (kA rfl) (by decide) (v := (.slice Ar nr cr)) ?_
                  refine rxV 10 rfl (by kernel_rfl) rfl (fun _ _ => rfl) (fun _ _ hF => opMove rfl (hF.ev 4 rfl)) (kA rfl) (by decide) (v := (.int .i64 (((pn) : Nat) : Int))) ?_
                  refine rxV 11 rfl (by kernel_rfl) rfl (fun _ _ => rfl) (fun _ _ hF => opCutH (h := pn) (e := 5) (sz := 1) rfl (by kernel_rfl) (by kernel_rfl) (hF.ev 1 rfl) (hF.ev 0 rfl) rfl (by omega)) (kM [false, false, true, true, true, true, true, true, true, true, true, true, true] rfl rfl) (by decide) (v := (.slice Ar pn cr)) ?_
                  refine rx1 7 (by kernel_rfl) ?_
                  refine moM rfl hH (fun _ hF => smLit1 (e := 5) (sz := 1) (z := (.int .u8 0)) (by_ := 1) (cs := cByte.enc (UInt8.ofNat (224 + x0.toNat % 14))) rfl (by kernel_rfl) (by kernel_rfl) (hF.ev 1 rfl) (cByte.len (UInt8.ofNat (224 + x0.toNat % 14))) (ltb rfl) (leb rfl) rfl) trivial rfl (fun _ _ => rfl) (kM [true, false, true, true, true, true, true, true, true, true, true, true] rfl rfl) (by decide) (PendOk.go [6, 5] (by kernel_rfl) (PendOk.nil _ [])) ?_
                  clear hH
                  rintro _ _ w ⟨g65, rfl, rfl⟩ hH
                  replace hH : HH w0 [] [E1, [bl g65 5 (cByte.enc (UInt8.ofNat (224 + x0.toNat % 14)))]] w := hH
                  refine ⟨(fun _ hs => by cases hs), ?_⟩
                  refine rx1 8 (by kernel_rfl) ?_
                  refine moE 0 rfl hH rfl (fun _ hF => smAppT (C := cByte) (l := B) (m := [(UInt8.ofNat (224 + x0.toNat % 14))]) (e := 5) (z := (.int .u8 0)) (by_ := 1) rfl (by kernel_rfl) (by kernel_rfl) rfl (ltb rfl) (hF.ev 2 rfl) hO (hF.ev 0 rfl) rfl (fun h => by cases h) (by unfold maxLen; omega) (by omega)) ((Bk.lit1 (C := cByte) (UInt8.ofNat (224 + x0.toNat % 14))).vu (hH.blk 1 rfl) rfl) rfl (fun _ _ => rfl) (kM [false, true, false, true, true, true, true, true, true, true, true, true] rfl rfl) (by decide) (PendOk.nil _ []) ?_
                  clear hH
                  rintro v68 E69 w ⟨hO70, _⟩ hH
                  replace hH : HH w0 [] [E69, [bl g65 5 (cByte.enc (UInt8.ofNat (224 + x0.toNat % 14)))]] w := hH
                  replace hO70 : OwnT cByte 5 v68 (B ++ [(UInt8.ofNat (224 + x0.toNat % 14))]) E69 := hO70
                  obtain ⟨A66, c67, rfl⟩ := hO70.slice
                  refine ⟨(fun _ hs => by cases hs), ?_⟩
                  refine rx1 12 (by kernel_rfl) ?_
                  refine moE 0 rfl hH rfl (fun _ hF => smAppT (C := cByte) (l := (B ++ [(UInt8.ofNat (224 + x0.toNat % 14))])) (m := ((body.drop m).take pn)) (e := 5) (z := (.int .u8 0)) (by_ := 1) rfl (by kernel_rfl) (by kernel_rfl) rfl (ltb rfl) (hF.ev 0 rfl) hO70 (hF.ev 1 rfl) (by rw [List.length_take, List.length_drop]; omega) (((hH.vu hVr (by decide) (Off.nil _ _)).head (m := pn) (by omega))).nilA (by simp only [List.length_append, List.length_cons, List.length_nil]; unfold maxLen; omega) (by simp only [List.length_append, List.length_cons, List.length_nil]; omega)) ((hH.vu hVr (by decide) (Off.nil _ _)).head (m := pn) (by omega)) rfl (fun _ _ => rfl) (kM [false, false, true, true, true, true, true, true, true, true, true] rfl rfl) (by decide) (PendOk.nil _ []) ?_
                  clear hH
                  rintro v73 E74 w ⟨hO75, _⟩ hH
                  replace hH : HH w0 [] [E74, [bl g65 5 (cByte.enc (UInt8.ofNat (224 + x0.toNat % 14)))]] w := hH
                  replace hO75 : OwnT cByte 5 v73 ((B ++ [(UInt8.ofNat (224 + x0.toNat % 14))]) ++ ((body.drop m).take pn)) E74 := hO75
                  obtain ⟨A71, c72, rfl⟩ := hO75.slice
                  refine ⟨(fun _ hs => by cases hs), ?_⟩
                  refine rxV 13 rfl (by kernel_rfl) rfl (fun _ _ => rfl) (fun _ _ hF => opAssign rfl (hF.ev 0 rfl)) (kM [false, true, true, true, true, true, false, true, true, true] rfl rfl) (by decide) (v := (.slice A71 (((B ++ [(UInt8.ofNat (224 + x0.toNat % 14))]) ++ ((body.drop m).take pn)).length) c72)) ?_
                  refine rxEnd (by kernel_rfl) ?_
                  refine qxThen ?_
                  refine cxReg ?_
                  refine pxV (v := (.slice Ar nr cr)) (fun _ _ hF => opMove rfl (hF.ev 5 rfl)) rfl (fun _ _ => rfl) (kM [true, true, true, true, true, false, true, true, true] rfl rfl) (by decide) ?_
                  refine pxV (v := (.int .i64 (((pn) : Nat) : Int))) (fun _ _ hF => opMove rfl (hF.ev 3 rfl)) rfl (fun _ _ => rfl) (kM [true, true, true, false, true, true, true, true, true] rfl rfl) (by decide) ?_
                  refine pxV (v := (.slice (cutA Ar cr pn 1) (nr - pn) (cr - pn))) (fun _ _ hF => opCutL (k := pn) (e := 5) (sz := 1) rfl (by kernel_rfl) (by kernel_rfl) (hF.ev 1 rfl) (hF.ev 0 rfl) rfl (by omega)) rfl (fun _ _ => rfl) (kM [false, false, true, true, true, true, true, true, true] rfl rfl) (by decide) ?_
                  refine pxV (v := (.slice (cutA Ar cr pn 1) (nr - pn) (cr - pn))) (fun _ _ hF => opAssign rfl (hF.ev 0 rfl)) rfl (fun _ _ => rfl) (kM [false, true, true, true, true, true, true, true] rfl rfl) (by decide) ?_
                  refine pxEnd ?_
                  refine qxInN ?_
                  refine qxThen ?_
                  refine cxReg ?_
                  refine pxV (v := (.int .i64 (((i + 1) : Nat) : Int))) (fun _ _ hF => opAdd rfl (hF.ev 3 rfl) rfl (wI (by omega) (by omega) (by omega))) rfl (fun _ _ => rfl) (kM [true, true, true, false, true, true, true, true] rfl rfl) (by decide) ?_
                  refine pxV (v := (.int .i64 (((i + 1) : Nat) : Int))) (fun _ _ hF => opMove rfl (hF.ev 0 rfl)) rfl (fun _ _ => rfl) (kM [false, true, true, true, true, true, true, true] rfl rfl) (by decide) ?_
                  refine pxEnd ?_
                  replace hH : HH w0 [] [E74] w := hH.only [true, false]
                  have hV2 := hVr.from (k := pn) (by omega)
                  rw [List.drop_drop] at hV2
                  exact qxRound (i + 1, A71, c72, ((B ++ [(UInt8.ofNat (224 + x0.toNat % 14))]) ++ ((body.drop m).take pn)), E74, (cutA Ar cr pn 1), (nr - pn), (cr - pn), m + pn, ((P ++ [UInt8.ofNat (224 + x0.toNat % 14)]) ++ (body.drop m).take (pn)), false) ⟨hH, (show (i + 1) ≤ pw.length from (by omega)), hO75, (by rw [hB]; simp), (show PInv (1 + tag.toNat % 20) body ((P ++ [UInt8.ofNat (224 + x0.toNat % 14)]) ++ (body.drop m).take (pn)) (i + 1) (m + pn) false from (PInv.bad hpn hI hg43 (Nat.mod_lt _ (by decide)) (.inr ⟨by omega, h5⟩) _ _)), hV2, (show (nr - pn) + (m + pn) = body.length from (by omega)), (show ((B ++ [(UInt8.ofNat (224 + x0.toNat % 14))]) ++ ((body.drop m).take pn)).length ≤ 1 + (i + 1) + (m + pn) from (by simp only [List.length_append, List.length_cons, List.length_nil, List.length_take, List.length_drop]; omega))⟩ (by omega) (slots_at [0, 4, 3, 1, 2, 5, 6, 7] rfl)
              · refine pxV (v := (.int .i64 (((1 + tag.toNat % 20) : Nat) : Int))) (fun _ _ hF => opMove rfl (hF.ev 8 rfl)) rfl (gOn 0 rfl rfl rfl (by decide)) (kA rfl) (by decide) ?_
                refine pxV (v := (.bool (decide (1 + tag.toNat % 20 = 9)))) (fun _ _ hF => opEqI rfl (hF.ev 0 rfl) rfl (dc (by omega))) rfl (gOn 1 rfl rfl rfl (by decide)) (kM [false, true, true, true, true, true, true, true, true, true, true, true] rfl rfl) (by decide) ?_
                refine pxV (v := (.bool (decide (1 + tag.toNat % 20 = 9)))) (fun _ _ hF => opPickF rfl (hF.ev 1 rfl) (hF.ev 0 rfl)) rfl (gOn 2 rfl rfl rfl (by decide)) (kM [false, false, true, true, true, true, true, true, true, true, true, true] rfl rfl) (by decide) ?_
                refine pxV (v := (.bool (decide (1 + tag.toNat % 20 = 9)))) (fun _ _ hF => opMove rfl (hF.ev 0 rfl)) rfl (gOn 1 rfl rfl rfl (by decide)) (kM [false, true, true, true, true, true, true, true, true, true, true] rfl rfl) (by decide) ?_
                refine pxSplitP 0 rfl (l1 := [(60, (.bool true)), (53, (.bool true)), (12, (.int .i64 (((pn) : Nat) : Int))), (11, (.int .i64 (((i) : Nat) : Int))), (39, (.int .i64 (((i) : Nat) : Int))), (38, (.int .i64 (((pw.length) : Nat) : Int))), (9, (.slice Ar nr cr)), (8, (.slice A1 B.length c1)), (7, (.int .i64 (((1 + tag.toNat % 20) : Nat) : Int))), (2, (.slice (some ⟨b6, off7, none⟩) pw.length cp)), (1, (.slice Ab body.length cb))]) (l2 := [(60, (.bool false)), (53, (.bool true)), (12, (.int .i64 (((pn) : Nat) : Int))), (11, (.int .i64 (((i) : Nat) : Int))), (39, (.int .i64 (((i) : Nat) : Int))), (38, (.int .i64 (((pw.length) : Nat) : Int))), (9, (.slice Ar nr cr)), (8, (.slice A1 B.length c1)), (7, (.int .i64 (((1 + tag.toNat % 20) : Nat) : Int))), (2, (.slice (some ⟨b6, off7, none⟩) pw.length cp)), (1, (.slice Ab body.length cb))]) rfl rfl (fun hg76 => ?_) (fun hg76 => ?_)
                · have hmay : mayT (1 + tag.toNat % 20) = true := mayT_yes (by omega)
                  refine pxU rfl (gOff 0 rfl rfl rfl (by decide)) (kA rfl) (by decide) ?_
                  refine pxU rfl (gOff 0 rfl rfl rfl (by decide)) (kA rfl) (by decide) ?_
                  refine pxV (v := (.bool true)) (fun _ _ hF => opPickT rfl (hF.ev 0 rfl) rfl) rfl (gOn 1 rfl rfl rfl (by decide)) (kM [false, true, true, true, true, true, true, true, true, true, true] rfl rfl) (by decide) ?_
                  refine pxV (v := (.bool true)) (fun _ _ hF => opMove rfl (hF.ev 0 rfl)) rfl (gOn 1 rfl rfl rfl (by decide)) (kM [false, true, true, true, true, true, true, true, true, true, true] rfl rfl) (by decide) ?_
                  refine pxU rfl (gOff 0 rfl rfl rfl (by decide)) (kA rfl) (by decide) ?_
                  refine pxU rfl (gOff 0 rfl rfl rfl (by decide)) (kA rfl) (by decide) ?_
                  refine pxV (v := (.bool true)) (fun _ _ hF => opPickT rfl (hF.ev 0 rfl) rfl) rfl (gOn 1 rfl rfl rfl (by decide)) (kM [false, true, true, true, true, true, true, true, true, true, true] rfl rfl) (by decide) ?_
                  refine pxV (v := (.bool true)) (fun _ _ hF => opPickT rfl (hF.ev 1 rfl) (hF.ev 0 rfl)) rfl (fun _ _ => rfl) (kM [false, false, true, true, true, true, true, true, true, true, true] rfl rfl) (by decide) ?_
                  refine pxV (v := (.bool true)) (fun _ _ hF => opMove rfl (hF.ev 0 rfl)) rfl (fun _ _ => rfl) (kM [false, true, true, true, true, true, true, true, true, true] rfl rfl) (by decide) ?_
                  refine pxV (v := (.int .i64 (((i) : Nat) : Int))) (fun _ _ hF => opMove rfl (hF.ev 2 rfl)) rfl (gOn 0 rfl rfl rfl (by decide)) (kA rfl) (by decide) ?_
                  refine pxV (v := (.bool (decide (i > 0)))) (fun _ _ hF => opGtr rfl (hF.ev 0 rfl) rfl (dc (by omega))) rfl (gOn 1 rfl rfl rfl (by decide)) (kM [false, true, true, true, true, true, true, true, true, true, true] rfl rfl) (by decide) ?_
                  refine pxV (v := (.bool (decide (i > 0)))) (fun _ _ hF => opMove rfl (hF.ev 0 rfl)) rfl (gOn 1 rfl rfl rfl (by decide)) (kM [false, true, true, true, true, true, true, true, true, true, true] rfl rfl) (by decide) ?_
                  refine pxSplitP 0 rfl (l1 := [(72, (.bool true)), (69, (.bool true)), (12, (.int .i64 (((pn) : Nat) : Int))), (11, (.int .i64 (((i) : Nat) : Int))), (39, (.int .i64 (((i) : Nat) : Int))), (38, (.int .i64 (((pw.length) : Nat) : Int))), (9, (.slice Ar nr cr)), (8, (.slice A1 B.length c1)), (7, (.int .i64 (((1 + tag.toNat % 20) : Nat) : Int))), (2, (.slice (some ⟨b6, off7, none⟩) pw.length cp)), (1, (.slice Ab body.length cb))]) (l2 := [(72, (.bool false)), (69, (.bool true)), (12, (.int .i64 (((pn) : Nat) : Int))), (11, (.int .i64 (((i) : Nat) : Int))), (39, (.int .i64 (((i) : Nat) : Int))), (38, (.int .i64 (((pw.length) : Nat) : Int))), (9, (.slice Ar nr cr)), (8, (.slice A1 B.length c1)), (7, (.int .i64 (((1 + tag.toNat % 20) : Nat) : Int))), (2, (.slice (some ⟨b6, off7, none⟩) pw.length cp)), (1, (.slice Ab body.length cb))]) rfl rfl (fun hg77 => ?_) (fun hg77 => ?_)
                  · refine pxU rfl (gOff 0 rfl rfl rfl (by decide)) (kA rfl) (by decide) ?_
                    refine pxU rfl (gOff 0 rfl rfl rfl (by decide)) (kA rfl) (by decide) ?_
                    refine pxV (v := (.bool true)) (fun _ _ hF => opPickT rfl (hF.ev 0 rfl) rfl) rfl (gOn 1 rfl rfl rfl (by decide)) (kM [false, true, true, true, true, true, true, true, true, true, true] rfl rfl) (by decide) ?_
                    refine pxV (v := (.bool true)) (fun _ _ hF => opPickT rfl (hF.ev 1 rfl) (hF.ev 0 rfl)) rfl (fun _ _ => rfl) (kM [false, false, true, true, true, true, true, true, true, true, true] rfl rfl) (by decide) ?_
                    refine pxV (v := (.bool true)) (fun _ _ hF => opAssign rfl (hF.ev 0 rfl)) rfl (fun _ _ => rfl) (kM [false, true, true, true, true, true, true, true, true, true] rfl rfl) (by decide) ?_
                    refine pxEnd ?_
                    refine qxThen ?_
                    refine cxSeq ?_
                    refine cxRegX mixedOrders (by kernel_rfl) ?_
                    replace hH := hH.drew
                    refine rxV 0 rfl (by kernel_rfl) rfl (fun _ _ => rfl) (fun _ _ hF => opMove rfl (hF.ev 6 rfl)) (kA rfl) (by decide) (v := (.slice A1 B.length c1)) ?_
                    refine rxV 1 rfl (by kernel_rfl) rfl (fun _ _ => rfl) (fun _ _ hF => opMove rfl (hF.ev 9 rfl)) (kA rfl) (by decide) (v := (.slice (some ⟨b6, off7, none⟩) pw.length cp)) ?_
                    refine rxV 2 rfl (by kernel_rfl) rfl (fun _ _ => rfl) (fun _ _ hF => opMove rfl (hF.ev 4 rfl)) (kM [true, true, true, true, false, true, true, true, true, true, true, true] rfl rfl) (by decide) (v := (.int .i64 (((i) : Nat) : Int))) ?_
                    have hi78 : i < pw.length := by omega
                    have hj81 : i < pw.length := by first | exact hi78 | (simp only [List.length_drop, List.length_take]; omega) | omega
                    refine rxV 3 rfl (by kernel_rfl) rfl (fun _ _ => rfl) (fun _ _ hF => opIndex (i := i) (e := 5) (sz := 1) rfl (by kernel_rfl) (by kernel_rfl) (hF.ev 1 rfl) (hF.ev 0 rfl) rfl hi78) (kM [false, false, true, true, true, true, true, true, true, true, true, true] rfl rfl) (by decide) (v := (.pointer (some ⟨b6, off7 + i * 1, none⟩))) ?_
                    refine rxS (fun w => HoldsL cByte w b6 off7 pw) 4 rfl (by kernel_rfl) rfl (fun _ _ => rfl) (hH.holdsL hL8 hb9 hR10) (fun _ _ hF hS => opLoadT (C := cByte) (y := x0) rfl (hF.ev 0 rfl) (by kernel_rfl) (hS i _ hx0) rfl) (kM [false, true, true, true, true, true, true, true, true, true, true] rfl rfl) (by decide) (v := (.int .u8 (((x0.toNat) : Nat) : Int))) ?_
                    refine rxV 5 rfl (by kernel_rfl) rfl (fun _ _ => rfl) (fun _ _ hF => opRem (z := ((x0.toNat % 14 : Nat) : Int)) rfl (hF.ev 0 rfl) rfl (by omega) remN) (kM [false, true, true, true, true, true, true, true, true, true, true] rfl rfl) (by decide) (v := (.int .u8 (((x0.toNat % 14) : Nat) : Int))) ?_
                    refine rxV 6 rfl (by kernel_rfl) rfl (fun _ _ => rfl) (fun _ _ hF => opAddU (m := 224) (j := x0.toNat % 14) (z := ((UInt8.ofNat (224 + x0.toNat % 14)).toNat)) rfl rfl rfl (hF.ev 0 rfl) (by rw [ofNat_toNat (by omega)]; show (224 + x0.toNat % 14) % 256 = _; omega)) (kM [false, true, true, true, true, true, true, true, true, true, true] rfl rfl) (by decide) (v := (.int .u8 ((((UInt8.ofNat (224 + x0.toNat % 14)).toNat) : Nat) : Int))) ?_
                    refine rxV 9 rfl (by kernel_rfl) rfl (fun _ _ => rfl) (fun _ _ hF => opMove rfl (hF.ev 6 rfl)) (kA rfl) (by decide) (v := (.slice Ar nr cr)) ?_
                    refine rxV 10 rfl (by kernel_rfl) rfl (fun _ _ => rfl) (fun _ _ hF => opMove rfl (hF.ev 4 rfl)) (kA rfl) (by decide) (v := (.int .i64 (((pn) : Nat) : Int))) ?_
                    refine rxV 11 rfl (by kernel_rfl) rfl (fun _ _ => rfl) (fun _ _ hF => opCutH (h := pn) (e := 5) (sz := 1) rfl (by kernel_rfl) (by kernel_rfl) (hF.ev 1 rfl) (hF.ev 0 rfl) rfl (by omega)) (kM [false, false, true, true, true, true, true, true, true, true, true, true, true] rfl rfl) (by decide) (v := (.slice Ar pn cr)) ?_
                    refine rx1 7 (by kernel_rfl) ?_
                    refine moM rfl hH (fun _ hF => smLit1 (e := 5) (sz := 1) (z := (.int .u8 0)) (by_ := 1) (cs := cByte.enc (UInt8.ofNat (224 + x0.toNat % 14))) rfl (by kernel_rfl) (by kernel_rfl) (hF.ev 1 rfl) (cByte.len (UInt8.ofNat (224 + x0.toNat % 14))) (ltb rfl) (leb rfl) rfl) trivial rfl (fun _ _ => rfl) (kM [true, false, true, true, true, true, true, true, true, true, true, true] rfl rfl) (by decide) (PendOk.go [6, 5] (by kernel_rfl) (PendOk.nil _ [])) ?_
                    clear hH
                    rintro _ _ w ⟨g82, rfl, rfl⟩ hH
                    replace hH : HH w0 [] [E1, [bl g82 5 (cByte.enc (UInt8.ofNat (224 + x0.toNat % 14)))]] w := hH
                    refine ⟨(fun _ hs => by cases hs), ?_⟩
                    refine rx1 8 (by kernel_rfl) ?_
                    refine moE 0 rfl hH rfl (fun _ hF => smAppT (C := cByte) (l := B) (m := [(UInt8.ofNat (224 + x0.toNat % 14))]) (e := 5) (z := (.int .u8 0)) (by_ := 1) rfl (by kernel_rfl) (by kernel_rfl) rfl (ltb rfl) (hF.ev 2 rfl) hO (hF.ev 0 rfl) rfl (fun h => by cases h) (by unfold maxLen; omega) (by omega)) ((Bk.lit1 (C := cByte) (UInt8.ofNat (224 + x0.toNat % 14))).vu (hH.blk 1 rfl) rfl) rfl (fun _ _ => rfl) (kM [false, true, false, true, true, true, true, true, true, true, true, true] rfl rfl) (by decide) (PendOk.nil _ []) ?_
                    clear hH
                    rintro v85 E86 w ⟨hO87, _⟩ hH
                    replace hH : HH w0 [] [E86, [bl g82 5 (cByte.enc (UInt8.ofNat (224 + x0.toNat % 14)))]] w := hH
                    replace hO87 : OwnT cByte 5 v85 (B ++ [(UInt8.ofNat (224 + x0.toNat % 14))]) E86 := hO87
                    obtain ⟨A83, c84, rfl⟩ := hO87.slice
                    refine ⟨(fun _ hs => by cases hs), ?_⟩
                    refine rx1 12 (by kernel_rfl) ?_
                    refine moE 0 rfl hH rfl (fun _ hF => smAppT (C := cByte) (l := (B ++ [(UInt8.ofNat (224 + x0.toNat % 14))])) (m := ((body.drop m).take pn)) (e := 5) (z := (.int .u8 0)) (by_ := 1) rfl (by kernel_rfl) (by kernel_rfl) rfl (ltb rfl) (hF.ev 0 rfl) hO87 (hF.ev 1 rfl) (by rw [List.length_take, List.length_drop]; omega) (((hH.vu hVr (by decide) (Off.nil _ _)).head (m := pn) (by omega))).nilA (by simp only [List.length_append, List.length_cons, List.length_nil]; unfold maxLen; omega) (by simp only [List.length_append, List.length_cons, List.length_nil]; omega)) ((hH.vu hVr (by decide) (Off.nil _ _)).head (m := pn) (by omega)) rfl (fun _ _ => rfl) (kM [false, false, true, true, true, true, true, true, true, true, true] rfl rfl) (by decide) (PendOk.nil _ []) ?_
                    clear hH
                    rintro v90 E91 w ⟨hO92, _⟩ hH
                    replace hH : HH w0 [] [E91, [bl g82 5 (cByte.enc (UInt8.ofNat (224 + x0.toNat % 14)))]] w := hH
                    replace hO92 : OwnT cByte 5 v90 ((B ++ [(UInt8.ofNat (224 + x0.toNat % 14))]) ++ ((body.drop m).take pn)) E91 := hO92
                    obtain ⟨A88, c89, rfl⟩ := hO92.slice
                    refine ⟨(fun _ hs => by cases hs), ?_⟩
                    refine rxV 13 rfl (by kernel_rfl) rfl (fun _ _ => rfl) (fun _ _ hF => opAssign rfl (hF.ev 0 rfl)) (kM [false, true, true, true, true, true, false, true, true, true] rfl rfl) (by decide) (v := (.slice A88 (((B ++ [(UInt8.ofNat (224 + x0.toNat % 14))]) ++ ((body.drop m).take pn)).length) c89)) ?_
                    refine rxEnd (by kernel_rfl) ?_
                    refine qxThen ?_
                    refine cxReg ?_
                    refine pxV (v := (.slice Ar nr cr)) (fun _ _ hF => opMove rfl (hF.ev 5 rfl)) rfl (fun _ _ => rfl) (kM [true, true, true, true, true, false, true, true, true] rfl rfl) (by decide) ?_
                    refine pxV (v := (.int .i64 (((pn) : Nat) : Int))) (fun _ _ hF => opMove rfl (hF.ev 3 rfl)) rfl (fun _ _ => rfl) (kM [true, true, true, false, true, true, true, true, true] rfl rfl) (by decide) ?_
                    refine pxV (v := (.slice (cutA Ar cr pn 1) (nr - pn) (cr - pn))) (fun _ _ hF => opCutL (k := pn) (e := 5) (sz := 1) rfl (by kernel_rfl) (by kernel_rfl) (hF.ev 1 rfl) (hF.ev 0 rfl) rfl (by omega)) rfl (fun _ _ => rfl) (kM [false, false, true, true, true, true, true, true, true] rfl rfl) (by decide) ?_
                    refine pxV (v := (.slice (cutA Ar cr pn 1) (nr - pn) (cr - pn))) (fun _ _ hF => opAssign rfl (hF.ev 0 rfl)) rfl (fun _ _ => rfl) (kM [false, true, true, true, true, true, true, true] rfl rfl) (by decide) ?_
                    refine pxEnd ?_
                    refine qxInN ?_
                    refine qxThen ?_
                    refine cxReg ?_
                    refine pxV (v := (.int .i64 (((i + 1) : Nat) : Int))) (fun _ _ hF => opAdd rfl (hF.ev 3 rfl) rfl (wI (by omega) (by omega) (by omega))) rfl (fun _ _ => rfl) (kM [true, true, true, false, true, true, true, true] rfl rfl) (by decide) ?_
                    refine pxV (v := (.int .i64 (((i + 1) : Nat) : Int))) (fun _ _ hF => opMove rfl (hF.ev 0 rfl)) rfl (fun _ _ => rfl) (kM [false, true, true, true, true, true, true, true] rfl rfl) (by decide) ?_
                    refine pxEnd ?_
                    replace hH : HH w0 [] [E91] w := hH.only [true, false]
                    have hV2 := hVr.from (k := pn) (by omega)
                    rw [List.drop_drop] at hV2
                    exact qxRound (i + 1, A88, c89, ((B ++ [(UInt8.ofNat (224 + x0.toNat % 14))]) ++ ((body.drop m).take pn)), E91, (cutA Ar cr pn 1), (nr - pn), (cr - pn), m + pn, ((P ++ [UInt8.ofNat (224 + x0.toNat % 14)]) ++ (body.drop m).take (pn)), true) ⟨hH, (show (i + 1) ≤ pw.length from (by omega)), hO92, (by rw [hB]; simp), (show PInv (1 + tag.toNat % 20) body ((P ++ [UInt8.ofNat (224 + x0.toNat % 14)]) ++ (body.drop m).take (pn)) (i + 1) (m + pn) true from (PInv.good hpn hI hg43 (Nat.mod_lt _ (by decide)) hmay (by omega) (by omega) hbody)), hV2, (show (nr - pn) + (m + pn) = body.length from (by omega)), (show ((B ++ [(UInt8.ofNat (224 + x0.toNat % 14))]) ++ ((body.drop m).take pn)).length ≤ 1 + (i + 1) + (m + pn) from (by simp only [List.length_append, List.length_cons, List.length_nil, List.length_take, List.length_drop]; omega))⟩ (by omega) (slots_at [0, 4, 3, 1, 2, 5, 6, 7] rfl)
                  · refine pxV (v := (.int .i64 (((pn) : Nat) : Int))) (fun _ _ hF => opMove rfl (hF.ev 2 rfl)) rfl (gOn 0 rfl rfl rfl (by decide)) (kA rfl) (by decide) ?_
                    refine pxV (v := (.bool false)) (fun _ _ hF => opGeq rfl (hF.ev 0 rfl) rfl (decide_eq_false (by omega))) rfl (gOn 1 rfl rfl rfl (by decide)) (kM [false, true, true, true, true, true, true, true, true, true, true, true] rfl rfl) (by decide) ?_
                    refine pxV (v := (.bool false)) (fun _ _ hF => opPickF rfl (hF.ev 1 rfl) (hF.ev 0 rfl)) rfl (gOn 2 rfl rfl rfl (by decide)) (kM [false, false, true, true, true, true, true, true, true, true, true, true] rfl rfl) (by decide) ?_
                    refine pxV (v := (.bool false)) (fun _ _ hF => opPickT rfl (hF.ev 1 rfl) (hF.ev 0 rfl)) rfl (fun _ _ => rfl) (kM [false, false, true, true, true, true, true, true, true, true, true] rfl rfl) (by decide) ?_
                    refine pxV (v := (.bool false)) (fun _ _ hF => opAssign rfl (hF.ev 0 rfl)) rfl (fun _ _ => rfl) (kM [false, true, true, true, true, true, true, true, true, true] rfl rfl) (by decide) ?_
                    refine pxEnd ?_
                    refine qxThen ?_
                    refine cxSeq ?_
                    refine cxRegX mixedOrders (by kernel_rfl) ?_
                    replace hH := hH.drew
                    refine rxV 0 rfl (by kernel_rfl) rfl (fun _ _ => rfl) (fun _ _ hF => opMove rfl (hF.ev 6 rfl)) (kA rfl) (by decide) (v := (.slice A1 B.length c1)) ?_
                    refine rxV 1 rfl (by kernel_rfl) rfl (fun _ _ => rfl) (fun _ _ hF => opMove rfl (hF.ev 9 rfl)) (kA rfl) (by decide) (v := (.slice (some ⟨b6, off7, none⟩) pw.length cp)) ?_
                    refine rxV 2 rfl (by kernel_rfl) rfl (fun _ _ => rfl) (fun _ _ hF => opMove rfl (hF.ev 4 rfl)) (kM [true, true, true, true, false, true, true, true, true, true, true, true] rfl rfl) (by decide) (v := (.int .i64 (((i) : Nat) : Int))) ?_
                    have hi93 : i < pw.length := by omega
                    have hj96 : i < pw.length := by first | exact hi93 | (simp only [List.length_drop, List.length_take]; omega) | omega
                    refine rxV 3 rfl (by kernel_rfl) rfl (fun _ _ => rfl) (fun _ _ hF => opIndex (i := i) (e := 5) (sz := 1) rfl (by kernel_rfl) (by kernel_rfl) (hF.ev 1 rfl) (hF.ev 0 rfl) rfl hi93) (kM [false, false, true, true, true, true, true, true, true, true, true, true] rfl rfl) (by decide) (v := (.pointer (some ⟨b6, off7 + i * 1, none⟩))) ?_
                    refine rxS (fun w => HoldsL cByte w b6 off7 pw) 4 rfl (by kernel_rfl) rfl (fun _ _ => rfl) (hH.holdsL hL8 hb9 hR10) (fun _ _ hF hS => opLoadT (C := cByte) (y := x0) rfl (hF.ev 0 rfl) (by kernel_rfl) (hS i _ hx0) rfl) (kM [false, true, true, true, true, true, true, true, true, true, true] rfl rfl) (by decide) (v := (.int .u8 (((x0.toNat) : Nat) : Int))) ?_
                    refine rxV 5 rfl (by kernel_rfl) rfl (fun _ _ => rfl) (fun _ _ hF => opRem (z := ((x0.toNat % 14 : Nat) : Int)) rfl (hF.ev 0 rfl) rfl (by omega) remN) (kM [false, true, true, true, true, true, true, true, true, true, true] rfl rfl) (by decide) (v := (.int .u8 (((x0.toNat % 14) : Nat) : Int))) ?_
                    refine rxV 6 rfl (by kernel_rfl) rfl (fun _ _ => rfl) (fun _ _ hF => opAddU (m := 224) (j := x0.toNat % 14) (z := ((UInt8.ofNat (224 + x0.toNat % 14)).toNat)) rfl rfl rfl (hF.ev 0 rfl) (by rw [ofNat_toNat (by omega)]; show (224 + x0.toNat % 14) % 256 = _; omega)) (kM [false, true, true, true, true, true, true, true, true, true, true] rfl rfl) (by decide) (v := (.int .u8 ((((UInt8.ofNat (224 + x0.toNat % 14)).toNat) : Nat) : Int))) ?_
                    refine rxV 9 rfl (by kernel_rfl) rfl (fun _ _ => rfl) (fun _ _ hF => opMove rfl (hF.ev 6 rfl)) (kA rfl) (by decide) (v := (.slice Ar nr cr)) ?_
                    refine rxV 10 rfl (by kernel_rfl) rfl (fun _ _ => rfl) (fun _ _ hF => opMove rfl (hF.ev 4 rfl)) (kA rfl) (by decide) (v := (.int .i64 (((pn) : Nat) : Int))) ?_
                    refine rxV 11 rfl (by kernel_rfl) rfl (fun _ _ => rfl) (fun _ _ hF => opCutH (h := pn) (e := 5) (sz := 1) rfl (by kernel_rfl) (by kernel_rfl) (hF.ev 1 rfl) (hF.ev 0 rfl) rfl (by omega)) (kM [false, false, true, true, true, true, true, true, true, true, true, true, true] rfl rfl) (by decide) (v := (.slice Ar pn cr)) ?_
                    refine rx1 7 (by kernel_rfl) ?_
                    refine moM rfl hH (fun _ hF => smLit1 (e := 5) (sz := 1) (z := (.int .u8 0)) (by_ := 1) (cs := cByte.enc (UInt8.ofNat (224 + x0.toNat % 14))) rfl (by kernel_rfl) (by kernel_rfl) (hF.ev 1 rfl) (cByte.len (UInt8.ofNat (224 + x0.toNat % 14))) (ltb rfl) (leb rfl) rfl) trivial rfl (fun _ _ => rfl) (kM [true, false, true, true, true, true, true, true, true, true, true, true] rfl rfl) (by decide) (PendOk.go [6, 5] (by kernel_rfl) (PendOk.nil _ [])) ?_
                    clear hH
                    rintro _ _ w ⟨g97, rfl, rfl⟩ hH
                    replace hH : HH w0 [] [E1, [bl g97 5 (cByte.enc (UInt8.ofNat (224 + x0.toNat % 14)))]] w := hH
                    refine ⟨(fun _ hs => by cases hs), ?_⟩
                    refine rx1 8 (by kernel_rfl) ?_
                    refine moE 0 rfl hH rfl (fun _ hF => smAppT (C := cByte) (l := B) (m := [(UInt8.ofNat (224 + x0.toNat % 14))]) (e := 5) (z := (.int .u8 0)) (by_ := 1) rfl (by kernel_rfl) (by kernel_rfl) rfl (ltb rfl) (hF.ev 2 rfl) hO (hF.ev 0 rfl) rfl (fun h => by cases h) (by unfold maxLen; omega) (by omega)) ((Bk.lit1 (C := cByte) (UInt8.ofNat (224 + x0.toNat % 14))).vu (hH.blk 1 rfl) rfl) rfl (fun _ _ => rfl) (kM [false, true, false, true, true, true, true, true, true, true, true, true] rfl rfl) (by decide) (PendOk.nil _ []) ?_
                    clear hH
                    rintro v100 E101 w ⟨hO102, _⟩ hH
                    replace hH : HH w0 [] [E101, [bl g97 5 (cByte.enc (UInt8.ofNat (224 + x0.toNat % 14)))]] w := hH
                    replace hO102 : OwnT cByte 5 v100 (B ++ [(UInt8.ofNat (224 + x0.toNat % 14))]) E101 := hO102
                    obtain ⟨A98, c99, rfl⟩ := hO102.slice
                    refine ⟨(fun _ hs => by cases hs), ?_⟩
                    refine rx1 12 (by kernel_rfl) ?_
                    refine moE 0 rfl hH rfl (fun _ hF => smAppT (C := cByte) (l := (B ++ [(UInt8.ofNat (224 + x0.toNat % 14))])) (m := ((body.drop m).take pn)) (e := 5) (z := (.int .u8 0)) (by_ := 1) rfl (by kernel_rfl) (by kernel_rfl) rfl (ltb rfl) (hF.ev 0 rfl) hO102 (hF.ev 1 rfl) (by rw [List.length_take, List.length_drop]; omega) (((hH.vu hVr (by decide) (Off.nil _ _)).head (m := pn) (by omega))).nilA (by simp only [List.length_append, List.length_cons, List.length_nil]; unfold maxLen; omega) (by simp only [List.length_append, List.length_cons, List.length_nil]; omega)) ((hH.vu hVr (by decide) (Off.nil _ _)).head (m := pn) (by omega)) rfl (fun _ _ => rfl) (kM [false, false, true, true, true, true, true, true, true, true, true] rfl rfl) (by decide) (PendOk.nil _ []) ?_
                    clear hH
                    rintro v105 E106 w ⟨hO107, _⟩ hH
                    replace hH : HH w0 [] [E106, [bl g97 5 (cByte.enc (UInt8.ofNat (224 + x0.toNat % 14)))]] w := hH
                    replace hO107 : OwnT cByte 5 v105 ((B ++ [(UInt8.ofNat (224 + x0.toNat % 14))]) ++ ((body.drop m).take pn)) E106 := hO107
                    obtain ⟨A103, c104, rfl⟩ := hO107.slice
                    refine ⟨(fun _ hs => by cases hs), ?_⟩
                    refine rxV 13 rfl (by kernel_rfl) rfl (fun _ _ => rfl) (fun _ _ hF => opAssign rfl (hF.ev 0 rfl)) (kM [false, true, true, true, true, true, false, true, true, true] rfl rfl) (by decide) (v := (.slice A103 (((B ++ [(UInt8.ofNat (224 + x0.toNat % 14))]) ++ ((body.drop m).take pn)).length) c104)) ?_
                    refine rxEnd (by kernel_rfl) ?_
                    refine qxThen ?_
                    refine cxReg ?_
                    refine pxV (v := (.slice Ar nr cr)) (fun _ _ hF => opMove rfl (hF.ev 5 rfl)) rfl (fun _ _ => rfl) (kM [true, true, true, true, true, false, true, true, true] rfl rfl) (by decide) ?_
                    refine pxV (v := (.int .i64 (((pn) : Nat) : Int))) (fun _ _ hF => opMove rfl (hF.ev 3 rfl)) rfl (fun _ _ => rfl) (kM [true, true, true, false, true, true, true, true, true] rfl rfl) (by decide) ?_
                    refine pxV (v := (.slice (cutA Ar cr pn 1) (nr - pn) (cr - pn))) (fun _ _ hF => opCutL (k := pn) (e := 5) (sz := 1) rfl (by kernel_rfl) (by kernel_rfl) (hF.ev 1 rfl) (hF.ev 0 rfl) rfl (by omega)) rfl (fun _ _ => rfl) (kM [false, false, true, true, true, true, true, true, true] rfl rfl) (by decide) ?_
                    refine pxV (v := (.slice (cutA Ar cr pn 1) (nr - pn) (cr - pn))) (fun _ _ hF => opAssign rfl (hF.ev 0 rfl)) rfl (fun _ _ => rfl) (kM [false, true, true, true, true, true, true, true] rfl rfl) (by decide) ?_
                    refine pxEnd ?_
                    refine qxInN ?_
                    refine qxThen ?_
                    refine cxReg ?_
                    refine pxV (v := (.int .i64 (((i + 1) : Nat) : Int))) (fun _ _ hF => opAdd rfl (hF.ev 3 rfl) rfl (wI (by omega) (by omega) (by omega))) rfl (fun _ _ => rfl) (kM [true, true, true, false, true, true, true, true] rfl rfl) (by decide) ?_
                    refine pxV (v := (.int .i64 (((i + 1) : Nat) : Int))) (fun _ _ hF => opMove rfl (hF.ev 0 rfl)) rfl (fun _ _ => rfl) (kM [false, true, true, true, true, true, true, true] rfl rfl) (by decide) ?_
                    refine pxEnd ?_
                    replace hH : HH w0 [] [E106] w := hH.only [true, false]
                    have hV2 := hVr.from (k := pn) (by omega)
                    rw [List.drop_drop] at hV2
                    exact qxRound (i + 1, A103, c104, ((B ++ [(UInt8.ofNat (224 + x0.toNat % 14))]) ++ ((body.drop m).take pn)), E106, (cutA Ar cr pn 1), (nr - pn), (cr - pn), m + pn, ((P ++ [UInt8.ofNat (224 + x0.toNat % 14)]) ++ (body.drop m).take (pn)), false) ⟨hH, (show (i + 1) ≤ pw.length from (by omega)), hO107, (by rw [hB]; simp), (show PInv (1 + tag.toNat % 20) body ((P ++ [UInt8.ofNat (224 + x0.toNat % 14)]) ++ (body.drop m).take (pn)) (i + 1) (m + pn) false from (PInv.bad hpn hI hg43 (Nat.mod_lt _ (by decide)) (.inr ⟨by omega, h5⟩) _ _)), hV2, (show (nr - pn) + (m + pn) = body.length from (by omega)), (show ((B ++ [(UInt8.ofNat (224 + x0.toNat % 14))]) ++ ((body.drop m).take pn)).length ≤ 1 + (i + 1) + (m + pn) from (by simp only [List.length_append, List.length_cons, List.length_nil, List.length_take, List.length_drop]; omega))⟩ (by omega) (slots_at [0, 4, 3, 1, 2, 5, 6, 7] rfl)
                · refine pxV (v := (.int .i64 (((1 + tag.toNat % 20) : Nat) : Int))) (fun _ _ hF => opMove rfl (hF.ev 8 rfl)) rfl (gOn 0 rfl rfl rfl (by decide)) (kA rfl) (by decide) ?_
                  refine pxV (v := (.bool (decide (1 + tag.toNat % 20 = 11)))) (fun _ _ hF => opEqI rfl (hF.ev 0 rfl) rfl (dc (by omega))) rfl (gOn 1 rfl rfl rfl (by decide)) (kM [false, true, true, true, true, true, true, true, true, true, true, true] rfl rfl) (by decide) ?_
                  refine pxV (v := (.bool (decide (1 + tag.toNat % 20 = 11)))) (fun _ _ hF => opPickF rfl (hF.ev 1 rfl) (hF.ev 0 rfl)) rfl (gOn 2 rfl rfl rfl (by decide)) (kM [false, false, true, true, true, true, true, true, true, true, true, true] rfl rfl) (by decide) ?_
                  refine pxV (v := (.bool (decide (1 + tag.toNat % 20 = 11)))) (fun _ _ hF => opMove rfl (hF.ev 0 rfl)) rfl (gOn 1 rfl rfl rfl (by decide)) (kM [false, true, true, true, true, true, true, true, true, true, true] rfl rfl) (by decide) ?_
                  refine pxSplitP 0 rfl (l1 := [(64, (.bool true)), (53, (.bool true)), (12, (.int .i64 (((pn) : Nat) : Int))), (11, (.int .i64 (((i) : Nat) : Int))), (39, (.int .i64 (((i) : Nat) : Int))), (38, (.int .i64 (((pw.length) : Nat) : Int))), (9, (.slice Ar nr cr)), (8, (.slice A1 B.length c1)), (7, (.int .i64 (((1 + tag.toNat % 20) : Nat) : Int))), (2, (.slice (some ⟨b6, off7, none⟩) pw.length cp)), (1, (.slice Ab body.length cb))]) (l2 := [(64, (.bool false)), (53, (.bool true)), (12, (.int .i64 (((pn) : Nat) : Int))), (11, (.int .i64 (((i) : Nat) : Int))), (39, (.int .i64 (((i) : Nat) : Int))), (38, (.int .i64 (((pw.length) : Nat) : Int))), (9, (.slice Ar nr cr)), (8, (.slice A1 B.length c1)), (7, (.int .i64 (((1 + tag.toNat % 20) : Nat) : Int))), (2, (.slice (some ⟨b6, off7, none⟩) pw.length cp)), (1, (.slice Ab body.length cb))]) rfl rfl (fun hg108 => ?_) (fun hg108 => ?_)
                  · have hmay : mayT (1 + tag.toNat % 20) = true := mayT_yes (by omega)
                    refine pxU rfl (gOff 0 rfl rfl rfl (by decide)) (kA rfl) (by decide) ?_
                    refine pxU rfl (gOff 0 rfl rfl rfl (by decide)) (kA rfl) (by decide) ?_
                    refine pxV (v := (.bool true)) (fun _ _ hF => opPickT rfl (hF.ev 0 rfl) rfl) rfl (gOn 1 rfl rfl rfl (by decide)) (kM [false, true, true, true, true, true, true, true, true, true, true] rfl rfl) (by decide) ?_
                    refine pxV (v := (.bool true)) (fun _ _ hF => opPickT rfl (hF.ev 1 rfl) (hF.ev 0 rfl)) rfl (fun _ _ => rfl) (kM [false, false, true, true, true, true, true, true, true, true, true] rfl rfl) (by decide) ?_
                    refine pxV (v := (.bool true)) (fun _ _ hF => opMove rfl (hF.ev 0 rfl)) rfl (fun _ _ => rfl) (kM [false, true, true, true, true, true, true, true, true, true] rfl rfl) (by decide) ?_
                    refine pxV (v := (.int .i64 (((i) : Nat) : Int))) (fun _ _ hF => opMove rfl (hF.ev 2 rfl)) rfl (gOn 0 rfl rfl rfl (by decide)) (kA rfl) (by decide) ?_
                    refine pxV (v := (.bool (decide (i > 0)))) (fun _ _ hF => opGtr rfl (hF.ev 0 rfl) rfl (dc (by omega))) rfl (gOn 1 rfl rfl rfl (by decide)) (kM [false, true, true, true, true, true, true, true, true, true, true] rfl rfl) (by decide) ?_
                    refine pxV (v := (.bool (decide (i > 0)))) (fun _ _ hF => opMove rfl (hF.ev 0 rfl)) rfl (gOn 1 rfl rfl rfl (by decide)) (kM [false, true, true, true, true, true, true, true, true, true, true] rfl rfl) (by decide) ?_
                    refine pxSplitP 0 rfl (l1 := [(72, (.bool true)), (69, (.bool true)), (12, (.int .i64 (((pn) : Nat) : Int))), (11, (.int .i64 (((i) : Nat) : Int))), (39, (.int .i64 (((i) : Nat) : Int))), (38, (.int .i64 (((pw.length) : Nat) : Int))), (9, (.slice Ar nr cr)), (8, (.slice A1 B.length c1)), (7, (.int .i64 (((1 + tag.toNat % 20) : Nat) : Int))), (2, (.slice (some ⟨b6, off7, none⟩) pw.length cp)), (1, (.slice Ab body.length cb))]) (l2 := [(72, (.bool false)), (69, (.bool true)), (12, (.int .i64 (((pn) : Nat) : Int))), (11, (.int .i64 (((i) : Nat) : Int))), (39, (.int .i64 (((i) : Nat) : Int))), (38, (.int .i64 (((pw.length) : Nat) : Int))), (9, (.slice Ar nr cr)), (8, (.slice A1 B.length c1)), (7, (.int .i64 (((1 + tag.toNat % 20) : Nat) : Int))), (2, (.slice (some ⟨b6, off7, none⟩) pw.length cp)), (1, (.slice Ab body.length cb))]) rfl rfl (fun hg109 => ?_) (fun hg109 => ?_)
                    · refine pxU rfl (gOff 0 rfl rfl rfl (by decide)) (kA rfl) (by decide) ?_
                      refine pxU rfl (gOff 0 rfl rfl rfl (by decide)) (kA rfl) (by decide) ?_
                      refine pxV (v := (.bool true)) (fun _ _ hF => opPickT rfl (hF.ev 0 rfl) rfl) rfl (gOn 1 rfl rfl rfl (by decide)) (kM [false, true, true, true, true, true, true, true, true, true, true] rfl rfl) (by decide) ?_
                      refine pxV (v := (.bool true)) (fun _ _ hF => opPickT rfl (hF.ev 1 rfl) (hF.ev 0 rfl)) rfl (fun _ _ => rfl) (kM [false, false, true, true, true, true, true, true, true, true, true] rfl rfl) (by decide) ?_
                      refine pxV (v := (.bool true)) (fun _ _ hF => opAssign rfl (hF.ev 0 rfl)) rfl (fun _ _ => rfl) (kM [false, true, true, true, true, true, true, true, true, true] rfl rfl) (by decide) ?_
                      refine pxEnd ?_
                      refine qxThen ?_
                      refine cxSeq ?_
                      refine cxRegX mixedOrders (by kernel_rfl) ?_
                      replace hH := hH.drew
                      refine rxV 0 rfl (by kernel_rfl) rfl (fun _ _ => rfl) (fun _ _ hF => opMove rfl (hF.ev 6 rfl)) (kA rfl) (by decide) (v := (.slice A1 B.length c1)) ?_
                      refine rxV 1 rfl (by kernel_rfl) rfl (fun _ _ => rfl) (fun _ _ hF => opMove rfl (hF.ev 9 rfl)) (kA rfl) (by decide) (v := (.slice (some ⟨b6, off7, none⟩) pw.length cp)) ?_
                      refine rxV 2 rfl (by kernel_rfl) rfl (fun _ _ => rfl) (fun _ _ hF => opMove rfl (hF.ev 4 rfl)) (kM [true, true, true, true, false, true, true, true, true, true, true, true] rfl rfl) (by decide) (v := (.int .i64 (((i) : Nat) : Int))) ?_
                      have hi110 : i < pw.length := by omega
                      have hj113 : i < pw.length := by first | exact hi110 | (simp only [List.length_drop, List.length_take]; omega) | omega
                      refine rxV 3 rfl (by kernel_rfl) rfl (fun _ _ => rfl) (fun _ _ hF => opIndex (i := i) (e := 5) (sz := 1) rfl (by kernel_rfl) (by kernel_rfl) (hF.ev 1 rfl) (hF.ev 0 rfl) rfl hi110) (kM [false, false, true, true, true, true, true, true, true, true, true, true] rfl rfl) (by decide) (v := (.pointer (some ⟨b6, off7 + i * 1, none⟩))) ?_
                      refine rxS (fun w => HoldsL cByte w b6 off7 pw) 4 rfl (by kernel_rfl) rfl (fun _ _ => rfl) (hH.holdsL hL8 hb9 hR10) (fun _ _ hF hS => opLoadT (C := cByte) (y := x0) rfl (hF.ev 0 rfl) (by kernel_rfl) (hS i _ hx0) rfl) (kM [false, true, true, true, true, true, true, true, true, true, true] rfl rfl) (by decide) (v := (.int .u8 (((x0.toNat) : Nat) : Int))) ?_
                      refine rxV 5 rfl (by kernel_rfl) rfl (fun _ _ => rfl) (fun _ _ hF => opRem (z := ((x0.toNat % 14 : Nat) : Int)) rfl (hF.ev 0 rfl) rfl (by omega) remN) (kM [false, true, true, true, true, true, true, true, true, true, true] rfl rfl) (by decide) (v := (.int .u8 (((x0.toNat % 14) : Nat) : Int))) ?_
                      refine rxV 6 rfl (by kernel_rfl) rfl (fun _ _ => rfl) (fun _ _ hF => opAddU (m := 224) (j := x0.toNat % 14) (z := ((UInt8.ofNat (224 + x0.toNat % 14)).toNat)) rfl rfl rfl (hF.ev 0 rfl) (by rw [ofNat_toNat (by omega)]; show (224 + x0.toNat % 14) % 256 = _; omega)) (kM [false, true, true, true, true, true, true, true, true, true, true] rfl rfl) (by decide) (v := (.int .u8 ((((UInt8.ofNat (224 + x0.toNat % 14)).toNat) : Nat) : Int))) ?_
                      refine rxV 9 rfl (by kernel_rfl) rfl (fun _ _ => rfl) (fun _ _ hF => opMove rfl (hF.ev 6 rfl)) (kA rfl) (by decide) (v := (.slice Ar nr cr)) ?_
                      refine rxV 10 rfl (by kernel_rfl) rfl (fun _ _ => rfl) (fun _ _ hF => opMove rfl (hF.ev 4 rfl)) (kA rfl) (by decide) (v := (.int .i64 (((pn) : Nat) : Int))) ?_
                      refine rxV 11 rfl (by kernel_rfl) rfl (fun _ _ => rfl) (fun _ _ hF => opCutH (h := pn) (e := 5) (sz := 1) rfl (by kernel_rfl) (by kernel_rfl) (hF.ev 1 rfl) (hF.ev 0 rfl) rfl (by omega)) (kM [false, false, true, true, true, true, true, true, true, true, true, true, true] rfl rfl) (by decide) (v := (.slice Ar pn cr)) ?_
                      refine rx1 7 (by kernel_rfl) ?_
                      refine moM rfl hH (fun _ hF => smLit1 (e := 5) (sz := 1) (z := (.int .u8 0)) (by_ := 1) (cs := cByte.enc (UInt8.ofNat (224 + x0.toNat % 14))) rfl (by kernel_rfl) (by kernel_rfl) (hF.ev 1 rfl) (cByte.len (UInt8.ofNat (224 + x0.toNat % 14))) (ltb rfl) (leb rfl) rfl) trivial rfl (fun _ _ => rfl) (kM [true, false, true, true, true, true, true, true, true, true, true, true] rfl rfl) (by decide) (PendOk.go [6, 5] (by kernel_rfl) (PendOk.nil _ [])) ?_
                      clear hH
                      rintro _ _ w ⟨g114, rfl, rfl⟩ hH
                      replace hH : HH w0 [] [E1, [bl g114 5 (cByte.enc (UInt8.ofNat (224 + x0.toNat % 14)))]] w := hH
                      refine ⟨(fun _ hs => by cases hs), ?_⟩
                      refine rx1 8 (by kernel_rfl) ?_
                      refine moE 0 rfl hH rfl (fun _ hF => smAppT (C := cByte) (l := B) (m := [(UInt8.ofNat (224 + x0.toNat % 14))]) (e := 5) (z := (.int .u8 0)) (by_ := 1) rfl (by kernel_rfl) (by kernel_rfl) rfl (ltb rfl) (hF.ev 2 rfl) hO (hF.ev 0 rfl) rfl (fun h => by cases h) (by unfold maxLen; omega) (by omega)) ((Bk.lit1 (C := cByte) (UInt8.ofNat (224 + x0.toNat % 14))).vu (hH.blk 1 rfl) rfl) rfl (fun _ _ => rfl) (kM [false, true, false, true, true, true, true, true, true, true, true, true] rfl rfl) (by decide) (PendOk.nil _ []) ?_
                      clear hH
                      rintro v117 E118 w ⟨hO119, _⟩ hH
                      replace hH : HH w0 [] [E118, [bl g114 5 (cByte.enc (UInt8.ofNat (224 + x0.toNat % 14)))]] w := hH
                      replace hO119 : OwnT cByte 5 v117 (B ++ [(UInt8.ofNat (224 + x0.toNat % 14))]) E118 := hO119
                      obtain ⟨A115, c116, rfl⟩ := hO119.slice
                      refine ⟨(fun _ hs => by cases hs), ?_⟩
                      refine rx1 12 (by kernel_rfl) ?_
                      refine moE 0 rfl hH rfl (fun _ hF => smAppT (C := cByte) (l := (B ++ [(UInt8.ofNat (224 + x0.toNat % 14))])) (m := ((body.drop m).take pn)) (e := 5) (z := (.int .u8 0)) (by_ := 1) rfl (by kernel_rfl) (by kernel_rfl) rfl (ltb rfl) (hF.ev 0 rfl) hO119 (hF.ev 1 rfl) (by rw [List.length_take, List.length_drop]; omega) (((hH.vu hVr (by decide) (Off.nil _ _)).head (m := pn) (by omega))).nilA (by simp only [List.length_append, List.length_cons, List.length_nil]; unfold maxLen; omega) (by simp only [List.length_append, List.length_cons, List.length_nil]; omega)) ((hH.vu hVr (by decide) (Off.nil _ _)).head (m := pn) (by omega)) rfl (fun _ _ => rfl) (kM [false, false, true, true, true, true, true, true, true, true, true] rfl rfl) (by decide) (PendOk.nil _ []) ?_
                      clear hH
                      rintro v122 E123 w ⟨hO124, _⟩ hH
                      replace hH : HH w0 [] [E123, [bl g114 5 (cByte.enc (UInt8.ofNat (224 + x0.toNat % 14)))]] w := hH
                      replace hO124 : OwnT cByte 5 v122 ((B ++ [(UInt8.ofNat (224 + x0.toNat % 14))]) ++ ((body.drop m).take pn)) E123 := hO124
                      obtain ⟨A120, c121, rfl⟩ := hO124.slice
                      refine ⟨(fun _ hs => by cases hs), ?_⟩
                      refine rxV 13 rfl (by kernel_rfl) rfl (fun _ _ => rfl) (fun _ _ hF => opAssign rfl (hF.ev 0 rfl)) (kM [false, true, true, true, true, true, false, true, true, true] rfl rfl) (by decide) (v := (.slice A120 (((B ++ [(UInt8.ofNat (224 + x0.toNat % 14))]) ++ ((body.drop m).take pn)).length) c121)) ?_
                      refine rxEnd (by kernel_rfl) ?_
                      refine qxThen ?_
                      refine cxReg ?_
                      refine pxV (v := (.slice Ar nr cr)) (fun _ _ hF => opMove rfl (hF.ev 5 rfl)) rfl (fun _ _ => rfl) (kM [true, true, true, true, true, false, true, true, true] rfl rfl) (by decide) ?_
                      refine pxV (v := (.int .i64 (((pn) : Nat) : Int))) (fun _ _ hF => opMove rfl (hF.ev 3 rfl)) rfl (fun _ _ => rfl) (kM [true, true, true, false, true, true, true, true, true] rfl rfl) (by decide) ?_
                      refine pxV (v := (.slice (cutA Ar cr pn 1) (nr - pn) (cr - pn))) (fun _ _ hF => opCutL (k := pn) (e := 5) (sz := 1) rfl (by kernel_rfl) (by kernel_rfl) (hF.ev 1 rfl) (hF.ev 0 rfl) rfl (by omega)) rfl (fun _ _ => rfl) (kM [false, false, true, true, true, true, true, true, true] rfl rfl) (by decide) ?_
                      refine pxV (v := (.slice (cutA Ar cr pn 1) (nr - pn) (cr - pn))) (fun _ _ hF => opAssign rfl (hF.ev 0 rfl)) rfl (fun _ _ => rfl) (kM [false, true, true, true, true, true, true, true] rfl rfl) (by decide) ?_
                      refine pxEnd ?_
                      refine qxInN ?_
                      refine qxThen ?_
                      refine cxReg ?_
                      refine pxV (v := (.int .i64 (((i + 1) : Nat) : Int))) (fun _ _ hF => opAdd rfl (hF.ev 3 rfl) rfl (wI (by omega) (by omega) (by omega))) rfl (fun _ _ => rfl) (kM [true, true, true, false, true, true, true, true] rfl rfl) (by decide) ?_
                      refine pxV (v := (.int .i64 (((i + 1) : Nat) : Int))) (fun _ _ hF => opMove rfl (hF.ev 0 rfl)) rfl (fun _ _ => rfl) (kM [false, true, true, true, true, true, true, true] rfl rfl) (by decide) ?_
                      refine pxEnd ?_
                      replace hH : HH w0 [] [E123] w := hH.only [true, false]
                      have hV2 := hVr.from (k := pn) (by omega)
                      rw [List.drop_drop] at hV2
                      exact qxRound (i + 1, A120, c121, ((B ++ [(UInt8.ofNat (224 + x0.toNat % 14))]) ++ ((body.drop m).take pn)), E123, (cutA Ar cr pn 1), (nr - pn), (cr - pn), m + pn, ((P ++ [UInt8.ofNat (224 + x0.toNat % 14)]) ++ (body.drop m).take (pn)), true) ⟨hH, (show (i + 1) ≤ pw.length from (by omega)), hO124, (by rw [hB]; simp), (show PInv (1 + tag.toNat % 20) body ((P ++ [UInt8.ofNat (224 + x0.toNat % 14)]) ++ (body.drop m).take (pn)) (i + 1) (m + pn) true from (PInv.good hpn hI hg43 (Nat.mod_lt _ (by decide)) hmay (by omega) (by omega) hbody)), hV2, (show (nr - pn) + (m + pn) = body.length from (by omega)), (show ((B ++ [(UInt8.ofNat (224 + x0.toNat % 14))]) ++ ((body.drop m).take pn)).length ≤ 1 + (i + 1) + (m + pn) from (by simp only [List.length_append, List.length_cons, List.length_nil, List.length_take, List.length_drop]; omega))⟩ (by omega) (slots_at [0, 4, 3, 1, 2, 5, 6, 7] rfl)
                    · refine pxV (v := (.int .i64 (((pn) : Nat) : Int))) (fun _ _ hF => opMove rfl (hF.ev 2 rfl)) rfl (gOn 0 rfl rfl rfl (by decide)) (kA rfl) (by decide) ?_
                      refine pxV (v := (.bool false)) (fun _ _ hF => opGeq rfl (hF.ev 0 rfl) rfl (decide_eq_false (by omega))) rfl (gOn 1 rfl rfl rfl (by decide)) (kM [false, true, true, true, true, true, true, true, true, true, true, true] rfl rfl) (by decide) ?_
                      refine pxV (v := (.bool false)) (fun _ _ hF => opPickF rfl (hF.ev 1 rfl) (hF.ev 0 rfl)) rfl (gOn 2 rfl rfl rfl (by decide)) (kM [false, false, true, true, true, true, true, true, true, true, true, true] rfl rfl) (by decide) ?_
                      refine pxV (v := (.bool false)) (fun _ _ hF => opPickT rfl (hF.ev 1 rfl) (hF.ev 0 rfl)) rfl (fun _ _ => rfl) (kM [false, false, true, true, true, true, true, true, true, true, true] rfl rfl) (by decide) ?_
                      refine pxV (v := (.bool false)) (fun _ _ hF => opAssign rfl (hF.ev 0 rfl)) rfl (fun _ _ => rfl) (kM [false, true, true, true, true, true, true, true, true, true] rfl rfl) (by decide) ?_
                      refine pxEnd ?_
                      refine qxThen ?_
                      refine cxSeq ?_
                      refine cxRegX mixedOrders (by kernel_rfl) ?_
                      replace hH := hH.drew
                      refine rxV 0 rfl (by kernel_rfl) rfl (fun _ _ => rfl) (fun _ _ hF => opMove rfl (hF.ev 6 rfl)) (kA rfl) (by decide) (v := (.slice A1 B.length c1)) ?_
                      refine rxV 1 rfl (by kernel_rfl) rfl (fun _ _ => rfl) (fun _ _ hF => opMove rfl (hF.ev 9 rfl)) (kA rfl) (by decide) (v := (.slice (some ⟨b6, off7, none⟩) pw.length cp)) ?_
                      refine rxV 2 rfl (by kernel_rfl) rfl (fun _ _ => rfl) (fun _ _ hF => opMove rfl (hF.ev 4 rfl)) (kM [true, true, true, true, false, true, true, true, true, true, true, true] rfl rfl) (by decide) (v := (.int .i64 (((i) : Nat) : Int))) ?_
                      have hi125 : i < pw.length := by omega
                      have hj128 : i < pw.length := by first | exact hi125 | (simp only [List.length_drop, List.length_take]; omega) | omega
                      refine rxV 3 rfl (by kernel_rfl) rfl (fun _ _ => rfl) (fun _ _ hF => opIndex (i := i) (e := 5) (sz := 1) rfl (by kernel_rfl) (by kernel_rfl) (hF.ev 1 rfl) (hF.ev 0 rfl) rfl hi125) (kM [false, false, true, true, true, true, true, true, true, true, true, true] rfl rfl) (by decide) (v := (.pointer (some ⟨b6, off7 + i * 1, none⟩))) ?_
                      refine rxS (fun w => HoldsL cByte w b6 off7 pw) 4 rfl (by kernel_rfl) rfl (fun _ _ => rfl) (hH.holdsL hL8 hb9 hR10) (fun _ _ hF hS => opLoadT (C := cByte) (y := x0) rfl (hF.ev 0 rfl) (by kernel_rfl) (hS i _ hx0) rfl) (kM [false, true, true, true, true, true, true, true, true, true, true] rfl rfl) (by decide) (v := (.int .u8 (((x0.toNat) : Nat) : Int))) ?_
                      refine rxV 5 rfl (by kernel_rfl) rfl (fun _ _ => rfl) (fun _ _ hF => opRem (z := ((x0.toNat % 14 : Nat) : Int)) rfl (hF.ev 0 rfl) rfl (by omega) remN) (kM [false, true, true, true, true, true, true, true, true, true, true] rfl rfl) (by decide) (v := (.int .u8 (((x0.toNat % 14) : Nat) : Int))) ?_
                      refine rxV 6 rfl (by kernel_rfl) rfl (fun _ _ => rfl) (fun _ _ hF => opAddU (m := 224) (j := x0.toNat % 14) (z := ((UInt8.ofNat (224 + x0.toNat % 14)).toNat)) rfl rfl rfl (hF.ev 0 rfl) (by rw [ofNat_toNat (by omega)]; show (224 + x0.toNat % 14) % 256 = _; omega)) (kM [false, true, true, true, true, true, true, true, true, true, true] rfl rfl) (by decide) (v := (.int .u8 ((((UInt8.ofNat (224 + x0.toNat % 14)).toNat) : Nat) : Int))) ?_
                      refine rxV 9 rfl (by kernel_rfl) rfl (fun _ _ => rfl) (fun _ _ hF => opMove rfl (hF.ev 6 rfl)) (kA rfl) (by decide) (v := (.slice Ar nr cr)) ?_
                      refine rxV 10 rfl (by kernel_rfl) rfl (fun _ _ => rfl) (fun _ _ hF => opMove rfl (hF.ev 4 rfl)) (kA rfl) (by decide) (v := (.int .i64 (((pn) : Nat) : Int))) ?_
                      refine rxV 11 rfl (by kernel_rfl) rfl (fun _ _ => rfl) (fun _ _ hF => opCutH (h := pn) (e := 5) (sz := 1) rfl (by kernel_rfl) (by kernel_rfl) (hF.ev 1 rfl) (hF.ev 0 rfl) rfl (by omega)) (kM [false, false, true, true, true, true, true, true, true, true, true, true, true] rfl rfl) (by decide) (v := (.slice Ar pn cr)) ?_
                      refine rx1 7 (by kernel_rfl) ?_
                      refine moM rfl hH (fun _ hF => smLit1 (e := 5) (sz := 1) (z := (.int .u8 0)) (by_ := 1) (cs := cByte.enc (UInt8.ofNat (224 + x0.toNat % 14))) rfl (by kernel_rfl) (by kernel_rfl) (hF.ev 1 rfl) (cByte.len (UInt8.ofNat (224 + x0.toNat % 14))) (ltb rfl) (leb rfl) rfl) trivial rfl (fun _ _ => rfl) (kM [true, false, true, true, true, true, true, true, true, true, true, true] rfl rfl) (by decide) (PendOk.go [6, 5] (by kernel_rfl) (PendOk.nil _ [])) ?_
                      clear hH
                      rintro _ _ w ⟨g129, rfl, rfl⟩ hH
                      replace hH : HH w0 [] [E1, [bl g129 5 (cByte.enc (UInt8.ofNat (224 + x0.toNat % 14)))]] w := hH
                      refine ⟨(fun _ hs => by cases hs), ?_⟩
                      refine rx1 8 (by kernel_rfl) ?_
                      refine moE 0 rfl hH rfl (fun _ hF => smAppT (C := cByte) (l := B) (m := [(UInt8.ofNat (224 + x0.toNat % 14))]) (e := 5) (z := (.int .u8 0)) (by_ := 1) rfl (by kernel_rfl) (by kernel_rfl) rfl (ltb rfl) (hF.ev 2 rfl) hO (hF.ev 0 rfl) rfl (fun h => by cases h) (by unfold maxLen; omega) (by omega)) ((Bk.lit1 (C := cByte) (UInt8.ofNat (224 + x0.toNat % 14))).vu (hH.blk 1 rfl) rfl) rfl (fun _ _ => rfl) (kM [false, true, false, true, true, true, true, true, true, true, true, true] rfl rfl) (by decide) (PendOk.nil _ []) ?_
                      clear hH
                      rintro v132 E133 w ⟨hO134, _⟩ hH
                      replace hH : HH w0 [] [E133, [bl g129 5 (cByte.enc (UInt8.ofNat (224 + x0.toNat % 14)))]] w := hH
                      replace hO134 : OwnT cByte 5 v132 (B ++ [(UInt8.ofNat (224 + x0.toNat % 14))]) E133 := hO134
                      obtain ⟨A130, c131, rfl⟩ := hO134.slice
                      refine ⟨(fun _ hs => by cases hs), ?_⟩
                      refine rx1 12 (by kernel_rfl) ?_
                      refine moE 0 rfl hH rfl (fun _ hF => smAppT (C := cByte) (l := (B ++ [(UInt8.ofNat (224 + x0.toNat % 14))])) (m := ((body.drop m).take pn)) (e := 5) (z := (.int .u8 0)) (by_ := 1) rfl (by kernel_rfl) (by kernel_rfl) rfl (ltb rfl) (hF.ev 0 rfl) hO134 (hF.ev 1 rfl) (by rw [List.length_take, List.length_drop]; omega) (((hH.vu hVr (by decide) (Off.nil _ _)).head (m := pn) (by omega))).nilA (by simp only [List.length_append, List.length_cons, List.length_nil]; unfold maxLen; omega) (by simp only [List.length_append, List.length_cons, List.length_nil]; omega)) ((hH.vu hVr (by decide) (Off.nil _ _)).head (m := pn) (by omega)) rfl (fun _ _ => rfl) (kM [false, false, true, true, true, true, true, true, true, true, true] rfl rfl) (by decide) (PendOk.nil _ []) ?_
                      clear hH
                      rintro v137 E138 w ⟨hO139, _⟩ hH
                      replace hH : HH w0 [] [E138, [bl g129 5 (cByte.enc (UInt8.ofNat (224 + x0.toNat % 14)))]] w := hH
                      replace hO139 : OwnT cByte 5 v137 ((B ++ [(UInt8.ofNat (224 + x0.toNat % 14))]) ++ ((body.drop m).take pn)) E138 := hO139
                      obtain ⟨A135, c136, rfl⟩ := hO139.slice
                      refine ⟨(fun _ hs => by cases hs), ?_⟩
                      refine rxV 13 rfl (by kernel_rfl) rfl (fun _ _ => rfl) (fun _ _ hF => opAssign rfl (hF.ev 0 rfl)) (kM [false, true, true, true, true, true, false, true, true, true] rfl rfl) (by decide) (v := (.slice A135 (((B ++ [(UInt8.ofNat (224 + x0.toNat % 14))]) ++ ((body.drop m).take pn)).length) c136)) ?_
                      refine rxEnd (by kernel_rfl) ?_
                      refine qxThen ?_
                      refine cxReg ?_
                      refine pxV (v := (.slice Ar nr cr)) (fun _ _ hF => opMove rfl (hF.ev 5 rfl)) rfl (fun _ _ => rfl) (kM [true, true, true, true, true, false, true, true, true] rfl rfl) (by decide) ?_
                      refine pxV (v := (.int .i64 (((pn) : Nat) : Int))) (fun _ _ hF => opMove rfl (hF.ev 3 rfl)) rfl (fun _ _ => rfl) (kM [true, true, true, false, true, true, true, true, true] rfl rfl) (by decide) ?_
                      refine pxV (v := (.slice (cutA Ar cr pn 1) (nr - pn) (cr - pn))) (fun _ _ hF => opCutL (k := pn) (e := 5) (sz := 1) rfl (by kernel_rfl) (by kernel_rfl) (hF.ev 1 rfl) (hF.ev 0 rfl) rfl (by omega)) rfl (fun _ _ => rfl) (kM [false, false, true, true, true, true, true, true, true] rfl rfl) (by decide) ?_
                      refine pxV (v := (.slice (cutA Ar cr pn 1) (nr - pn) (cr - pn))) (fun _ _ hF => opAssign rfl (hF.ev 0 rfl)) rfl (fun _ _ => rfl) (kM [false, true, true, true, true, true, true, true] rfl rfl) (by decide) ?_
                      refine pxEnd ?_
                      refine qxInN ?_
                      refine qxThen ?_
                      refine cxReg ?_
                      refine pxV (v := (.int .i64 (((i + 1) : Nat) : Int))) (fun _ _ hF => opAdd rfl (hF.ev 3 rfl) rfl (wI (by omega) (by omega) (by omega))) rfl (fun _ _ => rfl) (kM [true, true, true, false, true, true, true, true] rfl rfl) (by decide) ?_
                      refine pxV (v := (.int .i64 (((i + 1) : Nat) : Int))) (fun _ _ hF => opMove rfl (hF.ev 0 rfl)) rfl (fun _ _ => rfl) (kM [false, true, true, true, true, true, true, true] rfl rfl) (by decide) ?_
                      refine pxEnd ?_
                      replace hH : HH w0 [] [E138] w := hH.only [true, false]
                      have hV2 := hVr.from (k := pn) (by omega)
                      rw [List.drop_drop] at hV2
                      exact qxRound (i + 1, A135, c136, ((B ++ [(UInt8.ofNat (224 + x0.toNat % 14))]) ++ ((body.drop m).take pn)), E138, (cutA Ar cr pn 1), (nr - pn), (cr - pn), m + pn, ((P ++ [UInt8.ofNat (224 + x0.toNat % 14)]) ++ (body.drop m).take (pn)), false) ⟨hH, (show (i + 1) ≤ pw.length from (by omega)), hO139, (by rw [hB]; simp), (show PInv (1 + tag.toNat % 20) body ((P ++ [UInt8.ofNat (224 + x0.toNat % 14)]) ++ (body.drop m).take (pn)) (i + 1) (m + pn) false from (PInv.bad hpn hI hg43 (Nat.mod_lt _ (by decide)) (.inr ⟨by omega, h5⟩) _ _)), hV2, (show (nr - pn) + (m + pn) = body.length from (by omega)), (show ((B ++ [(UInt8.ofNat (224 + x0.toNat % 14))]) ++ ((body.drop m).take pn)).length ≤ 1 + (i + 1) + (m + pn) from (by simp only [List.length_append, List.length_cons, List.length_nil, List.length_take, List.length_drop]; omega))⟩ (by omega) (slots_at [0, 4, 3, 1, 2, 5, 6, 7] rfl)
                  · refine pxV (v := (.int .i64 (((1 + tag.toNat % 20) : Nat) : Int))) (fun _ _ hF => opMove rfl (hF.ev 8 rfl)) rfl (gOn 0 rfl rfl rfl (by decide)) (kA rfl) (by decide) ?_
                    refine pxV (v := (.bool (decide (1 + tag.toNat % 20 = 18)))) (fun _ _ hF => opEqI rfl (hF.ev 0 rfl) rfl (dc (by omega))) rfl (gOn 1 rfl rfl rfl (by decide)) (kM [false, true, true, true, true, true, true, true, true, true, true, true] rfl rfl) (by decide) ?_
                    refine pxV (v := (.bool (decide (1 + tag.toNat % 20 = 18)))) (fun _ _ hF => opPickF rfl (hF.ev 1 rfl) (hF.ev 0 rfl)) rfl (gOn 2 rfl rfl rfl (by decide)) (kM [false, false, true, true, true, true, true, true, true, true, true, true] rfl rfl) (by decide) ?_
                    refine pxV (v := (.bool (decide (1 + tag.toNat % 20 = 18)))) (fun _ _ hF => opPickT rfl (hF.ev 1 rfl) (hF.ev 0 rfl)) rfl (fun _ _ => rfl) (kM [false, false, true, true, true, true, true, true, true, true, true] rfl rfl) (by decide) ?_
                    refine pxV (v := (.bool (decide (1 + tag.toNat % 20 = 18)))) (fun _ _ hF => opMove rfl (hF.ev 0 rfl)) rfl (fun _ _ => rfl) (kM [false, true, true, true, true, true, true, true, true, true] rfl rfl) (by decide) ?_
                    refine pxSplitP 0 rfl (l1 := [(69, (.bool true)), (12, (.int .i64 (((pn) : Nat) : Int))), (11, (.int .i64 (((i) : Nat) : Int))), (39, (.int .i64 (((i) : Nat) : Int))), (38, (.int .i64 (((pw.length) : Nat) : Int))), (9, (.slice Ar nr cr)), (8, (.slice A1 B.length c1)), (7, (.int .i64 (((1 + tag.toNat % 20) : Nat) : Int))), (2, (.slice (some ⟨b6, off7, none⟩) pw.length cp)), (1, (.slice Ab body.length cb))]) (l2 := [(69, (.bool false)), (12, (.int .i64 (((pn) : Nat) : Int))), (11, (.int .i64 (((i) : Nat) : Int))), (39, (.int .i64 (((i) : Nat) : Int))), (38, (.int .i64 (((pw.length) : Nat) : Int))), (9, (.slice Ar nr cr)), (8, (.slice A1 B.length c1)), (7, (.int .i64 (((1 + tag.toNat % 20) : Nat) : Int))), (2, (.slice (some ⟨b6, off7, none⟩) pw.length cp)), (1, (.slice Ab body.length cb))]) rfl rfl (fun hg140 => ?_) (fun hg140 => ?_)
                    · have hmay : mayT (1 + tag.toNat % 20) = true := mayT_yes (by omega)
                      refine pxV (v := (.int .i64 (((i) : Nat) : Int))) (fun _ _ hF => opMove rfl (hF.ev 2 rfl)) rfl (gOn 0 rfl rfl rfl (by decide)) (kA rfl) (by decide) ?_
                      refine pxV (v := (.bool (decide (i > 0)))) (fun _ _ hF => opGtr rfl (hF.ev 0 rfl) rfl (dc (by omega))) rfl (gOn 1 rfl rfl rfl (by decide)) (kM [false, true, true, true, true, true, true, true, true, true, true] rfl rfl) (by decide) ?_
                      refine pxV (v := (.bool (decide (i > 0)))) (fun _ _ hF => opMove rfl (hF.ev 0 rfl)) rfl (gOn 1 rfl rfl rfl (by decide)) (kM [false, true, true, true, true, true, true, true, true, true, true] rfl rfl) (by decide) ?_
                      refine pxSplitP 0 rfl (l1 := [(72, (.bool true)), (69, (.bool true)), (12, (.int .i64 (((pn) : Nat) : Int))), (11, (.int .i64 (((i) : Nat) : Int))), (39, (.int .i64 (((i) : Nat) : Int))), (38, (.int .i64 (((pw.length) : Nat) : Int))), (9, (.slice Ar nr cr)), (8, (.slice A1 B.length c1)), (7, (.int .i64 (((1 + tag.toNat % 20) : Nat) : Int))), (2, (.slice (some ⟨b6, off7, none⟩) pw.length cp)), (1, (.slice Ab body.length cb))]) (l2 := [(72, (.bool false)), (69, (.bool true)), (12, (.int .i64 (((pn) : Nat) : Int))), (11, (.int .i64 (((i) : Nat) : Int))), (39, (.int .i64 (((i) : Nat) : Int))), (38, (.int .i64 (((pw.length) : Nat) : Int))), (9, (.slice Ar nr cr)), (8, (.slice A1 B.length c1)), (7, (.int .i64 (((1 + tag.toNat % 20) : Nat) : Int))), (2, (.slice (some ⟨b6, off7, none⟩) pw.length cp)), (1, (.slice Ab body.length cb))]) rfl rfl (fun hg141 => ?_) (fun hg141 => ?_)
                      · refine pxU rfl (gOff 0 rfl rfl rfl (by decide)) (kA rfl) (by decide) ?_
                        refine pxU rfl (gOff 0 rfl rfl rfl (by decide)) (kA rfl) (by decide) ?_
                        refine pxV (v := (.bool true)) (fun _ _ hF => opPickT rfl (hF.ev 0 rfl) rfl) rfl (gOn 1 rfl rfl rfl (by decide)) (kM [false, true, true, true, true, true, true, true, true, true, true] rfl rfl) (by decide) ?_
                        refine pxV (v := (.bool true)) (fun _ _ hF => opPickT rfl (hF.ev 1 rfl) (hF.ev 0 rfl)) rfl (fun _ _ => rfl) (kM [false, false, true, true, true, true, true, true, true, true, true] rfl rfl) (by decide) ?_
                        refine pxV (v := (.bool true)) (fun _ _ hF => opAssign rfl (hF.ev 0 rfl)) rfl (fun _ _ => rfl) (kM [false, true, true, true, true, true, true, true, true, true] rfl rfl) (by decide) ?_
                        refine pxEnd ?_
                        refine qxThen ?_
                        refine cxSeq ?_
                        refine cxRegX mixedOrders (by kernel_rfl) ?_
                        replace hH := hH.drew
                        refine rxV 0 rfl (by kernel_rfl) rfl (fun _ _ => rfl) (fun _ _ hF => opMove rfl (hF.ev 6 rfl)) (kA rfl) (by decide) (v := (.slice A1 B.length c1)) ?_
                        refine rxV 1 rfl (by kernel_rfl) rfl (fun _ _ => rfl) (fun _ _ hF => opMove rfl (hF.ev 9 rfl)) (kA rfl) (by decide) (v := (.slice (some ⟨b6, off7, none⟩) pw.length cp)) ?_
                        refine rxV 2 rfl (by kernel_rfl) rfl (fun _ _ => rfl) (fun _ _ hF => opMove rfl (hF.ev 4 rfl)) (kM [true, true, true, true, false, true, true, true, true, true, true, true] rfl rfl) (by decide) (v := (.int .i64 (((i) : Nat) : Int))) ?_
                        have hi142 : i < pw.length := by omega
                        have hj145 : i < pw.length := by first | exact hi142 | (simp only [List.length_drop, List.length_take]; omega) | omega
                        refine rxV 3 rfl (by kernel_rfl) rfl (fun _ _ => rfl) (fun _ _ hF => opIndex (i := i) (e := 5) (sz := 1) rfl (by kernel_rfl) (by kernel_rfl) (hF.ev 1 rfl) (hF.ev 0 rfl) rfl hi142) (kM [false, false, true, true, true, true, true, true, true, true, true, true] rfl rfl) (by decide) (v := (.pointer (some ⟨b6, off7 + i * 1, none⟩))) ?_
                        refine rxS (fun w => HoldsL cByte w b6 off7 pw) 4 rfl (by kernel_rfl) rfl (fun _ _ => rfl) (hH.holdsL hL8 hb9 hR10) (fun _ _ hF hS => opLoadT (C := cByte) (y := x0) rfl (hF.ev 0 rfl) (by kernel_rfl) (hS i _ hx0) rfl) (kM [false, true, true, true, true, true, true, true, true, true, true] rfl rfl) (by decide) (v := (.int .u8 (((x0.toNat) : Nat) : Int))) ?_
                        refine rxV 5 rfl (by kernel_rfl) rfl (fun _ _ => rfl) (fun _ _ hF => opRem (z := ((x0.toNat % 14 : Nat) : Int)) rfl (hF.ev 0 rfl) rfl (by omega) remN) (kM [false, true, true, true, true, true, true, true, true, true, true] rfl rfl) (by decide) (v := (.int .u8 (((x0.toNat % 14) : Nat) : Int))) ?_
                        refine rxV 6 rfl (by kernel_rfl) rfl (fun _ _ => rfl) (fun _ _ hF => opAddU (m := 224) (j := x0.toNat % 14) (z := ((UInt8.ofNat (224 + x0.toNat % 14)).toNat)) rfl rfl rfl (hF.ev 0 rfl) (by rw [ofNat_toNat (by omega)]; show (224 + x0.toNat % 14) % 256 = _; omega)) (kM [false, true, true, true, true, true, true, true, true, true, true] rfl rfl) (by decide) (v := (.int .u8 ((((UInt8.ofNat (224 + x0.toNat % 14)).toNat) : Nat) : Int))) ?_
                        refine rxV 9 rfl (by kernel_rfl) rfl (fun _ _ => rfl) (fun _ _ hF => opMove rfl (hF.ev 6 rfl)) (kA rfl) (by decide) (v := (.slice Ar nr cr)) ?_
                        refine rxV 10 rfl (by kernel_rfl) rfl (fun _ _ => rfl) (fun _ _ hF => opMove rfl (hF.ev 4 rfl)) (kA rfl) (by decide) (v := (.int .i64 (((pn) : Nat) : Int))) ?_
                        refine rxV 11 rfl (by kernel_rfl) rfl (fun _ _ => rfl) (fun _ _ hF => opCutH (h := pn) (e := 5) (sz := 1) rfl (by kernel_rfl) (by kernel_rfl) (hF.ev 1 rfl) (hF.ev 0 rfl) rfl (by omega)) (kM [false, false, true, true, true, true, true, true, true, true, true, true, true] rfl rfl) (by decide) (v := (.slice Ar pn cr)) ?_
                        refine rx1 7 (by kernel_rfl) ?_
                        refine moM rfl hH (fun _ hF => smLit1 (e := 5) (sz := 1) (z := (.int .u8 0)) (by_ := 1) (cs := cByte.enc (UInt8.ofNat (224 + x0.toNat % 14))) rfl (by kernel_rfl) (by kernel_rfl) (hF.ev 1 rfl) (cByte.len (UInt8.ofNat (224 + x0.toNat % 14))) (ltb rfl) (leb rfl) rfl) trivial rfl (fun _ _ => rfl) (kM [true, false, true, true, true, true, true, true, true, true, true, true] rfl rfl) (by decide) (PendOk.go [6, 5] (by kernel_rfl) (PendOk.nil _ [])) ?_
                        clear hH
                        rintro _ _ w ⟨g146, rfl, rfl⟩ hH
                        replace hH : HH w0 [] [E1, [bl g146 5 (cByte.enc (UInt8.ofNat (224 + x0.toNat % 14)))]] w := hH
                        refine ⟨(fun _ hs => by cases hs), ?_⟩
                        refine rx1 8 (by kernel_rfl) ?_
                        refine moE 0 rfl hH rfl (fun _ hF => smAppT (C := cByte) (l := B) (m := [(UInt8.ofNat (224 + x0.toNat % 14))]) (e := 5) (z := (.int .u8 0)) (by_ := 1) rfl (by kernel_rfl) (by kernel_rfl) rfl (ltb rfl) (hF.ev 2 rfl) hO (hF.ev 0 rfl) rfl (fun h => by cases h) (by unfold maxLen; omega) (by omega)) ((Bk.lit1 (C := cByte) (UInt8.ofNat (224 + x0.toNat % 14))).vu (hH.blk 1 rfl) rfl) rfl (fun _ _ => rfl) (kM [false, true, false, true, true, true, true, true, true, true, true, true] rfl rfl) (by decide) (PendOk.nil _ []) ?_
                        clear hH
                        rintro v149 E150 w ⟨hO151, _⟩ hH
                        replace hH : HH w0 [] [E150, [bl g146 5 (cByte.enc (UInt8.ofNat (224 + x0.toNat % 14)))]] w := hH
                        replace hO151 : OwnT cByte 5 v149 (B ++ [(UInt8.ofNat (224 + x0.toNat % 14))]) E150 := hO151
                        obtain ⟨A147, c148, rfl⟩ := hO151.slice
                        refine ⟨(fun _ hs => by cases hs), ?_⟩
                        refine rx1 12 (by kernel_rfl) ?_
                        refine moE 0 rfl hH rfl (fun _ hF => smAppT (C := cByte) (l := (B ++ [(UInt8.ofNat (224 + x0.toNat % 14))])) (m := ((body.drop m).take pn)) (e := 5) (z := (.int .u8 0)) (by_ := 1) rfl (by kernel_rfl) (by kernel_rfl) rfl (ltb rfl) (hF.ev 0 rfl) hO151 (hF.ev 1 rfl) (by rw [List.length_take, List.length_drop]; omega) (((hH.vu hVr (by decide) (Off.nil _ _)).head (m := pn) (by omega))).nilA (by simp only [List.length_append, List.length_cons, List.length_nil]; unfold maxLen; omega) (by simp only [List.length_append, List.length_cons, List.length_nil]; omega)) ((hH.vu hVr (by decide) (Off.nil _ _)).head (m := pn) (by omega)) rfl (fun _ _ => rfl) (kM [false, false, true, true, true, true, true, true, true, true, true] rfl rfl) (by decide) (PendOk.nil _ []) ?_
                        clear hH
                        rintro v154 E155 w ⟨hO156, _⟩ hH
                        replace hH : HH w0 [] [E155, [bl g146 5 (cByte.enc (UInt8.ofNat (224 + x0.toNat % 14)))]] w := hH
                        replace hO156 : OwnT cByte 5 v154 ((B ++ [(UInt8.ofNat (224 + x0.toNat % 14))]) ++ ((body.drop m).take pn)) E155 := hO156
                        obtain ⟨A152, c153, rfl⟩ := hO156.slice
                        refine ⟨(fun _ hs => by cases hs), ?_⟩
                        refine rxV 13 rfl (by kernel_rfl) rfl (fun _ _ => rfl) (fun _ _ hF => opAssign rfl (hF.ev 0 rfl)) (kM [false, true, true, true, true, true, false, true, true, true] rfl rfl) (by decide) (v := (.slice A152 (((B ++ [(UInt8.ofNat (224 + x0.toNat % 14))]) ++ ((body.drop m).take pn)).length) c153)) ?_
                        refine rxEnd (by kernel_rfl) ?_
                        refine qxThen ?_
                        refine cxReg ?_
                        refine pxV (v := (.slice Ar nr cr)) (fun _ _ hF => opMove rfl (hF.ev 5 rfl)) rfl (fun _ _ => rfl) (kM [true, true, true, true, true, false, true, true, true] rfl rfl) (by decide) ?_
                        refine pxV (v := (.int .i64 (((pn) : Nat) : Int))) (fun _ _ hF => opMove rfl (hF.ev 3 rfl)) rfl (fun _ _ => rfl) (kM [true, true, true, false, true, true, true, true, true] rfl rfl) (by decide) ?_
                        refine pxV (v := (.slice (cutA Ar cr pn 1) (nr - pn) (cr - pn))) (fun _ _ hF => opCutL (k := pn) (e := 5) (sz := 1) rfl (by kernel_rfl) (by kernel_rfl) (hF.ev 1 rfl) (hF.ev 0 rfl) rfl (by omega)) rfl (fun _ _ => rfl) (kM [false, false, true, true, true, true, true, true, true] rfl rfl) (by decide) ?_
                        refine pxV (v := (.slice (cutA Ar cr pn 1) (nr - pn) (cr - pn))) (fun _ _ hF => opAssign rfl (hF.ev 0 rfl)) rfl (fun _ _ => rfl) (kM [false, true, true, true, true, true, true, true] rfl rfl) (by decide) ?_
                        refine pxEnd ?_
                        refine qxInN ?_
                        refine qxThen ?_
                        refine cxReg ?_
                        refine pxV (v := (.int .i64 (((i + 1) : Nat) : Int))) (fun _ _ hF => opAdd rfl (hF.ev 3 rfl) rfl (wI (by omega) (by omega) (by omega))) rfl (fun _ _ => rfl) (kM [true, true, true, false, true, true, true, true] rfl rfl) (by decide) ?_
                        refine pxV (v := (.int .i64 (((i + 1) : Nat) : Int))) (fun _ _ hF => opMove rfl (hF.ev 0 rfl)) rfl (fun _ _ => rfl) (kM [false, true, true, true, true, true, true, true] rfl rfl) (by decide) ?_
                        refine pxEnd ?_
                        replace hH : HH w0 [] [E155] w := hH.only [true, false]
                        have hV2 := hVr.from (k := pn) (by omega)
                        rw [List.drop_drop] at hV2
                        exact qxRound (i + 1, A152, c153, ((B ++ [(UInt8.ofNat (224 + x0.toNat % 14))]) ++ ((body.drop m).take pn)), E155, (cutA Ar cr pn 1), (nr - pn), (cr - pn), m + pn, ((P ++ [UInt8.ofNat (224 + x0.toNat % 14)]) ++ (body.drop m).take (pn)), true) ⟨hH, (show (i + 1) ≤ pw.length from (by omega)), hO156, (by rw [hB]; simp), (show PInv (1 + tag.toNat % 20) body ((P ++ [UInt8.ofNat (224 + x0.toNat % 14)]) ++ (body.drop m).take (pn)) (i + 1) (m + pn) true from (PInv.good hpn hI hg43 (Nat.mod_lt _ (by decide)) hmay (by omega) (by omega) hbody)), hV2, (show (nr - pn) + (m + pn) = body.length from (by omega)), (show ((B ++ [(UInt8.ofNat (224 + x0.toNat % 14))]) ++ ((body.drop m).take pn)).length ≤ 1 + (i + 1) + (m + pn) from (by simp only [List.length_append, List.length_cons, List.length_nil, List.length_take, List.length_drop]; omega))⟩ (by omega) (slots_at [0, 4, 3, 1, 2, 5, 6, 7] rfl)
                      · refine pxV (v := (.int .i64 (((pn) : Nat) : Int))) (fun _ _ hF => opMove rfl (hF.ev 2 rfl)) rfl (gOn 0 rfl rfl rfl (by decide)) (kA rfl) (by decide) ?_
                        refine pxV (v := (.bool false)) (fun _ _ hF => opGeq rfl (hF.ev 0 rfl) rfl (decide_eq_false (by omega))) rfl (gOn 1 rfl rfl rfl (by decide)) (kM [false, true, true, true, true, true, true, true, true, true, true, true] rfl rfl) (by decide) ?_
                        refine pxV (v := (.bool false)) (fun _ _ hF => opPickF rfl (hF.ev 1 rfl) (hF.ev 0 rfl)) rfl (gOn 2 rfl rfl rfl (by decide)) (kM [false, false, true, true, true, true, true, true, true, true, true, true] rfl rfl) (by decide) ?_
                        refine pxV (v := (.bool false)) (fun _ _ hF => opPickT rfl (hF.ev 1 rfl) (hF.ev 0 rfl)) rfl (fun _ _ => rfl) (kM [false, false, true, true, true, true, true, true, true, true, true] rfl rfl) (by decide) ?_
                        refine pxV (v := (.bool false)) (fun _ _ hF => opAssign rfl (hF.ev 0 rfl)) rfl (fun _ _ => rfl) (kM [false, true, true, true, true, true, true, true, true, true] rfl rfl) (by decide) ?_
                        refine pxEnd ?_
                        refine qxThen ?_
                        refine cxSeq ?_
                        refine cxRegX mixedOrders (by kernel_rfl) ?_
                        replace hH := hH.drew
                        refine rxV 0 rfl (by kernel_rfl) rfl (fun _ _ => rfl) (fun _ _ hF => opMove rfl (hF.ev 6 rfl)) (kA rfl) (by decide) (v := (.slice A1 B.length c1)) ?_
                        refine rxV 1 rfl (by kernel_rfl) rfl (fun _ _ => rfl) (fun _ _ hF => opMove rfl (hF.ev 9 rfl)) (kA rfl) (by decide) (v := (.slice (some ⟨b6, off7, none⟩) pw.length cp)) ?_
                        refine rxV 2 rfl (by kernel_rfl) rfl (fun _ _ => rfl) (fun _ _ hF => opMove rfl (hF.ev 4 rfl)) (kM [true, true, true, true, false, true, true, true, true, true, true, true] rfl rfl) (by decide) (v := (.int .i64 (((i) : Nat) : Int))) ?_
                        have hi157 : i < pw.length := by omega
                        have hj160 : i < pw.length := by first | exact hi157 | (simp only [List.length_drop, List.length_take]; omega) | omega
                        refine rxV 3 rfl (by kernel_rfl) rfl (fun _ _ => rfl) (fun _ _ hF => opIndex (i := i) (e := 5) (sz := 1) rfl (by kernel_rfl) (by kernel_rfl) (hF.ev 1 rfl) (hF.ev 0 rfl) rfl hi157) (kM [false, false, true, true, true, true, true, true, true, true, true, true] rfl rfl) (by decide) (v := (.pointer (some ⟨b6, off7 + i * 1, none⟩))) ?_
                        refine rxS (fun w => HoldsL cByte w b6 off7 pw) 4 rfl (by kernel_rfl) rfl (fun _ _ => rfl) (hH.holdsL hL8 hb9 hR10) (fun _ _ hF hS => opLoadT (C := cByte) (y := x0) rfl (hF.ev 0 rfl) (by kernel_rfl) (hS i _ hx0) rfl) (kM [false, true, true, true, true, true, true, true, true, true, true] rfl rfl) (by decide) (v := (.int .u8 (((x0.toNat) : Nat) : Int))) ?_
                        refine rxV 5 rfl (by kernel_rfl) rfl (fun _ _ => rfl) (fun _ _ hF => opRem (z := ((x0.toNat % 14 : Nat) : Int)) rfl (hF.ev 0 rfl) rfl (by omega) remN) (kM [false, true, true, true, true, true, true, true, true, true, true] rfl rfl) (by decide) (v := (.int .u8 (((x0.toNat % 14) : Nat) : Int))) ?_
                        refine rxV 6 rfl (by kernel_rfl) rfl (fun _ _ => rfl) (fun _ _ hF => opAddU (m := 224) (j := x0.toNat % 14) (z := ((UInt8.ofNat (224 + x0.toNat % 14)).toNat)) rfl rfl rfl (hF.ev 0 rfl) (by rw [ofNat_toNat (by omega)]; show (224 + x0.toNat % 14) % 256 = _; omega)) (kM [false, true, true, true, true, true, true, true, true, true, true] rfl rfl) (by decide) (v := (.int .u8 ((((UInt8.ofNat (224 + x0.toNat % 14)).toNat) : Nat) : Int))) ?_
                        refine rxV 9 rfl (by kernel_rfl) rfl (fun _ _ => rfl) (fun _ _ hF => opMove rfl (hF.ev 6 rfl)) (kA rfl) (by decide) (v := (.slice Ar nr cr)) ?_
                        refine rxV 10 rfl (by kernel_rfl) rfl (fun _ _ => rfl) (fun _ _ hF => opMove rfl (hF.ev 4 rfl)) (kA rfl) (by decide) (v := (.int .i64 (((pn) : Nat) : Int))) ?_
                        refine rxV 11 rfl (by kernel_rfl) rfl (fun _ _ => rfl) (fun _ _ hF => opCutH (h := pn) (e := 5) (sz := 1) rfl (by kernel_rfl) (by kernel_rfl) (hF.ev 1 rfl) (hF.ev 0 rfl) rfl (by omega)) (kM [false, false, true, true, true, true, true, true, true, true, true, true, true] rfl rfl) (by decide) (v := (.slice Ar pn cr)) ?_
                        refine rx1 7 (by kernel_rfl) ?_
                        refine moM rfl hH (fun _ hF => smLit1 (e := 5) (sz := 1) (z := (.int .u8 0)) (by_ := 1) (cs := cByte.enc (UInt8.ofNat (224 + x0.toNat % 14))) rfl (by kernel_rfl) (by kernel_rfl) (hF.ev 1 rfl) (cByte.len (UInt8.ofNat (224 + x0.toNat % 14))) (ltb rfl) (leb rfl) rfl) trivial rfl (fun _ _ => rfl) (kM [true, false, true, true, true, true, true, true, true, true, true, true] rfl rfl) (by decide) (PendOk.go [6, 5] (by kernel_rfl) (PendOk.nil _ [])) ?_
                        clear hH
                        rintro _ _ w ⟨g161, rfl, rfl⟩ hH
                        replace hH : HH w0 [] [E1, [bl g161 5 (cByte.enc (UInt8.ofNat (224 + x0.toNat % 14)))]] w := hH
                        refine ⟨(fun _ hs => by cases hs), ?_⟩
                        refine rx1 8 (by kernel_rfl) ?_
                        refine moE 0 rfl hH rfl (fun _ hF => smAppT (C := cByte) (l := B) (m := [(UInt8.ofNat (224 + x0.toNat % 14))]) (e := 5) (z := (.int .u8 0)) (by_ := 1) rfl (by kernel_rfl) (by kernel_rfl) rfl (ltb rfl) (hF.ev 2 rfl) hO (hF.ev 0 rfl) rfl (fun h => by cases h) (by unfold maxLen; omega) (by omega)) ((Bk.lit1 (C := cByte) (UInt8.ofNat (224 + x0.toNat % 14))).vu (hH.blk 1 rfl) rfl) rfl (fun _ _ => rfl) (kM [false, true, false, true, true, true, true, true, true, true, true, true] rfl rfl) (by decide) (PendOk.nil _ []) ?_
                        clear hH
                        rintro v164 E165 w ⟨hO166, _⟩ hH
                        replace hH : HH w0 [] [E165, [bl g161 5 (cByte.enc (UInt8.ofNat (224 + x0.toNat % 14)))]] w := hH
                        replace hO166 : OwnT cByte 5 v164 (B ++ [(UInt8.ofNat (224 + x0.toNat % 14))]) E165 := hO166
                        obtain ⟨A162, c163, rfl⟩ := hO166.slice
                        refine ⟨(fun _ hs => by cases hs), ?_⟩
                        refine rx1 12 (by kernel_rfl) ?_
                        refine moE 0 rfl hH rfl (fun _ hF => smAppT (C := cByte) (l := (B ++ [(UInt8.ofNat (224 + x0.toNat % 14))])) (m := ((body.drop m).take pn)) (e := 5) (z := (.int .u8 0)) (by_ := 1) rfl (by kernel_rfl) (by kernel_rfl) rfl (ltb rfl) (hF.ev 0 rfl) hO166 (hF.ev 1 rfl) (by rw [List.length_take, List.length_drop]; omega) (((hH.vu hVr (by decide) (Off.nil _ _)).head (m := pn) (by omega))).nilA (by simp only [List.length_append, List.length_cons, List.length_nil]; unfold maxLen; omega) (by simp only [List.length_append, List.length_cons, List.length_nil]; omega)) ((hH.vu hVr (by decide) (Off.nil _ _)).head (m := pn) (by omega)) rfl (fun _ _ => rfl) (kM [false, false, true, true, true, true, true, true, true, true, true] rfl rfl) (by decide) (PendOk.nil _ []) ?_
                        clear hH
                        rintro v169 E170 w ⟨hO171, _⟩ hH
                        replace hH : HH w0 [] [E170, [bl g161 5 (cByte.enc (UInt8.ofNat (224 + x0.toNat % 14)))]] w := hH
                        replace hO171 : OwnT cByte 5 v169 ((B ++ [(UInt8.ofNat (224 + x0.toNat % 14))]) ++ ((body.drop m).take pn)) E170 := hO171
                        obtain ⟨A167, c168, rfl⟩ := hO171.slice
                        refine ⟨(fun _ hs => by cases hs), ?_⟩
                        refine rxV 13 rfl (by kernel_rfl) rfl (fun _ _ => rfl) (fun _ _ hF => opAssign rfl (hF.ev 0 rfl)) (kM [false, true, true, true, true, true, false, true, true, true] rfl rfl) (by decide) (v := (.slice A167 (((B ++ [(UInt8.ofNat (224 + x0.toNat % 14))]) ++ ((body.drop m).take pn)).length) c168)) ?_
                        refine rxEnd (by kernel_rfl) ?_
                        refine qxThen ?_
                        refine cxReg ?_
                        refine pxV (v := (.slice Ar nr cr)) (fun _ _ hF => opMove rfl (hF.ev 5 rfl)) rfl (fun _ _ => rfl) (kM [true, true, true, true, true, false, true, true, true] rfl rfl) (by decide) ?_
                        refine pxV (v := (.int .i64 (((pn) : Nat) : Int))) (fun _ _ hF => opMove rfl (hF.ev 3 rfl)) rfl (fun _ _ => rfl) (kM [true, true, true, false, true, true, true, true, true] rfl rfl) (by decide) ?_
                        refine pxV (v := (.slice (cutA Ar cr pn 1) (nr - pn) (cr - pn))) (fun _ _ hF => opCutL (k := pn) (e := 5) (sz := 1) rfl (by kernel_rfl) (by kernel_rfl) (hF.ev 1 rfl) (hF.ev 0 rfl) rfl (by omega)) rfl (fun _ _ => rfl) (kM [false, false, true, true, true, true, true, true, true] rfl rfl) (by decide) ?_
                        refine pxV (v := (.slice (cutA Ar cr pn 1) (nr - pn) (cr - pn))) (fun _ _ hF => opAssign rfl (hF.ev 0 rfl)) rfl (fun _ _ => rfl) (kM [false, true, true, true, true, true, true, true] rfl rfl) (by decide) ?_
                        refine pxEnd ?_
                        refine qxInN ?_
                        refine qxThen ?_
                        refine cxReg ?_
                        refine pxV (v := (.int .i64 (((i + 1) : Nat) : Int))) (fun _ _ hF => opAdd rfl (hF.ev 3 rfl) rfl (wI (by omega) (by omega) (by omega))) rfl (fun _ _ => rfl) (kM [true, true, true, false, true, true, true, true] rfl rfl) (by decide) ?_
                        refine pxV (v := (.int .i64 (((i + 1) : Nat) : Int))) (fun _ _ hF => opMove rfl (hF.ev 0 rfl)) rfl (fun _ _ => rfl) (kM [false, true, true, true, true, true, true, true] rfl rfl) (by decide) ?_
                        refine pxEnd ?_
                        replace hH : HH w0 [] [E170] w := hH.only [true, false]
                        have hV2 := hVr.from (k := pn) (by omega)
                        rw [List.drop_drop] at hV2
                        exact qxRound (i + 1, A167, c168, ((B ++ [(UInt8.ofNat (224 + x0.toNat % 14))]) ++ ((body.drop m).take pn)), E170, (cutA Ar cr pn 1), (nr - pn), (cr - pn), m + pn, ((P ++ [UInt8.ofNat (224 + x0.toNat % 14)]) ++ (body.drop m).take (pn)), false) ⟨hH, (show (i + 1) ≤ pw.length from (by omega)), hO171, (by rw [hB]; simp), (show PInv (1 + tag.toNat % 20) body ((P ++ [UInt8.ofNat (224 + x0.toNat % 14)]) ++ (body.drop m).take (pn)) (i + 1) (m + pn) false from (PInv.bad hpn hI hg43 (Nat.mod_lt _ (by decide)) (.inr ⟨by omega, h5⟩) _ _)), hV2, (show (nr - pn) + (m + pn) = body.length from (by omega)), (show ((B ++ [(UInt8.ofNat (224 + x0.toNat % 14))]) ++ ((body.drop m).take pn)).length ≤ 1 + (i + 1) + (m + pn) from (by simp only [List.length_append, List.length_cons, List.length_nil, List.length_take, List.length_drop]; omega))⟩ (by omega) (slots_at [0, 4, 3, 1, 2, 5, 6, 7] rfl)
                    · have hmay : mayT (1 + tag.toNat % 20) = false := mayT_no (by omega)
                      refine pxU rfl (gOff 0 rfl rfl rfl (by decide)) (kA rfl) (by decide) ?_
                      refine pxU rfl (gOff 0 rfl rfl rfl (by decide)) (kA rfl) (by decide) ?_
                      refine pxUK rfl (gOff 0 rfl rfl rfl (by decide)) (kA rfl) (by decide) ?_
                      refine pxU rfl (gOffU 0 rfl rfl rfl) (kA rfl) (by decide) ?_
                      refine pxU rfl (gOffU 0 rfl rfl rfl) (kA rfl) (by decide) ?_
                      refine pxU rfl (gOff 1 rfl rfl rfl (by decide)) (kM [false, true, true, true, true, true, true, true, true, true, true] rfl rfl) (by decide) ?_
                      refine pxV (v := (.bool false)) (fun _ _ hF => opPickF rfl (hF.ev 0 rfl) rfl) rfl (fun _ _ => rfl) (kM [false, true, true, true, true, true, true, true, true, true] rfl rfl) (by decide) ?_
                      refine pxV (v := (.bool false)) (fun _ _ hF => opAssign rfl (hF.ev 0 rfl)) rfl (fun _ _ => rfl) (kM [false, true, true, true, true, true, true, true, true, true] rfl rfl) (by decide) ?_
                      refine pxEnd ?_
                      refine qxThen ?_
                      refine cxSeq ?_
                      refine cxRegX mixedOrders (by kernel_rfl) ?_
                      replace hH := hH.drew
                      refine rxV 0 rfl (by kernel_rfl) rfl (fun _ _ => rfl) (fun _ _ hF => opMove rfl (hF.ev 6 rfl)) (kA rfl) (by decide) (v := (.slice A1 B.length c1)) ?_
                      refine rxV 1 rfl (by kernel_rfl) rfl (fun _ _ => rfl) (fun _ _ hF => opMove rfl (hF.ev 9 rfl)) (kA rfl) (by decide) (v := (.slice (some ⟨b6, off7, none⟩) pw.length cp)) ?_
                      refine rxV 2 rfl (by kernel_rfl) rfl (fun _ _ => rfl) (fun _ _ hF => opMove rfl (hF.ev 4 rfl)) (kM [true, true, true, true, false, true, true, true, true, true, true, true] rfl rfl) (by decide) (v := (.int .i64 (((i) : Nat) : Int))) ?_
                      have hi172 : i < pw.length := by omega
                      have hj175 : i < pw.length := by first | exact hi172 | (simp only [List.length_drop, List.length_take]; omega) | omega
                      refine rxV 3 rfl (by kernel_rfl) rfl (fun _ _ => rfl) (fun _ _ hF => opIndex (i := i) (e := 5) (sz := 1) rfl (by kernel_rfl) (by kernel_rfl) (hF.ev 1 rfl) (hF.ev 0 rfl) rfl hi172) (kM [false, false, true, true, true, true, true, true, true, true, true, true] rfl rfl) (by decide) (v := (.pointer (some ⟨b6, off7 + i * 1, none⟩))) ?_
                      refine rxS (fun w => HoldsL cByte w b6 off7 pw) 4 rfl (by kernel_rfl) rfl (fun _ _ => rfl) (hH.holdsL hL8 hb9 hR10) (fun _ _ hF hS => opLoadT (C := cByte) (y := x0) rfl (hF.ev 0 rfl) (by kernel_rfl) (hS i _ hx0) rfl) (kM [false, true, true, true, true, true, true, true, true, true, true] rfl rfl) (by decide) (v := (.int .u8 (((x0.toNat) : Nat) : Int))) ?_
                      refine rxV 5 rfl (by kernel_rfl) rfl (fun _ _ => rfl) (fun _ _ hF => opRem (z := ((x0.toNat % 14 : Nat) : Int)) rfl (hF.ev 0 rfl) rfl (by omega) remN) (kM [false, true, true, true, true, true, true, true, true, true, true] rfl rfl) (by decide) (v := (.int .u8 (((x0.toNat % 14) : Nat) : Int))) ?_
                      refine rxV 6 rfl (by kernel_rfl) rfl (fun _ _ => rfl) (fun _ _ hF => opAddU (m := 224) (j := x0.toNat % 14) (z := ((UInt8.ofNat (224 + x0.toNat % 14)).toNat)) rfl rfl rfl (hF.ev 0 rfl) (by rw [ofNat_toNat (by omega)]; show (224 + x0.toNat % 14) % 256 = _; omega)) (kM [false, true, true, true, true, true, true, true, true, true, true] rfl rfl) (by decide) (v := (.int .u8 ((((UInt8.ofNat (224 + x0.toNat % 14)).toNat) : Nat) : Int))) ?_
                      refine rxV 9 rfl (by kernel_rfl) rfl (fun _ _ => rfl) (fun _ _ hF => opMove rfl (hF.ev 6 rfl)) (kA rfl) (by decide) (v := (.slice Ar nr cr)) ?_
                      refine rxV 10 rfl (by kernel_rfl) rfl (fun _ _ => rfl) (fun _ _ hF => opMove rfl (hF.ev 4 rfl)) (kA rfl) (by decide) (v := (.int .i64 (((pn) : Nat) : Int))) ?_
                      refine rxV 11 rfl (by kernel_rfl) rfl (fun _ _ => rfl) (fun _ _ hF => opCutH (h := pn) (e := 5) (sz := 1) rfl (by kernel_rfl) (by kernel_rfl) (hF.ev 1 rfl) (hF.ev 0 rfl) rfl (by omega)) (kM [false, false, true, true, true, true, true, true, true, true, true, true, true] rfl rfl) (by decide) (v := (.slice Ar pn cr)) ?_
                      refine rx1 7 (by kernel_rfl) ?_
                      refine moM rfl hH (fun _ hF => smLit1 (e := 5) (sz := 1) (z := (.int .u8 0)) (by_ := 1) (cs := cByte.enc (UInt8.ofNat (224 + x0.toNat % 14))) rfl (by kernel_rfl) (by kernel_rfl) (hF.ev 1 rfl) (cByte.len (UInt8.ofNat (224 + x0.toNat % 14))) (ltb rfl) (leb rfl) rfl) trivial rfl (fun _ _ => rfl) (kM [true, false, true, true, true, true, true, true, true, true, true, true] rfl rfl) (by decide) (PendOk.go [6, 5] (by kernel_rfl) (PendOk.nil _ [])) ?_
                      clear hH
                      rintro _ _ w ⟨g176, rfl, rfl⟩ hH
                      replace hH : HH w0 [] [E1, [bl g176 5 (cByte.enc (UInt8.ofNat (224 + x0.toNat % 14)))]] w := hH
                      refine ⟨(fun _ hs => by cases hs), ?_⟩
                      refine rx1 8 (by kernel_rfl) ?_
                      refine moE 0 rfl hH rfl (fun _ hF => smAppT (C := cByte) (l := B) (m := [(UInt8.ofNat (224 + x0.toNat % 14))]) (e := 5) (z := (.int .u8 0)) (by_ := 1) rfl (by kernel_rfl) (by kernel_rfl) rfl (ltb rfl) (hF.ev 2 rfl) hO (hF.ev 0 rfl) rfl (fun h => by cases h) (by unfold maxLen; omega) (by omega)) ((Bk.lit1 (C := cByte) (UInt8.ofNat (224 + x0.toNat % 14))).vu (hH.blk 1 rfl) rfl) rfl (fun _ _ => rfl) (kM [false, true, false, true, true, true, true, true, true, true, true, true] rfl rfl) (by decide) (PendOk.nil _ []) ?_
                      clear hH
                      rintro v179 E180 w ⟨hO181, _⟩ hH
                      replace hH : HH w0 [] [E180, [bl g176 5 (cByte.enc (UInt8.ofNat (224 + x0.toNat % 14)))]] w := hH
                      replace hO181 : OwnT cByte 5 v179 (B ++ [(UInt8.ofNat (224 + x0.toNat % 14))]) E180 := hO181
                      obtain ⟨A177, c178, rfl⟩ := hO181.slice
                      refine ⟨(fun _ hs => by cases hs), ?_⟩
                      refine rx1 12 (by kernel_rfl) ?_
                      refine moE 0 rfl hH rfl (fun _ hF => smAppT (C := cByte) (l := (B ++ [(UInt8.ofNat (224 + x0.toNat % 14))])) (m := ((body.drop m).take pn)) (e := 5) (z := (.int .u8 0)) (by_ := 1) rfl (by kernel_rfl) (by kernel_rfl) rfl (ltb rfl) (hF.ev 0 rfl) hO181 (hF.ev 1 rfl) (by rw [List.length_take, List.length_drop]; omega) (((hH.vu hVr (by decide) (Off.nil _ _)).head (m := pn) (by omega))).nilA (by simp only [List.length_append, List.length_cons, List.length_nil]; unfold maxLen; omega) (by simp only [List.length_append, List.length_cons, List.length_nil]; omega)) ((hH.vu hVr (by decide) (Off.nil _ _)).head (m := pn) (by omega)) rfl (fun _ _ => rfl) (kM [false, false, true, true, true, true, true, true, true, true, true] rfl rfl) (by decide) (PendOk.nil _ []) ?_
                      clear hH
                      rintro v184 E185 w ⟨hO186, _⟩ hH
                      replace hH : HH w0 [] [E185, [bl g176 5 (cByte.enc (UInt8.ofNat (224 + x0.toNat % 14)))]] w := hH
                      replace hO186 : OwnT cByte 5 v184 ((B ++ [(UInt8.ofNat (224 + x0.toNat % 14))]) ++ ((body.drop m).take pn)) E185 := hO186
                      obtain ⟨A182, c183, rfl⟩ := hO186.slice
                      refine ⟨(fun _ hs => by cases hs), ?_⟩
                      refine rxV 13 rfl (by kernel_rfl) rfl (fun _ _ => rfl) (fun _ _ hF => opAssign rfl (hF.ev 0 rfl)) (kM [false, true, true, true, true, true, false, true, true, true] rfl rfl) (by decide) (v := (.slice A182 (((B ++ [(UInt8.ofNat (224 + x0.toNat % 14))]) ++ ((body.drop m).take pn)).length) c183)) ?_
                      refine rxEnd (by kernel_rfl) ?_
                      refine qxThen ?_
                      refine cxReg ?_
                      refine pxV (v := (.slice Ar nr cr)) (fun _ _ hF => opMove rfl (hF.ev 5 rfl)) rfl (fun _ _ => rfl) (kM [true, true, true, true, true, false, true, true, true] rfl rfl) (by decide) ?_
                      refine pxV (v := (.int .i64 (((pn) : Nat) : Int))) (fun _ _ hF => opMove rfl (hF.ev 3 rfl)) rfl (fun _ _ => rfl) (kM [true, true, true, false, true, true, true, true, true] rfl rfl) (by decide) ?_
                      refine pxV (v := (.slice (cutA Ar cr pn 1) (nr - pn) (cr - pn))) (fun _ _ hF => opCutL (k := pn) (e := 5) (sz := 1) rfl (by kernel_rfl) (by kernel_rfl) (hF.ev 1 rfl) (hF.ev 0 rfl) rfl (by omega)) rfl (fun _ _ => rfl) (kM [false, false, true, true, true, true, true, true, true] rfl rfl) (by decide) ?_
                      refine pxV (v := (.slice (cutA Ar cr pn 1) (nr - pn) (cr - pn))) (fun _ _ hF => opAssign rfl (hF.ev 0 rfl)) rfl (fun _ _ => rfl) (kM [false, true, true, true, true, true, true, true] rfl rfl) (by decide) ?_
                      refine pxEnd ?_
                      refine qxInN ?_
                      refine qxThen ?_
                      refine cxReg ?_
                      refine pxV (v := (.int .i64 (((i + 1) : Nat) : Int))) (fun _ _ hF => opAdd rfl (hF.ev 3 rfl) rfl (wI (by omega) (by omega) (by omega))) rfl (fun _ _ => rfl) (kM [true, true, true, false, true, true, true, true] rfl rfl) (by decide) ?_
                      refine pxV (v := (.int .i64 (((i + 1) : Nat) : Int))) (fun _ _ hF => opMove rfl (hF.ev 0 rfl)) rfl (fun _ _ => rfl) (kM [false, true, true, true, true, true, true, true] rfl rfl) (by decide) ?_
                      refine pxEnd ?_
                      replace hH : HH w0 [] [E185] w := hH.only [true, false]
                      have hV2 := hVr.from (k := pn) (by omega)
                      rw [List.drop_drop] at hV2
                      exact qxRound (i + 1, A182, c183, ((B ++ [(UInt8.ofNat (224 + x0.toNat % 14))]) ++ ((body.drop m).take pn)), E185, (cutA Ar cr pn 1), (nr - pn), (cr - pn), m + pn, ((P ++ [UInt8.ofNat (224 + x0.toNat % 14)]) ++ (body.drop m).take (pn)), false) ⟨hH, (show (i + 1) ≤ pw.length from (by omega)), hO186, (by rw [hB]; simp), (PInv.bad hpn hI hg43 (Nat.mod_lt _ (by decide)) (.inl hmay) _ _), hV2, (show (nr - pn) + (m + pn) = body.length from (by omega)), (show ((B ++ [(UInt8.ofNat (224 + x0.toNat % 14))]) ++ ((body.drop m).take pn)).length ≤ 1 + (i + 1) + (m + pn) from (by simp only [List.length_append, List.length_cons, List.length_nil, List.length_take, List.length_drop]; omega))⟩ (by omega) (slots_at [0, 4, 3, 1, 2, 5, 6, 7] rfl)
            · refine pxU rfl (gOff 0 rfl rfl rfl (by decide)) (kA rfl) (by decide) ?_
              refine pxU rfl (gOff 0 rfl rfl rfl (by decide)) (kA rfl) (by decide) ?_
              refine pxUK rfl (gOff 0 rfl rfl rfl (by decide)) (kA rfl) (by decide) ?_
              refine pxU rfl (gOffU 0 rfl rfl rfl) (kA rfl) (by decide) ?_
              refine pxU rfl (gOffU 0 rfl rfl rfl) (kA rfl) (by decide) ?_
              refine pxU rfl (gOff 1 rfl rfl rfl (by decide)) (kM [false, true, true, true, true, true, true, true, true, true, true] rfl rfl) (by decide) ?_
              refine pxUK rfl (gOff 0 rfl rfl rfl (by decide)) (kA rfl) (by decide) ?_
              refine pxU rfl (gOffU 0 rfl rfl rfl) (kA rfl) (by decide) ?_
              refine pxU rfl (gOffU 0 rfl rfl rfl) (kA rfl) (by decide) ?_
              refine pxU rfl (gOff 1 rfl rfl rfl (by decide)) (kM [false, true, true, true, true, true, true, true, true, true, true] rfl rfl) (by decide) ?_
              refine pxUK rfl (gOff 0 rfl rfl rfl (by decide)) (kA rfl) (by decide) ?_
              refine pxU rfl (gOffU 0 rfl rfl rfl) (kA rfl) (by decide) ?_
              refine pxU rfl (gOffU 0 rfl rfl rfl) (kA rfl) (by decide) ?_
              refine pxU rfl (gOff 1 rfl rfl rfl (by decide)) (kM [false, true, true, true, true, true, true, true, true, true, true] rfl rfl) (by decide) ?_
              refine pxV (v := (.bool false)) (fun _ _ hF => opPickF rfl (hF.ev 0 rfl) rfl) rfl (fun _ _ => rfl) (kM [false, true, true, true, true, true, true, true, true, true] rfl rfl) (by decide) ?_
              refine pxV (v := (.bool false)) (fun _ _ hF => opMove rfl (hF.ev 0 rfl)) rfl (fun _ _ => rfl) (kM [false, true, true, true, true, true, true, true, true, true] rfl rfl) (by decide) ?_
              refine pxU rfl (gOff 0 rfl rfl rfl (by decide)) (kA rfl) (by decide) ?_
              refine pxU rfl (gOff 0 rfl rfl rfl (by decide)) (kA rfl) (by decide) ?_
              refine pxUK rfl (gOff 0 rfl rfl rfl (by decide)) (kA rfl) (by decide) ?_
              refine pxU rfl (gOffU 0 rfl rfl rfl) (kA rfl) (by decide) ?_
              refine pxU rfl (gOffU 0 rfl rfl rfl) (kA rfl) (by decide) ?_
              refine pxU rfl (gOff 1 rfl rfl rfl (by decide)) (kM [false, true, true, true, true, true, true, true, true, true, true] rfl rfl) (by decide) ?_
              refine pxV (v := (.bool false)) (fun _ _ hF => opPickF rfl (hF.ev 0 rfl) rfl) rfl (fun _ _ => rfl) (kM [false, true, true, true, true, true, true, true, true, true] rfl rfl) (by decide) ?_
              refine pxV (v := (.bool false)) (fun _ _ hF => opAssign rfl (hF.ev 0 rfl)) rfl (fun _ _ => rfl) (kM [false, true, true, true, true, true, true, true, true, true] rfl rfl) (by decide) ?_
              refine pxEnd ?_
              refine qxThen ?_
              refine cxSeq ?_
              refine cxRegX mixedOrders (by kernel_rfl) ?_
              replace hH := hH.drew
              refine rxV 0 rfl (by kernel_rfl) rfl (fun _ _ => rfl) (fun _ _ hF => opMove rfl (hF.ev 6 rfl)) (kA rfl) (by decide) (v := (.slice A1 B.length c1)) ?_
              refine rxV 1 rfl (by kernel_rfl) rfl (fun _ _ => rfl) (fun _ _ hF => opMove rfl (hF.ev 9 rfl)) (kA rfl) (by decide) (v := (.slice (some ⟨b6, off7, none⟩) pw.length cp)) ?_
              refine rxV 2 rfl (by kernel_rfl) rfl (fun _ _ => rfl) (fun _ _ hF => opMove rfl (hF.ev 4 rfl)) (kM [true, true, true, true, false, true, true, true, true, true, true, true] rfl rfl) (by decide) (v := (.int .i64 (((i) : Nat) : Int))) ?_
              have hi187 : i < pw.length := by omega
              have hj190 : i < pw.length := by first | exact hi187 | (simp only [List.length_drop, List.length_take]; omega) | omega
              refine rxV 3 rfl (by kernel_rfl) rfl (fun _ _ => rfl) (fun _ _ hF => opIndex (i := i) (e := 5) (sz := 1) rfl (by kernel_rfl) (by kernel_rfl) (hF.ev 1 rfl) (hF.ev 0 rfl) rfl hi187) (kM [false, false, true, true, true, true, true, true, true, true, true, true] rfl rfl) (by decide) (v := (.pointer (some ⟨b6, off7 + i * 1, none⟩))) ?_
              refine rxS (fun w => HoldsL cByte w b6 off7 pw) 4 rfl (by kernel_rfl) rfl (fun _ _ => rfl) (hH.holdsL hL8 hb9 hR10) (fun _ _ hF hS => opLoadT (C := cByte) (y := x0) rfl (hF.ev 0 rfl) (by kernel_rfl) (hS i _ hx0) rfl) (kM [false, true, true, true, true, true, true, true, true, true, true] rfl rfl) (by decide) (v := (.int .u8 (((x0.toNat) : Nat) : Int))) ?_
              refine rxV 5 rfl (by kernel_rfl) rfl (fun _ _ => rfl) (fun _ _ hF => opRem (z := ((x0.toNat % 14 : Nat) : Int)) rfl (hF.ev 0 rfl) rfl (by omega) remN) (kM [false, true, true, true, true, true, true, true, true, true, true] rfl rfl) (by decide) (v := (.int .u8 (((x0.toNat % 14) : Nat) : Int))) ?_
              refine rxV 6 rfl (by kernel_rfl) rfl (fun _ _ => rfl) (fun _ _ hF => opAddU (m := 224) (j := x0.toNat % 14) (z := ((UInt8.ofNat (224 + x0.toNat % 14)).toNat)) rfl rfl rfl (hF.ev 0 rfl) (by rw [ofNat_toNat (by omega)]; show (224 + x0.toNat % 14) % 256 = _; omega)) (kM [false, true, true, true, true, true, true, true, true, true, true] rfl rfl) (by decide) (v := (.int .u8 ((((UInt8.ofNat (224 + x0.toNat % 14)).toNat) : Nat) : Int))) ?_
              refine rxV 9 rfl (by kernel_rfl) rfl (fun _ _ => rfl) (fun _ _ hF => opMove rfl (hF.ev 6 rfl)) (kA rfl) (by decide) (v := (.slice Ar nr cr)) ?_
              refine rxV 10 rfl (by kernel_rfl) rfl (fun _ _ => rfl) (fun _ _ hF => opMove rfl (hF.ev 4 rfl)) (kA rfl) (by decide) (v := (.int .i64 (((pn) : Nat) : Int))) ?_
              refine rxV 11 rfl (by kernel_rfl) rfl (fun _ _ => rfl) (fun _ _ hF => opCutH (h := pn) (e := 5) (sz := 1) rfl (by kernel_rfl) (by kernel_rfl) (hF.ev 1 rfl) (hF.ev 0 rfl) rfl (by omega)) (kM [false, false, true, true, true, true, true, true, true, true, true, true, true] rfl rfl) (by decide) (v := (.slice Ar pn cr)) ?_
              refine rx1 7 (by kernel_rfl) ?_
              refine moM rfl hH (fun _ hF => smLit1 (e := 5) (sz := 1) (z := (.int .u8 0)) (by_ := 1) (cs := cByte.enc (UInt8.ofNat (224 + x0.toNat % 14))) rfl (by kernel_rfl) (by kernel_rfl) (hF.ev 1 rfl) (cByte.len (UInt8.ofNat (224 + x0.toNat % 14))) (ltb rfl) (leb rfl) rfl) trivial rfl (fun _ _ => rfl) (kM [true, false, true, true, true, true, true, true, true, true, true, true] rfl rfl) (by decide) (PendOk.go [6, 5] (by kernel_rfl) (PendOk.nil _ [])) ?_
              clear hH
              rintro _ _ w ⟨g191, rfl, rfl⟩ hH
              replace hH : HH w0 [] [E1, [bl g191 5 (cByte.enc (UInt8.ofNat (224 + x0.toNat % 14)))]] w := hH
              refine ⟨(fun _ hs => by cases hs), ?_⟩
              refine rx1 8 (by kernel_rfl) ?_
              refine moE 0 rfl hH rfl (fun _ hF => smAppT (C := cByte) (l := B) (m := [(UInt8.ofNat (224 + x0.toNat % 14))]) (e := 5) (z := (.int .u8 0)) (by_ := 1) rfl (by kernel_rfl) (by kernel_rfl) rfl (ltb rfl) (hF.ev 2 rfl) hO (hF.ev 0 rfl) rfl (fun h => by cases h) (by unfold maxLen; omega) (by omega)) ((Bk.lit1 (C := cByte) (UInt8.ofNat (224 + x0.toNat % 14))).vu (hH.blk 1 rfl) rfl) rfl (fun _ _ => rfl) (kM [false, true, false, true, true, true, true, true, true, true, true, true] rfl rfl) (by decide) (PendOk.nil _ []) ?_
              clear hH
              rintro v194 E195 w ⟨hO196, _⟩ hH
              replace hH : HH w0 [] [E195, [bl g191 5 (cByte.enc (UInt8.ofNat (224 + x0.toNat % 14)))]] w := hH
              replace hO196 : OwnT cByte 5 v194 (B ++ [(UInt8.ofNat (224 + x0.toNat % 14))]) E195 := hO196
              obtain ⟨A192, c193, rfl⟩ := hO196.slice
              refine ⟨(fun _ hs => by cases hs), ?_⟩
              refine rx1 12 (by kernel_rfl) ?_
              refine moE 0 rfl hH rfl (fun _ hF => smAppT (C := cByte) (l := (B ++ [(UInt8.ofNat (224 + x0.toNat % 14))])) (m := ((body.drop m).take pn)) (e := 5) (z := (.int .u8 0)) (by_ := 1) rfl (by kernel_rfl) (by kernel_rfl) rfl (ltb rfl) (hF.ev 0 rfl) hO196 (hF.ev 1 rfl) (by rw [List.length_take, List.length_drop]; omega) (((hH.vu hVr (by decide) (Off.nil _ _)).head (m := pn) (by omega))).nilA (by simp only [List.length_append, List.length_cons, List.length_nil]; unfold maxLen; omega) (by simp only [List.length_append, List.length_cons, List.length_nil]; omega)) ((hH.vu hVr (by decide) (Off.nil _ _)).head (m := pn) (by omega)) rfl (fun _ _ => rfl) (kM [false, false, true, true, true, true, true, true, true, true, true] rfl rfl) (by decide) (PendOk.nil _ []) ?_
              clear hH
              rintro v199 E200 w ⟨hO201, _⟩ hH
              replace hH : HH w0 [] [E200, [bl g191 5 (cByte.enc (UInt8.ofNat (224 + x0.toNat % 14)))]] w := hH
              replace hO201 : OwnT cByte 5 v199 ((B ++ [(UInt8.ofNat (224 + x0.toNat % 14))]) ++ ((body.drop m).take pn)) E200 := hO201
              obtain ⟨A197, c198, rfl⟩ := hO201.slice
              refine ⟨(fun _ hs => by cases hs), ?_⟩
              refine rxV 13 rfl (by kernel_rfl) rfl (fun _ _ => rfl) (fun _ _ hF => opAssign rfl (hF.ev 0 rfl)) (kM [false, true, true, true, true, true, false, true, true, true] rfl rfl) (by decide) (v := (.slice A197 (((B ++ [(UInt8.ofNat (224 + x0.toNat % 14))]) ++ ((body.drop m).take pn)).length) c198)) ?_
              refine rxEnd (by kernel_rfl) ?_
              refine qxThen ?_
              refine cxReg ?_
              refine pxV (v := (.slice Ar nr cr)) (fun _ _ hF => opMove rfl (hF.ev 5 rfl)) rfl (fun _ _ => rfl) (kM [true, true, true, true, true, false, true, true, true] rfl rfl) (by decide) ?_
              refine pxV (v := (.int .i64 (((pn) : Nat) : Int))) (fun _ _ hF => opMove rfl (hF.ev 3 rfl)) rfl (fun _ _ => rfl) (kM [true, true, true, false, true, true, true, true, true] rfl rfl) (by decide) ?_
              refine pxV (v := (.slice (cutA Ar cr pn 1) (nr - pn) (cr - pn))) (fun _ _ hF => opCutL (k := pn) (e := 5) (sz := 1) rfl (by kernel_rfl) (by kernel_rfl) (hF.ev 1 rfl) (hF.ev 0 rfl) rfl (by omega)) rfl (fun _ _ => rfl) (kM [false, false, true, true, true, true, true, true, true] rfl rfl) (by decide) ?_
              refine pxV (v := (.slice (cutA Ar cr pn 1) (nr - pn) (cr - pn))) (fun _ _ hF => opAssign rfl (hF.ev 0 rfl)) rfl (fun _ _ => rfl) (kM [false, true, true, true, true, true, true, true] rfl rfl) (by decide) ?_
              refine pxEnd ?_
              refine qxInN ?_
              refine qxThen ?_
              refine cxReg ?_
              refine pxV (v := (.int .i64 (((i + 1) : Nat) : Int))) (fun _ _ hF => opAdd rfl (hF.ev 3 rfl) rfl (wI (by omega) (by omega) (by omega))) rfl (fun _ _ => rfl) (kM [true, true, true, false, true, true, true, true] rfl rfl) (by decide) ?_
              refine pxV (v := (.int .i64 (((i + 1) : Nat) : Int))) (fun _ _ hF => opMove rfl (hF.ev 0 rfl)) rfl (fun _ _ => rfl) (kM [false, true, true, true, true, true, true, true] rfl rfl) (by decide) ?_
              refine pxEnd ?_
              replace hH : HH w0 [] [E200] w := hH.only [true, false]
              have hV2 := hVr.from (k := pn) (by omega)
              rw [List.drop_drop] at hV2
              exact qxRound (i + 1, A197, c198, ((B ++ [(UInt8.ofNat (224 + x0.toNat % 14))]) ++ ((body.drop m).take pn)), E200, (cutA Ar cr pn 1), (nr - pn), (cr - pn), m + pn, ((P ++ [UInt8.ofNat (224 + x0.toNat % 14)]) ++ (body.drop m).take (pn)), false) ⟨hH, (show (i + 1) ≤ pw.length from (by omega)), hO201, (by rw [hB]; simp), (hI.same hg43 _ _ _), hV2, (show (nr - pn) + (m + pn) = body.length from (by omega)), (show ((B ++ [(UInt8.ofNat (224 + x0.toNat % 14))]) ++ ((body.drop m).take pn)).length ≤ 1 + (i + 1) + (m + pn) from (by simp only [List.length_append, List.length_cons, List.length_nil, List.length_take, List.length_drop]; omega))⟩ (by omega) (slots_at [0, 4, 3, 1, 2, 5, 6, 7] rfl)
          · refine cxReg ?_
            refine pxV (v := (.bool (right))) (fun _ _ hF => opMove rfl (hF.ev 5 rfl)) rfl (fun _ _ => rfl) (kM [false, true, true, true, true, false, true, true, true, true, true] rfl rfl) (by decide) ?_
            refine pxV (v := (.bool (right))) (fun _ _ hF => opMove rfl (hF.ev 0 rfl)) rfl (fun _ _ => rfl) (kM [false, true, true, true, true, true, true, true, true, true] rfl rfl) (by decide) ?_
            refine pxSplitB 0 rfl (l1 := [(53, (.bool true)), (12, (.int .i64 (((pn) : Nat) : Int))), (11, (.int .i64 (((i) : Nat) : Int))), (39, (.int .i64 (((i) : Nat) : Int))), (38, (.int .i64 (((pw.length) : Nat) : Int))), (9, (.slice Ar nr cr)), (8, (.slice A1 B.length c1)), (7, (.int .i64 (((1 + tag.toNat % 20) : Nat) : Int))), (2, (.slice (some ⟨b6, off7, none⟩) pw.length cp)), (1, (.slice Ab body.length cb))]) (l2 := [(53, (.bool false)), (12, (.int .i64 (((pn) : Nat) : Int))), (11, (.int .i64 (((i) : Nat) : Int))), (39, (.int .i64 (((i) : Nat) : Int))), (38, (.int .i64 (((pw.length) : Nat) : Int))), (9, (.slice Ar nr cr)), (8, (.slice A1 B.length c1)), (7, (.int .i64 (((1 + tag.toNat % 20) : Nat) : Int))), (2, (.slice (some ⟨b6, off7, none⟩) pw.length cp)), (1, (.slice Ab body.length cb))]) rfl rfl (fun hg202 => ?_) (fun hg202 => ?_)
            · refine pxV (v := (.int .i64 (((1 + tag.toNat % 20) : Nat) : Int))) (fun _ _ hF => opMove rfl (hF.ev 7 rfl)) rfl (gOn 0 rfl rfl rfl (by decide)) (kA rfl) (by decide) ?_
              refine pxV (v := (.bool (decide (1 + tag.toNat % 20 = 8)))) (fun _ _ hF => opEqI rfl (hF.ev 0 rfl) rfl (dc (by omega))) rfl (gOn 1 rfl rfl rfl (by decide)) (kM [false, true, true, true, true, true, true, true, true, true, true] rfl rfl) (by decide) ?_
              refine pxV (v := (.bool (decide (1 + tag.toNat % 20 = 8)))) (fun _ _ hF => opMove rfl (hF.ev 0 rfl)) rfl (gOn 1 rfl rfl rfl (by decide)) (kM [false, true, true, true, true, true, true, true, true, true, true] rfl rfl) (by decide) ?_
              refine pxSplitP 0 rfl (l1 := [(56, (.bool true)), (53, (.bool true)), (12, (.int .i64 (((pn) : Nat) : Int))), (11, (.int .i64 (((i) : Nat) : Int))), (39, (.int .i64 (((i) : Nat) : Int))), (38, (.int .i64 (((pw.length) : Nat) : Int))), (9, (.slice Ar nr cr)), (8, (.slice A1 B.length c1)), (7, (.int .i64 (((1 + tag.toNat % 20) : Nat) : Int))), (2, (.slice (some ⟨b6, off7, none⟩) pw.length cp)), (1, (.slice Ab body.length cb))]) (l2 := [(56, (.bool false)), (53, (.bool true)), (12, (.int .i64 (((pn) : Nat) : Int))), (11, (.int .i64 (((i) : Nat) : Int))), (39, (.int .i64 (((i) : Nat) : Int))), (38, (.int .i64 (((pw.length) : Nat) : Int))), (9, (.slice Ar nr cr)), (8, (.slice A1 B.length c1)), (7, (.int .i64 (((1 + tag.toNat % 20) : Nat) : Int))), (2, (.slice (some ⟨b6, off7, none⟩) pw.length cp)), (1, (.slice Ab body.length cb))]) rfl rfl (fun hg203 => ?_) (fun hg203 => ?_)
              · have hmay : mayT (1 + tag.toNat % 20) = true := mayT_yes (by omega)
                refine pxU rfl (gOff 0 rfl rfl rfl (by decide)) (kA rfl) (by decide) ?_
                refine pxU rfl (gOff 0 rfl rfl rfl (by decide)) (kA rfl) (by decide) ?_
                refine pxV (v := (.bool true)) (fun _ _ hF => opPickT rfl (hF.ev 0 rfl) rfl) rfl (gOn 1 rfl rfl rfl (by decide)) (kM [false, true, true, true, true, true, true, true, true, true, true] rfl rfl) (by decide) ?_
                refine pxV (v := (.bool true)) (fun _ _ hF => opMove rfl (hF.ev 0 rfl)) rfl (gOn 1 rfl rfl rfl (by decide)) (kM [false, true, true, true, true, true, true, true, true, true, true] rfl rfl) (by decide) ?_
                refine pxU rfl (gOff 0 rfl rfl rfl (by decide)) (kA rfl) (by decide) ?_
                refine pxU rfl (gOff 0 rfl rfl rfl (by decide)) (kA rfl) (by decide) ?_
                refine pxV (v := (.bool true)) (fun _ _ hF => opPickT rfl (hF.ev 0 rfl) rfl) rfl (gOn 1 rfl rfl rfl (by decide)) (kM [false, true, true, true, true, true, true, true, true, true, true] rfl rfl) (by decide) ?_
                refine pxV (v := (.bool true)) (fun _ _ hF => opMove rfl (hF.ev 0 rfl)) rfl (gOn 1 rfl rfl rfl (by decide)) (kM [false, true, true, true, true, true, true, true, true, true, true] rfl rfl) (by decide) ?_
                refine pxU rfl (gOff 0 rfl rfl rfl (by decide)) (kA rfl) (by decide) ?_
                refine pxU rfl (gOff 0 rfl rfl rfl (by decide)) (kA rfl) (by decide) ?_
                refine pxV (v := (.bool true)) (fun _ _ hF => opPickT rfl (hF.ev 0 rfl) rfl) rfl (gOn 1 rfl rfl rfl (by decide)) (kM [false, true, true, true, true, true, true, true, true, true, true] rfl rfl) (by decide) ?_
                refine pxV (v := (.bool true)) (fun _ _ hF => opPickT rfl (hF.ev 1 rfl) (hF.ev 0 rfl)) rfl (fun _ _ => rfl) (kM [false, false, true, true, true, true, true, true, true, true, true] rfl rfl) (by decide) ?_
                refine pxV (v := (.bool true)) (fun _ _ hF => opMove rfl (hF.ev 0 rfl)) rfl (fun _ _ => rfl) (kM [false, true, true, true, true, true, true, true, true, true] rfl rfl) (by decide) ?_
                refine pxV (v := (.int .i64 (((i) : Nat) : Int))) (fun _ _ hF => opMove rfl (hF.ev 2 rfl)) rfl (gOn 0 rfl rfl rfl (by decide)) (kA rfl) (by decide) ?_
                refine pxV (v := (.bool (decide (i > 0)))) (fun _ _ hF => opGtr rfl (hF.ev 0 rfl) rfl (dc (by omega))) rfl (gOn 1 rfl rfl rfl (by decide)) (kM [false, true, true, true, true, true, true, true, true, true, true] rfl rfl) (by decide) ?_
                refine pxV (v := (.bool (decide (i > 0)))) (fun _ _ hF => opMove rfl (hF.ev 0 rfl)) rfl (gOn 1 rfl rfl rfl (by decide)) (kM [false, true, true, true, true, true, true, true, true, true, true] rfl rfl) (by decide) ?_
                refine pxSplitP 0 rfl (l1 := [(72, (.bool true)), (69, (.bool true)), (12, (.int .i64 (((pn) : Nat) : Int))), (11, (.int .i64 (((i) : Nat) : Int))), (39, (.int .i64 (((i) : Nat) : Int))), (38, (.int .i64 (((pw.length) : Nat) : Int))), (9, (.slice Ar nr cr)), (8, (.slice A1 B.length c1)), (7, (.int .i64 (((1 + tag.toNat % 20) : Nat) : Int))), (2, (.slice (some ⟨b6, off7, none⟩) pw.length cp)), (1, (.slice Ab body.length cb))]) (l2 := [(72, (.bool false)), (69, (.bool true)), (12, (.int .i64 (((pn) : Nat) : Int))), (11, (.int .i64 (((i) : Nat) : Int))), (39, (.int .i64 (((i) : Nat) : Int))), (38, (.int .i64 (((pw.length) : Nat) : Int))), (9, (.slice Ar nr cr)), (8, (.slice A1 B.length c1)), (7, (.int .i64 (((1 + tag.toNat % 20) : Nat) : Int))), (2, (.slice (some ⟨b6, off7, none⟩) pw.length cp)), (1, (.slice Ab body.length cb))]) rfl rfl (fun hg204 => ?_) (fun hg204 => ?_)
                · refine pxU rfl (gOff 0 rfl rfl rfl (by decide)) (kA rfl) (by decide) ?_
                  refine pxU rfl (gOff 0 rfl rfl rfl (by decide)) (kA rfl) (by decide) ?_
                  refine pxV (v := (.bool true)) (fun _ _ hF => opPickT rfl (hF.ev 0 rfl) rfl) rfl (gOn 1 rfl rfl rfl (by decide)) (kM [false, true, true, true, true, true, true, true, true, true, true] rfl rfl) (by decide) ?_
                  refine pxV (v := (.bool true)) (fun _ _ hF => opPickT rfl (hF.ev 1 rfl) (hF.ev 0 rfl)) rfl (fun _ _ => rfl) (kM [false, false, true, true, true, true, true, true, true, true, true] rfl rfl) (by decide) ?_
                  refine pxV (v := (.bool true)) (fun _ _ hF => opAssign rfl (hF.ev 0 rfl)) rfl (fun _ _ => rfl) (kM [false, true, true, true, true, true, true, true, true, true] rfl rfl) (by decide) ?_
                  refine pxEnd ?_
                  refine qxThen ?_
                  refine cxSeq ?_
                  refine cxRegX mixedOrders (by kernel_rfl) ?_
                  replace hH := hH.drew
                  refine rxV 0 rfl (by kernel_rfl) rfl (fun _ _ => rfl) (fun _ _ hF => opMove rfl (hF.ev 6 rfl)) (kA rfl) (by decide) (v := (.slice A1 B.length c1)) ?_
                  refine rxV 1 rfl (by kernel_rfl) rfl (fun _ _ => rfl) (fun _ _ hF => opMove rfl (hF.ev 9 rfl)) (kA rfl) (by decide) (v := (.slice (some ⟨b6, off7, none⟩) pw.length cp)) ?_
                  refine rxV 2 rfl (by kernel_rfl) rfl (fun _ _ => rfl) (fun _ _ hF => opMove rfl (hF.ev 4 rfl)) (kM [true, true, true, true, false, true, true, true, true, true, true, true] rfl rfl) (by decide) (v := (.int .i64 (((i) : Nat) : Int))) ?_
                  have hi205 : i < pw.length := by omega
                  have hj208 : i < pw.length := by first | exact hi205 | (simp only [List.length_drop, List.length_take]; omega) | omega
                  refine rxV 3 rfl (by kernel_rfl) rfl (fun _ _ => rfl) (fun _ _ hF => opIndex (i := i) (e := 5) (sz := 1) rfl (by kernel_rfl) (by kernel_rfl) (hF.ev 1 rfl) (hF.ev 0 rfl) rfl hi205) (kM [false, false, true, true, true, true, true, true, true, true, true, true] rfl rfl) (by decide) (v := (.pointer (some ⟨b6, off7 + i * 1, none⟩))) ?_
                  refine rxS (fun w => HoldsL cByte w b6 off7 pw) 4 rfl (by kernel_rfl) rfl (fun _ _ => rfl) (hH.holdsL hL8 hb9 hR10) (fun _ _ hF hS => opLoadT (C := cByte) (y := x0) rfl (hF.ev 0 rfl) (by kernel_rfl) (hS i _ hx0) rfl) (kM [false, true, true, true, true, true, true, true, true, true, true] rfl rfl) (by decide) (v := (.int .u8 (((x0.toNat) : Nat) : Int))) ?_
                  refine rxV 5 rfl (by kernel_rfl) rfl (fun _ _ => rfl) (fun _ _ hF => opRem (z := ((x0.toNat % 14 : Nat) : Int)) rfl (hF.ev 0 rfl) rfl (by omega) remN) (kM [false, true, true, true, true, true, true, true, true, true, true] rfl rfl) (by decide) (v := (.int .u8 (((x0.toNat % 14) : Nat) : Int))) ?_
                  refine rxV 6 rfl (by kernel_rfl) rfl (fun _ _ => rfl) (fun _ _ hF => opAddU (m := 224) (j := x0.toNat % 14) (z := ((UInt8.ofNat (224 + x0.toNat % 14)).toNat)) rfl rfl rfl (hF.ev 0 rfl) (by rw [ofNat_toNat (by omega)]; show (224 + x0.toNat % 14) % 256 = _; omega)) (kM [false, true, true, true, true, true, true, true, true, true, true] rfl rfl) (by decide) (v := (.int .u8 ((((UInt8.ofNat (224 + x0.toNat % 14)).toNat) : Nat) : Int))) ?_
                  refine rxV 9 rfl (by kernel_rfl) rfl (fun _ _ => rfl) (fun _ _ hF => opMove rfl (hF.ev 6 rfl)) (kA rfl) (by decide) (v := (.slice Ar nr cr)) ?_
                  refine rxV 10 rfl (by kernel_rfl) rfl (fun _ _ => rfl) (fun _ _ hF => opMove rfl (hF.ev 4 rfl)) (kA rfl) (by decide) (v := (.int .i64 (((pn) : Nat) : Int))) ?_
                  refine rxV 11 rfl (by kernel_rfl) rfl (fun _ _ => rfl) (fun _ _ hF => opCutH (h := pn) (e := 5) (sz := 1) rfl (by kernel_rfl) (by kernel_rfl) (hF.ev 1 rfl) (hF.ev 0 rfl) rfl (by omega)) (kM [false, false, true, true, true, true, true, true, true, true, true, true, true] rfl rfl) (by decide) (v := (.slice Ar pn cr)) ?_
                  refine rx1 7 (by kernel_rfl) ?_
                  refine moM rfl hH (fun _ hF => smLit1 (e := 5) (sz := 1) (z := (.int .u8 0)) (by_ := 1) (cs := cByte.enc (UInt8.ofNat (224 + x0.toNat % 14))) rfl (by kernel_rfl) (by kernel_rfl) (hF.ev 1 rfl) (cByte.len (UInt8.ofNat (224 + x0.toNat % 14))) (ltb rfl) (leb rfl) rfl) trivial rfl (fun _ _ => rfl) (kM [true, false, true, true, true, true, true, true, true, true, true, true] rfl rfl) (by decide) (PendOk.go [6, 5] (by kernel_rfl) (PendOk.nil _ [])) ?_
                  clear hH
                  rintro _ _ w ⟨g209, rfl, rfl⟩ hH
                  replace hH : HH w0 [] [E1, [bl g209 5 (cByte.enc (UInt8.ofNat (224 + x0.toNat % 14)))]] w := hH
                  refine ⟨(fun _ hs => by cases hs), ?_⟩
                  refine rx1 8 (by kernel_rfl) ?_
                  refine moE 0 rfl hH rfl (fun _ hF => smAppT (C := cByte) (l := B) (m := [(UInt8.ofNat (224 + x0.toNat % 14))]) (e := 5) (z := (.int .u8 0)) (by_ := 1) rfl (by kernel_rfl) (by kernel_rfl) rfl (ltb rfl) (hF.ev 2 rfl) hO (hF.ev 0 rfl) rfl (fun h => by cases h) (by unfold maxLen; omega) (by omega)) ((Bk.lit1 (C := cByte) (UInt8.ofNat (224 + x0.toNat % 14))).vu (hH.blk 1 rfl) rfl) rfl (fun _ _ => rfl) (kM [false, true, false, true, true, true, true, true, true, true, true, true] rfl rfl) (by decide) (PendOk.nil _ []) ?_
                  clear hH
                  rintro v212 E213 w ⟨hO214, _⟩ hH
                  replace hH : HH w0 [] [E213, [bl g209 5 (cByte.enc (UInt8.ofNat (224 + x0.toNat % 14)))]] w := hH
                  replace hO214 : OwnT cByte 5 v212 (B ++ [(UInt8.ofNat (224 + x0.toNat % 14))]) E213 := hO214
                  obtain ⟨A210, c211, rfl⟩ := hO214.slice
                  refine ⟨(fun _ hs => by cases hs), ?_⟩
                  refine rx1 12 (by kernel_rfl) ?_
                  refine moE 0 rfl hH rfl (fun _ hF => smAppT (C := cByte) (l := (B ++ [(UInt8.ofNat (224 + x0.toNat % 14))])) (m := ((body.drop m).take pn)) (e := 5) (z := (.int .u8 0)) (by_ := 1) rfl (by kernel_rfl) (by kernel_rfl) rfl (ltb rfl) (hF.ev 0 rfl) hO214 (hF.ev 1 rfl) (by rw [List.length_take, List.length_drop]; omega) (((hH.vu hVr (by decide) (Off.nil _ _)).head (m := pn) (by omega))).nilA (by simp only [List.length_append, List.length_cons, List.length_nil]; unfold maxLen; omega) (by simp only [List.length_append, List.length_cons, List.length_nil]; omega)) ((hH.vu hVr (by decide) (Off.nil _ _)).head (m := pn) (by omega)) rfl (fun _ _ => rfl) (kM [false, false, true, true, true, true, true, true, true, true, true] rfl rfl) (by decide) (PendOk.nil _ []) ?_
                  clear hH
                  rintro v217 E218 w ⟨hO219, _⟩ hH
                  replace hH : HH w0 [] [E218, [bl g209 5 (cByte.enc (UInt8.ofNat (224 + x0.toNat % 14)))]] w := hH
                  replace hO219 : OwnT cByte 5 v217 ((B ++ [(UInt8.ofNat (224 + x0.toNat % 14))]) ++ ((body.drop m).take pn)) E218 := hO219
                  obtain ⟨A215, c216, rfl⟩ := hO219.slice
                  refine ⟨(fun _ hs => by cases hs), ?_⟩
                  refine rxV 13 rfl (by kernel_rfl) rfl (fun _ _ => rfl) (fun _ _ hF => opAssign rfl (hF.ev 0 rfl)) (kM [false, true, true, true, true, true, false, true, true, true] rfl rfl) (by decide) (v := (.slice A215 (((B ++ [(UInt8.ofNat (224 + x0.toNat % 14))]) ++ ((body.drop m).take pn)).length) c216)) ?_
                  refine rxEnd (by kernel_rfl) ?_
                  refine qxThen ?_
                  refine cxReg ?_
                  refine pxV (v := (.slice Ar nr cr)) (fun _ _ hF => opMove rfl (hF.ev 5 rfl)) rfl (fun _ _ => rfl) (kM [true, true, true, true, true, false, true, true, true] rfl rfl) (by decide) ?_
                  refine pxV (v := (.int .i64 (((pn) : Nat) : Int))) (fun _ _ hF => opMove rfl (hF.ev 3 rfl)) rfl (fun _ _ => rfl) (kM [true, true, true, false, true, true, true, true, true] rfl rfl) (by decide) ?_
                  refine pxV (v := (.slice (cutA Ar cr pn 1) (nr - pn) (cr - pn))) (fun _ _ hF => opCutL (k := pn) (e := 5) (sz := 1) rfl (by kernel_rfl) (by kernel_rfl) (hF.ev 1 rfl) (hF.ev 0 rfl) rfl (by omega)) rfl (fun _ _ => rfl) (kM [false, false, true, true, true, true, true, true, true] rfl rfl) (by decide) ?_
                  refine pxV (v := (.slice (cutA Ar cr pn 1) (nr - pn) (cr - pn))) (fun _ _ hF => opAssign rfl (hF.ev 0 rfl)) rfl (fun _ _ => rfl) (kM [false, true, true, true, true, true, true, true] rfl rfl) (by decide) ?_
                  refine pxEnd ?_
                  refine qxInN ?_
                  refine qxThen ?_
                  refine cxReg ?_
                  refine pxV (v := (.int .i64 (((i + 1) : Nat) : Int))) (fun _ _ hF => opAdd rfl (hF.ev 3 rfl) rfl (wI (by omega) (by omega) (by omega))) rfl (fun _ _ => rfl) (kM [true, true, true, false, true, true, true, true] rfl rfl) (by decide) ?_
                  refine pxV (v := (.int .i64 (((i + 1) : Nat) : Int))) (fun _ _ hF => opMove rfl (hF.ev 0 rfl)) rfl (fun _ _ => rfl) (kM [false, true, true, true, true, true, true, true] rfl rfl) (by decide) ?_
                  refine pxEnd ?_
                  replace hH : HH w0 [] [E218] w := hH.only [true, false]
                  have hV2 := hVr.from (k := pn) (by omega)
                  rw [List.drop_drop] at hV2
                  exact qxRound (i + 1, A215, c216, ((B ++ [(UInt8.ofNat (224 + x0.toNat % 14))]) ++ ((body.drop m).take pn)), E218, (cutA Ar cr pn 1), (nr - pn), (cr - pn), m + pn, ((P ++ [UInt8.ofNat (224 + x0.toNat % 14)]) ++ (body.drop m).take (pn)), true) ⟨hH, (show (i + 1) ≤ pw.length from (by omega)), hO219, (by rw [hB]; simp), (show PInv (1 + tag.toNat % 20) body ((P ++ [UInt8.ofNat (224 + x0.toNat % 14)]) ++ (body.drop m).take (pn)) (i + 1) (m + pn) true from (PInv.good hpn hI hg202 (Nat.mod_lt _ (by decide)) hmay (by omega) (by omega) hbody)), hV2, (show (nr - pn) + (m + pn) = body.length from (by omega)), (show ((B ++ [(UInt8.ofNat (224 + x0.toNat % 14))]) ++ ((body.drop m).take pn)).length ≤ 1 + (i + 1) + (m + pn) from (by simp only [List.length_append, List.length_cons, List.length_nil, List.length_take, List.length_drop]; omega))⟩ (by omega) (slots_at [0, 4, 3, 1, 2, 5, 6, 7] rfl)
                · refine pxV (v := (.int .i64 (((pn) : Nat) : Int))) (fun _ _ hF => opMove rfl (hF.ev 2 rfl)) rfl (gOn 0 rfl rfl rfl (by decide)) (kA rfl) (by decide) ?_
                  refine pxV (v := (.bool true)) (fun _ _ hF => opGeq rfl (hF.ev 0 rfl) rfl (decide_eq_true (by omega))) rfl (gOn 1 rfl rfl rfl (by decide)) (kM [false, true, true, true, true, true, true, true, true, true, true, true] rfl rfl) (by decide) ?_
                  refine pxV (v := (.bool true)) (fun _ _ hF => opPickF rfl (hF.ev 1 rfl) (hF.ev 0 rfl)) rfl (gOn 2 rfl rfl rfl (by decide)) (kM [false, false, true, true, true, true, true, true, true, true, true, true] rfl rfl) (by decide) ?_
                  refine pxV (v := (.bool true)) (fun _ _ hF => opPickT rfl (hF.ev 1 rfl) (hF.ev 0 rfl)) rfl (fun _ _ => rfl) (kM [false, false, true, true, true, true, true, true, true, true, true] rfl rfl) (by decide) ?_
                  refine pxV (v := (.bool true)) (fun _ _ hF => opAssign rfl (hF.ev 0 rfl)) rfl (fun _ _ => rfl) (kM [false, true, true, true, true, true, true, true, true, true] rfl rfl) (by decide) ?_
                  refine pxEnd ?_
                  refine qxThen ?_
                  refine cxSeq ?_
                  refine cxRegX mixedOrders (by kernel_rfl) ?_
                  replace hH := hH.drew
                  refine rxV 0 rfl (by kernel_rfl) rfl (fun _ _ => rfl) (fun _ _ hF => opMove rfl (hF.ev 6 rfl)) (kA rfl) (by decide) (v := (.slice A1 B.length c1)) ?_
                  refine rxV 1 rfl (by kernel_rfl) rfl (fun _ _ => rfl) (fun _ _ hF => opMove rfl (hF.ev 9 rfl)) (kA rfl) (by decide) (v := (.slice (some ⟨b6, off7, none⟩) pw.length cp)) ?_
                  refine rxV 2 rfl (by kernel_rfl) rfl (fun _ _ => rfl) (fun _ _ hF => opMove rfl (hF.ev 4 rfl)) (kM [true, true, true, true, false, true, true, true, true, true, true, true] rfl rfl) (by decide) (v := (.int .i64 (((i) : Nat) : Int))) ?_
                  have hi220 : i < pw.length := by omega
                  have hj223 : i < pw.length := by first | exact hi220 | (simp only [List.length_drop, List.length_take]; omega) | omega
                  refine rxV 3 rfl (by kernel_rfl) rfl (fun _ _ => rfl) (fun _ _ hF => opIndex (i := i) (e := 5) (sz := 1) rfl (by kernel_rfl) (by kernel_rfl) (hF.ev 1 rfl) (hF.ev 0 rfl) rfl hi220) (kM [false, false, true, true, true, true, true, true, true, true, true, true] rfl rfl) (by decide) (v := (.pointer (some ⟨b6, off7 + i * 1, none⟩))) ?_
                  refine rxS (fun w => HoldsL cByte w b6 off7 pw) 4 rfl (by kernel_rfl) rfl (fun _ _ => rfl) (hH.holdsL hL8 hb9 hR10) (fun _ _ hF hS => opLoadT (C := cByte) (y := x0) rfl (hF.ev 0 rfl) (by kernel_rfl) (hS i _ hx0) rfl) (kM [false, true, true, true, true, true, true, true, true, true, true] rfl rfl) (by decide) (v := (.int .u8 (((x0.toNat) : Nat) : Int))) ?_
                  refine rxV 5 rfl (by kernel_rfl) rfl (fun _ _ => rfl) (fun _ _ hF => opRem (z := ((x0.toNat % 14 : Nat) : Int)) rfl (hF.ev 0 rfl) rfl (by omega) remN) (kM [false, true, true, true, true, true, true, true, true, true, true] rfl rfl) (by decide) (v := (.int .u8 (((x0.toNat % 14) : Nat) : Int))) ?_
                  refine rxV 6 rfl (by kernel_rfl) rfl (fun _ _ => rfl) (fun _ _ hF => opAddU (m := 224) (j := x0.toNat % 14) (z := ((UInt8.ofNat (224 + x0.toNat % 14)).toNat)) rfl rfl rfl (hF.ev 0 rfl) (by rw [ofNat_toNat (by omega)]; show (224 + x0.toNat % 14) % 256 = _; omega)) (kM [false, true, true, true, true, true, true, true, true, true, true] rfl rfl) (by decide) (v := (.int .u8 ((((UInt8.ofNat (224 + x0.toNat % 14)).toNat) : Nat) : Int))) ?_
                  refine rxV 9 rfl (by kernel_rfl) rfl (fun _ _ => rfl) (fun _ _ hF => opMove rfl (hF.ev 6 rfl)) (kA rfl) (by decide) (v := (.slice Ar nr cr)) ?_
                  refine rxV 10 rfl (by kernel_rfl) rfl (fun _ _ => rfl) (fun _ _ hF => opMove rfl (hF.ev 4 rfl)) (kA rfl) (by decide) (v := (.int .i64 (((pn) : Nat) : Int))) ?_
                  refine rxV 11 rfl (by kernel_rfl) rfl (fun _ _ => rfl) (fun _ _ hF => opCutH (h := pn) (e := 5) (sz := 1) rfl (by kernel_rfl) (by kernel_rfl) (hF.ev 1 rfl) (hF.ev 0 rfl) rfl (by omega)) (kM [false, false, true, true, true, true, true, true, true, true, true, true, true] rfl rfl) (by decide) (v := (.slice Ar pn cr)) ?_
                  refine rx1 7 (by kernel_rfl) ?_
                  refine moM rfl hH (fun _ hF => smLit1 (e := 5) (sz := 1) (z := (.int .u8 0)) (by_ := 1) (cs := cByte.enc (UInt8.ofNat (224 + x0.toNat % 14))) rfl (by kernel_rfl) (by kernel_rfl) (hF.ev 1 rfl) (cByte.len (UInt8.ofNat (224 + x0.toNat % 14))) (ltb rfl) (leb rfl) rfl) trivial rfl (fun _ _ => rfl) (kM [true, false, true, true, true, true, true, true, true, true, true, true] rfl rfl) (by decide) (PendOk.go [6, 5] (by kernel_rfl) (PendOk.nil _ [])) ?_
                  clear hH
                  rintro _ _ w ⟨g224, rfl, rfl⟩ hH
                  replace hH : HH w0 [] [E1, [bl g224 5 (cByte.enc (UInt8.ofNat (224 + x0.toNat % 14)))]] w := hH
                  refine ⟨(fun _ hs => by cases hs), ?_⟩
                  refine rx1 8 (by kernel_rfl) ?_
                  refine moE 0 rfl hH rfl (fun _ hF => smAppT (C := cByte) (l := B) (m := [(UInt8.ofNat (224 + x0.toNat % 14))]) (e := 5) (z := (.int .u8 0)) (by_ := 1) rfl (by kernel_rfl) (by kernel_rfl) rfl (ltb rfl) (hF.ev 2 rfl) hO (hF.ev 0 rfl) rfl (fun h => by cases h) (by unfold maxLen; omega) (by omega)) ((Bk.lit1 (C := cByte) (UInt8.ofNat (224 + x0.toNat % 14))).vu (hH.blk 1 rfl) rfl) rfl (fun _ _ => rfl) (kM [false, true, false, true, true, true, true, true, true, true, true, true] rfl rfl) (by decide) (PendOk.nil _ []) ?_
                  clear hH
                  rintro v227 E228 w ⟨hO229, _⟩ hH
                  replace hH : HH w0 [] [E228, [bl g224 5 (cByte.enc (UInt8.ofNat (224 + x0.toNat % 14)))]] w := hH
                  replace hO229 : OwnT cByte 5 v227 (B ++ [(UInt8.ofNat (224 + x0.toNat % 14))]) E228 := hO229
                  obtain ⟨A225, c226, rfl⟩ := hO229.slice
                  refine ⟨(fun _ hs => by cases hs), ?_⟩
                  refine rx1 12 (by kernel_rfl) ?_
                  refine moE 0 rfl hH rfl (fun _ hF => smAppT (C := cByte) (l := (B ++ [(UInt8.ofNat (224 + x0.toNat % 14))])) (m := ((body.drop m).take pn)) (e := 5) (z := (.int .u8 0)) (by_ := 1) rfl (by kernel_rfl) (by kernel_rfl) rfl (ltb rfl) (hF.ev 0 rfl) hO229 (hF.ev 1 rfl) (by rw [List.length_take, List.length_drop]; omega) (((hH.vu hVr (by decide) (Off.nil _ _)).head (m := pn) (by omega))).nilA (by simp only [List.length_append, List.length_cons, List.length_nil]; unfold maxLen; omega) (by simp only [List.length_append, List.length_cons, List.length_nil]; omega)) ((hH.vu hVr (by decide) (Off.nil _ _)).head (m := pn) (by omega)) rfl (fun _ _ => rfl) (kM [false, false, true, true, true, true, true, true, true, true, true] rfl rfl) (by decide) (PendOk.nil _ []) ?_
                  clear hH
                  rintro v232 E233 w ⟨hO234, _⟩ hH
                  replace hH : HH w0 [] [E233, [bl g224 5 (cByte.enc (UInt8.ofNat (224 + x0.toNat % 14)))]] w := hH
                  replace hO234 : OwnT cByte 5 v232 ((B ++ [(UInt8.ofNat (224 + x0.toNat % 14))]) ++ ((body.drop m).take pn)) E233 := hO234
                  obtain ⟨A230, c231, rfl⟩ := hO234.slice
                  refine ⟨(fun _ hs => by cases hs), ?_⟩
                  refine rxV 13 rfl (by kernel_rfl) rfl (fun _ _ => rfl) (fun _ _ hF => opAssign rfl (hF.ev 0 rfl)) (kM [false, true, true, true, true, true, false, true, true, true] rfl rfl) (by decide) (v := (.slice A230 (((B ++ [(UInt8.ofNat (224 + x0.toNat % 14))]) ++ ((body.drop m).take pn)).length) c231)) ?_
                  refine rxEnd (by kernel_rfl) ?_
                  refine qxThen ?_
                  refine cxReg ?_
                  refine pxV (v := (.slice Ar nr cr)) (fun _ _ hF => opMove rfl (hF.ev 5 rfl)) rfl (fun _ _ => rfl) (kM [true, true, true, true, true, false, true, true, true] rfl rfl) (by decide) ?_
                  refine pxV (v := (.int .i64 (((pn) : Nat) : Int))) (fun _ _ hF => opMove rfl (hF.ev 3 rfl)) rfl (fun _ _ => rfl) (kM [true, true, true, false, true, true, true, true, true] rfl rfl) (by decide) ?_
                  refine pxV (v := (.slice (cutA Ar cr pn 1) (nr - pn) (cr - pn))) (fun _ _ hF => opCutL (k := pn) (e := 5) (sz := 1) rfl (by kernel_rfl) (by kernel_rfl) (hF.ev 1 rfl) (hF.ev 0 rfl) rfl (by omega)) rfl (fun _ _ => rfl) (kM [false, false, true, true, true, true, true, true, true] rfl rfl) (by decide) ?_
                  refine pxV (v := (.slice (cutA Ar cr pn 1) (nr - pn) (cr - pn))) (fun _ _ hF => opAssign rfl (hF.ev 0 rfl)) rfl (fun _ _ => rfl) (kM [false, true, true, true, true, true, true, true] rfl rfl) (by decide) ?_
                  refine pxEnd ?_
                  refine qxInN ?_
                  refine qxThen ?_
                  refine cxReg ?_
                  refine pxV (v := (.int .i64 (((i + 1) : Nat) : Int))) (fun _ _ hF => opAdd rfl (hF.ev 3 rfl) rfl (wI (by omega) (by omega) (by omega))) rfl (fun _ _ => rfl) (kM [true, true, true, false, true, true, true, true] rfl rfl) (by decide) ?_
                  refine pxV (v := (.int .i64 (((i + 1) : Nat) : Int))) (fun _ _ hF => opMove rfl (hF.ev 0 rfl)) rfl (fun _ _ => rfl) (kM [false, true, true, true, true, true, true, true] rfl rfl) (by decide) ?_
                  refine pxEnd ?_
                  replace hH : HH w0 [] [E233] w := hH.only [true, false]
                  have hV2 := hVr.from (k := pn) (by omega)
                  rw [List.drop_drop] at hV2
                  exact qxRound (i + 1, A230, c231, ((B ++ [(UInt8.ofNat (224 + x0.toNat % 14))]) ++ ((body.drop m).take pn)), E233, (cutA Ar cr pn 1), (nr - pn), (cr - pn), m + pn, ((P ++ [UInt8.ofNat (224 + x0.toNat % 14)]) ++ (body.drop m).take (pn)), true) ⟨hH, (show (i + 1) ≤ pw.length from (by omega)), hO234, (by rw [hB]; simp), (show PInv (1 + tag.toNat % 20) body ((P ++ [UInt8.ofNat (224 + x0.toNat % 14)]) ++ (body.drop m).take (pn)) (i + 1) (m + pn) true from (PInv.good hpn hI hg202 (Nat.mod_lt _ (by decide)) hmay (by omega) (by omega) hbody)), hV2, (show (nr - pn) + (m + pn) = body.length from (by omega)), (show ((B ++ [(UInt8.ofNat (224 + x0.toNat % 14))]) ++ ((body.drop m).take pn)).length ≤ 1 + (i + 1) + (m + pn) from (by simp only [List.length_append, List.length_cons, List.length_nil, List.length_take, List.length_drop]; omega))⟩ (by omega) (slots_at [0, 4, 3, 1, 2, 5, 6, 7] rfl)
              · refine pxV (v := (.int .i64 (((1 + tag.toNat % 20) : Nat) : Int))) (fun _ _ hF => opMove rfl (hF.ev 8 rfl)) rfl (gOn 0 rfl rfl rfl (by decide)) (kA rfl) (by decide) ?_
                refine pxV (v := (.bool (decide (1 + tag.toNat % 20 = 9)))) (fun _ _ hF => opEqI rfl (hF.ev 0 rfl) rfl (dc (by omega))) rfl (gOn 1 rfl rfl rfl (by decide)) (kM [false, true, true, true, true, true, true, true, true, true, true, true] rfl rfl) (by decide) ?_
                refine pxV (v := (.bool (decide (1 + tag.toNat % 20 = 9)))) (fun _ _ hF => opPickF rfl (hF.ev 1 rfl) (hF.ev 0 rfl)) rfl (gOn 2 rfl rfl rfl (by decide)) (kM [false, false, true, true, true, true, true, true, true, true, true, true] rfl rfl) (by decide) ?_
                refine pxV (v := (.bool (decide (1 + tag.toNat % 20 = 9)))) (fun _ _ hF => opMove rfl (hF.ev 0 rfl)) rfl (gOn 1 rfl rfl rfl (by decide)) (kM [false, true, true, true, true, true, true, true, true, true, true] rfl rfl) (by decide) ?_
                refine pxSplitP 0 rfl (l1 := [(60, (.bool true)), (53, (.bool true)), (12, (.int .i64 (((pn) : Nat) : Int))), (11, (.int .i64 (((i) : Nat) : Int))), (39, (.int .i64 (((i) : Nat) : Int))), (38, (.int .i64 (((pw.length) : Nat) : Int))), (9, (.slice Ar nr cr)), (8, (.slice A1 B.length c1)), (7, (.int .i64 (((1 + tag.toNat % 20) : Nat) : Int))), (2, (.slice (some ⟨b6, off7, none⟩) pw.length cp)), (1, (.slice Ab body.length cb))]) (l2 := [(60, (.bool false)), (53, (.bool true)), (12, (.int .i64 (((pn) : Nat) : Int))), (11, (.int .i64 (((i) : Nat) : Int))), (39, (.int .i64 (((i) : Nat) : Int))), (38, (.int .i64 (((pw.length) : Nat) : Int))), (9, (.slice Ar nr cr)), (8, (.slice A1 B.length c1)), (7, (.int .i64 (((1 + tag.toNat % 20) : Nat) : Int))), (2, (.slice (some ⟨b6, off7, none⟩) pw.length cp)), (1, (.slice Ab body.length cb))]) rfl rfl (fun hg235 => ?_) (fun hg235 => ?_)
                · have hmay : mayT (1 + tag.toNat % 20) = true := mayT_yes (by omega)
                  refine pxU rfl (gOff 0 rfl rfl rfl (by decide)) (kA rfl) (by decide) ?_
                  refine pxU rfl (gOff 0 rfl rfl rfl (by decide)) (kA rfl) (by decide) ?_
                  refine pxV (v := (.bool true)) (fun _ _ hF => opPickT rfl (hF.ev 0 rfl) rfl) rfl (gOn 1 rfl rfl rfl (by decide)) (kM [false, true, true, true, true, true, true, true, true, true, true] rfl rfl) (by decide) ?_
                  refine pxV (v := (.bool true)) (fun _ _ hF => opMove rfl (hF.ev 0 rfl)) rfl (gOn 1 rfl rfl rfl (by decide)) (kM [false, true, true, true, true, true, true, true, true, true, true] rfl rfl) (by decide) ?_
                  refine pxU rfl (gOff 0 rfl rfl rfl (by decide)) (kA rfl) (by decide) ?_
                  refine pxU rfl (gOff 0 rfl rfl rfl (by decide)) (kA rfl) (by decide) ?_
                  refine pxV (v := (.bool true)) (fun _ _ hF => opPickT rfl (hF.ev 0 rfl) rfl) rfl (gOn 1 rfl rfl rfl (by decide)) (kM [false, true, true, true, true, true, true, true, true, true, true] rfl rfl) (by decide) ?_
                  refine pxV (v := (.bool true)) (fun _ _ hF => opPickT rfl (hF.ev 1 rfl) (hF.ev 0 rfl)) rfl (fun _ _ => rfl) (kM [false, false, true, true, true, true, true, true, true, true, true] rfl rfl) (by decide) ?_
                  refine pxV (v := (.bool true)) (fun _ _ hF => opMove rfl (hF.ev 0 rfl)) rfl (fun _ _ => rfl) (kM [false, true, true, true, true, true, true, true, true, true] rfl rfl) (by decide) ?_
                  refine pxV (v := (.int .i64 (((i) : Nat) : Int))) (fun _ _ hF => opMove rfl (hF.ev 2 rfl)) rfl (gOn 0 rfl rfl rfl (by decide)) (kA rfl) (by decide) ?_
                  refine pxV (v := (.bool (decide (i > 0)))) (fun _ _ hF => opGtr rfl (hF.ev 0 rfl) rfl (dc (by omega))) rfl (gOn 1 rfl rfl rfl (by decide)) (kM [false, true, true, true, true, true, true, true, true, true, true] rfl rfl) (by decide) ?_
                  refine pxV (v := (.bool (decide (i > 0)))) (fun _ _ hF => opMove rfl (hF.ev 0 rfl)) rfl (gOn 1 rfl rfl rfl (by decide)) (kM [false, true, true, true, true, true, true, true, true, true, true] rfl rfl) (by decide) ?_
                  refine pxSplitP 0 rfl (l1 := [(72, (.bool true)), (69, (.bool true)), (12, (.int .i64 (((pn) : Nat) : Int))), (11, (.int .i64 (((i) : Nat) : Int))), (39, (.int .i64 (((i) : Nat) : Int))), (38, (.int .i64 (((pw.length) : Nat) : Int))), (9, (.slice Ar nr cr)), (8, (.slice A1 B.length c1)), (7, (.int .i64 (((1 + tag.toNat % 20) : Nat) : Int))), (2, (.slice (some ⟨b6, off7, none⟩) pw.length cp)), (1, (.slice Ab body.length cb))]) (l2 := [(72, (.bool false)), (69, (.bool true)), (12, (.int .i64 (((pn) : Nat) : Int))), (11, (.int .i64 (((i) : Nat) : Int))), (39, (.int .i64 (((i) : Nat) : Int))), (38, (.int .i64 (((pw.length) : Nat) : Int))), (9, (.slice Ar nr cr)), (8, (.slice A1 B.length c1)), (7, (.int .i64 (((1 + tag.toNat % 20) : Nat) : Int))), (2, (.slice (some ⟨b6, off7, none⟩) pw.length cp)), (1, (.slice Ab body.length cb))]) rfl rfl (fun hg236 => ?_) (fun hg236 => ?_)
                  · refine pxU rfl (gOff 0 rfl rfl rfl (by decide)) (kA rfl) (by decide) ?_
                    refine pxU rfl (gOff 0 rfl rfl rfl (by decide)) (kA rfl) (by decide) ?_
                    refine pxV (v := (.bool true)) (fun _ _ hF => opPickT rfl (hF.ev 0 rfl) rfl) rfl (gOn 1 rfl rfl rfl (by decide)) (kM [false, true, true, true, true, true, true, true, true, true, true] rfl rfl) (by decide) ?_
                    refine pxV (v := (.bool true)) (fun _ _ hF => opPickT rfl (hF.ev 1 rfl) (hF.ev 0 rfl)) rfl (fun _ _ => rfl) (kM [false, false, true, true, true, true, true, true, true, true, true] rfl rfl) (by decide) ?_
                    refine pxV (v := (.bool true)) (fun _ _ hF => opAssign rfl (hF.ev 0 rfl)) rfl (fun _ _ => rfl) (kM [false, true, true, true, true, true, true, true, true, true] rfl rfl) (by decide) ?_
                    refine pxEnd ?_
                    refine qxThen ?_
                    refine cxSeq ?_
                    refine cxRegX mixedOrders (by kernel_rfl) ?_
                    replace hH := hH.drew
                    refine rxV 0 rfl (by kernel_rfl) rfl (fun _ _ => rfl) (fun _ _ hF => opMove rfl (hF.ev 6 rfl)) (kA rfl) (by decide) (v := (.slice A1 B.length c1)) ?_
                    refine rxV 1 rfl (by kernel_rfl) rfl (fun _ _ => rfl) (fun _ _ hF => opMove rfl (hF.ev 9 rfl)) (kA rfl) (by decide) (v := (.slice (some ⟨b6, off7, none⟩) pw.length cp)) ?_
                    refine rxV 2 rfl (by kernel_rfl) rfl (fun _ _ => rfl) (fun _ _ hF => opMove rfl (hF.ev 4 rfl)) (kM [true, true, true, true, false, true, true, true, true, true, true, true] rfl rfl) (by decide) (v := (.int .i64 (((i) : Nat) : Int))) ?_
                    have hi237 : i < pw.length := by omega
                    have hj240 : i < pw.length := by first | exact hi237 | (simp only [List.length_drop, List.length_take]; omega) | omega
                    refine rxV 3 rfl (by kernel_rfl) rfl (fun _ _ => rfl) (fun _ _ hF => opIndex (i := i) (e := 5) (sz := 1) rfl (by kernel_rfl) (by kernel_rfl) (hF.ev 1 rfl) (hF.ev 0 rfl) rfl hi237) (kM [false, false, true, true, true, true, true, true, true, true, true, true] rfl rfl) (by decide) (v := (.pointer (some ⟨b6, off7 + i * 1, none⟩))) ?_
                    refine rxS (fun w => HoldsL cByte w b6 off7 pw) 4 rfl (by kernel_rfl) rfl (fun _ _ => rfl) (hH.holdsL hL8 hb9 hR10) (fun _ _ hF hS => opLoadT (C := cByte) (y := x0) rfl (hF.ev 0 rfl) (by kernel_rfl) (hS i _ hx0) rfl) (kM [false, true, true, true, true, true, true, true, true, true, true] rfl rfl) (by decide) (v := (.int .u8 (((x0.toNat) : Nat) : Int))) ?_
                    refine rxV 5 rfl (by kernel_rfl) rfl (fun _ _ => rfl) (fun _ _ hF => opRem (z := ((x0.toNat % 14 : Nat) : Int)) rfl (hF.ev 0 rfl) rfl (by omega) remN) (kM [false, true, true, true, true, true, true, true, true, true, true] rfl rfl) (by decide) (v := (.int .u8 (((x0.toNat % 14) : Nat) : Int))) ?_
                    refine rxV 6 rfl (by kernel_rfl) rfl (fun _ _ => rfl) (fun _ _ hF => opAddU (m := 224) (j := x0.toNat % 14) (z := ((UInt8.ofNat (224 + x0.toNat % 14)).toNat)) rfl rfl rfl (hF.ev 0 rfl) (by rw [ofNat_toNat (by omega)]; show (224 + x0.toNat % 14) % 256 = _; omega)) (kM [false, true, true, true, true, true, true, true, true, true, true] rfl rfl) (by decide) (v := (.int .u8 ((((UInt8.ofNat (224 + x0.toNat % 14)).toNat) : Nat) : Int))) ?_
                    refine rxV 9 rfl (by kernel_rfl) rfl (fun _ _ => rfl) (fun _ _ hF => opMove rfl (hF.ev 6 rfl)) (kA rfl) (by decide) (v := (.slice Ar nr cr)) ?_
                    refine rxV 10 rfl (by kernel_rfl) rfl (fun _ _ => rfl) (fun _ _ hF => opMove rfl (hF.ev 4 rfl)) (kA rfl) (by decide) (v := (.int .i64 (((pn) : Nat) : Int))) ?_
                    refine rxV 11 rfl (by kernel_rfl) rfl (fun _ _ => rfl) (fun _ _ hF => opCutH (h := pn) (e := 5) (sz := 1) rfl (by kernel_rfl) (by kernel_rfl) (hF.ev 1 rfl) (hF.ev 0 rfl) rfl (by omega)) (kM [false, false, true, true, true, true, true, true, true, true, true, true, true] rfl rfl) (by decide) (v := (.slice Ar pn cr)) ?_
                    refine rx1 7 (by kernel_rfl) ?_
                    refine moM rfl hH (fun _ hF => smLit1 (e := 5) (sz := 1) (z := (.int .u8 0)) (by_ := 1) (cs := cByte.enc (UInt8.ofNat (224 + x0.toNat % 14))) rfl (by kernel_rfl) (by kernel_rfl) (hF.ev 1 rfl) (cByte.len (UInt8.ofNat (224 + x0.toNat % 14))) (ltb rfl) (leb rfl) rfl) trivial rfl (fun _ _ => rfl) (kM [true, false, true, true, true, true, true, true, true, true, true, true] rfl rfl) (by decide) (PendOk.go [6, 5] (by kernel_rfl) (PendOk.nil _ [])) ?_
                    clear hH
                    rintro _ _ w ⟨g241, rfl, rfl⟩ hH
                    replace hH : HH w0 [] [E1, [bl g241 5 (cByte.enc (UInt8.ofNat (224 + x0.toNat % 14)))]] w := hH
                    refine ⟨(fun _ hs => by cases hs), ?_⟩
                    refine rx1 8 (by kernel_rfl) ?_
                    refine moE 0 rfl hH rfl (fun _ hF => smAppT (C := cByte) (l := B) (m := [(UInt8.ofNat (224 + x0.toNat % 14))]) (e := 5) (z := (.int .u8 0)) (by_ := 1) rfl (by kernel_rfl) (by kernel_rfl) rfl (ltb rfl) (hF.ev 2 rfl) hO (hF.ev 0 rfl) rfl (fun h => by cases h) (by unfold maxLen; omega) (by omega)) ((Bk.lit1 (C := cByte) (UInt8.ofNat (224 + x0.toNat % 14))).vu (hH.blk 1 rfl) rfl) rfl (fun _ _ => rfl) (kM [false, true, false, true, true, true, true, true, true, true, true, true] rfl rfl) (by decide) (PendOk.nil _ []) ?_
                    clear hH
                    rintro v244 E245 w ⟨hO246, _⟩ hH
                    replace hH : HH w0 [] [E245, [bl g241 5 (cByte.enc (UInt8.ofNat (224 + x0.toNat % 14)))]] w := hH
                    replace hO246 : OwnT cByte 5 v244 (B ++ [(UInt8.ofNat (224 + x0.toNat % 14))]) E245 := hO246
                    obtain ⟨A242, c243, rfl⟩ := hO246.slice
                    refine ⟨(fun _ hs => by cases hs), ?_⟩
                    refine rx1 12 (by kernel_rfl) ?_
                    refine moE 0 rfl hH rfl (fun _ hF => smAppT (C := cByte) (l := (B ++ [(UInt8.ofNat (224 + x0.toNat % 14))])) (m := ((body.drop m).take pn)) (e := 5) (z := (.int .u8 0)) (by_ := 1) rfl (by kernel_rfl) (by kernel_rfl) rfl (ltb rfl) (hF.ev 0 rfl) hO246 (hF.ev 1 rfl) (by rw [List.length_take, List.length_drop]; omega) (((hH.vu hVr (by decide) (Off.nil _ _)).head (m := pn) (by omega))).nilA (by simp only [List.length_append, List.length_cons, List.length_nil]; unfold maxLen; omega) (by simp only [List.length_append, List.length_cons, List.length_nil]; omega)) ((hH.vu hVr (by decide) (Off.nil _ _)).head (m := pn) (by omega)) rfl (fun _ _ => rfl) (kM [false, false, true, true, true, true, true, true, true, true, true] rfl rfl) (by decide) (PendOk.nil _ []) ?_
                    clear hH
                    rintro v249 E250 w ⟨hO251, _⟩ hH
                    replace hH : HH w0 [] [E250, [bl g241 5 (cByte.enc (UInt8.ofNat (224 + x0.toNat % 14)))]] w := hH
                    replace hO251 : OwnT cByte 5 v249 ((B ++ [(UInt8.ofNat (224 + x0.toNat % 14))]) ++ ((body.drop m).take pn)) E250 := hO251
                    obtain ⟨A247, c248, rfl⟩ := hO251.slice
                    refine ⟨(fun _ hs => by cases hs), ?_⟩
                    refine rxV 13 rfl (by kernel_rfl) rfl (fun _ _ => rfl) (fun _ _ hF => opAssign rfl (hF.ev 0 rfl)) (kM [false, true, true, true, true, true, false, true, true, true] rfl rfl) (by decide) (v := (.slice A247 (((B ++ [(UInt8.ofNat (224 + x0.toNat % 14))]) ++ ((body.drop m).take pn)).length) c248)) ?_
                    refine rxEnd (by kernel_rfl) ?_
                    refine qxThen ?_
                    refine cxReg ?_
                    refine pxV (v := (.slice Ar nr cr)) (fun _ _ hF => opMove rfl (hF.ev 5 rfl)) rfl (fun _ _ => rfl) (kM [true, true, true, true, true, false, true, true, true] rfl rfl) (by decide) ?_
                    refine pxV (v := (.int .i64 (((pn) : Nat) : Int))) (fun _ _ hF => opMove rfl (hF.ev 3 rfl)) rfl (fun _ _ => rfl) (kM [true, true, true, false, true, true, true, true, true] rfl rfl) (by decide) ?_
                    refine pxV (v := (.slice (cutA Ar cr pn 1) (nr - pn) (cr - pn))) (fun _ _ hF => opCutL (k := pn) (e := 5) (sz := 1) rfl (by kernel_rfl) (by kernel_rfl) (hF.ev 1 rfl) (hF.ev 0 rfl) rfl (by omega)) rfl (fun _ _ => rfl) (kM [false, false, true, true, true, true, true, true, true] rfl rfl) (by decide) ?_
                    refine pxV (v := (.slice (cutA Ar cr pn 1) (nr - pn) (cr - pn))) (fun _ _ hF => opAssign rfl (hF.ev 0 rfl)) rfl (fun _ _ => rfl) (kM [false, true, true, true, true, true, true, true] rfl rfl) (by decide) ?_
                    refine pxEnd ?_
                    refine qxInN ?_
                    refine qxThen ?_
                    refine cxReg ?_
                    refine pxV (v := (.int .i64 (((i + 1) : Nat) : Int))) (fun _ _ hF => opAdd rfl (hF.ev 3 rfl) rfl (wI (by omega) (by omega) (by omega))) rfl (fun _ _ => rfl) (kM [true, true, true, false, true, true, true, true] rfl rfl) (by decide) ?_
                    refine pxV (v := (.int .i64 (((i + 1) : Nat) : Int))) (fun _ _ hF => opMove rfl (hF.ev 0 rfl)) rfl (fun _ _ => rfl) (kM [false, true, true, true, true, true, true, true] rfl rfl) (by decide) ?_
                    refine pxEnd ?_
                    replace hH : HH w0 [] [E250] w := hH.only [true, false]
                    have hV2 := hVr.from (k := pn) (by omega)
                    rw [List.drop_drop] at hV2
                    exact qxRound (i + 1, A247, c248, ((B ++ [(UInt8.ofNat (224 + x0.toNat % 14))]) ++ ((body.drop m).take pn)), E250, (cutA Ar cr pn 1), (nr - pn), (cr - pn), m + pn, ((P ++ [UInt8.ofNat (224 + x0.toNat % 14)]) ++ (body.drop m).take (pn)), true) ⟨hH, (show (i + 1) ≤ pw.length from (by omega)), hO251, (by rw [hB]; simp), (show PInv (1 + tag.toNat % 20) body ((P ++ [UInt8.ofNat (224 + x0.toNat % 14)]) ++ (body.drop m).take (pn)) (i + 1) (m + pn) true from (PInv.good hpn hI hg202 (Nat.mod_lt _ (by decide)) hmay (by omega) (by omega) hbody)), hV2, (show (nr - pn) + (m + pn) = body.length from (by omega)), (show ((B ++ [(UInt8.ofNat (224 + x0.toNat % 14))]) ++ ((body.drop m).take pn)).length ≤ 1 + (i + 1) + (m + pn) from (by simp only [List.length_append, List.length_cons, List.length_nil, List.length_take, List.length_drop]; omega))⟩ (by omega) (slots_at [0, 4, 3, 1, 2, 5, 6, 7] rfl)
                  · refine pxV (v := (.int .i64 (((pn) : Nat) : Int))) (fun _ _ hF => opMove rfl (hF.ev 2 rfl)) rfl (gOn 0 rfl rfl rfl (by decide)) (kA rfl) (by decide) ?_
                    refine pxV (v := (.bool true)) (fun _ _ hF => opGeq rfl (hF.ev 0 rfl) rfl (decide_eq_true (by omega))) rfl (gOn 1 rfl rfl rfl (by decide)) (kM [false, true, true, true, true, true, true, true, true, true, true, true] rfl rfl) (by decide) ?_
                    refine pxV (v := (.bool true)) (fun _ _ hF => opPickF rfl (hF.ev 1 rfl) (hF.ev 0 rfl)) rfl (gOn 2 rfl rfl rfl (by decide)) (kM [false, false, true, true, true, true, true, true, true, true, true, true] rfl rfl) (by decide) ?_
                    refine pxV (v := (.bool true)) (fun _ _ hF => opPickT rfl (hF.ev 1 rfl) (hF.ev 0 rfl)) rfl (fun _ _ => rfl) (kM [false, false, true, true, true, true, true, true, true, true, true] rfl rfl) (by decide) ?_
                    refine pxV (v := (.bool true)) (fun _ _ hF => opAssign rfl (hF.ev 0 rfl)) rfl (fun _ _ => rfl) (kM [false, true, true, true, true, true, true, true, true, true] rfl rfl) (by decide) ?_
                    refine pxEnd ?_
                    refine qxThen ?_
                    refine cxSeq ?_
                    refine cxRegX mixedOrders (by kernel_rfl) ?_
                    replace hH := hH.drew
                    refine rxV 0 rfl (by kernel_rfl) rfl (fun _ _ => rfl) (fun _ _ hF => opMove rfl (hF.ev 6 rfl)) (kA rfl) (by decide) (v := (.slice A1 B.length c1)) ?_
                    refine rxV 1 rfl (by kernel_rfl) rfl (fun _ _ => rfl) (fun _ _ hF => opMove rfl (hF.ev 9 rfl)) (kA rfl) (by decide) (v := (.slice (some ⟨b6, off7, none⟩) pw.length cp)) ?_
                    refine rxV 2 rfl (by kernel_rfl) rfl (fun _ _ => rfl) (fun _ _ hF => opMove rfl (hF.ev 4 rfl)) (kM [true, true, true, true, false, true, true, true, true, true, true, true] rfl rfl) (by decide) (v := (.int .i64 (((i) : Nat) : Int))) ?_
                    have hi252 : i < pw.length := by omega
                    have hj255 : i < pw.length := by first | exact hi252 | (simp only [List.length_drop, List.length_take]; omega) | omega
                    refine rxV 3 rfl (by kernel_rfl) rfl (fun _ _ => rfl) (fun _ _ hF => opIndex (i := i) (e := 5) (sz := 1) rfl (by kernel_rfl) (by kernel_rfl) (hF.ev 1 rfl) (hF.ev 0 rfl) rfl hi252) (kM [false, false, true, true, true, true, true, true, true, true, true, true] rfl rfl) (by decide) (v := (.pointer (some ⟨b6, off7 + i * 1, none⟩))) ?_
                    refine rxS (fun w => HoldsL cByte w b6 off7 pw) 4 rfl (by kernel_rfl) rfl (fun _ _ => rfl) (hH.holdsL hL8 hb9 hR10) (fun _ _ hF hS => opLoadT (C := cByte) (y := x0) rfl (hF.ev 0 rfl) (by kernel_rfl) (hS i _ hx0) rfl) (kM [false, true, true, true, true, true, true, true, true, true, true] rfl rfl) (by decide) (v := (.int .u8 (((x0.toNat) : Nat) : Int))) ?_
                    refine rxV 5 rfl (by kernel_rfl) rfl (fun _ _ => rfl) (fun _ _ hF => opRem (z := ((x0.toNat % 14 : Nat) : Int)) rfl (hF.ev 0 rfl) rfl (by omega) remN) (kM [false, true, true, true, true, true, true, true, true, true, true] rfl rfl) (by decide) (v := (.int .u8 (((x0.toNat % 14) : Nat) : Int))) ?_
                    refine rxV 6 rfl (by kernel_rfl) rfl (fun _ _ => rfl) (fun _ _ hF => opAddU (m := 224) (j := x0.toNat % 14) (z := ((UInt8.ofNat (224 + x0.toNat % 14)).toNat)) rfl rfl rfl (hF.ev 0 rfl) (by rw [ofNat_toNat (by omega)]; show (224 + x0.toNat % 14) % 256 = _; omega)) (kM [false, true, true, true, true, true, true, true, true, true, true] rfl rfl) (by decide) (v := (.int .u8 ((((UInt8.ofNat (224 + x0.toNat % 14)).toNat) : Nat) : Int))) ?_
                    refine rxV 9 rfl (by kernel_rfl) rfl (fun _ _ => rfl) (fun _ _ hF => opMove rfl (hF.ev 6 rfl)) (kA rfl) (by decide) (v := (.slice Ar nr cr)) ?_
                    refine rxV 10 rfl (by kernel_rfl) rfl (fun _ _ => rfl) (fun _ _ hF => opMove rfl (hF.ev 4 rfl)) (kA rfl) (by decide) (v := (.int .i64 (((pn) : Nat) : Int))) ?_
                    refine rxV 11 rfl (by kernel_rfl) rfl (fun _ _ => rfl) (fun _ _ hF => opCutH (h := pn) (e := 5) (sz := 1) rfl (by kernel_rfl) (by kernel_rfl) (hF.ev 1 rfl) (hF.ev 0 rfl) rfl (by omega)) (kM [false, false, true, true, true, true, true, true, true, true, true, true, true] rfl rfl) (by decide) (v := (.slice Ar pn cr)) ?_
                    refine rx1 7 (by kernel_rfl) ?_
                    refine moM rfl hH (fun _ hF => smLit1 (e := 5) (sz := 1) (z := (.int .u8 0)) (by_ := 1) (cs := cByte.enc (UInt8.ofNat (224 + x0.toNat % 14))) rfl (by kernel_rfl) (by kernel_rfl) (hF.ev 1 rfl) (cByte.len (UInt8.ofNat (224 + x0.toNat % 14))) (ltb rfl) (leb rfl) rfl) trivial rfl (fun _ _ => rfl) (kM [true, false, true, true, true, true, true, true, true, true, true, true] rfl rfl) (by decide) (PendOk.go [6, 5] (by kernel_rfl) (PendOk.nil _ [])) ?_
                    clear hH
                    rintro _ _ w ⟨g256, rfl, rfl⟩ hH
                    replace hH : HH w0 [] [E1, [bl g256 5 (cByte.enc (UInt8.ofNat (224 + x0.toNat % 14)))]] w := hH
                    refine ⟨(fun _ hs => by cases hs), ?_⟩
                    refine rx1 8 (by kernel_rfl) ?_
                    refine moE 0 rfl hH rfl (fun _ hF => smAppT (C := cByte) (l := B) (m := [(UInt8.ofNat (224 + x0.toNat % 14))]) (e := 5) (z := (.int .u8 0)) (by_ := 1) rfl (by kernel_rfl) (by kernel_rfl) rfl (ltb rfl) (hF.ev 2 rfl) hO (hF.ev 0 rfl) rfl (fun h => by cases h) (by unfold maxLen; omega) (by omega)) ((Bk.lit1 (C := cByte) (UInt8.ofNat (224 + x0.toNat % 14))).vu (hH.blk 1 rfl) rfl) rfl (fun _ _ => rfl) (kM [false, true, false, true, true, true, true, true, true, true, true, true] rfl rfl) (by decide) (PendOk.nil _ []) ?_
                    clear hH
                    rintro v259 E260 w ⟨hO261, _⟩ hH
                    replace hH : HH w0 [] [E260, [bl g256 5 (cByte.enc (UInt8.ofNat (224 + x0.toNat % 14)))]] w := hH
                    replace hO261 : OwnT cByte 5 v259 (B ++ [(UInt8.ofNat (224 + x0.toNat % 14))]) E260 := hO261
                    obtain ⟨A257, c258, rfl⟩ := hO261.slice
                    refine ⟨(fun _ hs => by cases hs), ?_⟩
                    refine rx1 12 (by kernel_rfl) ?_
                    refine moE 0 rfl hH rfl (fun _ hF => smAppT (C := cByte) (l := (B ++ [(UInt8.ofNat (224 + x0.toNat % 14))])) (m := ((body.drop m).take pn)) (e := 5) (z := (.int .u8 0)) (by_ := 1) rfl (by kernel_rfl) (by kernel_rfl) rfl (ltb rfl) (hF.ev 0 rfl) hO261 (hF.ev 1 rfl) (by rw [List.length_take, List.length_drop]; omega) (((hH.vu hVr (by decide) (Off.nil _ _)).head (m := pn) (by omega))).nilA (by simp only [List.length_append, List.length_cons, List.length_nil]; unfold maxLen; omega) (by simp only [List.length_append, List.length_cons, List.length_nil]; omega)) ((hH.vu hVr (by decide) (Off.nil _ _)).head (m := pn) (by omega)) rfl (fun _ _ => rfl) (kM [false, false, true, true, true, true, true, true, true, true, true] rfl rfl) (by decide) (PendOk.nil _ []) ?_
                    clear hH
                    rintro v264 E265 w ⟨hO266, _⟩ hH
                    replace hH : HH w0 [] [E265, [bl g256 5 (cByte.enc (UInt8.ofNat (224 + x0.toNat % 14)))]] w := hH
                    replace hO266 : OwnT cByte 5 v264 ((B ++ [(UInt8.ofNat (224 + x0.toNat % 14))]) ++ ((body.drop m).take pn)) E265 := hO266
                    obtain ⟨A262, c263, rfl⟩ := hO266.slice
                    refine ⟨(fun _ hs => by cases hs), ?_⟩
                    refine rxV 13 rfl (by kernel_rfl) rfl (fun _ _ => rfl) (fun _ _ hF => opAssign rfl (hF.ev 0 rfl)) (kM [false, true, true, true, true, true, false, true, true, true] rfl rfl) (by decide) (v := (.slice A262 (((B ++ [(UInt8.ofNat (224 + x0.toNat % 14))]) ++ ((body.drop m).take pn)).length) c263)) ?_
                    refine rxEnd (by kernel_rfl) ?_
                    refine qxThen ?_
                    refine cxReg ?_
                    refine pxV (v := (.slice Ar nr cr)) (fun _ _ hF => opMove rfl (hF.ev 5 rfl)) rfl (fun _ _ => rfl) (kM [true, true, true, true, true, false, true, true, true] rfl rfl) (by decide) ?_
                    refine pxV (v := (.int .i64 (((pn) : Nat) : Int))) (fun _ _ hF => opMove rfl (hF.ev 3 rfl)) rfl (fun _ _ => rfl) (kM [true, true, true, false, true, true, true, true, true] rfl rfl) (by decide) ?_
                    refine pxV (v := (.slice (cutA Ar cr pn 1) (nr - pn) (cr - pn))) (fun _ _ hF => opCutL (k := pn) (e := 5) (sz := 1) rfl (by kernel_rfl) (by kernel_rfl) (hF.ev 1 rfl) (hF.ev 0 rfl) rfl (by omega)) rfl (fun _ _ => rfl) (kM [false, false, true, true, true, true, true, true, true] rfl rfl) (by decide) ?_
                    refine pxV (v := (.slice (cutA Ar cr pn 1) (nr - pn) (cr - pn))) (fun _ _ hF => opAssign rfl (hF.ev 0 rfl)) rfl (fun _ _ => rfl) (kM [false, true, true, true, true, true, true, true] rfl rfl) (by decide) ?_
                    refine pxEnd ?_
                    refine qxInN ?_
                    refine qxThen ?_
                    refine cxReg ?_
                    refine pxV (v := (.int .i64 (((i + 1) : Nat) : Int))) (fun _ _ hF => opAdd rfl (hF.ev 3 rfl) rfl (wI (by omega) (by omega) (by omega))) rfl (fun _ _ => rfl) (kM [true, true, true, false, true, true, true, true] rfl rfl) (by decide) ?_
                    refine pxV (v := (.int .i64 (((i + 1) : Nat) : Int))) (fun _ _ hF => opMove rfl (hF.ev 0 rfl)) rfl (fun _ _ => rfl) (kM [false, true, true, true, true, true, true, true] rfl rfl) (by decide) ?_
                    refine pxEnd ?_
                    replace hH : HH w0 [] [E265] w := hH.only [true, false]
                    have hV2 := hVr.from (k := pn) (by omega)
                    rw [List.drop_drop] at hV2
                    exact qxRound (i + 1, A262, c263, ((B ++ [(UInt8.ofNat (224 + x0.toNat % 14))]) ++ ((body.drop m).take pn)), E265, (cutA Ar cr pn 1), (nr - pn), (cr - pn), m + pn, ((P ++ [UInt8.ofNat (224 + x0.toNat % 14)]) ++ (body.drop m).take (pn)), true) ⟨hH, (show (i + 1) ≤ pw.length from (by omega)), hO266, (by rw [hB]; simp), (show PInv (1 + tag.toNat % 20) body ((P ++ [UInt8.ofNat (224 + x0.toNat % 14)]) ++ (body.drop m).take (pn)) (i + 1) (m + pn) true from (PInv.good hpn hI hg202 (Nat.mod_lt _ (by decide)) hmay (by omega) (by omega) hbody)), hV2, (show (nr - pn) + (m + pn) = body.length from (by omega)), (show ((B ++ [(UInt8.ofNat (224 + x0.toNat % 14))]) ++ ((body.drop m).take pn)).length ≤ 1 + (i + 1) + (m + pn) from (by simp only [List.length_append, List.length_cons, List.length_nil, List.length_take, List.length_drop]; omega))⟩ (by omega) (slots_at [0, 4, 3, 1, 2, 5, 6, 7] rfl)
                · refine pxV (v := (.int .i64 (((1 + tag.toNat % 20) : Nat) : Int))) (fun _ _ hF => opMove rfl (hF.ev 8 rfl)) rfl (gOn 0 rfl rfl rfl (by decide)) (kA rfl) (by decide) ?_
                  refine pxV (v := (.bool (decide (1 + tag.toNat % 20 = 11)))) (fun _ _ hF => opEqI rfl (hF.ev 0 rfl) rfl (dc (by omega))) rfl (gOn 1 rfl rfl rfl (by decide)) (kM [false, true, true, true, true, true, true, true, true, true, true, true] rfl rfl) (by decide) ?_
                  refine pxV (v := (.bool (decide (1 + tag.toNat % 20 = 11)))) (fun _ _ hF => opPickF rfl (hF.ev 1 rfl) (hF.ev 0 rfl)) rfl (gOn 2 rfl rfl rfl (by decide)) (kM [false, false, true, true, true, true, true, true, true, true, true, true] rfl rfl) (by decide) ?_
                  refine pxV (v := (.bool (decide (1 + tag.toNat % 20 = 11)))) (fun _ _ hF => opMove rfl (hF.ev 0 rfl)) rfl (gOn 1 rfl rfl rfl (by decide)) (kM [false, true, true, true, true, true, true, true, true, true, true] rfl rfl) (by decide) ?_
                  refine pxSplitP 0 rfl (l1 := [(64, (.bool true)), (53, (.bool true)), (12, (.int .i64 (((pn) : Nat) : Int))), (11, (.int .i64 (((i) : Nat) : Int))), (39, (.int .i64 (((i) : Nat) : Int))), (38, (.int .i64 (((pw.length) : Nat) : Int))), (9, (.slice Ar nr cr)), (8, (.slice A1 B.length c1)), (7, (.int .i64 (((1 + tag.toNat % 20) : Nat) : Int))), (2, (.slice (some ⟨b6, off7, none⟩) pw.length cp)), (1, (.slice Ab body.length cb))]) (l2 := [(64, (.bool false)), (53, (.bool true)), (12, (.int .i64 (((pn) : Nat) : Int))), (11, (.int .i64 (((i) : Nat) : Int))), (39, (.int .i64 (((i) : Nat) : Int))), (38, (.int .i64 (((pw.length) : Nat) : Int))), (9, (.slice Ar nr cr)), (8, (.slice A1 B.length c1)), (7, (.int .i64 (((1 + tag.toNat % 20) : Nat) : Int))), (2, (.slice (some ⟨b6, off7, none⟩) pw.length cp)), (1, (.slice Ab body.length cb))]) rfl rfl (fun hg267 => ?_) (fun hg267 => ?_)
                  · have hmay : mayT (1 + tag.toNat % 20) = true := mayT_yes (by omega)
                    refine pxU rfl (gOff 0 rfl rfl rfl (by decide)) (kA rfl) (by decide) ?_
                    refine pxU rfl (gOff 0 rfl rfl rfl (by decide)) (kA rfl) (by decide) ?_
                    refine pxV (v := (.bool true)) (fun _ _ hF => opPickT rfl (hF.ev 0 rfl) rfl) rfl (gOn 1 rfl rfl rfl (by decide)) (kM [false, true, true, true, true, true, true, true, true, true, true] rfl rfl) (by decide) ?_
                    refine pxV (v := (.bool true)) (fun _ _ hF => opPickT rfl (hF.ev 1 rfl) (hF.ev 0 rfl)) rfl (fun _ _ => rfl) (kM [false, false, true, true, true, true, true, true, true, true, true] rfl rfl) (by decide) ?_
                    refine pxV (v := (.bool true)) (fun _ _ hF => opMove rfl (hF.ev 0 rfl)) rfl (fun _ _ => rfl) (kM [false, true, true, true, true, true, true, true, true, true] rfl rfl) (by decide) ?_
                    refine pxV (v := (.int .i64 (((i) : Nat) : Int))) (fun _ _ hF => opMove rfl (hF.ev 2 rfl)) rfl (gOn 0 rfl rfl rfl (by decide)) (kA rfl) (by decide) ?_
                    refine pxV (v := (.bool (decide (i > 0)))) (fun _ _ hF => opGtr rfl (hF.ev 0 rfl) rfl (dc (by omega))) rfl (gOn 1 rfl rfl rfl (by decide)) (kM [false, true, true, true, true, true, true, true, true, true, true] rfl rfl) (by decide) ?_
                    refine pxV (v := (.bool (decide (i > 0)))) (fun _ _ hF => opMove rfl (hF.ev 0 rfl)) rfl (gOn 1 rfl rfl rfl (by decide)) (kM [false, true, true, true, true, true, true, true, true, true, true] rfl rfl) (by decide) ?_
                    refine pxSplitP 0 rfl (l1 := [(72, (.bool true)), (69, (.bool true)), (12, (.int .i64 (((pn) : Nat) : Int))), (11, (.int .i64 (((i) : Nat) : Int))), (39, (.int .i64 (((i) : Nat) : Int))), (38, (.int .i64 (((pw.length) : Nat) : Int))), (9, (.slice Ar nr cr)), (8, (.slice A1 B.length c1)), (7, (.int .i64 (((1 + tag.toNat % 20) : Nat) : Int))), (2, (.slice (some ⟨b6, off7, none⟩) pw.length cp)), (1, (.slice Ab body.length cb))]) (l2 := [(72, (.bool false)), (69, (.bool true)), (12, (.int .i64 (((pn) : Nat) : Int))), (11, (.int .i64 (((i) : Nat) : Int))), (39, (.int .i64 (((i) : Nat) : Int))), (38, (.int .i64 (((pw.length) : Nat) : Int))), (9, (.slice Ar nr cr)), (8, (.slice A1 B.length c1)), (7, (.int .i64 (((1 + tag.toNat % 20) : Nat) : Int))), (2, (.slice (some ⟨b6, off7, none⟩) pw.length cp)), (1, (.slice Ab body.length cb))]) rfl rfl (fun hg268 => ?_) (fun hg268 => ?_)
                    · refine pxU rfl (gOff 0 rfl rfl rfl (by decide)) (kA rfl) (by decide) ?_
                      refine pxU rfl (gOff 0 rfl rfl rfl (by decide)) (kA rfl) (by decide) ?_
                      refine pxV (v := (.bool true)) (fun _ _ hF => opPickT rfl (hF.ev 0 rfl) rfl) rfl (gOn 1 rfl rfl rfl (by decide)) (kM [false, true, true, true, true, true, true, true, true, true, true] rfl rfl) (by decide) ?_
                      refine pxV (v := (.bool true)) (fun _ _ hF => opPickT rfl (hF.ev 1 rfl) (hF.ev 0 rfl)) rfl (fun _ _ => rfl) (kM [false, false, true, true, true, true, true, true, true, true, true] rfl rfl) (by decide) ?_
                      refine pxV (v := (.bool true)) (fun _ _ hF => opAssign rfl (hF.ev 0 rfl)) rfl (fun _ _ => rfl) (kM [false, true, true, true, true, true, true, true, true, true] rfl rfl) (by decide) ?_
                      refine pxEnd ?_
                      refine qxThen ?_
                      refine cxSeq ?_
                      refine cxRegX mixedOrders (by kernel_rfl) ?_
                      replace hH := hH.drew
                      refine rxV 0 rfl (by kernel_rfl) rfl (fun _ _ => rfl) (fun _ _ hF => opMove rfl (hF.ev 6 rfl)) (kA rfl) (by decide) (v := (.slice A1 B.length c1)) ?_
                      refine rxV 1 rfl (by kernel_rfl) rfl (fun _ _ => rfl) (fun _ _ hF => opMove rfl (hF.ev 9 rfl)) (kA rfl) (by decide) (v := (.slice (some ⟨b6, off7, none⟩) pw.length cp)) ?_
                      refine rxV 2 rfl (by kernel_rfl) rfl (fun _ _ => rfl) (fun _ _ hF => opMove rfl (hF.ev 4 rfl)) (kM [true, true, true, true, false, true, true, true, true, true, true, true] rfl rfl) (by decide) (v := (.int .i64 (((i) : Nat) : Int))) ?_
                      have hi269 : i < pw.length := by omega
                      have hj272 : i < pw.length := by first | exact hi269 | (simp only [List.length_drop, List.length_take]; omega) | omega
                      refine rxV 3 rfl (by kernel_rfl) rfl (fun _ _ => rfl) (fun _ _ hF => opIndex (i := i) (e := 5) (sz := 1) rfl (by kernel_rfl) (by kernel_rfl) (hF.ev 1 rfl) (hF.ev 0 rfl) rfl hi269) (kM [false, false, true, true, true, true, true, true, true, true, true, true] rfl rfl) (by decide) (v := (.pointer (some ⟨b6, off7 + i * 1, none⟩))) ?_
                      refine rxS (fun w => HoldsL cByte w b6 off7 pw) 4 rfl (by kernel_rfl) rfl (fun _ _ => rfl) (hH.holdsL hL8 hb9 hR10) (fun _ _ hF hS => opLoadT (C := cByte) (y := x0) rfl (hF.ev 0 rfl) (by kernel_rfl) (hS i _ hx0) rfl) (kM [false, true, true, true, true, true, true, true, true, true, true] rfl rfl) (by decide) (v := (.int .u8 (((x0.toNat) : Nat) : Int))) ?_
                      refine rxV 5 rfl (by kernel_rfl) rfl (fun _ _ => rfl) (fun _ _ hF => opRem (z := ((x0.toNat % 14 : Nat) : Int)) rfl (hF.ev 0 rfl) rfl (by omega) remN) (kM [false, true, true, true, true, true, true, true, true, true, true] rfl rfl) (by decide) (v := (.int .u8 (((x0.toNat % 14) : Nat) : Int))) ?_
                      refine rxV 6 rfl (by kernel_rfl) rfl (fun _ _ => rfl) (fun _ _ hF => opAddU (m := 224) (j := x0.toNat % 14) (z := ((UInt8.ofNat (224 + x0.toNat % 14)).toNat)) rfl rfl rfl (hF.ev 0 rfl) (by rw [ofNat_toNat (by omega)]; show (224 + x0.toNat % 14) % 256 = _; omega)) (kM [false, true, true, true, true, true, true, true, true, true, true] rfl rfl) (by decide) (v := (.int .u8 ((((UInt8.ofNat (224 + x0.toNat % 14)).toNat) : Nat) : Int))) ?_
                      refine rxV 9 rfl (by kernel_rfl) rfl (fun _ _ => rfl) (fun _ _ hF => opMove rfl (hF.ev 6 rfl)) (kA rfl) (by decide) (v := (.slice Ar nr cr)) ?_
                      refine rxV 10 rfl (by kernel_rfl) rfl (fun _ _ => rfl) (fun _ _ hF => opMove rfl (hF.ev 4 rfl)) (kA rfl) (by decide) (v := (.int .i64 (((pn) : Nat) : Int))) ?_
                      refine rxV 11 rfl (by kernel_rfl) rfl (fun _ _ => rfl) (fun _ _ hF => opCutH (h := pn) (e := 5) (sz := 1) rfl (by kernel_rfl) (by kernel_rfl) (hF.ev 1 rfl) (hF.ev 0 rfl) rfl (by omega)) (kM [false, false, true, true, true, true, true, true, true, true, true, true, true] rfl rfl) (by decide) (v := (.slice Ar pn cr)) ?_
                      refine rx1 7 (by kernel_rfl) ?_
                      refine moM rfl hH (fun _ hF => smLit1 (e := 5) (sz := 1) (z := (.int .u8 0)) (by_ := 1) (cs := cByte.enc (UInt8.ofNat (224 + x0.toNat % 14))) rfl (by kernel_rfl) (by kernel_rfl) (hF.ev 1 rfl) (cByte.len (UInt8.ofNat (224 + x0.toNat % 14))) (ltb rfl) (leb rfl) rfl) trivial rfl (fun _ _ => rfl) (kM [true, false, true, true, true, true, true, true, true, true, true, true] rfl rfl) (by decide) (PendOk.go [6, 5] (by kernel_rfl) (PendOk.nil _ [])) ?_
                      clear hH
                      rintro _ _ w ⟨g273, rfl, rfl⟩ hH
                      replace hH : HH w0 [] [E1, [bl g273 5 (cByte.enc (UInt8.ofNat (224 + x0.toNat % 14)))]] w := hH
                      refine ⟨(fun _ hs => by cases hs), ?_⟩
                      refine rx1 8 (by kernel_rfl) ?_
                      refine moE 0 rfl hH rfl (fun _ hF => smAppT (C := cByte) (l := B) (m := [(UInt8.ofNat (224 + x0.toNat % 14))]) (e := 5) (z := (.int .u8 0)) (by_ := 1) rfl (by kernel_rfl) (by kernel_rfl) rfl (ltb rfl) (hF.ev 2 rfl) hO (hF.ev 0 rfl) rfl (fun h => by cases h) (by unfold maxLen; omega) (by omega)) ((Bk.lit1 (C := cByte) (UInt8.ofNat (224 + x0.toNat % 14))).vu (hH.blk 1 rfl) rfl) rfl (fun _ _ => rfl) (kM [false, true, false, true, true, true, true, true, true, true, true, true] rfl rfl) (by decide) (PendOk.nil _ []) ?_
                      clear hH
                      rintro v276 E277 w ⟨hO278, _⟩ hH
                      replace hH : HH w0 [] [E277, [bl g273 5 (cByte.enc (UInt8.ofNat (224 + x0.toNat % 14)))]] w := hH
                      replace hO278 : OwnT cByte 5 v276 (B ++ [(UInt8.ofNat (224 + x0.toNat % 14))]) E277 := hO278
                      obtain ⟨A274, c275, rfl⟩ := hO278.slice
                      refine ⟨(fun _ hs => by cases hs), ?_⟩
                      refine rx1 12 (by kernel_rfl) ?_
                      refine moE 0 rfl hH rfl (fun _ hF => smAppT (C := cByte) (l := (B ++ [(UInt8.ofNat (224 + x0.toNat % 14))])) (m := ((body.drop m).take pn)) (e := 5) (z := (.int .u8 0)) (by_ := 1) rfl (by kernel_rfl) (by kernel_rfl) rfl (ltb rfl) (hF.ev 0 rfl) hO278 (hF.ev 1 rfl) (by rw [List.length_take, List.length_drop]; omega) (((hH.vu hVr (by decide) (Off.nil _ _)).head (m := pn) (by omega))).nilA (by simp only [List.length_append, List.length_cons, List.length_nil]; unfold maxLen; omega) (by simp only [List.length_append, List.length_cons, List.length_nil]; omega)) ((hH.vu hVr (by decide) (Off.nil _ _)).head (m := pn) (by omega)) rfl (fun _ _ => rfl) (kM [false, false, true, true, true, true, true, true, true, true, true] rfl rfl) (by decide) (PendOk.nil _ []) ?_
                      clear hH
                      rintro v281 E282 w ⟨hO283, _⟩ hH
                      replace hH : HH w0 [] [E282, [bl g273 5 (cByte.enc (UInt8.ofNat (224 + x0.toNat % 14)))]] w := hH
                      replace hO283 : OwnT cByte 5 v281 ((B ++ [(UInt8.ofNat (224 + x0.toNat % 14))]) ++ ((body.drop m).take pn)) E282 := hO283
                      obtain ⟨A279, c280, rfl⟩ := hO283.slice
                      refine ⟨(fun _ hs => by cases hs), ?_⟩
                      refine rxV 13 rfl (by kernel_rfl) rfl (fun _ _ => rfl) (fun _ _ hF => opAssign rfl (hF.ev 0 rfl)) (kM [false, true, true, true, true, true, false, true, true, true] rfl rfl) (by decide) (v := (.slice A279 (((B ++ [(UInt8.ofNat (224 + x0.toNat % 14))]) ++ ((body.drop m).take pn)).length) c280)) ?_
                      refine rxEnd (by kernel_rfl) ?_
                      refine qxThen ?_
                      refine cxReg ?_
                      refine pxV (v := (.slice Ar nr cr)) (fun _ _ hF => opMove rfl (hF.ev 5 rfl)) rfl (fun _ _ => rfl) (kM [true, true, true, true, true, false, true, true, true] rfl rfl) (by decide) ?_
                      refine pxV (v := (.int .i64 (((pn) : Nat) : Int))) (fun _ _ hF => opMove rfl (hF.ev 3 rfl)) rfl (fun _ _ => rfl) (kM [true, true, true, false, true, true, true, true, true] rfl rfl) (by decide) ?_
                      refine pxV (v := (.slice (cutA Ar cr pn 1) (nr - pn) (cr - pn))) (fun _ _ hF => opCutL (k := pn) (e := 5) (sz := 1) rfl (by kernel_rfl) (by kernel_rfl) (hF.ev 1 rfl) (hF.ev 0 rfl) rfl (by omega)) rfl (fun _ _ => rfl) (kM [false, false, true, true, true, true, true, true, true] rfl rfl) (by decide) ?_
                      refine pxV (v := (.slice (cutA Ar cr pn 1) (nr - pn) (cr - pn))) (fun _ _ hF => opAssign rfl (hF.ev 0 rfl)) rfl (fun _ _ => rfl) (kM [false, true, true, true, true, true, true, true] rfl rfl) (by decide) ?_
                      refine pxEnd ?_
                      refine qxInN ?_
                      refine qxThen ?_
                      refine cxReg ?_
                      refine pxV (v := (.int .i64 (((i + 1) : Nat) : Int))) (fun _ _ hF => opAdd rfl (hF.ev 3 rfl) rfl (wI (by omega) (by omega) (by omega))) rfl (fun _ _ => rfl) (kM [true, true, true, false, true, true, true, true] rfl rfl) (by decide) ?_
                      refine pxV (v := (.int .i64 (((i + 1) : Nat) : Int))) (fun _ _ hF => opMove rfl (hF.ev 0 rfl)) rfl (fun _ _ => rfl) (kM [false, true, true, true, true, true, true, true] rfl rfl) (by decide) ?_
                      refine pxEnd ?_
                      replace hH : HH w0 [] [E282] w := hH.only [true, false]
                      have hV2 := hVr.from (k := pn) (by omega)
                      rw [List.drop_drop] at hV2
                      exact qxRound (i + 1, A279, c280, ((B ++ [(UInt8.ofNat (224 + x0.toNat % 14))]) ++ ((body.drop m).take pn)), E282, (cutA Ar cr pn 1), (nr - pn), (cr - pn), m + pn, ((P ++ [UInt8.ofNat (224 + x0.toNat % 14)]) ++ (body.drop m).take (pn)), true) ⟨hH, (show (i + 1) ≤ pw.length from (by omega)), hO283, (by rw [hB]; simp), (show PInv (1 + tag.toNat % 20) body ((P ++ [UInt8.ofNat (224 + x0.toNat % 14)]) ++ (body.drop m).take (pn)) (i + 1) (m + pn) true from (PInv.good hpn hI hg202 (Nat.mod_lt _ (by decide)) hmay (by omega) (by omega) hbody)), hV2, (show (nr - pn) + (m + pn) = body.length from (by omega)), (show ((B ++ [(UInt8.ofNat (224 + x0.toNat % 14))]) ++ ((body.drop m).take pn)).length ≤ 1 + (i + 1) + (m + pn) from (by simp only [List.length_append, List.length_cons, List.length_nil, List.length_take, List.length_drop]; omega))⟩ (by omega) (slots_at [0, 4, 3, 1, 2, 5, 6, 7] rfl)
                    · refine pxV (v := (.int .i64 (((pn) : Nat) : Int))) (fun _ _ hF => opMove rfl (hF.ev 2 rfl)) rfl (gOn 0 rfl rfl rfl (by decide)) (kA rfl) (by decide) ?_
                      refine pxV (v := (.bool true)) (fun _ _ hF => opGeq rfl (hF.ev 0 rfl) rfl (decide_eq_true (by omega))) rfl (gOn 1 rfl rfl rfl (by decide)) (kM [false, true, true, true, true, true, true, true, true, true, true, true] rfl rfl) (by decide) ?_
                      refine pxV (v := (.bool true)) (fun _ _ hF => opPickF rfl (hF.ev 1 rfl) (hF.ev 0 rfl)) rfl (gOn 2 rfl rfl rfl (by decide)) (kM [false, false, true, true, true, true, true, true, true, true, true, true] rfl rfl) (by decide) ?_
                      refine pxV (v := (.bool true)) (fun _ _ hF => opPickT rfl (hF.ev 1 rfl) (hF.ev 0 rfl)) rfl (fun _ _ => rfl) (kM [false, false, true, true, true, true, true, true, true, true, true] rfl rfl) (by decide) ?_
                      refine pxV (v := (.bool true)) (fun _ _ hF => opAssign rfl (hF.ev 0 rfl)) rfl (fun _ _ => rfl) (kM [false, true, true, true, true, true, true, true, true, true] rfl rfl) (by decide) ?_
                      refine pxEnd ?_
                      refine qxThen ?_
                      refine cxSeq ?_
                      refine cxRegX mixedOrders (by kernel_rfl) ?_
                      replace hH := hH.drew
                      refine rxV 0 rfl (by kernel_rfl) rfl (fun _ _ => rfl) (fun _ _ hF => opMove rfl (hF.ev 6 rfl)) (kA rfl) (by decide) (v := (.slice A1 B.length c1)) ?_
                      refine rxV 1 rfl (by kernel_rfl) rfl (fun _ _ => rfl) (fun _ _ hF => opMove rfl (hF.ev 9 rfl)) (kA rfl) (by decide) (v := (.slice (some ⟨b6, off7, none⟩) pw.length cp)) ?_
                      refine rxV 2 rfl (by kernel_rfl) rfl (fun _ _ => rfl) (fun _ _ hF => opMove rfl (hF.ev 4 rfl)) (kM [true, true, true, true, false, true, true, true, true, true, true, true] rfl rfl) (by decide) (v := (.int .i64 (((i) : Nat) : Int))) ?_
                      have hi284 : i < pw.length := by omega
                      have hj287 : i < pw.length := by first | exact hi284 | (simp only [List.length_drop, List.length_take]; omega) | omega
                      refine rxV 3 rfl (by kernel_rfl) rfl (fun _ _ => rfl) (fun _ _ hF => opIndex (i := i) (e := 5) (sz := 1) rfl (by kernel_rfl) (by kernel_rfl) (hF.ev 1 rfl) (hF.ev 0 rfl) rfl hi284) (kM [false, false, true, true, true, true, true, true, true, true, true, true] rfl rfl) (by decide) (v := (.pointer (some ⟨b6, off7 + i * 1, none⟩))) ?_
                      refine rxS (fun w => HoldsL cByte w b6 off7 pw) 4 rfl (by kernel_rfl) rfl (fun _ _ => rfl) (hH.holdsL hL8 hb9 hR10) (fun _ _ hF hS => opLoadT (C := cByte) (y := x0) rfl (hF.ev 0 rfl) (by kernel_rfl) (hS i _ hx0) rfl) (kM [false, true, true, true, true, true, true, true, true, true, true] rfl rfl) (by decide) (v := (.int .u8 (((x0.toNat) : Nat) : Int))) ?_
                      refine rxV 5 rfl (by kernel_rfl) rfl (fun _ _ => rfl) (fun _ _ hF => opRem (z := ((x0.toNat % 14 : Nat) : Int)) rfl (hF.ev 0 rfl) rfl (by omega) remN) (kM [false, true, true, true, true, true, true, true, true, true, true] rfl rfl) (by decide) (v := (.int .u8 (((x0.toNat % 14) : Nat) : Int))) ?_
                      refine rxV 6 rfl (by kernel_rfl) rfl (fun _ _ => rfl) (fun _ _ hF => opAddU (m := 224) (j := x0.toNat % 14) (z := ((UInt8.ofNat (224 + x0.toNat % 14)).toNat)) rfl rfl rfl (hF.ev 0 rfl) (by rw [ofNat_toNat (by omega)]; show (224 + x0.toNat % 14) % 256 = _; omega)) (kM [false, true, true, true, true, true, true, true, true, true, true] rfl rfl) (by decide) (v := (.int .u8 ((((UInt8.ofNat (224 + x0.toNat % 14)).toNat) : Nat) : Int))) ?_
                      refine rxV 9 rfl (by kernel_rfl) rfl (fun _ _ => rfl) (fun _ _ hF => opMove rfl (hF.ev 6 rfl)) (kA rfl) (by decide) (v := (.slice Ar nr cr)) ?_
                      refine rxV 10 rfl (by kernel_rfl) rfl (fun _ _ => rfl) (fun _ _ hF => opMove rfl (hF.ev 4 rfl)) (kA rfl) (by decide) (v := (.int .i64 (((pn) : Nat) : Int))) ?_
                      refine rxV 11 rfl (by kernel_rfl) rfl (fun _ _ => rfl) (fun _ _ hF => opCutH (h := pn) (e := 5) (sz := 1) rfl (by kernel_rfl) (by kernel_rfl) (hF.ev 1 rfl) (hF.ev 0 rfl) rfl (by omega)) (kM [false, false, true, true, true, true, true, true, true, true, true, true, true] rfl rfl) (by decide) (v := (.slice Ar pn cr)) ?_
                      refine rx1 7 (by kernel_rfl) ?_
                      refine moM rfl hH (fun _ hF => smLit1 (e := 5) (sz := 1) (z := (.int .u8 0)) (by_ := 1) (cs := cByte.enc (UInt8.ofNat (224 + x0.toNat % 14))) rfl (by kernel_rfl) (by kernel_rfl) (hF.ev 1 rfl) (cByte.len (UInt8.ofNat (224 + x0.toNat % 14))) (ltb rfl) (leb rfl) rfl) trivial rfl (fun _ _ => rfl) (kM [true, false, true, true, true, true, true, true, true, true, true, true] rfl rfl) (by decide) (PendOk.go [6, 5] (by kernel_rfl) (PendOk.nil _ [])) ?_
                      clear hH
                      rintro _ _ w ⟨g288, rfl, rfl⟩ hH
                      replace hH : HH w0 [] [E1, [bl g288 5 (cByte.enc (UInt8.ofNat (224 + x0.toNat % 14)))]] w := hH
                      refine ⟨(fun _ hs => by cases hs), ?_⟩
                      refine rx1 8 (by kernel_rfl) ?_
                      refine moE 0 rfl hH rfl (fun _ hF => smAppT (C := cByte) (l := B) (m := [(UInt8.ofNat (224 + x0.toNat % 14))]) (e := 5) (z := (.int .u8 0)) (by_ := 1) rfl (by kernel_rfl) (by kernel_rfl) rfl (ltb rfl) (hF.ev 2 rfl) hO (hF.ev 0 rfl) rfl (fun h => by cases h) (by unfold maxLen; omega) (by omega)) ((Bk.lit1 (C := cByte) (UInt8.ofNat (224 + x0.toNat % 14))).vu (hH.blk 1 rfl) rfl) rfl (fun _ _ => rfl) (kM [false, true, false, true, true, true, true, true, true, true, true, true] rfl rfl) (by decide) (PendOk.nil _ []) ?_
                      clear hH
                      rintro v291 E292 w ⟨hO293, _⟩ hH
                      replace hH : HH w0 [] [E292, [bl g288 5 (cByte.enc (UInt8.ofNat (224 + x0.toNat % 14)))]] w := hH
                      replace hO293 : OwnT cByte 5 v291 (B ++ [(UInt8.ofNat (224 + x0.toNat % 14))]) E292 := hO293
                      obtain ⟨A289, c290, rfl⟩ := hO293.slice
                      refine ⟨(fun _ hs => by cases hs), ?_⟩
                      refine rx1 12 (by kernel_rfl) ?_
                      refine moE 0 rfl hH rfl (fun _ hF => smAppT (C := cByte) (l := (B ++ [(UInt8.ofNat (224 + x0.toNat % 14))])) (m := ((body.drop m).take pn)) (e := 5) (z := (.int .u8 0)) (by_ := 1) rfl (by kernel_rfl) (by kernel_rfl) rfl (ltb rfl) (hF.ev 0 rfl) hO293 (hF.ev 1 rfl) (by rw [List.length_take, List.length_drop]; omega) (((hH.vu hVr (by decide) (Off.nil _ _)).head (m := pn) (by omega))).nilA (by simp only [List.length_append, List.length_cons, List.length_nil]; unfold maxLen; omega) (by simp only [List.length_append, List.length_cons, List.length_nil]; omega)) ((hH.vu hVr (by decide) (Off.nil _ _)).head (m := pn) (by omega)) rfl (fun _ _ => rfl) (kM [false, false, true, true, true, true, true, true, true, true, true] rfl rfl) (by decide) (PendOk.nil _ []) ?_
                      clear hH
                      rintro v296 E297 w ⟨hO298, _⟩ hH
                      replace hH : HH w0 [] [E297, [bl g288 5 (cByte.enc (UInt8.ofNat (224 + x0.toNat % 14)))]] w := hH
                      replace hO298 : OwnT cByte 5 v296 ((B ++ [(UInt8.ofNat (224 + x0.toNat % 14))]) ++ ((body.drop m).take pn)) E297 := hO298
                      obtain ⟨A294, c295, rfl⟩ := hO298.slice
                      refine ⟨(fun _ hs => by cases hs), ?_⟩
                      refine rxV 13 rfl (by kernel_rfl) rfl (fun _ _ => rfl) (fun _ _ hF => opAssign rfl (hF.ev 0 rfl)) (kM [false, true, true, true, true, true, false, true, true, true] rfl rfl) (by decide) (v := (.slice A294 (((B ++ [(UInt8.ofNat (224 + x0.toNat % 14))]) ++ ((body.drop m).take pn)).length) c295)) ?_
                      refine rxEnd (by kernel_rfl) ?_
                      refine qxThen ?_
                      refine cxReg ?_
                      refine pxV (v := (.slice Ar nr cr)) (fun _ _ hF => opMove rfl (hF.ev 5 rfl)) rfl (fun _ _ => rfl) (kM [true, true, true, true, true, false, true, true, true] rfl rfl) (by decide) ?_
                      refine pxV (v := (.int .i64 (((pn) : Nat) : Int))) (fun _ _ hF => opMove rfl (hF.ev 3 rfl)) rfl (fun _ _ => rfl) (kM [true, true, true, false, true, true, true, true, true] rfl rfl) (by decide) ?_
                      refine pxV (v := (.slice (cutA Ar cr pn 1) (nr - pn) (cr - pn))) (fun _ _ hF => opCutL (k := pn) (e := 5) (sz := 1) rfl (by kernel_rfl) (by kernel_rfl) (hF.ev 1 rfl) (hF.ev 0 rfl) rfl (by omega)) rfl (fun _ _ => rfl) (kM [false, false, true, true, true, true, true, true, true] rfl rfl) (by decide) ?_
                      refine pxV (v := (.slice (cutA Ar cr pn 1) (nr - pn) (cr - pn))) (fun _ _ hF => opAssign rfl (hF.ev 0 rfl)) rfl (fun _ _ => rfl) (kM [false, true, true, true, true, true, true, true] rfl rfl) (by decide) ?_
                      refine pxEnd ?_
                      refine qxInN ?_
                      refine qxThen ?_
                      refine cxReg ?_
                      refine pxV (v := (.int .i64 (((i + 1) : Nat) : Int))) (fun _ _ hF => opAdd rfl (hF.ev 3 rfl) rfl (wI (by omega) (by omega) (by omega))) rfl (fun _ _ => rfl) (kM [true, true, true, false, true, true, true, true] rfl rfl) (by decide) ?_
                      refine pxV (v := (.int .i64 (((i + 1) : Nat) : Int))) (fun _ _ hF => opMove rfl (hF.ev 0 rfl)) rfl (fun _ _ => rfl) (kM [false, true, true, true, true, true, true, true] rfl rfl) (by decide) ?_
                      refine pxEnd ?_
                      replace hH : HH w0 [] [E297] w := hH.only [true, false]
                      have hV2 := hVr.from (k := pn) (by omega)
                      rw [List.drop_drop] at hV2
                      exact qxRound (i + 1, A294, c295, ((B ++ [(UInt8.ofNat (224 + x0.toNat % 14))]) ++ ((body.drop m).take pn)), E297, (cutA Ar cr pn 1), (nr - pn), (cr - pn), m + pn, ((P ++ [UInt8.ofNat (224 + x0.toNat % 14)]) ++ (body.drop m).take (pn)), true) ⟨hH, (show (i + 1) ≤ pw.length from (by omega)), hO298, (by rw [hB]; simp), (show PInv (1 + tag.toNat % 20) body ((P ++ [UInt8.ofNat (224 + x0.toNat % 14)]) ++ (body.drop m).take (pn)) (i + 1) (m + pn) true from (PInv.good hpn hI hg202 (Nat.mod_lt _ (by decide)) hmay (by omega) (by omega) hbody)), hV2, (show (nr - pn) + (m + pn) = body.length from (by omega)), (show ((B ++ [(UInt8.ofNat (224 + x0.toNat % 14))]) ++ ((body.drop m).take pn)).length ≤ 1 + (i + 1) + (m + pn) from (by simp only [List.length_append, List.length_cons, List.length_nil, List.length_take, List.length_drop]; omega))⟩ (by omega) (slots_at [0, 4, 3, 1, 2, 5, 6, 7] rfl)
                  · refine pxV (v := (.int .i64 (((1 + tag.toNat % 20) : Nat) : Int))) (fun _ _ hF => opMove rfl (hF.ev 8 rfl)) rfl (gOn 0 rfl rfl rfl (by decide)) (kA rfl) (by decide) ?_
                    refine pxV (v := (.bool (decide (1 + tag.toNat % 20 = 18)))) (fun _ _ hF => opEqI rfl (hF.ev 0 rfl) rfl (dc (by omega))) rfl (gOn 1 rfl rfl rfl (by decide)) (kM [false, true, true, true, true, true, true, true, true, true, true, true] rfl rfl) (by decide) ?_
                    refine pxV (v := (.bool (decide (1 + tag.toNat % 20 = 18)))) (fun _ _ hF => opPickF rfl (hF.ev 1 rfl) (hF.ev 0 rfl)) rfl (gOn 2 rfl rfl rfl (by decide)) (kM [false, false, true, true, true, true, true, true, true, true, true, true] rfl rfl) (by decide) ?_
                    refine pxV (v := (.bool (decide (1 + tag.toNat % 20 = 18)))) (fun _ _ hF => opPickT rfl (hF.ev 1 rfl) (hF.ev 0 rfl)) rfl (fun _ _ => rfl) (kM [false, false, true, true, true, true, true, true, true, true, true] rfl rfl) (by decide) ?_
                    refine pxV (v := (.bool (decide (1 + tag.toNat % 20 = 18)))) (fun _ _ hF => opMove rfl (hF.ev 0 rfl)) rfl (fun _ _ => rfl) (kM [false, true, true, true, true, true, true, true, true, true] rfl rfl) (by decide) ?_
                    refine pxSplitP 0 rfl (l1 := [(69, (.bool true)), (12, (.int .i64 (((pn) : Nat) : Int))), (11, (.int .i64 (((i) : Nat) : Int))), (39, (.int .i64 (((i) : Nat) : Int))), (38, (.int .i64 (((pw.length) : Nat) : Int))), (9, (.slice Ar nr cr)), (8, (.slice A1 B.length c1)), (7, (.int .i64 (((1 + tag.toNat % 20) : Nat) : Int))), (2, (.slice (some ⟨b6, off7, none⟩) pw.length cp)), (1, (.slice Ab body.length cb))]) (l2 := [(69, (.bool false)), (12, (.int .i64 (((pn) : Nat) : Int))), (11, (.int .i64 (((i) : Nat) : Int))), (39, (.int .i64 (((i) : Nat) : Int))), (38, (.int .i64 (((pw.length) : Nat) : Int))), (9, (.slice Ar nr cr)), (8, (.slice A1 B.length c1)), (7, (.int .i64 (((1 + tag.toNat % 20) : Nat) : Int))), (2, (.slice (some ⟨b6, off7, none⟩) pw.length cp)), (1, (.slice Ab body.length cb))]) rfl rfl (fun hg299 => ?_) (fun hg299 => ?_)
                    · have hmay : mayT (1 + tag.toNat % 20) = true := mayT_yes (by omega)
                      refine pxV (v := (.int .i64 (((i) : Nat) : Int))) (fun _ _ hF => opMove rfl (hF.ev 2 rfl)) rfl (gOn 0 rfl rfl rfl (by decide)) (kA rfl) (by decide) ?_
                      refine pxV (v := (.bool (decide (i > 0)))) (fun _ _ hF => opGtr rfl (hF.ev 0 rfl) rfl (dc (by omega))) rfl (gOn 1 rfl rfl rfl (by decide)) (kM [false, true, true, true, true, true, true, true, true, true, true] rfl rfl) (by decide) ?_
                      refine pxV (v := (.bool (decide (i > 0)))) (fun _ _ hF => opMove rfl (hF.ev 0 rfl)) rfl (gOn 1 rfl rfl rfl (by decide)) (kM [false, true, true, true, true, true, true, true, true, true, true] rfl rfl) (by decide) ?_
                      refine pxSplitP 0 rfl (l1 := [(72, (.bool true)), (69, (.bool true)), (12, (.int .i64 (((pn) : Nat) : Int))), (11, (.int .i64 (((i) : Nat) : Int))), (39, (.int .i64 (((i) : Nat) : Int))), (38, (.int .i64 (((pw.length) : Nat) : Int))), (9, (.slice Ar nr cr)), (8, (.slice A1 B.length c1)), (7, (.int .i64 (((1 + tag.toNat % 20) : Nat) : Int))), (2, (.slice (some ⟨b6, off7, none⟩) pw.length cp)), (1, (.slice Ab body.length cb))]) (l2 := [(72, (.bool false)), (69, (.bool true)), (12, (.int .i64 (((pn) : Nat) : Int))), (11, (.int .i64 (((i) : Nat) : Int))), (39, (.int .i64 (((i) : Nat) : Int))), (38, (.int .i64 (((pw.length) : Nat) : Int))), (9, (.slice Ar nr cr)), (8, (.slice A1 B.length c1)), (7, (.int .i64 (((1 + tag.toNat % 20) : Nat) : Int))), (2, (.slice (some ⟨b6, off7, none⟩) pw.length cp)), (1, (.slice Ab body.length cb))]) rfl rfl (fun hg300 => ?_) (fun hg300 => ?_)
                      · refine pxU rfl (gOff 0 rfl rfl rfl (by decide)) (kA rfl) (by decide) ?_
                        refine pxU rfl (gOff 0 rfl rfl rfl (by decide)) (kA rfl) (by decide) ?_
                        refine pxV (v := (.bool true)) (fun _ _ hF => opPickT rfl (hF.ev 0 rfl) rfl) rfl (gOn 1 rfl rfl rfl (by decide)) (kM [false, true, true, true, true, true, true, true, true, true, true] rfl rfl) (by decide) ?_
                        refine pxV (v := (.bool true)) (fun _ _ hF => opPickT rfl (hF.ev 1 rfl) (hF.ev 0 rfl)) rfl (fun _ _ => rfl) (kM [false, false, true, true, true, true, true, true, true, true, true] rfl rfl) (by decide) ?_
                        refine pxV (v := (.bool true)) (fun _ _ hF => opAssign rfl (hF.ev 0 rfl)) rfl (fun _ _ => rfl) (kM [false, true, true, true, true, true, true, true, true, true] rfl rfl) (by decide) ?_
                        refine pxEnd ?_
                        refine qxThen ?_
                        refine cxSeq ?_
                        refine cxRegX mixedOrders (by kernel_rfl) ?_
                        replace hH := hH.drew
                        refine rxV 0 rfl (by kernel_rfl) rfl (fun _ _ => rfl) (fun _ _ hF => opMove rfl (hF.ev 6 rfl)) (kA rfl) (by decide) (v := (.slice A1 B.length c1)) ?_
                        refine rxV 1 rfl (by kernel_rfl) rfl (fun _ _ => rfl) (fun _ _ hF => opMove rfl (hF.ev 9 rfl)) (kA rfl) (by decide) (v := (.slice (some ⟨b6, off7, none⟩) pw.length cp)) ?_
                        refine rxV 2 rfl (by kernel_rfl) rfl (fun _ _ => rfl) (fun _ _ hF => opMove rfl (hF.ev 4 rfl)) (kM [true, true, true, true, false, true, true, true, true, true, true, true] rfl rfl) (by decide) (v := (.int .i64 (((i) : Nat) : Int))) ?_
                        have hi301 : i < pw.length := by omega
                        have hj304 : i < pw.length := by first | exact hi301 | (simp only [List.length_drop, List.length_take]; omega) | omega
                        refine rxV 3 rfl (by kernel_rfl) rfl (fun _ _ => rfl) (fun _ _ hF => opIndex (i := i) (e := 5) (sz := 1) rfl (by kernel_rfl) (by kernel_rfl) (hF.ev 1 rfl) (hF.ev 0 rfl) rfl hi301) (kM [false, false, true, true, true, true, true, true, true, true, true, true] rfl rfl) (by decide) (v := (.pointer (some ⟨b6, off7 + i * 1, none⟩))) ?_
                        refine rxS (fun w => HoldsL cByte w b6 off7 pw) 4 rfl (by kernel_rfl) rfl (fun _ _ => rfl) (hH.holdsL hL8 hb9 hR10) (fun _ _ hF hS => opLoadT (C := cByte) (y := x0) rfl (hF.ev 0 rfl) (by kernel_rfl) (hS i _ hx0) rfl) (kM [false, true, true, true, true, true, true, true, true, true, true] rfl rfl) (by decide) (v := (.int .u8 (((x0.toNat) : Nat) : Int))) ?_
                        refine rxV 5 rfl (by kernel_rfl) rfl (fun _ _ => rfl) (fun _ _ hF => opRem (z := ((x0.toNat % 14 : Nat) : Int)) rfl (hF.ev 0 rfl) rfl (by omega) remN) (kM [false, true, true, true, true, true, true, true, true, true, true] rfl rfl) (by decide) (v := (.int .u8 (((x0.toNat % 14) : Nat) : Int))) ?_
                        refine rxV 6 rfl (by kernel_rfl) rfl (fun _ _ => rfl) (fun _ _ hF => opAddU (m := 224) (j := x0.toNat % 14) (z := ((UInt8.ofNat (224 + x0.toNat % 14)).toNat)) rfl rfl rfl (hF.ev 0 rfl) (by rw [ofNat_toNat (by omega)]; show (224 + x0.toNat % 14) % 256 = _; omega)) (kM [false, true, true, true, true, true, true, true, true, true, true] rfl rfl) (by decide) (v := (.int .u8 ((((UInt8.ofNat (224 + x0.toNat % 14)).toNat) : Nat) : Int))) ?_
                        refine rxV 9 rfl (by kernel_rfl) rfl (fun _ _ => rfl) (fun _ _ hF => opMove rfl (hF.ev 6 rfl)) (kA rfl) (by decide) (v := (.slice Ar nr cr)) ?_
                        refine rxV 10 rfl (by kernel_rfl) rfl (fun _ _ => rfl) (fun _ _ hF => opMove rfl (hF.ev 4 rfl)) (kA rfl) (by decide) (v := (.int .i64 (((pn) : Nat) : Int))) ?_
                        refine rxV 11 rfl (by kernel_rfl) rfl (fun _ _ => rfl) (fun _ _ hF => opCutH (h := pn) (e := 5) (sz := 1) rfl (by kernel_rfl) (by kernel_rfl) (hF.ev 1 rfl) (hF.ev 0 rfl) rfl (by omega)) (kM [false, false, true, true, true, true, true, true, true, true, true, true, true] rfl rfl) (by decide) (v := (.slice Ar pn cr)) ?_
                        refine rx1 7 (by kernel_rfl) ?_
                        refine moM rfl hH (fun _ hF => smLit1 (e := 5) (sz := 1) (z := (.int .u8 0)) (by_ := 1) (cs := cByte.enc (UInt8.ofNat (224 + x0.toNat % 14))) rfl (by kernel_rfl) (by kernel_rfl) (hF.ev 1 rfl) (cByte.len (UInt8.ofNat (224 + x0.toNat % 14))) (ltb rfl) (leb rfl) rfl) trivial rfl (fun _ _ => rfl) (kM [true, false, true, true, true, true, true, true, true, true, true, true] rfl rfl) (by decide) (PendOk.go [6, 5] (by kernel_rfl) (PendOk.nil _ [])) ?_
                        clear hH
                        rintro _ _ w ⟨g305, rfl, rfl⟩ hH
                        replace hH : HH w0 [] [E1, [bl g305 5 (cByte.enc (UInt8.ofNat (224 + x0.toNat % 14)))]] w := hH
                        refine ⟨(fun _ hs => by cases hs), ?_⟩
                        refine rx1 8 (by kernel_rfl) ?_
                        refine moE 0 rfl hH rfl (fun _ hF => smAppT (C := cByte) (l := B) (m := [(UInt8.ofNat (224 + x0.toNat % 14))]) (e := 5) (z := (.int .u8 0)) (by_ := 1) rfl (by kernel_rfl) (by kernel_rfl) rfl (ltb rfl) (hF.ev 2 rfl) hO (hF.ev 0 rfl) rfl (fun h => by cases h) (by unfold maxLen; omega) (by omega)) ((Bk.lit1 (C := cByte) (UInt8.ofNat (224 + x0.toNat % 14))).vu (hH.blk 1 rfl) rfl) rfl (fun _ _ => rfl) (kM [false, true, false, true, true, true, true, true, true, true, true, true] rfl rfl) (by decide) (PendOk.nil _ []) ?_
                        clear hH
                        rintro v308 E309 w ⟨hO310, _⟩ hH
                        replace hH : HH w0 [] [E309, [bl g305 5 (cByte.enc (UInt8.ofNat (224 + x0.toNat % 14)))]] w := hH
                        replace hO310 : OwnT cByte 5 v308 (B ++ [(UInt8.ofNat (224 + x0.toNat % 14))]) E309 := hO310
                        obtain ⟨A306, c307, rfl⟩ := hO310.slice
                        refine ⟨(fun _ hs => by cases hs), ?_⟩
                        refine rx1 12 (by kernel_rfl) ?_
                        refine moE 0 rfl hH rfl (fun _ hF => smAppT (C := cByte) (l := (B ++ [(UInt8.ofNat (224 + x0.toNat % 14))])) (m := ((body.drop m).take pn)) (e := 5) (z := (.int .u8 0)) (by_ := 1) rfl (by kernel_rfl) (by kernel_rfl) rfl (ltb rfl) (hF.ev 0 rfl) hO310 (hF.ev 1 rfl) (by rw [List.length_take, List.length_drop]; omega) (((hH.vu hVr (by decide) (Off.nil _ _)).head (m := pn) (by omega))).nilA (by simp only [List.length_append, List.length_cons, List.length_nil]; unfold maxLen; omega) (by simp only [List.length_append, List.length_cons, List.length_nil]; omega)) ((hH.vu hVr (by decide) (Off.nil _ _)).head (m := pn) (by omega)) rfl (fun _ _ => rfl) (kM [false, false, true, true, true, true, true, true, true, true, true] rfl rfl) (by decide) (PendOk.nil _ []) ?_
                        clear hH
                        rintro v313 E314 w ⟨hO315, _⟩ hH
                        replace hH : HH w0 [] [E314, [bl g305 5 (cByte.enc (UInt8.ofNat (224 + x0.toNat % 14)))]] w := hH
                        replace hO315 : OwnT cByte 5 v313 ((B ++ [(UInt8.ofNat (224 + x0.toNat % 14))]) ++ ((body.drop m).take pn)) E314 := hO315
                        obtain ⟨A311, c312, rfl⟩ := hO315.slice
                        refine ⟨(fun _ hs => by cases hs), ?_⟩
                        refine rxV 13 rfl (by kernel_rfl) rfl (fun _ _ => rfl) (fun _ _ hF => opAssign rfl (hF.ev 0 rfl)) (kM [false, true, true, true, true, true, false, true, true, true] rfl rfl) (by decide) (v := (.slice A311 (((B ++ [(UInt8.ofNat (224 + x0.toNat % 14))]) ++ ((body.drop m).take pn)).length) c312)) ?_
                        refine rxEnd (by kernel_rfl) ?_
                        refine qxThen ?_
                        refine cxReg ?_
                        refine pxV (v := (.slice Ar nr cr)) (fun _ _ hF => opMove rfl (hF.ev 5 rfl)) rfl (fun _ _ => rfl) (kM [true, true, true, true, true, false, true, true, true] rfl rfl) (by decide) ?_
                        refine pxV (v := (.int .i64 (((pn) : Nat) : Int))) (fun _ _ hF => opMove rfl (hF.ev 3 rfl)) rfl (fun _ _ => rfl) (kM [true, true, true, false, true, true, true, true, true] rfl rfl) (by decide) ?_
                        refine pxV (v := (.slice (cutA Ar cr pn 1) (nr - pn) (cr - pn))) (fun _ _ hF => opCutL (k := pn) (e := 5) (sz := 1) rfl (by kernel_rfl) (by kernel_rfl) (hF.ev 1 rfl) (hF.ev 0 rfl) rfl (by omega)) rfl (fun _ _ => rfl) (kM [false, false, true, true, true, true, true, true, true] rfl rfl) (by decide) ?_
                        refine pxV (v := (.slice (cutA Ar cr pn 1) (nr - pn) (cr - pn))) (fun _ _ hF => opAssign rfl (hF.ev 0 rfl)) rfl (fun _ _ => rfl) (kM [false, true, true, true, true, true, true, true] rfl rfl) (by decide) ?_
                        refine pxEnd ?_
                        refine qxInN ?_
                        refine qxThen ?_
                        refine cxReg ?_
                        refine pxV (v := (.int .i64 (((i + 1) : Nat) : Int))) (fun _ _ hF => opAdd rfl (hF.ev 3 rfl) rfl (wI (by omega) (by omega) (by omega))) rfl (fun _ _ => rfl) (kM [true, true, true, false, true, true, true, true] rfl rfl) (by decide) ?_
                        refine pxV (v := (.int .i64 (((i + 1) : Nat) : Int))) (fun _ _ hF => opMove rfl (hF.ev 0 rfl)) rfl (fun _ _ => rfl) (kM [false, true, true, true, true, true, true, true] rfl rfl) (by decide) ?_
                        refine pxEnd ?_
                        replace hH : HH w0 [] [E314] w := hH.only [true, false]
                        have hV2 := hVr.from (k := pn) (by omega)
                        rw [List.drop_drop] at hV2
                        exact qxRound (i + 1, A311, c312, ((B ++ [(UInt8.ofNat (224 + x0.toNat % 14))]) ++ ((body.drop m).take pn)), E314, (cutA Ar cr pn 1), (nr - pn), (cr - pn), m + pn, ((P ++ [UInt8.ofNat (224 + x0.toNat % 14)]) ++ (body.drop m).take (pn)), true) ⟨hH, (show (i + 1) ≤ pw.length from (by omega)), hO315, (by rw [hB]; simp), (show PInv (1 + tag.toNat % 20) body ((P ++ [UInt8.ofNat (224 + x0.toNat % 14)]) ++ (body.drop m).take (pn)) (i + 1) (m + pn) true from (PInv.good hpn hI hg202 (Nat.mod_lt _ (by decide)) hmay (by omega) (by omega) hbody)), hV2, (show (nr - pn) + (m + pn) = body.length from (by omega)), (show ((B ++ [(UInt8.ofNat (224 + x0.toNat % 14))]) ++ ((body.drop m).take pn)).length ≤ 1 + (i + 1) + (m + pn) from (by simp only [List.length_append, List.length_cons, List.length_nil, List.length_take, List.length_drop]; omega))⟩ (by omega) (slots_at [0, 4, 3, 1, 2, 5, 6, 7] rfl)
                      · refine pxV (v := (.int .i64 (((pn) : Nat) : Int))) (fun _ _ hF => opMove rfl (hF.ev 2 rfl)) rfl (gOn 0 rfl rfl rfl (by decide)) (kA rfl) (by decide) ?_
                        refine pxV (v := (.bool true)) (fun _ _ hF => opGeq rfl (hF.ev 0 rfl) rfl (decide_eq_true (by omega))) rfl (gOn 1 rfl rfl rfl (by decide)) (kM [false, true, true, true, true, true, true, true, true, true, true, true] rfl rfl) (by decide) ?_
                        refine pxV (v := (.bool true)) (fun _ _ hF => opPickF rfl (hF.ev 1 rfl) (hF.ev 0 rfl)) rfl (gOn 2 rfl rfl rfl (by decide)) (kM [false, false, true, true, true, true, true, true, true, true, true, true] rfl rfl) (by decide) ?_
                        refine pxV (v := (.bool true)) (fun _ _ hF => opPickT rfl (hF.ev 1 rfl) (hF.ev 0 rfl)) rfl (fun _ _ => rfl) (kM [false, false, true, true, true, true, true, true, true, true, true] rfl rfl) (by decide) ?_
                        refine pxV (v := (.bool true)) (fun _ _ hF => opAssign rfl (hF.ev 0 rfl)) rfl (fun _ _ => rfl) (kM [false, true, true, true, true, true, true, true, true, true] rfl rfl) (by decide) ?_
                        refine pxEnd ?_
                        refine qxThen ?_
                        refine cxSeq ?_
                        refine cxRegX mixedOrders (by kernel_rfl) ?_
                        replace hH := hH.drew
                        refine rxV 0 rfl (by kernel_rfl) rfl (fun _ _ => rfl) (fun _ _ hF => opMove rfl (hF.ev 6 rfl)) (kA rfl) (by decide) (v := (.slice A1 B.length c1)) ?_
                        refine rxV 1 rfl (by kernel_rfl) rfl (fun _ _ => rfl) (fun _ _ hF => opMove rfl (hF.ev 9 rfl)) (kA rfl) (by decide) (v := (.slice (some ⟨b6, off7, none⟩) pw.length cp)) ?_
                        refine rxV 2 rfl (by kernel_rfl) rfl (fun _ _ => rfl) (fun _ _ hF => opMove rfl (hF.ev 4 rfl)) (kM [true, true, true, true, false, true, true, true, true, true, true, true] rfl rfl) (by decide) (v := (.int .i64 (((i) : Nat) : Int))) ?_
                        have hi316 : i < pw.length := by omega
                        have hj319 : i < pw.length := by first | exact hi316 | (simp only [List.length_drop, List.length_take]; omega) | omega
                        refine rxV 3 rfl (by kernel_rfl) rfl (fun _ _ => rfl) (fun _ _ hF => opIndex (i := i) (e := 5) (sz := 1) rfl (by kernel_rfl) (by kernel_rfl) (hF.ev 1 rfl) (hF.ev 0 rfl) rfl hi316) (kM [false, false, true, true, true, true, true, true, true, true, true, true] rfl rfl) (by decide) (v := (.pointer (some ⟨b6, off7 + i * 1, none⟩))) ?_
                        refine rxS (fun w => HoldsL cByte w b6 off7 pw) 4 rfl (by kernel_rfl) rfl (fun _ _ => rfl) (hH.holdsL hL8 hb9 hR10) (fun _ _ hF hS => opLoadT (C := cByte) (y := x0) rfl (hF.ev 0 rfl) (by kernel_rfl) (hS i _ hx0) rfl) (kM [false, true, true, true, true, true, true, true, true, true, true] rfl rfl) (by decide) (v := (.int .u8 (((x0.toNat) : Nat) : Int))) ?_
                        refine rxV 5 rfl (by kernel_rfl) rfl (fun _ _ => rfl) (fun _ _ hF => opRem (z := ((x0.toNat % 14 : Nat) : Int)) rfl (hF.ev 0 rfl) rfl (by omega) remN) (kM [false, true, true, true, true, true, true, true, true, true, true] rfl rfl) (by decide) (v := (.int .u8 (((x0.toNat % 14) : Nat) : Int))) ?_
                        refine rxV 6 rfl (by kernel_rfl) rfl (fun _ _ => rfl) (fun _ _ hF => opAddU (m := 224) (j := x0.toNat % 14) (z := ((UInt8.ofNat (224 + x0.toNat % 14)).toNat)) rfl rfl rfl (hF.ev 0 rfl) (by rw [ofNat_toNat (by omega)]; show (224 + x0.toNat % 14) % 256 = _; omega)) (kM [false, true, true, true, true, true, true, true, true, true, true] rfl rfl) (by decide) (v := (.int .u8 ((((UInt8.ofNat (224 + x0.toNat % 14)).toNat) : Nat) : Int))) ?_
                        refine rxV 9 rfl (by kernel_rfl) rfl (fun _ _ => rfl) (fun _ _ hF => opMove rfl (hF.ev 6 rfl)) (kA rfl) (by decide) (v := (.slice Ar nr cr)) ?_
                        refine rxV 10 rfl (by kernel_rfl) rfl (fun _ _ => rfl) (fun _ _ hF => opMove rfl (hF.ev 4 rfl)) (kA rfl) (by decide) (v := (.int .i64 (((pn) : Nat) : Int))) ?_
                        refine rxV 11 rfl (by kernel_rfl) rfl (fun _ _ => rfl) (fun _ _ hF => opCutH (h := pn) (e := 5) (sz := 1) rfl (by kernel_rfl) (by kernel_rfl) (hF.ev 1 rfl) (hF.ev 0 rfl) rfl (by omega)) (kM [false, false, true, true, true, true, true, true, true, true, true, true, true] rfl rfl) (by decide) (v := (.slice Ar pn cr)) ?_
                        refine rx1 7 (by kernel_rfl) ?_
                        refine moM rfl hH (fun _ hF => smLit1 (e := 5) (sz := 1) (z := (.int .u8 0)) (by_ := 1) (cs := cByte.enc (UInt8.ofNat (224 + x0.toNat % 14))) rfl (by kernel_rfl) (by kernel_rfl) (hF.ev 1 rfl) (cByte.len (UInt8.ofNat (224 + x0.toNat % 14))) (ltb rfl) (leb rfl) rfl) trivial rfl (fun _ _ => rfl) (kM [true, false, true, true, true, true, true, true, true, true, true, true] rfl rfl) (by decide) (PendOk.go [6, 5] (by kernel_rfl) (PendOk.nil _ [])) ?_
                        clear hH
                        rintro _ _ w ⟨g320, rfl, rfl⟩ hH
                        replace hH : HH w0 [] [E1, [bl g320 5 (cByte.enc (UInt8.ofNat (224 + x0.toNat % 14)))]] w := hH
                        refine ⟨(fun _ hs => by cases hs), ?_⟩
                        refine rx1 8 (by kernel_rfl) ?_
                        refine moE 0 rfl hH rfl (fun _ hF => smAppT (C := cByte) (l := B) (m := [(UInt8.ofNat (224 + x0.toNat % 14))]) (e := 5) (z := (.int .u8 0)) (by_ := 1) rfl (by kernel_rfl) (by kernel_rfl) rfl (ltb rfl) (hF.ev 2 rfl) hO (hF.ev 0 rfl) rfl (fun h => by cases h) (by unfold maxLen; omega) (by omega)) ((Bk.lit1 (C := cByte) (UInt8.ofNat (224 + x0.toNat % 14))).vu (hH.blk 1 rfl) rfl) rfl (fun _ _ => rfl) (kM [false, true, false, true, true, true, true, true, true, true, true, true] rfl rfl) (by decide) (PendOk.nil _ []) ?_
                        clear hH
                        rintro v323 E324 w ⟨hO325, _⟩ hH
                        replace hH : HH w0 [] [E324, [bl g320 5 (cByte.enc (UInt8.ofNat (224 + x0.toNat % 14)))]] w := hH
                        replace hO325 : OwnT cByte 5 v323 (B ++ [(UInt8.ofNat (224 + x0.toNat % 14))]) E324 := hO325
                        obtain ⟨A321, c322, rfl⟩ := hO325.slice
                        refine ⟨(fun _ hs => by cases hs), ?_⟩
                        refine rx1 12 (by kernel_rfl) ?_
                        refine moE 0 rfl hH rfl (fun _ hF => smAppT (C := cByte) (l := (B ++ [(UInt8.ofNat (224 + x0.toNat % 14))])) (m := ((body.drop m).take pn)) (e := 5) (z := (.int .u8 0)) (by_ := 1) rfl (by kernel_rfl) (by kernel_rfl) rfl (ltb rfl) (hF.ev 0 rfl) hO325 (hF.ev 1 rfl) (by rw [List.length_take, List.length_drop]; omega) (((hH.vu hVr (by decide) (Off.nil _ _)).head (m := pn) (by omega))).nilA (by simp only [List.length_append, List.length_cons, List.length_nil]; unfold maxLen; omega) (by simp only [List.length_append, List.length_cons, List.length_nil]; omega)) ((hH.vu hVr (by decide) (Off.nil _ _)).head (m := pn) (by omega)) rfl (fun _ _ => rfl) (kM [false, false, true, true, true, true, true, true, true, true, true] rfl rfl) (by decide) (PendOk.nil _ []) ?_
                        clear hH
                        rintro v328 E329 w ⟨hO330, _⟩ hH
                        replace hH : HH w0 [] [E329, [bl g320 5 (cByte.enc (UInt8.ofNat (224 + x0.toNat % 14)))]] w := hH
                        replace hO330 : OwnT cByte 5 v328 ((B ++ [(UInt8.ofNat (224 + x0.toNat % 14))]) ++ ((body.drop m).take pn)) E329 := hO330
                        obtain ⟨A326, c327, rfl⟩ := hO330.slice
                        refine ⟨(fun _ hs => by cases hs), ?_⟩
                        refine rxV 13 rfl (by kernel_rfl) rfl (fun _ _ => rfl) (fun _ _ hF => opAssign rfl (hF.ev 0 rfl)) (kM [false, true, true, true, true, true, false, true, true, true] rfl rfl) (by decide) (v := (.slice A326 (((B ++ [(UInt8.ofNat (224 + x0.toNat % 14))]) ++ ((body.drop m).take pn)).length) c327)) ?_
                        refine rxEnd (by kernel_rfl) ?_
                        refine qxThen ?_
                        refine cxReg ?_
                        refine pxV (v := (.slice Ar nr cr)) (fun _ _ hF => opMove rfl (hF.ev 5 rfl)) rfl (fun _ _ => rfl) (kM [true, true, true, true, true, false, true, true, true] rfl rfl) (by decide) ?_
                        refine pxV (v := (.int .i64 (((pn) : Nat) : Int))) (fun _ _ hF => opMove rfl (hF.ev 3 rfl)) rfl (fun _ _ => rfl) (kM [true, true, true, false, true, true, true, true, true] rfl rfl) (by decide) ?_
                        refine pxV (v := (.slice (cutA Ar cr pn 1) (nr - pn) (cr - pn))) (fun _ _ hF => opCutL (k := pn) (e := 5) (sz := 1) rfl (by kernel_rfl) (by kernel_rfl) (hF.ev 1 rfl) (hF.ev 0 rfl) rfl (by omega)) rfl (fun _ _ => rfl) (kM [false, false, true, true, true, true, true, true, true] rfl rfl) (by decide) ?_
                        refine pxV (v := (.slice (cutA Ar cr pn 1) (nr - pn) (cr - pn))) (fun _ _ hF => opAssign rfl (hF.ev 0 rfl)) rfl (fun _ _ => rfl) (kM [false, true, true, true, true, true, true, true] rfl rfl) (by decide) ?_
                        refine pxEnd ?_
                        refine qxInN ?_
                        refine qxThen ?_
                        refine cxReg ?_
                        refine pxV (v := (.int .i64 (((i + 1) : Nat) : Int))) (fun _ _ hF => opAdd rfl (hF.ev 3 rfl) rfl (wI (by omega) (by omega) (by omega))) rfl (fun _ _ => rfl) (kM [true, true, true, false, true, true, true, true] rfl rfl) (by decide) ?_
                        refine pxV (v := (.int .i64 (((i + 1) : Nat) : Int))) (fun _ _ hF => opMove rfl (hF.ev 0 rfl)) rfl (fun _ _ => rfl) (kM [false, true, true, true, true, true, true, true] rfl rfl) (by decide) ?_
                        refine pxEnd ?_
                        replace hH : HH w0 [] [E329] w := hH.only [true, false]
                        have hV2 := hVr.from (k := pn) (by omega)
                        rw [List.drop_drop] at hV2
                        exact qxRound (i + 1, A326, c327, ((B ++ [(UInt8.ofNat (224 + x0.toNat % 14))]) ++ ((body.drop m).take pn)), E329, (cutA Ar cr pn 1), (nr - pn), (cr - pn), m + pn, ((P ++ [UInt8.ofNat (224 + x0.toNat % 14)]) ++ (body.drop m).take (pn)), true) ⟨hH, (show (i + 1) ≤ pw.length from (by omega)), hO330, (by rw [hB]; simp), (show PInv (1 + tag.toNat % 20) body ((P ++ [UInt8.ofNat (224 + x0.toNat % 14)]) ++ (body.drop m).take (pn)) (i + 1) (m + pn) true from (PInv.good hpn hI hg202 (Nat.mod_lt _ (by decide)) hmay (by omega) (by omega) hbody)), hV2, (show (nr - pn) + (m + pn) = body.length from (by omega)), (show ((B ++ [(UInt8.ofNat (224 + x0.toNat % 14))]) ++ ((body.drop m).take pn)).length ≤ 1 + (i + 1) + (m + pn) from (by simp only [List.length_append, List.length_cons, List.length_nil, List.length_take, List.length_drop]; omega))⟩ (by omega) (slots_at [0, 4, 3, 1, 2, 5, 6, 7] rfl)
                    · have hmay : mayT (1 + tag.toNat % 20) = false := mayT_no (by omega)
                      refine pxU rfl (gOff 0 rfl rfl rfl (by decide)) (kA rfl) (by decide) ?_
                      refine pxU rfl (gOff 0 rfl rfl rfl (by decide)) (kA rfl) (by decide) ?_
                      refine pxUK rfl (gOff 0 rfl rfl rfl (by decide)) (kA rfl) (by decide) ?_
                      refine pxU rfl (gOffU 0 rfl rfl rfl) (kA rfl) (by decide) ?_
                      refine pxU rfl (gOffU 0 rfl rfl rfl) (kA rfl) (by decide) ?_
                      refine pxU rfl (gOff 1 rfl rfl rfl (by decide)) (kM [false, true, true, true, true, true, true, true, true, true, true] rfl rfl) (by decide) ?_
                      refine pxV (v := (.bool false)) (fun _ _ hF => opPickF rfl (hF.ev 0 rfl) rfl) rfl (fun _ _ => rfl) (kM [false, true, true, true, true, true, true, true, true, true] rfl rfl) (by decide) ?_
                      refine pxV (v := (.bool false)) (fun _ _ hF => opAssign rfl (hF.ev 0 rfl)) rfl (fun _ _ => rfl) (kM [false, true, true, true, true, true, true, true, true, true] rfl rfl) (by decide) ?_
                      refine pxEnd ?_
                      refine qxThen ?_
                      refine cxSeq ?_
                      refine cxRegX mixedOrders (by kernel_rfl) ?_
                      replace hH := hH.drew
                      refine rxV 0 rfl (by kernel_rfl) rfl (fun _ _ => rfl) (fun _ _ hF => opMove rfl (hF.ev 6 rfl)) (kA rfl) (by decide) (v := (.slice A1 B.length c1)) ?_
                      refine rxV 1 rfl (by kernel_rfl) rfl (fun _ _ => rfl) (fun _ _ hF => opMove rfl (hF.ev 9 rfl)) (kA rfl) (by decide) (v := (.slice (some ⟨b6, off7, none⟩) pw.length cp)) ?_
                      refine rxV 2 rfl (by kernel_rfl) rfl (fun _ _ => rfl) (fun _ _ hF => opMove rfl (hF.ev 4 rfl)) (kM [true, true, true, true, false, true, true, true, true, true, true, true] rfl rfl) (by decide) (v := (.int .i64 (((i) : Nat) : Int))) ?_
                      have hi331 : i < pw.length := by omega
                      have hj334 : i < pw.length := by first | exact hi331 | (simp only [List.length_drop, List.length_take]; omega) | omega
                      refine rxV 3 rfl (by kernel_rfl) rfl (fun _ _ => rfl) (fun _ _ hF => opIndex (i := i) (e := 5) (sz := 1) rfl (by kernel_rfl) (by kernel_rfl) (hF.ev 1 rfl) (hF.ev 0 rfl) rfl hi331) (kM [false, false, true, true, true, true, true, true, true, true, true, true] rfl rfl) (by decide) (v := (.pointer (some ⟨b6, off7 + i * 1, none⟩))) ?_
                      refine rxS (fun w => HoldsL cByte w b6 off7 pw) 4 rfl (by kernel_rfl) rfl (fun _ _ => rfl) (hH.holdsL hL8 hb9 hR10) (fun _ _ hF hS => opLoadT (C := cByte) (y := x0) rfl (hF.ev 0 rfl) (by kernel_rfl) (hS i _ hx0) rfl) (kM [false, true, true, true, true, true, true, true, true, true, true] rfl rfl) (by decide) (v := (.int .u8 (((x0.toNat) : Nat) : Int))) ?_
                      refine rxV 5 rfl (by kernel_rfl) rfl (fun _ _ => rfl) (fun _ _ hF => opRem (z := ((x0.toNat % 14 : Nat) : Int)) rfl (hF.ev 0 rfl) rfl (by omega) remN) (kM [false, true, true, true, true, true, true, true, true, true, true] rfl rfl) (by decide) (v := (.int .u8 (((x0.toNat % 14) : Nat) : Int))) ?_
                      refine rxV 6 rfl (by kernel_rfl) rfl (fun _ _ => rfl) (fun _ _ hF => opAddU (m := 224) (j := x0.toNat % 14) (z := ((UInt8.ofNat (224 + x0.toNat % 14)).toNat)) rfl rfl rfl (hF.ev 0 rfl) (by rw [ofNat_toNat (by omega)]; show (224 + x0.toNat % 14) % 256 = _; omega)) (kM [false, true, true, true, true, true, true, true, true, true, true] rfl rfl) (by decide) (v := (.int .u8 ((((UInt8.ofNat (224 + x0.toNat % 14)).toNat) : Nat) : Int))) ?_
                      refine rxV 9 rfl (by kernel_rfl) rfl (fun _ _ => rfl) (fun _ _ hF => opMove rfl (hF.ev 6 rfl)) (kA rfl) (by decide) (v := (.slice Ar nr cr)) ?_
                      refine rxV 10 rfl (by kernel_rfl) rfl (fun _ _ => rfl) (fun _ _ hF => opMove rfl (hF.ev 4 rfl)) (kA rfl) (by decide) (v := (.int .i64 (((pn) : Nat) : Int))) ?_
                      refine rxV 11 rfl (by kernel_rfl) rfl (fun _ _ => rfl) (fun _ _ hF => opCutH (h := pn) (e := 5) (sz := 1) rfl (by kernel_rfl) (by kernel_rfl) (hF.ev 1 rfl) (hF.ev 0 rfl) rfl (by omega)) (kM [false, false, true, true, true, true, true, true, true, true, true, true, true] rfl rfl) (by decide) (v := (.slice Ar pn cr)) ?_
                      refine rx1 7 (by kernel_rfl) ?_
                      refine moM rfl hH (fun _ hF => smLit1 (e := 5) (sz := 1) (z := (.int .u8 0)) (by_ := 1) (cs := cByte.enc (UInt8.ofNat (224 + x0.toNat % 14))) rfl (by kernel_rfl) (by kernel_rfl) (hF.ev 1 rfl) (cByte.len (UInt8.ofNat (224 + x0.toNat % 14))) (ltb rfl) (leb rfl) rfl) trivial rfl (fun _ _ => rfl) (kM [true, false, true, true, true, true, true, true, true, true, true, true] rfl rfl) (by decide) (PendOk.go [6, 5] (by kernel_rfl) (PendOk.nil _ [])) ?_
                      clear hH
                      rintro _ _ w ⟨g335, rfl, rfl⟩ hH
                      replace hH : HH w0 [] [E1, [bl g335 5 (cByte.enc (UInt8.ofNat (224 + x0.toNat % 14)))]] w := hH
                      refine ⟨(fun _ hs => by cases hs), ?_⟩
                      refine rx1 8 (by kernel_rfl) ?_
                      refine moE 0 rfl hH rfl (fun _ hF => smAppT (C := cByte) (l := B) (m := [(UInt8.ofNat (224 + x0.toNat % 14))]) (e := 5) (z := (.int .u8 0)) (by_ := 1) rfl (by kernel_rfl) (by kernel_rfl) rfl (ltb rfl) (hF.ev 2 rfl) hO (hF.ev 0 rfl) rfl (fun h => by cases h) (by unfold maxLen; omega) (by omega)) ((Bk.lit1 (C := cByte) (UInt8.ofNat (224 + x0.toNat % 14))).vu (hH.blk 1 rfl) rfl) rfl (fun _ _ => rfl) (kM [false, true, false, true, true, true, true, true, true, true, true, true] rfl rfl) (by decide) (PendOk.nil _ []) ?_
                      clear hH
                      rintro v338 E339 w ⟨hO340, _⟩ hH
                      replace hH : HH w0 [] [E339, [bl g335 5 (cByte.enc (UInt8.ofNat (224 + x0.toNat % 14)))]] w := hH
                      replace hO340 : OwnT cByte 5 v338 (B ++ [(UInt8.ofNat (224 + x0.toNat % 14))]) E339 := hO340
                      obtain ⟨A336, c337, rfl⟩ := hO340.slice
                      refine ⟨(fun _ hs => by cases hs), ?_⟩
                      refine rx1 12 (by kernel_rfl) ?_
                      refine moE 0 rfl hH rfl (fun _ hF => smAppT (C := cByte) (l := (B ++ [(UInt8.ofNat (224 + x0.toNat % 14))])) (m := ((body.drop m).take pn)) (e := 5) (z := (.int .u8 0)) (by_ := 1) rfl (by kernel_rfl) (by kernel_rfl) rfl (ltb rfl) (hF.ev 0 rfl) hO340 (hF.ev 1 rfl) (by rw [List.length_take, List.length_drop]; omega) (((hH.vu hVr (by decide) (Off.nil _ _)).head (m := pn) (by omega))).nilA (by simp only [List.length_append, List.length_cons, List.length_nil]; unfold maxLen; omega) (by simp only [List.length_append, List.length_cons, List.length_nil]; omega)) ((hH.vu hVr (by decide) (Off.nil _ _)).head (m := pn) (by omega)) rfl (fun _ _ => rfl) (kM [false, false, true, true, true, true, true, true, true, true, true] rfl rfl) (by decide) (PendOk.nil _ []) ?_
                      clear hH
                      rintro v343 E344 w ⟨hO345, _⟩ hH
                      replace hH : HH w0 [] [E344, [bl g335 5 (cByte.enc (UInt8.ofNat (224 + x0.toNat % 14)))]] w := hH
                      replace hO345 : OwnT cByte 5 v343 ((B ++ [(UInt8.ofNat (224 + x0.toNat % 14))]) ++ ((body.drop m).take pn)) E344 := hO345
                      obtain ⟨A341, c342, rfl⟩ := hO345.slice
                      refine ⟨(fun _ hs => by cases hs), ?_⟩
                      refine rxV 13 rfl (by kernel_rfl) rfl (fun _ _ => rfl) (fun _ _ hF => opAssign rfl (hF.ev 0 rfl)) (kM [false, true, true, true, true, true, false, true, true, true] rfl rfl) (by decide) (v := (.slice A341 (((B ++ [(UInt8.ofNat (224 + x0.toNat % 14))]) ++ ((body.drop m).take pn)).length) c342)) ?_
                      refine rxEnd (by kernel_rfl) ?_
                      refine qxThen ?_
                      refine cxReg ?_
                      refine pxV (v := (.slice Ar nr cr)) (fun _ _ hF => opMove rfl (hF.ev 5 rfl)) rfl (fun _ _ => rfl) (kM [true, true, true, true, true, false, true, true, true] rfl rfl) (by decide) ?_
                      refine pxV (v := (.int .i64 (((pn) : Nat) : Int))) (fun _ _ hF => opMove rfl (hF.ev 3 rfl)) rfl (fun _ _ => rfl) (kM [true, true, true, false, true, true, true, true, true] rfl rfl) (by decide) ?_
                      refine pxV (v := (.slice (cutA Ar cr pn 1) (nr - pn) (cr - pn))) (fun _ _ hF => opCutL (k := pn) (e := 5) (sz := 1) rfl (by kernel_rfl) (by kernel_rfl) (hF.ev 1 rfl) (hF.ev 0 rfl) rfl (by omega)) rfl (fun _ _ => rfl) (kM [false, false, true, true, true, true, true, true, true] rfl rfl) (by decide) ?_
                      refine pxV (v := (.slice (cutA Ar cr pn 1) (nr - pn) (cr - pn))) (fun _ _ hF => opAssign rfl (hF.ev 0 rfl)) rfl (fun _ _ => rfl) (kM [false, true, true, true, true, true, true, true] rfl rfl) (by decide) ?_
                      refine pxEnd ?_
                      refine qxInN ?_
                      refine qxThen ?_
                      refine cxReg ?_
                      refine pxV (v := (.int .i64 (((i + 1) : Nat) : Int))) (fun _ _ hF => opAdd rfl (hF.ev 3 rfl) rfl (wI (by omega) (by omega) (by omega))) rfl (fun _ _ => rfl) (kM [true, true, true, false, true, true, true, true] rfl rfl) (by decide) ?_
                      refine pxV (v := (.int .i64 (((i + 1) : Nat) : Int))) (fun _ _ hF => opMove rfl (hF.ev 0 rfl)) rfl (fun _ _ => rfl) (kM [false, true, true, true, true, true, true, true] rfl rfl) (by decide) ?_
                      refine pxEnd ?_
                      replace hH : HH w0 [] [E344] w := hH.only [true, false]
                      have hV2 := hVr.from (k := pn) (by omega)
                      rw [List.drop_drop] at hV2
                      exact qxRound (i + 1, A341, c342, ((B ++ [(UInt8.ofNat (224 + x0.toNat % 14))]) ++ ((body.drop m).take pn)), E344, (cutA Ar cr pn 1), (nr - pn), (cr - pn), m + pn, ((P ++ [UInt8.ofNat (224 + x0.toNat % 14)]) ++ (body.drop m).take (pn)), false) ⟨hH, (show (i + 1) ≤ pw.length from (by omega)), hO345, (by rw [hB]; simp), (PInv.bad hpn hI hg202 (Nat.mod_lt _ (by decide)) (.inl hmay) _ _), hV2, (show (nr - pn) + (m + pn) = body.length from (by omega)), (show ((B ++ [(UInt8.ofNat (224 + x0.toNat % 14))]) ++ ((body.drop m).take pn)).length ≤ 1 + (i + 1) + (m + pn) from (by simp only [List.length_append, List.length_cons, List.length_nil, List.length_take, List.length_drop]; omega))⟩ (by omega) (slots_at [0, 4, 3, 1, 2, 5, 6, 7] rfl)
            · refine pxU rfl (gOff 0 rfl rfl rfl (by decide)) (kA rfl) (by decide) ?_
              refine pxU rfl (gOff 0 rfl rfl rfl (by decide)) (kA rfl) (by decide) ?_
              refine pxUK rfl (gOff 0 rfl rfl rfl (by decide)) (kA rfl) (by decide) ?_
              refine pxU rfl (gOffU 0 rfl rfl rfl) (kA rfl) (by decide) ?_
              refine pxU rfl (gOffU 0 rfl rfl rfl) (kA rfl) (by decide) ?_
              refine pxU rfl (gOff 1 rfl rfl rfl (by decide)) (kM [false, true, true, true, true, true, true, true, true, true, true] rfl rfl) (by decide) ?_
              refine pxUK rfl (gOff 0 rfl rfl rfl (by decide)) (kA rfl) (by decide) ?_
              refine pxU rfl (gOffU 0 rfl rfl rfl) (kA rfl) (by decide) ?_
              refine pxU rfl (gOffU 0 rfl rfl rfl) (kA rfl) (by decide) ?_
              refine pxU rfl (gOff 1 rfl rfl rfl (by decide)) (kM [false, true, true, true, true, true, true, true, true, true, true] rfl rfl) (by decide) ?_
              refine pxUK rfl (gOff 0 rfl rfl rfl (by decide)) (kA rfl) (by decide) ?_
              refine pxU rfl (gOffU 0 rfl rfl rfl) (kA rfl) (by decide) ?_
              refine pxU rfl (gOffU 0 rfl rfl rfl) (kA rfl) (by decide) ?_
              refine pxU rfl (gOff 1 rfl rfl rfl (by decide)) (kM [false, true, true, true, true, true, true, true, true, true, true] rfl rfl) (by decide) ?_
              refine pxV (v := (.bool false)) (fun _ _ hF => opPickF rfl (hF.ev 0 rfl) rfl) rfl (fun _ _ => rfl) (kM [false, true, true, true, true, true, true, true, true, true] rfl rfl) (by decide) ?_
              refine pxV (v := (.bool false)) (fun _ _ hF => opMove rfl (hF.ev 0 rfl)) rfl (fun _ _ => rfl) (kM [false, true, true, true, true, true, true, true, true, true] rfl rfl) (by decide) ?_
              refine pxU rfl (gOff 0 rfl rfl rfl (by decide)) (kA rfl) (by decide) ?_
              refine pxU rfl (gOff 0 rfl rfl rfl (by decide)) (kA rfl) (by decide) ?_
              refine pxUK rfl (gOff 0 rfl rfl rfl (by decide)) (kA rfl) (by decide) ?_
              refine pxU rfl (gOffU 0 rfl rfl rfl) (kA rfl) (by decide) ?_
              refine pxU rfl (gOffU 0 rfl rfl rfl) (kA rfl) (by decide) ?_
              refine pxU rfl (gOff 1 rfl rfl rfl (by decide)) (kM [false, true, true, true, true, true, true, true, true, true, true] rfl rfl) (by decide) ?_
              refine pxV (v := (.bool false)) (fun _ _ hF => opPickF rfl (hF.ev 0 rfl) rfl) rfl (fun _ _ => rfl) (kM [false, true, true, true, true, true, true, true, true, true] rfl rfl) (by decide) ?_
              refine pxV (v := (.bool false)) (fun _ _ hF => opAssign rfl (hF.ev 0 rfl)) rfl (fun _ _ => rfl) (kM [false, true, true, true, true, true, true, true, true, true] rfl rfl) (by decide) ?_
              refine pxEnd ?_
              refine qxThen ?_
              refine cxSeq ?_
              refine cxRegX mixedOrders (by kernel_rfl) ?_
              replace hH := hH.drew
              refine rxV 0 rfl (by kernel_rfl) rfl (fun _ _ => rfl) (fun _ _ hF => opMove rfl (hF.ev 6 rfl)) (kA rfl) (by decide) (v := (.slice A1 B.length c1)) ?_
              refine rxV 1 rfl (by kernel_rfl) rfl (fun _ _ => rfl) (fun _ _ hF => opMove rfl (hF.ev 9 rfl)) (kA rfl) (by decide) (v := (.slice (some ⟨b6, off7, none⟩) pw.length cp)) ?_
              refine rxV 2 rfl (by kernel_rfl) rfl (fun _ _ => rfl) (fun _ _ hF => opMove rfl (hF.ev 4 rfl)) (kM [true, true, true, true, false, true, true, true, true, true, true, true] rfl rfl) (by decide) (v := (.int .i64 (((i) : Nat) : Int))) ?_
              have hi346 : i < pw.length := by omega
              have hj349 : i < pw.length := by first | exact hi346 | (simp only [List.length_drop, List.length_take]; omega) | omega
              refine rxV 3 rfl (by kernel_rfl) rfl (fun _ _ => rfl) (fun _ _ hF => opIndex (i := i) (e := 5) (sz := 1) rfl (by kernel_rfl) (by kernel_rfl) (hF.ev 1 rfl) (hF.ev 0 rfl) rfl hi346) (kM [false, false, true, true, true, true, true, true, true, true, true, true] rfl rfl) (by decide) (v := (.pointer (some ⟨b6, off7 + i * 1, none⟩))) ?_
              refine rxS (fun w => HoldsL cByte w b6 off7 pw) 4 rfl (by kernel_rfl) rfl (fun _ _ => rfl) (hH.holdsL hL8 hb9 hR10) (fun _ _ hF hS => opLoadT (C := cByte) (y := x0) rfl (hF.ev 0 rfl) (by kernel_rfl) (hS i _ hx0) rfl) (kM [false, true, true, true, true, true, true, true, true, true, true] rfl rfl) (by decide) (v := (.int .u8 (((x0.toNat) : Nat) : Int))) ?_
              refine rxV 5 rfl (by kernel_rfl) rfl (fun _ _ => rfl) (fun _ _ hF => opRem (z := ((x0.toNat % 14 : Nat) : Int)) rfl (hF.ev 0 rfl) rfl (by omega) remN) (kM [false, true, true, true, true, true, true, true, true, true, true] rfl rfl) (by decide) (v := (.int .u8 (((x0.toNat % 14) : Nat) : Int))) ?_
              refine rxV 6 rfl (by kernel_rfl) rfl (fun _ _ => rfl) (fun _ _ hF => opAddU (m := 224) (j := x0.toNat % 14) (z := ((UInt8.ofNat (224 + x0.toNat % 14)).toNat)) rfl rfl rfl (hF.ev 0 rfl) (by rw [ofNat_toNat (by omega)]; show (224 + x0.toNat % 14) % 256 = _; omega)) (kM [false, true, true, true, true, true, true, true, true, true, true] rfl rfl) (by decide) (v := (.int .u8 ((((UInt8.ofNat (224 + x0.toNat % 14)).toNat) : Nat) : Int))) ?_
              refine rxV 9 rfl (by kernel_rfl) rfl (fun _ _ => rfl) (fun _ _ hF => opMove rfl (hF.ev 6 rfl)) (kA rfl) (by decide) (v := (.slice Ar nr cr)) ?_
              refine rxV 10 rfl (by kernel_rfl) rfl (fun _ _ => rfl) (fun _ _ hF => opMove rfl (hF.ev 4 rfl)) (kA rfl) (by decide) (v := (.int .i64 (((pn) : Nat) : Int))) ?_
              refine rxV 11 rfl (by kernel_rfl) rfl (fun _ _ => rfl) (fun _ _ hF => opCutH (h := pn) (e := 5) (sz := 1) rfl (by kernel_rfl) (by kernel_rfl) (hF.ev 1 rfl) (hF.ev 0 rfl) rfl (by omega)) (kM [false, false, true, true, true, true, true, true, true, true, true, true, true] rfl rfl) (by decide) (v := (.slice Ar pn cr)) ?_
              refine rx1 7 (by kernel_rfl) ?_
              refine moM rfl hH (fun _ hF => smLit1 (e := 5) (sz := 1) (z := (.int .u8 0)) (by_ := 1) (cs := cByte.enc (UInt8.ofNat (224 + x0.toNat % 14))) rfl (by kernel_rfl) (by kernel_rfl) (hF.ev 1 rfl) (cByte.len (UInt8.ofNat (224 + x0.toNat % 14))) (ltb rfl) (leb rfl) rfl) trivial rfl (fun _ _ => rfl) (kM [true, false, true, true, true, true, true, true, true, true, true, true] rfl rfl) (by decide) (PendOk.go [6, 5] (by kernel_rfl) (PendOk.nil _ [])) ?_
              clear hH
              rintro _ _ w ⟨g350, rfl, rfl⟩ hH
              replace hH : HH w0 [] [E1, [bl g350 5 (cByte.enc (UInt8.ofNat (224 + x0.toNat % 14)))]] w := hH
              refine ⟨(fun _ hs => by cases hs), ?_⟩
              refine rx1 8 (by kernel_rfl) ?_
              refine moE 0 rfl hH rfl (fun _ hF => smAppT (C := cByte) (l := B) (m := [(UInt8.ofNat (224 + x0.toNat % 14))]) (e := 5) (z := (.int .u8 0)) (by_ := 1) rfl (by kernel_rfl) (by kernel_rfl) rfl (ltb rfl) (hF.ev 2 rfl) hO (hF.ev 0 rfl) rfl (fun h => by cases h) (by unfold maxLen; omega) (by omega)) ((Bk.lit1 (C := cByte) (UInt8.ofNat (224 + x0.toNat % 14))).vu (hH.blk 1 rfl) rfl) rfl (fun _ _ => rfl) (kM [false, true, false, true, true, true, true, true, true, true, true, true] rfl rfl) (by decide) (PendOk.nil _ []) ?_
              clear hH
              rintro v353 E354 w ⟨hO355, _⟩ hH
              replace hH : HH w0 [] [E354, [bl g350 5 (cByte.enc (UInt8.ofNat (224 + x0.toNat % 14)))]] w := hH
              replace hO355 : OwnT cByte 5 v353 (B ++ [(UInt8.ofNat (224 + x0.toNat % 14))]) E354 := hO355
              obtain ⟨A351, c352, rfl⟩ := hO355.slice
              refine ⟨(fun _ hs => by cases hs), ?_⟩
              refine rx1 12 (by kernel_rfl) ?_
              refine moE 0 rfl hH rfl (fun _ hF => smAppT (C := cByte) (l := (B ++ [(UInt8.ofNat (224 + x0.toNat % 14))])) (m := ((body.drop m).take pn)) (e := 5) (z := (.int .u8 0)) (by_ := 1) rfl (by kernel_rfl) (by kernel_rfl) rfl (ltb rfl) (hF.ev 0 rfl) hO355 (hF.ev 1 rfl) (by rw [List.length_take, List.length_drop]; omega) (((hH.vu hVr (by decide) (Off.nil _ _)).head (m := pn) (by omega))).nilA (by simp only [List.length_append, List.length_cons, List.length_nil]; unfold maxLen; omega) (by simp only [List.length_append, List.length_cons, List.length_nil]; omega)) ((hH.vu hVr (by decide) (Off.nil _ _)).head (m := pn) (by omega)) rfl (fun _ _ => rfl) (kM [false, false, true, true, true, true, true, true, true, true, true] rfl rfl) (by decide) (PendOk.nil _ []) ?_
              clear hH
              rintro v358 E359 w ⟨hO360, _⟩ hH
              replace hH : HH w0 [] [E359, [bl g350 5 (cByte.enc (UInt8.ofNat (224 + x0.toNat % 14)))]] w := hH
              replace hO360 : OwnT cByte 5 v358 ((B ++ [(UInt8.ofNat (224 + x0.toNat % 14))]) ++ ((body.drop m).take pn)) E359 := hO360
              obtain ⟨A356, c357, rfl⟩ := hO360.slice
              refine ⟨(fun _ hs => by cases hs), ?_⟩
              refine rxV 13 rfl (by kernel_rfl) rfl (fun _ _ => rfl) (fun _ _ hF => opAssign rfl (hF.ev 0 rfl)) (kM [false, true, true, true, true, true, false, true, true, true] rfl rfl) (by decide) (v := (.slice A356 (((B ++ [(UInt8.ofNat (224 + x0.toNat % 14))]) ++ ((body.drop m).take pn)).length) c357)) ?_
              refine rxEnd (by kernel_rfl) ?_
              refine qxThen ?_
              refine cxReg ?_
              refine pxV (v := (.slice Ar nr cr)) (fun _ _ hF => opMove rfl (hF.ev 5 rfl)) rfl (fun _ _ => rfl) (kM [true, true, true, true, true, false, true, true, true] rfl rfl) (by decide) ?_
              refine pxV (v := (.int .i64 (((pn) : Nat) : Int))) (fun _ _ hF => opMove rfl (hF.ev 3 rfl)) rfl (fun _ _ => rfl) (kM [true, true, true, false, true, true, true, true, true] rfl rfl) (by decide) ?_
              refine pxV (v := (.slice (cutA Ar cr pn 1) (nr - pn) (cr - pn))) (fun _ _ hF => opCutL (k := pn) (e := 5) (sz := 1) rfl (by kernel_rfl) (by kernel_rfl) (hF.ev 1 rfl) (hF.ev 0 rfl) rfl (by omega)) rfl (fun _ _ => rfl) (kM [false, false, true, true, true, true, true, true, true] rfl rfl) (by decide) ?_
              refine pxV (v := (.slice (cutA Ar cr pn 1) (nr - pn) (cr - pn))) (fun _ _ hF => opAssign rfl (hF.ev 0 rfl)) rfl (fun _ _ => rfl) (kM [false, true, true, true, true, true, true, true] rfl rfl) (by decide) ?_
              refine pxEnd ?_
              refine qxInN ?_
              refine qxThen ?_
              refine cxReg ?_
              refine pxV (v := (.int .i64 (((i + 1) : Nat) : Int))) (fun _ _ hF => opAdd rfl (hF.ev 3 rfl) rfl (wI (by omega) (by omega) (by omega))) rfl (fun _ _ => rfl) (kM [true, true, true, false, true, true, true, true] rfl rfl) (by decide) ?_
              refine pxV (v := (.int .i64 (((i + 1) : Nat) : Int))) (fun _ _ hF => opMove rfl (hF.ev 0 rfl)) rfl (fun _ _ => rfl) (kM [false, true, true, true, true, true, true, true] rfl rfl) (by decide) ?_
              refine pxEnd ?_
              replace hH : HH w0 [] [E359] w := hH.only [true, false]
              have hV2 := hVr.from (k := pn) (by omega)
              rw [List.drop_drop] at hV2
              exact qxRound (i + 1, A356, c357, ((B ++ [(UInt8.ofNat (224 + x0.toNat % 14))]) ++ ((body.drop m).take pn)), E359, (cutA Ar cr pn 1), (nr - pn), (cr - pn), m + pn, ((P ++ [UInt8.ofNat (224 + x0.toNat % 14)]) ++ (body.drop m).take (pn)), false) ⟨hH, (show (i + 1) ≤ pw.length from (by omega)), hO360, (by rw [hB]; simp), (hI.same hg202 _ _ _), hV2, (show (nr - pn) + (m + pn) = body.length from (by omega)), (show ((B ++ [(UInt8.ofNat (224 + x0.toNat % 14))]) ++ ((body.drop m).take pn)).length ≤ 1 + (i + 1) + (m + pn) from (by simp only [List.length_append, List.length_cons, List.length_nil, List.length_take, List.length_drop]; omega))⟩ (by omega) (slots_at [0, 4, 3, 1, 2, 5, 6, 7] rfl)
      · refine cxExit ?_
        refine qxThenE ?_
        refine qxThenE ?_
        refine qxInE ?_
        refine qxThen ?_
        refine cxSeq ?_
        have hl0 := (lenL_len (n := nr)).2
        have hdl : (body.drop m).length = nr := by rw [List.length_drop]; omega
        refine cxReg ?_
        refine pxV (v := (.slice A1 B.length c1)) (fun _ _ hF => opMove rfl (hF.ev 5 rfl)) rfl (fun _ _ => rfl) (kM [false, false, false, true, true, false, true, false, true] rfl rfl) (by decide) ?_
        refine pxV (v := (.slice Ar nr cr)) (fun _ _ hF => opMove rfl (hF.ev 2 rfl)) rfl (fun _ _ => rfl) (kA rfl) (by decide) ?_
        refine pxV (v := (.int .i64 (((nr) : Nat) : Int))) (fun _ _ hF => opLen (e := 5) rfl (by kernel_rfl) (hF.ev 0 rfl)) rfl (fun _ _ => rfl) (kM [false, true, true, true, true, true] rfl rfl) (by decide) ?_
        refine pxM hH (fun _ hF => Does.small (length_r nr (by omega)) (fun w => opCall rfl Try.func18 rfl rfl (Evs.cons (v := (.int .i64 (((nr) : Nat) : Int))) (hF.ev 0 rfl) Evs.nil) w)) trivial rfl (fun _ _ => rfl) (kM [false, true, true, true, true, true] rfl rfl) (by decide) ?_
        clear hH
        rintro v365 E361 w hO362 hH
        replace hH : HH w0 [] [E1, E361] w := hH
        obtain ⟨A363, c364, rfl⟩ := hO362.slice
        refine pxE 0 hH rfl (fun _ hF => smAppT (C := cByte) (l := B) (m := (lenL nr)) (e := 5) (z := (.int .u8 0)) (by_ := 1) rfl (by kernel_rfl) (by kernel_rfl) rfl (ltb rfl) (hF.ev 1 rfl) hO (hF.ev 0 rfl) rfl hO362.nilA (by unfold maxLen; omega) (by omega)) (hO362.vuAt (hH.has 1 rfl)) rfl (fun _ _ => rfl) (kM [false, false, true, true, true, true] rfl rfl) (by decide) ?_
        clear hH
        rintro v369 E370 w ⟨hO371, _⟩ hH
        replace hH : HH w0 [] [E370, E361] w := hH
        replace hO371 : OwnT cByte 5 v369 (B ++ (lenL nr)) E370 := hO371
        obtain ⟨A367, c368, rfl⟩ := hO371.slice
        refine pxV (v := (.slice Ar nr cr)) (fun _ _ hF => opMove rfl (hF.ev 2 rfl)) rfl (fun _ _ => rfl) (kM [true, true, false, true, true] rfl rfl) (by decide) ?_
        refine pxE 0 hH rfl (fun _ hF => smAppT (C := cByte) (l := (B ++ (lenL nr))) (m := (body.drop m)) (e := 5) (z := (.int .u8 0)) (by_ := 1) rfl (by kernel_rfl) (by kernel_rfl) rfl (ltb rfl) (hF.ev 1 rfl) hO371 (hF.ev 0 rfl) hdl hVr.nilA (by rw [List.length_append]; unfold maxLen; omega) (by rw [List.length_append]; omega)) (hH.vu hVr (by decide) (Off.nil _ _)) rfl (fun _ _ => rfl) (kM [false, false, true, true, true] rfl rfl) (by decide) ?_
        clear hH
        rintro v374 E375 w ⟨hO376, _⟩ hH
        replace hH : HH w0 [] [E375, E361] w := hH
        replace hO376 : OwnT cByte 5 v374 ((B ++ (lenL nr)) ++ (body.drop m)) E375 := hO376
        obtain ⟨A372, c373, rfl⟩ := hO376.slice
        refine pxV (v := (.slice A372 (((B ++ (lenL nr)) ++ (body.drop m)).length) c373)) (fun _ _ hF => opAssign rfl (hF.ev 0 rfl)) rfl (fun _ _ => rfl) (kM [false, true, true, true] rfl rfl) (by decide) ?_
        refine pxEnd ?_
        refine qxThen ?_
        refine cxSeq ?_
        refine cxReg ?_
        refine pxV (v := (.slice A372 (((B ++ (lenL nr)) ++ (body.drop m)).length) c373)) (fun _ _ hF => opMove rfl (hF.ev 0 rfl)) rfl (fun _ _ => rfl) (kM [false, true, true, true] rfl rfl) (by decide) ?_
        refine pxM hH (fun _ hF => Does.small (parse_c c373 A372 ((B ++ (lenL nr)) ++ (body.drop m)) (by simp only [List.length_append]; omega)) (fun w => opCall rfl Try.func14 rfl rfl (Evs.cons (v := (.slice A372 (((B ++ (lenL nr)) ++ (body.drop m)).length) c373)) (hF.ev 0 rfl) Evs.nil) w)) (hO376.vuAt (hH.has 0 rfl)) rfl (fun _ _ => rfl) (kM [false, true, true, true] rfl rfl) (by decide) ?_
        clear hH
        rintro _ _ w ⟨s377, rfl, L382, E378, E379, rfl, hO380, hB381⟩ hH
        replace hH : HH w0 [] [E375, E361, ([E378, E379] : List Hl).flatten] w := hH
        obtain ⟨A383, c384, rfl⟩ := hO380.slice
        replace hH : HH w0 [] [E375, E361, E378, E379] w := hH.cast (by simp)
        refine pxV (v := (.tuple #[(.slice A383 L382.length c384), (.int .i64 ((((prs [] ((B ++ (lenL nr)) ++ (body.drop m))).1) : Nat) : Int))])) (fun _ _ hF => opMove rfl (hF.ev 0 rfl)) rfl (fun _ _ => rfl) (kM [false, true, true, true] rfl rfl) (by decide) ?_
        refine pxV (v := (.slice A383 L382.length c384)) (fun _ _ hF => opExtract rfl (hF.ev 0 rfl) rfl) rfl (fun _ _ => rfl) (kA rfl) (by decide) ?_
        refine pxV (v := (.int .i64 ((((prs [] ((B ++ (lenL nr)) ++ (body.drop m))).1) : Nat) : Int))) (fun _ _ hF => opExtract rfl (hF.ev 1 rfl) rfl) rfl (fun _ _ => rfl) (kM [true, false, true, true, true] rfl rfl) (by decide) ?_
        refine pxV (v := (.slice A383 L382.length c384)) (fun _ _ hF => opAssign rfl (hF.ev 1 rfl)) rfl (fun _ _ => rfl) (kM [true, false, true, true, true] rfl rfl) (by decide) ?_
        refine pxV (v := (.int .i64 ((((prs [] ((B ++ (lenL nr)) ++ (body.drop m))).1) : Nat) : Int))) (fun _ _ hF => opAssign rfl (hF.ev 1 rfl)) rfl (fun _ _ => rfl) (kM [true, false, true, true, true] rfl rfl) (by decide) ?_
        refine pxEnd ?_
        refine qxThen ?_
        refine cxSeq ?_
        refine cxSeq ?_
        refine cxReg ?_
        refine pxV (v := (.bool (right))) (fun _ _ hF => opMove rfl (hF.ev 2 rfl)) rfl (fun _ _ => rfl) (kM [true, true, false, true, true] rfl rfl) (by decide) ?_
        refine pxV (v := (.bool (!(right)))) (fun _ _ hF => opNot rfl (hF.ev 0 rfl) rfl) rfl (fun _ _ => rfl) (kM [false, true, true, true, true] rfl rfl) (by decide) ?_
        refine pxEnd ?_
        refine qxThen ?_
        refine cxB 0 rfl rfl (fun hc387 => ?_) (fun hc387 => ?_)
        · replace hc387 : right = false := by simpa using hc387
          have hp : prs [] ((B ++ (lenL nr)) ++ (body.drop m)) = (2, []) := by rw [hB]; exact parts_wrong (by omega) (by omega) (hI.wr hc387) _ _
          refine cxSeq ?_
          refine cxReg ?_
          refine pxV (v := (.int .i64 ((((prs [] ((B ++ (lenL nr)) ++ (body.drop m))).1) : Nat) : Int))) (fun _ _ hF => opMove rfl (hF.ev 1 rfl)) rfl (fun _ _ => rfl) (kM [false, false, true, false, false] rfl rfl) (by decide) ?_
          refine pxV (v := (.bool true)) (fun _ _ hF => opEqI rfl (hF.ev 0 rfl) rfl (decide_eq_true (by rw [hp]; rfl))) rfl (fun _ _ => rfl) (kM [false, true] rfl rfl) (by decide) ?_
          refine pxV (v := (.bool true)) (fun _ _ hF => opMove rfl (hF.ev 0 rfl)) rfl (fun _ _ => rfl) (kM [false, true] rfl rfl) (by decide) ?_
          refine pxV (v := (.slice A383 L382.length c384)) (fun _ _ hF => opMove rfl (hF.ev 1 rfl)) rfl (gOn 0 rfl rfl rfl (by decide)) (kM [true, false] rfl rfl) (by decide) ?_
          refine pxV (v := (.int .i64 (((L382.length) : Nat) : Int))) (fun _ _ hF => opLen (e := 31) rfl (by kernel_rfl) (hF.ev 0 rfl)) rfl (gOn 1 rfl rfl rfl (by decide)) (kM [false, true] rfl rfl) (by decide) ?_
          refine pxV (v := (.bool true)) (fun _ _ hF => opEqI rfl (hF.ev 0 rfl) rfl (decide_eq_true (by rw [hB381.len, hp]; rfl))) rfl (gOn 1 rfl rfl rfl (by decide)) (kM [false, true] rfl rfl) (by decide) ?_
          refine pxV (v := (.bool true)) (fun _ _ hF => opPickT rfl (hF.ev 1 rfl) (hF.ev 0 rfl)) rfl (fun _ _ => rfl) (kM [false, false] rfl rfl) (by decide) ?_
          refine pxV (v := (.bool true)) (fun _ _ hF => opAssign rfl (hF.ev 0 rfl)) rfl (fun _ _ => rfl) (kM [false] rfl rfl) (by decide) ?_
          refine pxEnd ?_
          refine qxThen ?_
          refine cxRet ?_
          refine qxThenR ?_
          refine qxRet1 0 rfl rfl ?_
          exact ⟨rfl, HH.toBelow hH⟩
        · replace hc387 : right = true := by simpa using hc387
          have hp : prs [] ((B ++ (lenL nr)) ++ (body.drop m)) = (0, [((((1 + tag.toNat % 20) : Nat) : Int), body)]) := by rw [hB, show nr = body.length - m by omega]; exact parts_right (by omega) (by omega) (hI.ri hc387) hbody (by omega)
          refine cxSkip ?_
          refine qxThen ?_
          refine cxSeq ?_
          refine cxReg ?_
          refine pxV (v := (.int .i64 ((((prs [] ((B ++ (lenL nr)) ++ (body.drop m))).1) : Nat) : Int))) (fun _ _ hF => opMove rfl (hF.ev 1 rfl)) rfl (fun _ _ => rfl) (kM [false, false, true, true, true] rfl rfl) (by decide) ?_
          refine pxV (v := (.bool true)) (fun _ _ hF => opEqI rfl (hF.ev 0 rfl) rfl (decide_eq_true (by rw [hp]; rfl))) rfl (fun _ _ => rfl) (kM [false, true, true, true] rfl rfl) (by decide) ?_
          refine pxV (v := (.bool true)) (fun _ _ hF => opMove rfl (hF.ev 0 rfl)) rfl (fun _ _ => rfl) (kM [false, true, true, true] rfl rfl) (by decide) ?_
          refine pxV (v := (.slice A383 L382.length c384)) (fun _ _ hF => opMove rfl (hF.ev 1 rfl)) rfl (gOn 0 rfl rfl rfl (by decide)) (kM [true, false, true, true] rfl rfl) (by decide) ?_
          refine pxV (v := (.int .i64 (((1 + tag.toNat % 20) : Nat) : Int))) (fun _ _ hF => opMove rfl (hF.ev 2 rfl)) rfl (gOn 1 rfl rfl rfl (by decide)) (kM [true, true, false, true] rfl rfl) (by decide) ?_
          refine pxV (v := (.slice Ab body.length cb)) (fun _ _ hF => opMove rfl (hF.ev 3 rfl)) rfl (gOn 2 rfl rfl rfl (by decide)) (kM [true, true, true, false] rfl rfl) (by decide) ?_
          refine pxV (v := (.agg #[(.int .i64 (((1 + tag.toNat % 20) : Nat) : Int)), (.slice Ab body.length cb)])) (fun _ _ hF => opBuildP (cells := #[(.int .i64 (((1 + tag.toNat % 20) : Nat) : Int)), (.slice Ab body.length cb)]) rfl (EvP.cons (v := (.int .i64 (((1 + tag.toNat % 20) : Nat) : Int))) (hF.ev 1 rfl) (EvP.cons (v := (.slice Ab body.length cb)) (hF.ev 0 rfl) EvP.nil)) rfl _) rfl (gOn 3 rfl rfl rfl (by decide)) (kM [false, false, true, true] rfl rfl) (by decide) ?_
          refine pxM hH (fun _ hF => smLit1 (e := 31) (sz := 2) (z := (cPk.val (0, none, 0, 0))) (by_ := 32) (cs := cPk.enc ((((1 + tag.toNat % 20) : Nat) : Int), Ab, body.length, cb)) rfl (by kernel_rfl) (by kernel_rfl) ((hF.ev 0 rfl).trans (cPk_val (((1 + tag.toNat % 20) : Nat) : Int) Ab body.length cb)) (cPk.len ((((1 + tag.toNat % 20) : Nat) : Int), Ab, body.length, cb)) (ltb rfl) (leb rfl) rfl) trivial rfl (gOn 2 rfl rfl rfl (by decide)) (kM [false, true, true] rfl rfl) (by decide) ?_
          clear hH
          rintro _ _ w ⟨g388, rfl, rfl⟩ hH
          replace hH : HH w0 [] [E375, E361, E378, E379, [bl g388 31 (cPk.enc ((((1 + tag.toNat % 20) : Nat) : Int), Ab, body.length, cb))]] w := hH
          refine pxM hH (fun _ hF => Does.small ((Pure.as (v := (.bool true)) (same_c L382 ([((((1 + tag.toNat % 20) : Nat) : Int), Ab, body.length, cb)]) ((prs [] ((B ++ (lenL nr)) ++ (body.drop m))).2) ([((((1 + tag.toNat % 20) : Nat) : Int), body)]) A383 (some ⟨g388, 0, none⟩) c384 1 (by rw [hB381.len, hp]; exact (by decide : (1 : Nat) ≤ 140737488355328))) (congrArg Value.bool (decide_eq_true (by rw [hp])))).does) (fun w => opCall rfl Try.func15 rfl rfl (Evs.cons (v := (.slice A383 L382.length c384)) (hF.ev 1 rfl) (Evs.cons (v := (.slice (some ⟨g388, 0, none⟩) 1 1)) (hF.ev 0 rfl) Evs.nil)) w)) ⟨(hO380.vuAt (hH.has 2 rfl)), (hB381.beh (hH.has 3 rfl)), ((Bk.lit1 (C := cPk) ((((1 + tag.toNat % 20) : Nat) : Int), Ab, body.length, cb)).vu (hH.blk 4 rfl) rfl), (Beh.one (hH.vu hR.1 (by decide) (Off.nil _ _)))⟩ rfl (gOn 2 rfl rfl rfl (by decide)) (kM [false, false, true] rfl rfl) (by decide) ?_
          clear hH
          rintro _ _ w ⟨rfl, rfl⟩ hH
          replace hH : HH w0 [] [E375, E361, E378, E379, [bl g388 31 (cPk.enc ((((1 + tag.toNat % 20) : Nat) : Int), Ab, body.length, cb))]] w := hH.unpad
          refine pxV (v := (.bool true)) (fun _ _ hF => opPickT rfl (hF.ev 1 rfl) (hF.ev 0 rfl)) rfl (fun _ _ => rfl) (kM [false, false] rfl rfl) (by decide) ?_
          refine pxV (v := (.bool true)) (fun _ _ hF => opAssign rfl (hF.ev 0 rfl)) rfl (fun _ _ => rfl) (kM [false] rfl rfl) (by decide) ?_
          refine pxEnd ?_
          refine qxThen ?_
          refine cxRet ?_
          refine qxRet1 0 rfl rfl ?_
          exact ⟨rfl, HH.toBelow hH⟩
end Go.Proofs.Ytjncbpmigpocbaa
