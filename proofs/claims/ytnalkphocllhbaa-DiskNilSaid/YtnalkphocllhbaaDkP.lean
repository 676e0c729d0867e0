/- The laws of layer 9, walked (mkdl.py writes this text). -/
import Derived.Test.YtnalkphocllhbaaDkA
namespace Go.Proofs.Ytnalkphocllhbaa
open Go Go.RowKit
set_option maxRecDepth 100000

/-- What a call of a script reads as. -/
structure OpOk (w : World) (x : RawOp) (bytes : List UInt8) (keep : List Bool) : Prop where
  nb : x.2.2.2.1.2.1 = bytes.length
  vb : Vu cByte w x.2.2.2.1.1 bytes.length x.2.2.2.1.2.2 bytes
  nk : x.2.2.2.2.2.1 = keep.length
  vk : Vu cBool w x.2.2.2.2.1 keep.length x.2.2.2.2.2.2 keep
  at' : -9223372036854775808 ≤ x.2.1 ∧ x.2.1 ≤ 9223372036854775807
  n : -9223372036854775808 ≤ x.2.2.1 ∧ x.2.2.1 ≤ 9223372036854775807
theorem tot_le (l : List RawOp) (i : Nat) : tot (l.take i) ≤ tot l := by
  have : tot l = tot (l.take i) + tot (l.drop i) := by
    unfold tot
    rw [← List.sum_append, ← List.map_append, List.take_append_drop]
  omega
theorem lenB_le {l : List RawOp} {i : Nat} {x : RawOp} (hx : l[i]? = some x) : lenB x ≤ tot l := by
  have h1 := tot_take hx
  have h2 := tot_le l (i + 1)
  omega

set_option maxHeartbeats 8000000 in
theorem plays_c (x : UInt8) (raws : List RawOp) (A : Option Addr) (c : Nat) (hbig : ∀ x ∈ raws, lenB x ≤ 140737488355328) (hlen : raws.length ≤ 140737488355328) : Pure Try.prog 3 #[(.int .u8 (((x.toNat) : Nat) : Int)), (.slice A raws.length c)] (fun w => Vu cOp w A raws.length c raws ∧ ∀ x ∈ raws, ∃ bytes keep, OpOk w x bytes keep) (.bool true) := by
  refine pure_of (fn := Try.f3) Try.func3 rfl Try.ntmps3 (Nat.le_of_ble_eq_true rfl) rfl ?_
  intro w0 hH hR
  refine cxSeq ?_
  refine cxReg ?_
  refine pxV (v := (.bool false)) (fun _ _ hF => opAssign rfl rfl) rfl (fun _ _ => rfl) (kA rfl) (by decide) ?_
  refine pxEnd ?_
  refine qxThen ?_
  refine cxSeq ?_
  refine cxSeq ?_
  refine cxReg ?_
  refine pxM hH (fun _ hF => Does.small ((awake_c ).does) (fun w => opCall rfl Try.func7 rfl rfl Evs.nil w)) trivial rfl (fun _ _ => rfl) (kM [false, true, true] rfl rfl) (by decide) ?_
  clear hH
  rintro _ _ w ⟨rfl, rfl⟩ hH
  replace hH : HH w0 [] [] w := hH.unpad
  refine pxV (v := (.bool false)) (fun _ _ hF => opNot rfl (hF.ev 0 rfl) rfl) rfl (fun _ _ => rfl) (kM [false, true, true] rfl rfl) (by decide) ?_
  refine pxV (v := (.bool false)) (fun _ _ hF => opMove rfl (hF.ev 0 rfl)) rfl (fun _ _ => rfl) (kM [false, true, true] rfl rfl) (by decide) ?_
  refine pxV (v := (.slice A raws.length c)) (fun _ _ hF => opMove rfl (hF.ev 2 rfl)) rfl (gOn 0 rfl rfl rfl (by decide)) (kA rfl) (by decide) ?_
  refine pxM hH (fun _ hF => Does.small (few_c raws A c hbig hlen) (fun w => opCall rfl Try.func8 rfl rfl (Evs.cons (v := (.slice A raws.length c)) (hF.ev 0 rfl) Evs.nil) w)) (hH.vu hR.1 (by decide) (Off.nil _ _)) rfl (gOn 1 rfl rfl rfl (by decide)) (kM [false, true, true, true] rfl rfl) (by decide) ?_
  clear hH
  rintro _ _ w ⟨rfl, b1, rfl, hfew⟩ hH
  replace hH : HH w0 [] [] w := hH.unpad
  refine pxV (v := (.bool (!(b1)))) (fun _ _ hF => opNot rfl (hF.ev 0 rfl) rfl) rfl (gOn 1 rfl rfl rfl (by decide)) (kM [false, true, true, true] rfl rfl) (by decide) ?_
  refine pxV (v := (.bool (!(b1)))) (fun _ _ hF => opPickF rfl (hF.ev 1 rfl) (hF.ev 0 rfl)) rfl (fun _ _ => rfl) (kM [false, false, true, true] rfl rfl) (by decide) ?_
  refine pxEnd ?_
  refine qxThen ?_
  refine cxB 0 rfl rfl (fun hc1 => ?_) (fun hc1 => ?_)
  · replace hc1 : b1 = false := by simpa using hc1
    refine cxSeq ?_
    refine cxReg ?_
    refine pxM hH (fun _ hF => Does.small ((awake_c ).does) (fun w => opCall rfl Try.func7 rfl rfl Evs.nil w)) trivial rfl (fun _ _ => rfl) (kM [false, false, false] rfl rfl) (by decide) ?_
    clear hH
    rintro _ _ w ⟨rfl, rfl⟩ hH
    replace hH : HH w0 [] [] w := hH.unpad
    refine pxV (v := (.bool true)) (fun _ _ hF => opAssign rfl (hF.ev 0 rfl)) rfl (fun _ _ => rfl) (kM [false] rfl rfl) (by decide) ?_
    refine pxEnd ?_
    refine qxThen ?_
    refine cxRet ?_
    refine qxThenR ?_
    refine qxRet1 0 rfl rfl ?_
    exact ⟨rfl, HH.toBelow hH⟩
  · replace hc1 : b1 = true := by simpa using hc1
    have hf2 := hfew hc1
    refine cxSkip ?_
    refine qxThen ?_
    refine cxSeq ?_
    refine cxReg ?_
    refine pxV (v := (.int .u8 (((x.toNat) : Nat) : Int))) (fun _ _ hF => opMove rfl (hF.ev 1 rfl)) rfl (fun _ _ => rfl) (kM [false, true, true] rfl rfl) (by decide) ?_
    refine pxV (v := (.int .u8 (((x.toNat % 40) : Nat) : Int))) (fun _ _ hF => opRem (z := ((x.toNat % 40 : Nat) : Int)) rfl (hF.ev 0 rfl) rfl (by omega) remN) rfl (fun _ _ => rfl) (kM [false, true, true] rfl rfl) (by decide) ?_
    refine pxV (v := (.int .i64 (((x.toNat % 40) : Nat) : Int))) (fun _ _ hF => opConvI (k' := .i64) rfl (by kernel_rfl) (by kernel_rfl) (hF.ev 0 rfl) (wI rfl (by omega) (by omega))) rfl (fun _ _ => rfl) (kM [false, true, true] rfl rfl) (by decide) ?_
    refine pxM hH (fun _ hF => Does.small (new_c ((x.toNat % 40 : Nat) : Int) (x.toNat % 40) (by omega) (by omega)) (fun w => opCall rfl Try.func9 rfl rfl (Evs.cons (v := (.int .i64 (((x.toNat % 40) : Nat) : Int))) (hF.ev 0 rfl) Evs.nil) w)) trivial rfl (fun _ _ => rfl) (kM [false, true, true] rfl rfl) (by decide) ?_
    clear hH
    rintro _ E3 w ⟨g2, rfl, hD4⟩ hH
    replace hH : HH w0 [] [E3] w := hH
    refine pxV (v := (.int .u8 (((x.toNat) : Nat) : Int))) (fun _ _ hF => opMove rfl (hF.ev 1 rfl)) rfl (fun _ _ => rfl) (kM [true, false, true] rfl rfl) (by decide) ?_
    refine pxV (v := (.int .u8 (((x.toNat % 40) : Nat) : Int))) (fun _ _ hF => opRem (z := ((x.toNat % 40 : Nat) : Int)) rfl (hF.ev 0 rfl) rfl (by omega) remN) rfl (fun _ _ => rfl) (kM [false, true, true] rfl rfl) (by decide) ?_
    refine pxV (v := (.int .i64 (((x.toNat % 40) : Nat) : Int))) (fun _ _ hF => opConvI (k' := .i64) rfl (by kernel_rfl) (by kernel_rfl) (hF.ev 0 rfl) (wI rfl (by omega) (by omega))) rfl (fun _ _ => rfl) (kM [false, true, true] rfl rfl) (by decide) ?_
    refine pxM hH (fun _ hF => Does.small (newR_c ((x.toNat % 40 : Nat) : Int) (x.toNat % 40) (by omega) (by omega)) (fun w => opCall rfl Try.func10 rfl rfl (Evs.cons (v := (.int .i64 (((x.toNat % 40) : Nat) : Int))) (hF.ev 0 rfl) Evs.nil) w)) trivial rfl (fun _ _ => rfl) (kM [false, true, true] rfl rfl) (by decide) ?_
    clear hH
    rintro _ E6 w ⟨g5, rfl, hD7⟩ hH
    replace hH : HH w0 [] [E3, E6] w := hH
    refine pxV (v := (.pointer (some ⟨g2, 0, none⟩))) (fun _ _ hF => opAssign rfl (hF.ev 1 rfl)) rfl (fun _ _ => rfl) (kM [true, false, true] rfl rfl) (by decide) ?_
    refine pxV (v := (.pointer (some ⟨g5, 0, none⟩))) (fun _ _ hF => opAssign rfl (hF.ev 1 rfl)) rfl (fun _ _ => rfl) (kM [true, false, true] rfl rfl) (by decide) ?_
    refine pxEnd ?_
    refine qxThen ?_
    refine cxSeq ?_
    refine cxSeq ?_
    refine cxReg ?_
    refine pxV (v := (.slice A raws.length c)) (fun _ _ hF => opMove rfl (hF.ev 2 rfl)) rfl (fun _ _ => rfl) (kA rfl) (by decide) ?_
    refine pxV (v := (.int .i64 (((raws.length) : Nat) : Int))) (fun _ _ hF => opLen (e := 33) rfl (by kernel_rfl) (hF.ev 0 rfl)) rfl (fun _ _ => rfl) (kM [false, true, true, true] rfl rfl) (by decide) ?_
    refine pxV (v := (.int .i64 0)) (fun _ _ hF => opMove rfl rfl) rfl (fun _ _ => rfl) (kA rfl) (by decide) ?_
    refine pxEnd ?_
    refine qxThen ?_
    refine cxBlock ?_
    refine cxLoop (σ := Nat × Dk × Dr × Hl × Hl) (fun x => [(26, (.int .i64 (((x.1) : Nat) : Int))), (25, (.int .i64 (((raws.length) : Nat) : Int))), (6, (.pointer (some ⟨g5, 0, none⟩))), (5, (.pointer (some ⟨g2, 0, none⟩))), (1, (.slice A raws.length c))]) (fun x w => HH w0 [] [x.2.2.2.1, x.2.2.2.2] w ∧ (x.1 ≤ raws.length) ∧ (DkAt g2 x.2.1 x.2.2.2.1) ∧ (DrAt g5 x.2.2.1 x.2.2.2.2) ∧ (Like x.2.1 x.2.2.1) ∧ (x.2.1.uns.length ≤ tot (raws.take x.1))) (fun x => raws.length - x.1) (0, (Dk.new (x.toNat % 40)), (Dr.new (x.toNat % 40)), E3, E6) ⟨hH, (Nat.zero_le _), hD4, hD7, (like_new _), (Nat.zero_le _)⟩ (slots_at [0, 1, 2, 3, 4] rfl) ?_
    clear hH
    rintro ⟨i, D, W, Ed, Ew⟩ w ⟨hH, hi, hD, hW, hl, hU⟩
    change CX _ _ _ _ [(26, (.int .i64 (((i) : Nat) : Int))), (25, (.int .i64 (((raws.length) : Nat) : Int))), (6, (.pointer (some ⟨g5, 0, none⟩))), (5, (.pointer (some ⟨g2, 0, none⟩))), (1, (.slice A raws.length c))] _
    replace hH : HH w0 [] [Ed, Ew] w := hH
    replace hi : i ≤ raws.length := hi
    replace hD : DkAt g2 D Ed := hD
    replace hW : DrAt g5 W Ew := hW
    replace hl : Like D W := hl
    replace hU : D.uns.length ≤ tot (raws.take i) := hU
    refine cxSeq ?_
    refine cxReg ?_
    refine pxV (v := (.bool (decide (i < raws.length)))) (fun _ _ hF => opLss rfl (hF.ev 0 rfl) (hF.ev 1 rfl) (dc (by omega))) rfl (fun _ _ => rfl) (kA rfl) (by decide) ?_
    refine pxEnd ?_
    refine qxThen ?_
    refine cxSeq ?_
    refine cxP 0 rfl rfl (fun hc8 => ?_) (fun hc8 => ?_)
    · refine cxSkip ?_
      refine qxThen ?_
      refine cxSeq ?_
      refine cxBlock ?_
      refine cxSeq ?_
      refine cxReg ?_
      refine pxV (v := (.int .i64 (((i) : Nat) : Int))) (fun _ _ hF => opMove rfl (hF.ev 1 rfl)) rfl (fun _ _ => rfl) (kM [false, true, true, true, true, true] rfl rfl) (by decide) ?_
      refine pxV (v := (.int .i64 (((i) : Nat) : Int))) (fun _ _ hF => opAssign rfl (hF.ev 0 rfl)) rfl (fun _ _ => rfl) (kM [false, true, true, true, true, true] rfl rfl) (by decide) ?_
      refine pxEnd ?_
      refine qxThen ?_
      refine cxSeq ?_
      refine cxReg ?_
      refine pxV (v := (.pointer (some ⟨g2, 0, none⟩))) (fun _ _ hF => opMove rfl (hF.ev 4 rfl)) rfl (fun _ _ => rfl) (kA rfl) (by decide) ?_
      refine pxV (v := (.pointer (some ⟨g5, 0, none⟩))) (fun _ _ hF => opMove rfl (hF.ev 4 rfl)) rfl (fun _ _ => rfl) (kA rfl) (by decide) ?_
      refine pxV (v := (.slice A raws.length c)) (fun _ _ hF => opMove rfl (hF.ev 7 rfl)) rfl (fun _ _ => rfl) (kA rfl) (by decide) ?_
      refine pxV (v := (.int .i64 (((i) : Nat) : Int))) (fun _ _ hF => opMove rfl (hF.ev 3 rfl)) rfl (fun _ _ => rfl) (kM [true, true, true, false, true, true, true, true, true] rfl rfl) (by decide) ?_
      have hi9 : i < raws.length := by omega
      obtain ⟨b10, off11, rfl, hL12, hb13, hR14⟩ := hR.1.blk (by decide) (Off.nil _ _) (by omega)
      have := hR.1.cap
      have hj17 : i < raws.length := by first | exact hi9 | (simp only [List.length_drop, List.length_take]; omega) | omega
      obtain ⟨x15, hx16⟩ := get_at raws i hj17
      refine pxV (v := (.pointer (some ⟨b10, off11 + i * 5, none⟩))) (fun _ _ hF => opIndex (i := i) (e := 33) (sz := 5) rfl (by kernel_rfl) (by kernel_rfl) (hF.ev 1 rfl) (hF.ev 0 rfl) rfl hi9) rfl (fun _ _ => rfl) (kM [false, false, true, true, true, true, true, true, true] rfl rfl) (by decide) ?_
      refine pxS (v := (cOp.val x15)) (fun w => HoldsL cOp w b10 off11 raws) (hH.holdsL hL12 hb13 hR14) (fun _ _ hF hS => opLoadT (C := cOp) (y := x15) rfl (hF.ev 0 rfl) (by kernel_rfl) (hS i _ hx16) rfl) rfl (fun _ _ => rfl) (kM [false, true, true, true, true, true, true, true] rfl rfl) (by decide) ?_
      have hb30 := lenB_le hx16
      obtain ⟨bytes, keep, hok⟩ := hR.2 _ (List.mem_of_getElem? hx16)
      obtain ⟨kind, at_, n, ⟨Ab, nb, cb⟩, ⟨Ak, nk, ck⟩⟩ := x15
      obtain rfl : nb = bytes.length := hok.nb
      obtain rfl : nk = keep.length := hok.nk
      have hb31 : bytes.length ≤ tot raws := hb30
      have htl := tot_le raws i
      replace hH : HH w0 [] [([Ed, Ew] : List Hl).flatten] w := hH.cast (by simp)
      refine pxE 0 hH rfl (fun _ hF => Does.small (do_c g2 g5 D W Ed Ew hD hW hl kind at_ n bytes keep Ab Ak cb ck hok.at' hok.n (by omega) (by omega) (hH.off 0 rfl hok.vb (by decide) (Off.nil _ _)) (hH.off 0 rfl hok.vk (by decide) (Off.nil _ _))) (fun w => opCall rfl Try.func11 rfl rfl (Evs.cons (v := (.pointer (some ⟨g2, 0, none⟩))) (hF.ev 2 rfl) (Evs.cons (v := (.pointer (some ⟨g5, 0, none⟩))) (hF.ev 1 rfl) (Evs.cons (v := (cOp.val (kind, at_, n, (Ab, bytes.length, cb), (Ak, keep.length, ck)))) (hF.ev 0 rfl) Evs.nil))) w)) ⟨hH.vu hok.vb (by decide) (Off.nil _ _), hH.vu hok.vk (by decide) (Off.nil _ _)⟩ rfl (fun _ _ => rfl) (kM [false, false, false, true, true, true, true, true] rfl rfl) (by decide) ?_
      clear hH
      rintro _ _ w ⟨rfl, E18, E19, D22, W23, rfl, hD20, hW21, hl24, hu25, hn26⟩ hH
      replace hH : HH w0 [] [([E18, E19] : List Hl).flatten] w := hH
      replace hH : HH w0 [] [E18, E19] w := hH.cast (by simp)
      refine pxV (v := (.bool false)) (fun _ _ hF => opNot rfl (hF.ev 0 rfl) rfl) rfl (fun _ _ => rfl) (kM [false, true, true, true, true, true] rfl rfl) (by decide) ?_
      refine pxV (v := (.bool false)) (fun _ _ hF => opMove rfl (hF.ev 0 rfl)) rfl (fun _ _ => rfl) (kM [false, true, true, true, true, true] rfl rfl) (by decide) ?_
      refine pxV (v := (.pointer (some ⟨g2, 0, none⟩))) (fun _ _ hF => opMove rfl (hF.ev 4 rfl)) rfl (gOn 0 rfl rfl rfl (by decide)) (kA rfl) (by decide) ?_
      refine pxV (v := (.pointer (some ⟨g5, 0, none⟩))) (fun _ _ hF => opMove rfl (hF.ev 4 rfl)) rfl (gOn 1 rfl rfl rfl (by decide)) (kA rfl) (by decide) ?_
      replace hH : HH w0 [] [([E18, E19] : List Hl).flatten] w := hH.cast (by simp)
      refine pxE 0 hH rfl (fun _ hF => Does.small (same_c g2 g5 D22 W23 E18 E19 hD20 hW21 hl24 ) (fun w => opCall rfl Try.func12 rfl rfl (Evs.cons (v := (.pointer (some ⟨g2, 0, none⟩))) (hF.ev 1 rfl) (Evs.cons (v := (.pointer (some ⟨g5, 0, none⟩))) (hF.ev 0 rfl) Evs.nil)) w)) trivial rfl (gOn 2 rfl rfl rfl (by decide)) (kM [false, false, true, true, true, true, true, true] rfl rfl) (by decide) ?_
      clear hH
      rintro _ _ w ⟨rfl, E27, E28, rfl, hD29, hW30⟩ hH
      replace hH : HH w0 [] [([E27, E28] : List Hl).flatten] w := hH
      replace hH : HH w0 [] [E27, E28] w := hH.cast (by simp)
      refine pxV (v := (.bool false)) (fun _ _ hF => opNot rfl (hF.ev 0 rfl) rfl) rfl (gOn 1 rfl rfl rfl (by decide)) (kM [false, true, true, true, true, true, true] rfl rfl) (by decide) ?_
      refine pxV (v := (.bool false)) (fun _ _ hF => opPickF rfl (hF.ev 1 rfl) (hF.ev 0 rfl)) rfl (fun _ _ => rfl) (kM [false, false, true, true, true, true, true] rfl rfl) (by decide) ?_
      refine pxEnd ?_
      refine qxThen ?_
      refine cxF 0 rfl rfl ?_
      refine cxSkip ?_
      refine qxInN ?_
      refine qxThen ?_
      refine cxReg ?_
      refine pxV (v := (.int .i64 (((i + 1) : Nat) : Int))) (fun _ _ hF => opAdd rfl (hF.ev 1 rfl) rfl (wI (by omega) (by omega) (by omega))) rfl (fun _ _ => rfl) (kM [false, false, true, true, true, true] rfl rfl) (by decide) ?_
      refine pxV (v := (.int .i64 (((i + 1) : Nat) : Int))) (fun _ _ hF => opMove rfl (hF.ev 0 rfl)) rfl (fun _ _ => rfl) (kM [false, true, true, true, true] rfl rfl) (by decide) ?_
      refine pxEnd ?_
      exact qxRound (i + 1, D22, W23, E27, E28) ⟨hH, (by omega), hD29, hW30, hl24, (by rw [tot_take hx16]; show D22.uns.length ≤ _ + bytes.length; have := hu25; omega)⟩ (by omega) (slots_at [0, 1, 2, 3, 4] rfl)
    · refine cxExit ?_
      refine qxThenE ?_
      refine qxThenE ?_
      refine qxInE ?_
      refine qxThen ?_
      refine cxSeq ?_
      refine cxReg ?_
      refine pxV (v := (.pointer (some ⟨g2, 0, none⟩))) (fun _ _ hF => opMove rfl (hF.ev 4 rfl)) rfl (fun _ _ => rfl) (kM [false, false, false, true, false, false] rfl rfl) (by decide) ?_
      refine pxV (v := (.pointer (some ⟨g5, 0, none⟩))) (fun _ _ hF => opMove rfl (hF.ev 1 rfl)) rfl (fun _ _ => rfl) (kM [true, false] rfl rfl) (by decide) ?_
      replace hH : HH w0 [] [([Ed, Ew] : List Hl).flatten] w := hH.cast (by simp)
      refine pxE 0 hH rfl (fun _ hF => Does.small (same_c g2 g5 D W Ed Ew hD hW hl ) (fun w => opCall rfl Try.func12 rfl rfl (Evs.cons (v := (.pointer (some ⟨g2, 0, none⟩))) (hF.ev 1 rfl) (Evs.cons (v := (.pointer (some ⟨g5, 0, none⟩))) (hF.ev 0 rfl) Evs.nil)) w)) trivial rfl (fun _ _ => rfl) (kM [false, false] rfl rfl) (by decide) ?_
      clear hH
      rintro _ _ w ⟨rfl, E31, E32, rfl, hD33, hW34⟩ hH
      replace hH : HH w0 [] [([E31, E32] : List Hl).flatten] w := hH
      replace hH : HH w0 [] [E31, E32] w := hH.cast (by simp)
      refine pxV (v := (.bool true)) (fun _ _ hF => opAssign rfl (hF.ev 0 rfl)) rfl (fun _ _ => rfl) (kM [false] rfl rfl) (by decide) ?_
      refine pxEnd ?_
      refine qxThen ?_
      refine cxRet ?_
      refine qxRet1 0 rfl rfl ?_
      exact ⟨rfl, HH.toBelow hH⟩

set_option maxHeartbeats 8000000 in
theorem sizes_c (n : Int) (m : Nat) (hm : max 0 (min n 4000) = (m : Int)) (hm2 : m ≤ 4000) : Pure Try.prog 5 #[(.int .i64 (n))] (fun _ => True) (.bool true) := by
  refine pure_of (fn := Try.f5) Try.func5 rfl Try.ntmps5 (Nat.le_of_ble_eq_true rfl) rfl ?_
  intro w0 hH hR
  refine cxSeq ?_
  refine cxReg ?_
  refine pxV (v := (.bool false)) (fun _ _ hF => opAssign rfl rfl) rfl (fun _ _ => rfl) (kA rfl) (by decide) ?_
  refine pxEnd ?_
  refine qxThen ?_
  refine cxSeq ?_
  refine cxSeq ?_
  refine cxReg ?_
  refine pxM hH (fun _ hF => Does.small ((awake_c ).does) (fun w => opCall rfl Try.func7 rfl rfl Evs.nil w)) trivial rfl (fun _ _ => rfl) (kM [false, true] rfl rfl) (by decide) ?_
  clear hH
  rintro _ _ w ⟨rfl, rfl⟩ hH
  replace hH : HH w0 [] [] w := hH.unpad
  refine pxV (v := (.bool false)) (fun _ _ hF => opNot rfl (hF.ev 0 rfl) rfl) rfl (fun _ _ => rfl) (kM [false, true] rfl rfl) (by decide) ?_
  refine pxEnd ?_
  refine qxThen ?_
  refine cxF 0 rfl rfl ?_
  refine cxSkip ?_
  refine qxThen ?_
  refine cxSeq ?_
  refine cxReg ?_
  refine pxV (v := (.int .i64 (n))) (fun _ _ hF => opMove rfl (hF.ev 1 rfl)) rfl (fun _ _ => rfl) (kM [false, true] rfl rfl) (by decide) ?_
  refine pxM hH (fun _ hF => Does.small (new_c n m hm hm2) (fun w => opCall rfl Try.func9 rfl rfl (Evs.cons (v := (.int .i64 (n))) (hF.ev 0 rfl) Evs.nil) w)) trivial rfl (fun _ _ => rfl) (kM [false, true] rfl rfl) (by decide) ?_
  clear hH
  rintro _ E2 w ⟨g1, rfl, hD3⟩ hH
  replace hH : HH w0 [] [E2] w := hH
  refine pxE 0 hH rfl (fun _ hF => Does.small (sectors_c g1 (Dk.new m) E2 hD3 ) (fun w => opCall rfl Try.func19 rfl rfl (Evs.cons (v := (.pointer (some ⟨g1, 0, none⟩))) (hF.ev 0 rfl) Evs.nil) w)) trivial rfl (fun _ _ => rfl) (kM [false, true] rfl rfl) (by decide) ?_
  clear hH
  rintro _ E4 w ⟨rfl, hD5⟩ hH
  replace hH : HH w0 [] [E4] w := hH
  refine pxV (v := (.int .i64 (n))) (fun _ _ hF => opMove rfl (hF.ev 1 rfl)) rfl (fun _ _ => rfl) (kM [true, false] rfl rfl) (by decide) ?_
  refine pxV (v := (.int .i64 (max (n) 0))) (fun _ _ hF => opMax rfl (hF.ev 0 rfl) rfl rfl) rfl (fun _ _ => rfl) (kM [false, true] rfl rfl) (by decide) ?_
  refine pxV (v := (.int .i64 (min (max (n) 0) 4000))) (fun _ _ hF => opMin rfl (hF.ev 0 rfl) rfl rfl) rfl (fun _ _ => rfl) (kM [false, true] rfl rfl) (by decide) ?_
  refine pxV (v := (.bool true)) (fun _ _ hF => opEqI rfl (hF.ev 1 rfl) (hF.ev 0 rfl) (decide_eq_true (by rw [show (Dk.new m).now.length = m from List.length_replicate]; omega))) rfl (fun _ _ => rfl) (kM [false, false] rfl rfl) (by decide) ?_
  refine pxV (v := (.bool true)) (fun _ _ hF => opAssign rfl (hF.ev 0 rfl)) rfl (fun _ _ => rfl) (kM [false] rfl rfl) (by decide) ?_
  refine pxEnd ?_
  refine qxThen ?_
  refine cxRet ?_
  refine qxRet1 0 rfl rfl ?_
  exact ⟨rfl, HH.toBelow hH⟩

set_option maxHeartbeats 8000000 in
theorem setFuse_nil (n : Int) : Pure Try.prog 20 #[(.pointer none), (.int .i64 (n))] (fun _ => True) (.tuple #[]) := by
  refine pure_of (fn := Try.f20) Try.func20 rfl Try.ntmps20 (Nat.le_of_ble_eq_true rfl) rfl ?_
  intro w0 hH hR
  refine cxSeq ?_
  refine cxSeq ?_
  refine cxReg ?_
  refine pxV (v := (.pointer none)) (fun _ _ hF => opMove rfl (hF.ev 0 rfl)) rfl (fun _ _ => rfl) (kA rfl) (by decide) ?_
  refine pxV (v := (.bool true)) (fun _ _ hF => opEqNil (e := 51) rfl (by kernel_rfl) (hF.ev 0 rfl) rfl rfl) rfl (fun _ _ => rfl) (kM [false, true, true] rfl rfl) (by decide) ?_
  refine pxEnd ?_
  refine qxThen ?_
  refine cxT 0 rfl rfl ?_
  refine cxRet ?_
  refine qxThenR ?_
  refine qxRet0 rfl ?_
  exact ⟨rfl, HH.toBelow hH⟩

set_option maxHeartbeats 8000000 in
theorem crash_nil (A : Option Addr) (n c : Nat) : Pure Try.prog 16 #[(.pointer none), (.slice A n c)] (fun _ => True) (.tuple #[]) := by
  refine pure_of (fn := Try.f16) Try.func16 rfl Try.ntmps16 (Nat.le_of_ble_eq_true rfl) rfl ?_
  intro w0 hH hR
  refine cxSeq ?_
  refine cxSeq ?_
  refine cxReg ?_
  refine pxV (v := (.pointer none)) (fun _ _ hF => opMove rfl (hF.ev 0 rfl)) rfl (fun _ _ => rfl) (kA rfl) (by decide) ?_
  refine pxV (v := (.bool true)) (fun _ _ hF => opEqNil (e := 51) rfl (by kernel_rfl) (hF.ev 0 rfl) rfl rfl) rfl (fun _ _ => rfl) (kM [false, true, true] rfl rfl) (by decide) ?_
  refine pxEnd ?_
  refine qxThen ?_
  refine cxT 0 rfl rfl ?_
  refine cxRet ?_
  refine qxThenR ?_
  refine qxRet0 rfl ?_
  exact ⟨rfl, HH.toBelow hH⟩

set_option maxHeartbeats 8000000 in
theorem read_nil (at_ n : Int) : Pure Try.prog 17 #[(.pointer none), (.int .i64 (at_)), (.int .i64 (n))] (fun _ => True) (.tuple #[.slice none 0 0, .int .i64 1]) := by
  refine pure_of (fn := Try.f17) Try.func17 rfl Try.ntmps17 (Nat.le_of_ble_eq_true rfl) rfl ?_
  intro w0 hH hR
  refine cxSeq ?_
  refine cxReg ?_
  refine pxV (v := (.slice none 0 0)) (fun _ _ hF => opAssign rfl rfl) rfl (fun _ _ => rfl) (kA rfl) (by decide) ?_
  refine pxV (v := (.int .i64 0)) (fun _ _ hF => opAssign rfl rfl) rfl (fun _ _ => rfl) (kM [false, true, true, true] rfl rfl) (by decide) ?_
  refine pxEnd ?_
  refine qxThen ?_
  refine cxSeq ?_
  refine cxSeq ?_
  refine cxReg ?_
  refine pxV (v := (.pointer none)) (fun _ _ hF => opMove rfl (hF.ev 1 rfl)) rfl (fun _ _ => rfl) (kM [false, true, true, true] rfl rfl) (by decide) ?_
  refine pxV (v := (.bool true)) (fun _ _ hF => opEqNil (e := 51) rfl (by kernel_rfl) (hF.ev 0 rfl) rfl rfl) rfl (fun _ _ => rfl) (kM [false, true, true, true] rfl rfl) (by decide) ?_
  refine pxV (v := (.bool true)) (fun _ _ hF => opMove rfl (hF.ev 0 rfl)) rfl (fun _ _ => rfl) (kM [false, true, true, true] rfl rfl) (by decide) ?_
  refine pxU rfl (gOff 0 rfl rfl rfl (by decide)) (kA rfl) (by decide) ?_
  refine pxU rfl (gOff 0 rfl rfl rfl (by decide)) (kA rfl) (by decide) ?_
  refine pxU rfl (gOff 0 rfl rfl rfl (by decide)) (kA rfl) (by decide) ?_
  refine pxU rfl (gOff 0 rfl rfl rfl (by decide)) (kA rfl) (by decide) ?_
  refine pxU rfl (gOff 0 rfl rfl rfl (by decide)) (kA rfl) (by decide) ?_
  refine pxV (v := (.bool true)) (fun _ _ hF => opPickT rfl (hF.ev 0 rfl) rfl) rfl (fun _ _ => rfl) (kM [false, true, true, true] rfl rfl) (by decide) ?_
  refine pxEnd ?_
  refine qxThen ?_
  refine cxT 0 rfl rfl ?_
  refine cxSeq ?_
  refine cxReg ?_
  refine pxV (v := (.slice none 0 0)) (fun _ _ hF => opAssign rfl rfl) rfl (fun _ _ => rfl) (kM [false, false, false, false] rfl rfl) (by decide) ?_
  refine pxV (v := (.int .i64 1)) (fun _ _ hF => opAssign rfl rfl) rfl (fun _ _ => rfl) (kA rfl) (by decide) ?_
  refine pxEnd ?_
  refine qxThen ?_
  refine cxRet ?_
  refine qxThenR ?_
  refine qxRet2 1 0 rfl rfl rfl ?_
  exact ⟨rfl, HH.toBelow hH⟩

set_option maxHeartbeats 8000000 in
theorem write_nil (at_ : Int) (A : Option Addr) (n c : Nat) (hn : n ≤ 9223372036854775807) : Pure Try.prog 13 #[(.pointer none), (.int .i64 (at_)), (.slice A n c)] (fun _ => True) (.int .i64 1) := by
  refine pure_of (fn := Try.f13) Try.func13 rfl Try.ntmps13 (Nat.le_of_ble_eq_true rfl) rfl ?_
  intro w0 hH hR
  refine cxSeq ?_
  refine cxReg ?_
  refine pxV (v := (.int .i64 0)) (fun _ _ hF => opAssign rfl rfl) rfl (fun _ _ => rfl) (kA rfl) (by decide) ?_
  refine pxEnd ?_
  refine qxThen ?_
  refine cxSeq ?_
  refine cxReg ?_
  refine pxV (v := (.slice A n c)) (fun _ _ hF => opMove rfl (hF.ev 3 rfl)) rfl (fun _ _ => rfl) (kM [false, true, true, true] rfl rfl) (by decide) ?_
  refine pxV (v := (.int .i64 (((n) : Nat) : Int))) (fun _ _ hF => opLen (e := 5) rfl (by kernel_rfl) (hF.ev 0 rfl)) rfl (fun _ _ => rfl) (kM [false, true, true, true] rfl rfl) (by decide) ?_
  refine pxV (v := (.int .i64 (((n / 64) : Nat) : Int))) (fun _ _ hF => opQuo (z := ((n / 64 : Nat) : Int)) rfl (hF.ev 0 rfl) rfl (by omega) (wI quoN (by omega) (by omega))) rfl (fun _ _ => rfl) (kM [false, true, true, true] rfl rfl) (by decide) ?_
  refine pxV (v := (.int .i64 (((n / 64) : Nat) : Int))) (fun _ _ hF => opAssign rfl (hF.ev 0 rfl)) rfl (fun _ _ => rfl) (kM [false, true, true, true] rfl rfl) (by decide) ?_
  refine pxEnd ?_
  refine qxThen ?_
  refine cxSeq ?_
  refine cxSeq ?_
  refine cxReg ?_
  refine pxV (v := (.pointer none)) (fun _ _ hF => opMove rfl (hF.ev 1 rfl)) rfl (fun _ _ => rfl) (kA rfl) (by decide) ?_
  refine pxV (v := (.bool true)) (fun _ _ hF => opEqNil (e := 51) rfl (by kernel_rfl) (hF.ev 0 rfl) rfl rfl) rfl (fun _ _ => rfl) (kM [false, true, true, true, true] rfl rfl) (by decide) ?_
  refine pxV (v := (.bool true)) (fun _ _ hF => opMove rfl (hF.ev 0 rfl)) rfl (fun _ _ => rfl) (kM [false, true, true, true, true] rfl rfl) (by decide) ?_
  refine pxU rfl (gOff 0 rfl rfl rfl (by decide)) (kA rfl) (by decide) ?_
  refine pxU rfl (gOff 0 rfl rfl rfl (by decide)) (kA rfl) (by decide) ?_
  refine pxU rfl (gOff 0 rfl rfl rfl (by decide)) (kA rfl) (by decide) ?_
  refine pxU rfl (gOff 0 rfl rfl rfl (by decide)) (kA rfl) (by decide) ?_
  refine pxV (v := (.bool true)) (fun _ _ hF => opPickT rfl (hF.ev 0 rfl) rfl) rfl (fun _ _ => rfl) (kM [false, true, true, true, true] rfl rfl) (by decide) ?_
  refine pxV (v := (.bool true)) (fun _ _ hF => opMove rfl (hF.ev 0 rfl)) rfl (fun _ _ => rfl) (kM [false, true, true, true, true] rfl rfl) (by decide) ?_
  refine pxU rfl (gOff 0 rfl rfl rfl (by decide)) (kA rfl) (by decide) ?_
  refine pxU rfl (gOff 0 rfl rfl rfl (by decide)) (kA rfl) (by decide) ?_
  refine pxU rfl (gOff 0 rfl rfl rfl (by decide)) (kA rfl) (by decide) ?_
  refine pxU rfl (gOff 0 rfl rfl rfl (by decide)) (kA rfl) (by decide) ?_
  refine pxU rfl (gOff 0 rfl rfl rfl (by decide)) (kA rfl) (by decide) ?_
  refine pxV (v := (.bool true)) (fun _ _ hF => opPickT rfl (hF.ev 0 rfl) rfl) rfl (fun _ _ => rfl) (kM [false, true, true, true, true] rfl rfl) (by decide) ?_
  refine pxEnd ?_
  refine qxThen ?_
  refine cxT 0 rfl rfl ?_
  refine cxSeq ?_
  refine cxReg ?_
  refine pxV (v := (.int .i64 1)) (fun _ _ hF => opAssign rfl rfl) rfl (fun _ _ => rfl) (kM [false, false, false, false, false] rfl rfl) (by decide) ?_
  refine pxEnd ?_
  refine qxThen ?_
  refine cxRet ?_
  refine qxThenR ?_
  refine qxRet1 0 rfl rfl ?_
  exact ⟨rfl, HH.toBelow hH⟩

set_option maxHeartbeats 8000000 in
theorem sync_nil  : Pure Try.prog 15 #[(.pointer none)] (fun _ => True) (.int .i64 1) := by
  refine pure_of (fn := Try.f15) Try.func15 rfl Try.ntmps15 (Nat.le_of_ble_eq_true rfl) rfl ?_
  intro w0 hH hR
  refine cxSeq ?_
  refine cxReg ?_
  refine pxV (v := (.int .i64 0)) (fun _ _ hF => opAssign rfl rfl) rfl (fun _ _ => rfl) (kA rfl) (by decide) ?_
  refine pxEnd ?_
  refine qxThen ?_
  refine cxSeq ?_
  refine cxSeq ?_
  refine cxReg ?_
  refine pxV (v := (.pointer none)) (fun _ _ hF => opMove rfl (hF.ev 1 rfl)) rfl (fun _ _ => rfl) (kM [false, true] rfl rfl) (by decide) ?_
  refine pxV (v := (.bool true)) (fun _ _ hF => opEqNil (e := 51) rfl (by kernel_rfl) (hF.ev 0 rfl) rfl rfl) rfl (fun _ _ => rfl) (kM [false, true] rfl rfl) (by decide) ?_
  refine pxEnd ?_
  refine qxThen ?_
  refine cxT 0 rfl rfl ?_
  refine cxSeq ?_
  refine cxReg ?_
  refine pxV (v := (.int .i64 1)) (fun _ _ hF => opAssign rfl rfl) rfl (fun _ _ => rfl) (kM [false, false] rfl rfl) (by decide) ?_
  refine pxEnd ?_
  refine qxThen ?_
  refine cxRet ?_
  refine qxThenR ?_
  refine qxRet1 0 rfl rfl ?_
  exact ⟨rfl, HH.toBelow hH⟩

set_option maxHeartbeats 8000000 in
theorem sectors_nil  : Pure Try.prog 19 #[(.pointer none)] (fun _ => True) (.int .i64 0) := by
  refine pure_of (fn := Try.f19) Try.func19 rfl Try.ntmps19 (Nat.le_of_ble_eq_true rfl) rfl ?_
  intro w0 hH hR
  refine cxSeq ?_
  refine cxReg ?_
  refine pxV (v := (.int .i64 0)) (fun _ _ hF => opAssign rfl rfl) rfl (fun _ _ => rfl) (kA rfl) (by decide) ?_
  refine pxEnd ?_
  refine qxThen ?_
  refine cxSeq ?_
  refine cxSeq ?_
  refine cxReg ?_
  refine pxV (v := (.pointer none)) (fun _ _ hF => opMove rfl (hF.ev 1 rfl)) rfl (fun _ _ => rfl) (kM [false, true] rfl rfl) (by decide) ?_
  refine pxV (v := (.bool true)) (fun _ _ hF => opEqNil (e := 51) rfl (by kernel_rfl) (hF.ev 0 rfl) rfl rfl) rfl (fun _ _ => rfl) (kM [false, true] rfl rfl) (by decide) ?_
  refine pxEnd ?_
  refine qxThen ?_
  refine cxT 0 rfl rfl ?_
  refine cxSeq ?_
  refine cxReg ?_
  refine pxV (v := (.int .i64 0)) (fun _ _ hF => opAssign rfl rfl) rfl (fun _ _ => rfl) (kM [false, false] rfl rfl) (by decide) ?_
  refine pxEnd ?_
  refine qxThen ?_
  refine cxRet ?_
  refine qxThenR ?_
  refine qxRet1 0 rfl rfl ?_
  exact ⟨rfl, HH.toBelow hH⟩

set_option maxHeartbeats 8000000 in
theorem down_nil  : Pure Try.prog 21 #[(.pointer none)] (fun _ => True) (.bool false) := by
  refine pure_of (fn := Try.f21) Try.func21 rfl Try.ntmps21 (Nat.le_of_ble_eq_true rfl) rfl ?_
  intro w0 hH hR
  refine cxSeq ?_
  refine cxReg ?_
  refine pxV (v := (.bool false)) (fun _ _ hF => opAssign rfl rfl) rfl (fun _ _ => rfl) (kA rfl) (by decide) ?_
  refine pxEnd ?_
  refine qxThen ?_
  refine cxSeq ?_
  refine cxReg ?_
  refine pxV (v := (.pointer none)) (fun _ _ hF => opMove rfl (hF.ev 1 rfl)) rfl (fun _ _ => rfl) (kM [false, true] rfl rfl) (by decide) ?_
  refine pxV (v := (.bool false)) (fun _ _ hF => opNeNil (e := 51) rfl (by kernel_rfl) (hF.ev 0 rfl) rfl rfl) rfl (fun _ _ => rfl) (kM [false, true] rfl rfl) (by decide) ?_
  refine pxV (v := (.bool false)) (fun _ _ hF => opMove rfl (hF.ev 0 rfl)) rfl (fun _ _ => rfl) (kM [false, true] rfl rfl) (by decide) ?_
  refine pxU rfl (gOff 0 rfl rfl rfl (by decide)) (kM [true, false] rfl rfl) (by decide) ?_
  refine pxU rfl (gOff 0 rfl rfl rfl (by decide)) (kA rfl) (by decide) ?_
  refine pxU rfl (gOff 0 rfl rfl rfl (by decide)) (kA rfl) (by decide) ?_
  refine pxU rfl (gOff 0 rfl rfl rfl (by decide)) (kA rfl) (by decide) ?_
  refine pxV (v := (.bool false)) (fun _ _ hF => opPickF rfl (hF.ev 0 rfl) rfl) rfl (fun _ _ => rfl) (kM [false] rfl rfl) (by decide) ?_
  refine pxV (v := (.bool false)) (fun _ _ hF => opAssign rfl (hF.ev 0 rfl)) rfl (fun _ _ => rfl) (kM [false] rfl rfl) (by decide) ?_
  refine pxEnd ?_
  refine qxThen ?_
  refine cxRet ?_
  refine qxRet1 0 rfl rfl ?_
  exact ⟨rfl, HH.toBelow hH⟩

set_option maxHeartbeats 8000000 in
theorem unsynced_nil  : Pure Try.prog 18 #[(.pointer none)] (fun _ => True) (.int .i64 0) := by
  refine pure_of (fn := Try.f18) Try.func18 rfl Try.ntmps18 (Nat.le_of_ble_eq_true rfl) rfl ?_
  intro w0 hH hR
  refine cxSeq ?_
  refine cxReg ?_
  refine pxV (v := (.int .i64 0)) (fun _ _ hF => opAssign rfl rfl) rfl (fun _ _ => rfl) (kA rfl) (by decide) ?_
  refine pxEnd ?_
  refine qxThen ?_
  refine cxSeq ?_
  refine cxSeq ?_
  refine cxReg ?_
  refine pxV (v := (.pointer none)) (fun _ _ hF => opMove rfl (hF.ev 1 rfl)) rfl (fun _ _ => rfl) (kM [false, true] rfl rfl) (by decide) ?_
  refine pxV (v := (.bool true)) (fun _ _ hF => opEqNil (e := 51) rfl (by kernel_rfl) (hF.ev 0 rfl) rfl rfl) rfl (fun _ _ => rfl) (kM [false, true] rfl rfl) (by decide) ?_
  refine pxEnd ?_
  refine qxThen ?_
  refine cxT 0 rfl rfl ?_
  refine cxSeq ?_
  refine cxReg ?_
  refine pxV (v := (.int .i64 0)) (fun _ _ hF => opAssign rfl rfl) rfl (fun _ _ => rfl) (kM [false, false] rfl rfl) (by decide) ?_
  refine pxEnd ?_
  refine qxThen ?_
  refine cxRet ?_
  refine qxThenR ?_
  refine qxRet1 0 rfl rfl ?_
  exact ⟨rfl, HH.toBelow hH⟩

set_option maxHeartbeats 8000000 in
theorem nil_c (kind at_ n : Int) (bytes : List UInt8) (keep : List Bool) (Ab Ak : Option Addr) (cb ck : Nat) (hb : bytes.length ≤ 140737488355328) : Pure Try.prog 6 #[(cOp.val (kind, at_, n, (Ab, bytes.length, cb), (Ak, keep.length, ck)))] (fun _ => True) (.bool true) := by
  refine pure_of (fn := Try.f6) Try.func6 rfl Try.ntmps6 (Nat.le_of_ble_eq_true rfl) rfl ?_
  intro w0 hH hR
  refine cxSeq ?_
  refine cxReg ?_
  refine pxM hH (fun _ hF => smBox rfl (hF.ev 0 rfl) rfl) trivial rfl (fun _ _ => rfl) (kM [false] rfl rfl) (by decide) ?_
  clear hH
  rintro _ _ w ⟨g1, rfl, rfl⟩ hH
  replace hH : HH w0 [] [[bl g1 33 (cOp.enc (kind, at_, n, (Ab, bytes.length, cb), (Ak, keep.length, ck)))]] w := hH
  refine pxV (v := (.bool false)) (fun _ _ hF => opAssign rfl rfl) rfl (fun _ _ => rfl) (kA rfl) (by decide) ?_
  refine pxEnd ?_
  refine qxThen ?_
  refine cxSeq ?_
  refine cxSeq ?_
  refine cxReg ?_
  refine pxM hH (fun _ hF => Does.small ((awake_c ).does) (fun w => opCall rfl Try.func7 rfl rfl Evs.nil w)) trivial rfl (fun _ _ => rfl) (kM [false, true] rfl rfl) (by decide) ?_
  clear hH
  rintro _ _ w ⟨rfl, rfl⟩ hH
  replace hH : HH w0 [] [[bl g1 33 (cOp.enc (kind, at_, n, (Ab, bytes.length, cb), (Ak, keep.length, ck)))]] w := hH.unpad
  refine pxV (v := (.bool false)) (fun _ _ hF => opNot rfl (hF.ev 0 rfl) rfl) rfl (fun _ _ => rfl) (kM [false, true] rfl rfl) (by decide) ?_
  refine pxV (v := (.bool false)) (fun _ _ hF => opMove rfl (hF.ev 0 rfl)) rfl (fun _ _ => rfl) (kM [false, true] rfl rfl) (by decide) ?_
  refine pxS (v := (cOp.val (kind, at_, n, (Ab, bytes.length, cb), (Ak, keep.length, ck)))) (fun w => w.heap[g1]? = some (.cells (cOp.enc (kind, at_, n, (Ab, bytes.length, cb), (Ak, keep.length, ck))) 33 (0, 0))) (hH.blk 0 rfl) (fun _ _ hF hS => opLoadT (C := cOp) (y := (kind, at_, n, (Ab, bytes.length, cb), (Ak, keep.length, ck))) rfl (hF.ev 1 rfl) (by kernel_rfl) (holds_blk0 hS) rfl) rfl (gOn 0 rfl rfl rfl (by decide)) (kA rfl) (by decide) ?_
  refine pxM hH (fun _ hF => smLit1 (e := 33) (sz := 5) (z := (cOp.val (0, 0, 0, (none, 0, 0), (none, 0, 0)))) (by_ := 72) (cs := cOp.enc (kind, at_, n, (Ab, bytes.length, cb), (Ak, keep.length, ck))) rfl (by kernel_rfl) (by kernel_rfl) (hF.ev 0 rfl) (cOp.len (kind, at_, n, (Ab, bytes.length, cb), (Ak, keep.length, ck))) (ltb rfl) (leb rfl) rfl) trivial rfl (gOn 1 rfl rfl rfl (by decide)) (kM [false, true, true] rfl rfl) (by decide) ?_
  clear hH
  rintro _ _ w ⟨g2, rfl, rfl⟩ hH
  replace hH : HH w0 [] [[bl g1 33 (cOp.enc (kind, at_, n, (Ab, bytes.length, cb), (Ak, keep.length, ck)))], [bl g2 33 (cOp.enc (kind, at_, n, (Ab, bytes.length, cb), (Ak, keep.length, ck)))]] w := hH
  refine pxM hH (fun _ hF => Does.small (few_c [(kind, at_, n, (Ab, bytes.length, cb), (Ak, keep.length, ck))] (some ⟨g2, 0, none⟩) 1 (fun x hx => by obtain rfl := List.mem_singleton.1 hx; exact hb) (leb rfl)) (fun w => opCall rfl Try.func8 rfl rfl (Evs.cons (v := (.slice (some ⟨g2, 0, none⟩) 1 1)) (hF.ev 0 rfl) Evs.nil) w)) ((Bk.lit1 (C := cOp) (kind, at_, n, (Ab, bytes.length, cb), (Ak, keep.length, ck))).vu (hH.blk 1 rfl) rfl) rfl (gOn 1 rfl rfl rfl (by decide)) (kM [false, true, true] rfl rfl) (by decide) ?_
  clear hH
  rintro _ _ w ⟨rfl, b1, rfl, hfew⟩ hH
  replace hH : HH w0 [] [[bl g1 33 (cOp.enc (kind, at_, n, (Ab, bytes.length, cb), (Ak, keep.length, ck)))], [bl g2 33 (cOp.enc (kind, at_, n, (Ab, bytes.length, cb), (Ak, keep.length, ck)))]] w := hH.unpad
  refine pxV (v := (.bool (!(b1)))) (fun _ _ hF => opNot rfl (hF.ev 0 rfl) rfl) rfl (gOn 1 rfl rfl rfl (by decide)) (kM [false, true, true] rfl rfl) (by decide) ?_
  refine pxV (v := (.bool (!(b1)))) (fun _ _ hF => opPickF rfl (hF.ev 1 rfl) (hF.ev 0 rfl)) rfl (fun _ _ => rfl) (kM [false, false, true] rfl rfl) (by decide) ?_
  refine pxEnd ?_
  refine qxThen ?_
  refine cxB 0 rfl rfl (fun hc3 => ?_) (fun hc3 => ?_)
  · replace hc3 : b1 = false := by simpa using hc3
    refine cxSeq ?_
    refine cxReg ?_
    refine pxM hH (fun _ hF => Does.small ((awake_c ).does) (fun w => opCall rfl Try.func7 rfl rfl Evs.nil w)) trivial rfl (fun _ _ => rfl) (kM [false, false] rfl rfl) (by decide) ?_
    clear hH
    rintro _ _ w ⟨rfl, rfl⟩ hH
    replace hH : HH w0 [] [[bl g1 33 (cOp.enc (kind, at_, n, (Ab, bytes.length, cb), (Ak, keep.length, ck)))], [bl g2 33 (cOp.enc (kind, at_, n, (Ab, bytes.length, cb), (Ak, keep.length, ck)))]] w := hH.unpad
    refine pxV (v := (.bool true)) (fun _ _ hF => opAssign rfl (hF.ev 0 rfl)) rfl (fun _ _ => rfl) (kM [false] rfl rfl) (by decide) ?_
    refine pxEnd ?_
    refine qxThen ?_
    refine cxRet ?_
    refine qxThenR ?_
    refine qxRet1 0 rfl rfl ?_
    exact ⟨rfl, HH.toBelow hH⟩
  · replace hc3 : b1 = true := by simpa using hc3
    refine cxSkip ?_
    refine qxThen ?_
    refine cxSeq ?_
    refine cxReg ?_
    refine pxV (v := (.pointer none)) (fun _ _ hF => opAssign rfl rfl) rfl (fun _ _ => rfl) (kM [false, true] rfl rfl) (by decide) ?_
    refine pxEnd ?_
    refine qxThen ?_
    refine cxSeq ?_
    refine cxReg ?_
    refine pxV (v := (.pointer none)) (fun _ _ hF => opMove rfl (hF.ev 0 rfl)) rfl (fun _ _ => rfl) (kA rfl) (by decide) ?_
    refine pxV (v := (.pointer (some ⟨g1, 2, none⟩))) (fun _ _ hF => opField (off := 2) rfl (hF.ev 2 rfl) (by kernel_rfl)) rfl (fun _ _ => rfl) (kA rfl) (by decide) ?_
    refine pxS (v := (.int .i64 (n))) (fun w => w.heap[g1]? = some (.cells (cOp.enc (kind, at_, n, (Ab, bytes.length, cb), (Ak, keep.length, ck))) 33 (0, 0))) (hH.blk 0 rfl) (fun _ _ hF hS => opLoadT (C := (cInt .i64)) (y := n) rfl (hF.ev 0 rfl) (by kernel_rfl) (((holds_blk0 hS).snd).snd).fst rfl) rfl (fun _ _ => rfl) (kM [false, true, true, true] rfl rfl) (by decide) ?_
    refine pxM hH (fun _ hF => Does.small ((setFuse_nil (n)).does) (fun w => opCall rfl Try.func20 rfl rfl (Evs.cons (v := (.pointer none)) (hF.ev 1 rfl) (Evs.cons (v := (.int .i64 (n))) (hF.ev 0 rfl) Evs.nil)) w)) trivial rfl (fun _ _ => rfl) (kM [false, false, true, true] rfl rfl) (by decide) ?_
    clear hH
    rintro _ _ w ⟨rfl, rfl⟩ hH
    replace hH : HH w0 [] [[bl g1 33 (cOp.enc (kind, at_, n, (Ab, bytes.length, cb), (Ak, keep.length, ck)))], [bl g2 33 (cOp.enc (kind, at_, n, (Ab, bytes.length, cb), (Ak, keep.length, ck)))]] w := hH.unpad
    refine pxEnd ?_
    refine qxThen ?_
    refine cxSeq ?_
    refine cxReg ?_
    refine pxV (v := (.pointer none)) (fun _ _ hF => opMove rfl (hF.ev 1 rfl)) rfl (fun _ _ => rfl) (kM [false, true, true] rfl rfl) (by decide) ?_
    refine pxV (v := (.pointer (some ⟨g1, 4, none⟩))) (fun _ _ hF => opField (off := 4) rfl (hF.ev 2 rfl) (by kernel_rfl)) rfl (fun _ _ => rfl) (kA rfl) (by decide) ?_
    refine pxS (v := (.slice Ak keep.length ck)) (fun w => w.heap[g1]? = some (.cells (cOp.enc (kind, at_, n, (Ab, bytes.length, cb), (Ak, keep.length, ck))) 33 (0, 0))) (hH.blk 0 rfl) (fun _ _ hF hS => opLoadT (C := cSl) (y := (Ak, keep.length, ck)) rfl (hF.ev 0 rfl) (by kernel_rfl) ((((holds_blk0 hS).snd).snd).snd).snd rfl) rfl (fun _ _ => rfl) (kM [false, true, true, true] rfl rfl) (by decide) ?_
    refine pxM hH (fun _ hF => Does.small ((crash_nil Ak keep.length ck).does) (fun w => opCall rfl Try.func16 rfl rfl (Evs.cons (v := (.pointer none)) (hF.ev 1 rfl) (Evs.cons (v := (.slice Ak keep.length ck)) (hF.ev 0 rfl) Evs.nil)) w)) trivial rfl (fun _ _ => rfl) (kM [false, false, true, true] rfl rfl) (by decide) ?_
    clear hH
    rintro _ _ w ⟨rfl, rfl⟩ hH
    replace hH : HH w0 [] [[bl g1 33 (cOp.enc (kind, at_, n, (Ab, bytes.length, cb), (Ak, keep.length, ck)))], [bl g2 33 (cOp.enc (kind, at_, n, (Ab, bytes.length, cb), (Ak, keep.length, ck)))]] w := hH.unpad
    refine pxEnd ?_
    refine qxThen ?_
    refine cxSeq ?_
    refine cxReg ?_
    refine pxV (v := (.pointer none)) (fun _ _ hF => opMove rfl (hF.ev 1 rfl)) rfl (fun _ _ => rfl) (kM [false, true, true] rfl rfl) (by decide) ?_
    refine pxV (v := (.pointer (some ⟨g1, 1, none⟩))) (fun _ _ hF => opField (off := 1) rfl (hF.ev 2 rfl) (by kernel_rfl)) rfl (fun _ _ => rfl) (kA rfl) (by decide) ?_
    refine pxS (v := (.int .i64 (at_))) (fun w => w.heap[g1]? = some (.cells (cOp.enc (kind, at_, n, (Ab, bytes.length, cb), (Ak, keep.length, ck))) 33 (0, 0))) (hH.blk 0 rfl) (fun _ _ hF hS => opLoadT (C := (cInt .i64)) (y := at_) rfl (hF.ev 0 rfl) (by kernel_rfl) ((holds_blk0 hS).snd).fst rfl) rfl (fun _ _ => rfl) (kM [false, true, true, true] rfl rfl) (by decide) ?_
    refine pxV (v := (.pointer (some ⟨g1, 2, none⟩))) (fun _ _ hF => opField (off := 2) rfl (hF.ev 3 rfl) (by kernel_rfl)) rfl (fun _ _ => rfl) (kA rfl) (by decide) ?_
    refine pxS (v := (.int .i64 (n))) (fun w => w.heap[g1]? = some (.cells (cOp.enc (kind, at_, n, (Ab, bytes.length, cb), (Ak, keep.length, ck))) 33 (0, 0))) (hH.blk 0 rfl) (fun _ _ hF hS => opLoadT (C := (cInt .i64)) (y := n) rfl (hF.ev 0 rfl) (by kernel_rfl) (((holds_blk0 hS).snd).snd).fst rfl) rfl (fun _ _ => rfl) (kM [false, true, true, true, true] rfl rfl) (by decide) ?_
    refine pxM hH (fun _ hF => Does.small ((read_nil (at_) (n)).does) (fun w => opCall rfl Try.func17 rfl rfl (Evs.cons (v := (.pointer none)) (hF.ev 2 rfl) (Evs.cons (v := (.int .i64 (at_))) (hF.ev 1 rfl) (Evs.cons (v := (.int .i64 (n))) (hF.ev 0 rfl) Evs.nil))) w)) trivial rfl (fun _ _ => rfl) (kM [false, false, false, true, true] rfl rfl) (by decide) ?_
    clear hH
    rintro _ _ w ⟨rfl, rfl⟩ hH
    replace hH : HH w0 [] [[bl g1 33 (cOp.enc (kind, at_, n, (Ab, bytes.length, cb), (Ak, keep.length, ck)))], [bl g2 33 (cOp.enc (kind, at_, n, (Ab, bytes.length, cb), (Ak, keep.length, ck)))]] w := hH.unpad
    refine pxV (v := (.tuple #[(.slice none 0 0), (.int .i64 1)])) (fun _ _ hF => opMove rfl (hF.ev 0 rfl)) rfl (fun _ _ => rfl) (kM [false, true, true] rfl rfl) (by decide) ?_
    refine pxV (v := (.slice none 0 0)) (fun _ _ hF => opExtract rfl (hF.ev 0 rfl) rfl) rfl (fun _ _ => rfl) (kA rfl) (by decide) ?_
    refine pxV (v := (.int .i64 1)) (fun _ _ hF => opExtract rfl (hF.ev 1 rfl) rfl) rfl (fun _ _ => rfl) (kM [true, false, true, true] rfl rfl) (by decide) ?_
    refine pxV (v := (.slice none 0 0)) (fun _ _ hF => opAssign rfl (hF.ev 1 rfl)) rfl (fun _ _ => rfl) (kM [true, false, true, true] rfl rfl) (by decide) ?_
    refine pxV (v := (.int .i64 1)) (fun _ _ hF => opAssign rfl (hF.ev 1 rfl)) rfl (fun _ _ => rfl) (kM [false, false, true, true] rfl rfl) (by decide) ?_
    refine pxEnd ?_
    refine qxThen ?_
    refine cxSeq ?_
    refine cxReg ?_
    refine pxV (v := (.int .i64 1)) (fun _ _ hF => opMove rfl (hF.ev 0 rfl)) rfl (fun _ _ => rfl) (kM [false, true, true] rfl rfl) (by decide) ?_
    refine pxV (v := (.bool true)) (fun _ _ hF => opEqI rfl (hF.ev 0 rfl) rfl (by decide)) rfl (fun _ _ => rfl) (kM [false, true, true] rfl rfl) (by decide) ?_
    refine pxV (v := (.bool true)) (fun _ _ hF => opMove rfl (hF.ev 0 rfl)) rfl (fun _ _ => rfl) (kM [false, true, true] rfl rfl) (by decide) ?_
    refine pxV (v := (.pointer none)) (fun _ _ hF => opMove rfl (hF.ev 1 rfl)) rfl (gOn 0 rfl rfl rfl (by decide)) (kA rfl) (by decide) ?_
    refine pxV (v := (.pointer (some ⟨g1, 1, none⟩))) (fun _ _ hF => opField (off := 1) rfl (hF.ev 3 rfl) (by kernel_rfl)) rfl (gOn 1 rfl rfl rfl (by decide)) (kA rfl) (by decide) ?_
    refine pxS (v := (.int .i64 (at_))) (fun w => w.heap[g1]? = some (.cells (cOp.enc (kind, at_, n, (Ab, bytes.length, cb), (Ak, keep.length, ck))) 33 (0, 0))) (hH.blk 0 rfl) (fun _ _ hF hS => opLoadT (C := (cInt .i64)) (y := at_) rfl (hF.ev 0 rfl) (by kernel_rfl) ((holds_blk0 hS).snd).fst rfl) rfl (gOn 2 rfl rfl rfl (by decide)) (kM [false, true, true, true, true] rfl rfl) (by decide) ?_
    refine pxV (v := (.pointer (some ⟨g1, 3, none⟩))) (fun _ _ hF => opField (off := 3) rfl (hF.ev 4 rfl) (by kernel_rfl)) rfl (gOn 2 rfl rfl rfl (by decide)) (kM [true, true, true, true, false] rfl rfl) (by decide) ?_
    refine pxS (v := (.slice Ab bytes.length cb)) (fun w => w.heap[g1]? = some (.cells (cOp.enc (kind, at_, n, (Ab, bytes.length, cb), (Ak, keep.length, ck))) 33 (0, 0))) (hH.blk 0 rfl) (fun _ _ hF hS => opLoadT (C := cSl) (y := (Ab, bytes.length, cb)) rfl (hF.ev 0 rfl) (by kernel_rfl) ((((holds_blk0 hS).snd).snd).snd).fst rfl) rfl (gOn 3 rfl rfl rfl (by decide)) (kM [false, true, true, true, true] rfl rfl) (by decide) ?_
    refine pxM hH (fun _ hF => Does.small ((write_nil (at_) Ab bytes.length cb (by omega)).does) (fun w => opCall rfl Try.func13 rfl rfl (Evs.cons (v := (.pointer none)) (hF.ev 2 rfl) (Evs.cons (v := (.int .i64 (at_))) (hF.ev 1 rfl) (Evs.cons (v := (.slice Ab bytes.length cb)) (hF.ev 0 rfl) Evs.nil))) w)) trivial rfl (gOn 3 rfl rfl rfl (by decide)) (kM [false, false, false, true, true] rfl rfl) (by decide) ?_
    clear hH
    rintro _ _ w ⟨rfl, rfl⟩ hH
    replace hH : HH w0 [] [[bl g1 33 (cOp.enc (kind, at_, n, (Ab, bytes.length, cb), (Ak, keep.length, ck)))], [bl g2 33 (cOp.enc (kind, at_, n, (Ab, bytes.length, cb), (Ak, keep.length, ck)))]] w := hH.unpad
    refine pxV (v := (.bool true)) (fun _ _ hF => opEqI rfl (hF.ev 0 rfl) rfl (by decide)) rfl (gOn 1 rfl rfl rfl (by decide)) (kM [false, true, true] rfl rfl) (by decide) ?_
    refine pxV (v := (.bool true)) (fun _ _ hF => opPickT rfl (hF.ev 1 rfl) (hF.ev 0 rfl)) rfl (fun _ _ => rfl) (kM [false, false, true] rfl rfl) (by decide) ?_
    refine pxV (v := (.bool true)) (fun _ _ hF => opMove rfl (hF.ev 0 rfl)) rfl (fun _ _ => rfl) (kM [false, true] rfl rfl) (by decide) ?_
    refine pxV (v := (.pointer none)) (fun _ _ hF => opMove rfl (hF.ev 1 rfl)) rfl (gOn 0 rfl rfl rfl (by decide)) (kA rfl) (by decide) ?_
    refine pxM hH (fun _ hF => Does.small ((sync_nil ).does) (fun w => opCall rfl Try.func15 rfl rfl (Evs.cons (v := (.pointer none)) (hF.ev 0 rfl) Evs.nil) w)) trivial rfl (gOn 1 rfl rfl rfl (by decide)) (kM [false, true, true] rfl rfl) (by decide) ?_
    clear hH
    rintro _ _ w ⟨rfl, rfl⟩ hH
    replace hH : HH w0 [] [[bl g1 33 (cOp.enc (kind, at_, n, (Ab, bytes.length, cb), (Ak, keep.length, ck)))], [bl g2 33 (cOp.enc (kind, at_, n, (Ab, bytes.length, cb), (Ak, keep.length, ck)))]] w := hH.unpad
    refine pxV (v := (.bool true)) (fun _ _ hF => opEqI rfl (hF.ev 0 rfl) rfl (by decide)) rfl (gOn 1 rfl rfl rfl (by decide)) (kM [false, true, true] rfl rfl) (by decide) ?_
    refine pxV (v := (.bool true)) (fun _ _ hF => opPickT rfl (hF.ev 1 rfl) (hF.ev 0 rfl)) rfl (fun _ _ => rfl) (kM [false, false, true] rfl rfl) (by decide) ?_
    refine pxV (v := (.bool true)) (fun _ _ hF => opMove rfl (hF.ev 0 rfl)) rfl (fun _ _ => rfl) (kM [false, true] rfl rfl) (by decide) ?_
    refine pxV (v := (.pointer none)) (fun _ _ hF => opMove rfl (hF.ev 1 rfl)) rfl (gOn 0 rfl rfl rfl (by decide)) (kA rfl) (by decide) ?_
    refine pxM hH (fun _ hF => Does.small ((sectors_nil ).does) (fun w => opCall rfl Try.func19 rfl rfl (Evs.cons (v := (.pointer none)) (hF.ev 0 rfl) Evs.nil) w)) trivial rfl (gOn 1 rfl rfl rfl (by decide)) (kM [false, true, true] rfl rfl) (by decide) ?_
    clear hH
    rintro _ _ w ⟨rfl, rfl⟩ hH
    replace hH : HH w0 [] [[bl g1 33 (cOp.enc (kind, at_, n, (Ab, bytes.length, cb), (Ak, keep.length, ck)))], [bl g2 33 (cOp.enc (kind, at_, n, (Ab, bytes.length, cb), (Ak, keep.length, ck)))]] w := hH.unpad
    refine pxV (v := (.bool true)) (fun _ _ hF => opEqI rfl (hF.ev 0 rfl) rfl (by decide)) rfl (gOn 1 rfl rfl rfl (by decide)) (kM [false, true, true] rfl rfl) (by decide) ?_
    refine pxV (v := (.bool true)) (fun _ _ hF => opPickT rfl (hF.ev 1 rfl) (hF.ev 0 rfl)) rfl (fun _ _ => rfl) (kM [false, false, true] rfl rfl) (by decide) ?_
    refine pxV (v := (.bool true)) (fun _ _ hF => opMove rfl (hF.ev 0 rfl)) rfl (fun _ _ => rfl) (kM [false, true] rfl rfl) (by decide) ?_
    refine pxV (v := (.pointer none)) (fun _ _ hF => opMove rfl (hF.ev 1 rfl)) rfl (gOn 0 rfl rfl rfl (by decide)) (kA rfl) (by decide) ?_
    refine pxM hH (fun _ hF => Does.small ((down_nil ).does) (fun w => opCall rfl Try.func21 rfl rfl (Evs.cons (v := (.pointer none)) (hF.ev 0 rfl) Evs.nil) w)) trivial rfl (gOn 1 rfl rfl rfl (by decide)) (kM [false, true, true] rfl rfl) (by decide) ?_
    clear hH
    rintro _ _ w ⟨rfl, rfl⟩ hH
    replace hH : HH w0 [] [[bl g1 33 (cOp.enc (kind, at_, n, (Ab, bytes.length, cb), (Ak, keep.length, ck)))], [bl g2 33 (cOp.enc (kind, at_, n, (Ab, bytes.length, cb), (Ak, keep.length, ck)))]] w := hH.unpad
    refine pxV (v := (.bool true)) (fun _ _ hF => opNot rfl (hF.ev 0 rfl) rfl) rfl (gOn 1 rfl rfl rfl (by decide)) (kM [false, true, true] rfl rfl) (by decide) ?_
    refine pxV (v := (.bool true)) (fun _ _ hF => opPickT rfl (hF.ev 1 rfl) (hF.ev 0 rfl)) rfl (fun _ _ => rfl) (kM [false, false, true] rfl rfl) (by decide) ?_
    refine pxV (v := (.bool true)) (fun _ _ hF => opMove rfl (hF.ev 0 rfl)) rfl (fun _ _ => rfl) (kM [false, true] rfl rfl) (by decide) ?_
    refine pxV (v := (.pointer none)) (fun _ _ hF => opMove rfl (hF.ev 1 rfl)) rfl (gOn 0 rfl rfl rfl (by decide)) (kM [true, false] rfl rfl) (by decide) ?_
    refine pxM hH (fun _ hF => Does.small ((unsynced_nil ).does) (fun w => opCall rfl Try.func18 rfl rfl (Evs.cons (v := (.pointer none)) (hF.ev 0 rfl) Evs.nil) w)) trivial rfl (gOn 1 rfl rfl rfl (by decide)) (kM [false, true] rfl rfl) (by decide) ?_
    clear hH
    rintro _ _ w ⟨rfl, rfl⟩ hH
    replace hH : HH w0 [] [[bl g1 33 (cOp.enc (kind, at_, n, (Ab, bytes.length, cb), (Ak, keep.length, ck)))], [bl g2 33 (cOp.enc (kind, at_, n, (Ab, bytes.length, cb), (Ak, keep.length, ck)))]] w := hH.unpad
    refine pxV (v := (.bool true)) (fun _ _ hF => opEqI rfl (hF.ev 0 rfl) rfl (by decide)) rfl (gOn 1 rfl rfl rfl (by decide)) (kM [false, true] rfl rfl) (by decide) ?_
    refine pxV (v := (.bool true)) (fun _ _ hF => opPickT rfl (hF.ev 1 rfl) (hF.ev 0 rfl)) rfl (fun _ _ => rfl) (kM [false, false] rfl rfl) (by decide) ?_
    refine pxV (v := (.bool true)) (fun _ _ hF => opAssign rfl (hF.ev 0 rfl)) rfl (fun _ _ => rfl) (kM [false] rfl rfl) (by decide) ?_
    refine pxEnd ?_
    refine qxThen ?_
    refine cxRet ?_
    refine qxRet1 0 rfl rfl ?_
    exact ⟨rfl, HH.toBelow hH⟩
end Go.Proofs.Ytnalkphocllhbaa
