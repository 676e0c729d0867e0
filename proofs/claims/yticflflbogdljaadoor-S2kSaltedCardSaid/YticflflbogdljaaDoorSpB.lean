/- The program's hash takes a block (mkspb.py writes this text). -/
import Derived.Test.YticflflbogdljaaDoorSpA
namespace Go.Proofs.YticflflbogdljaaDoor
open Go Go.RowKit
set_option maxRecDepth 100000

set_option maxHeartbeats 8000000 in
theorem take_c (s : Nat → UInt32) (b : Nat → UInt8) : Pure Tryd.prog 22 #[((cWs 8).val s), ((cArr 64).val b)] (fun w => w.heap[1]? = some (.cells ((cWs 64).enc K32) 46 (0, 0))) ((cWs 8).val (comp32 b s)) := by
  refine pure_of (fn := Tryd.f22) Tryd.func22 rfl Tryd.ntmps22 (Nat.le_of_ble_eq_true rfl) rfl ?_
  intro w0 hH hR
  refine cxSeq ?_
  refine cxReg ?_
  refine pxM hH (fun _ hF => smBox rfl (hF.ev 0 rfl) rfl) trivial rfl (fun _ _ => rfl) (kM [false, true] rfl rfl) (by decide) ?_
  clear hH
  rintro _ _ w ⟨g1, rfl, rfl⟩ hH
  replace hH : HH w0 [] [[bl g1 45 ((cWs 8).enc s)]] w := hH
  refine pxM hH (fun _ hF => smBox rfl (hF.ev 1 rfl) rfl) trivial rfl (fun _ _ => rfl) (kM [true, false] rfl rfl) (by decide) ?_
  clear hH
  rintro _ _ w ⟨g2, rfl, rfl⟩ hH
  replace hH : HH w0 [] [[bl g1 45 ((cWs 8).enc s)], [bl g2 50 ((cArr 64).enc b)]] w := hH
  refine pxM hH (fun _ hF => smAlloc (cs := (cWs 8).enc (fun _ => 0)) (z := ((cWs 8).val (fun _ => 0))) rfl (by kernel_rfl) rfl) trivial rfl (fun _ _ => rfl) (kA rfl) (by decide) ?_
  clear hH
  rintro _ _ w ⟨g3, rfl, rfl⟩ hH
  replace hH : HH w0 [] [[bl g1 45 ((cWs 8).enc s)], [bl g2 50 ((cArr 64).enc b)], [bl g3 45 ((cWs 8).enc (fun _ => 0))]] w := hH
  refine pxEnd ?_
  refine qxThen ?_
  refine cxSeq ?_
  refine cxReg ?_
  refine pxS (v := ((cArr 64).val b)) (fun w => w.heap[g2]? = some (.cells ((cArr 64).enc b) 50 (0, 0))) (hH.blk 1 rfl) (fun _ _ hF hS => opLoadT (C := (cArr 64)) (y := b) rfl (hF.ev 1 rfl) (by kernel_rfl) (holds_blk0 hS) rfl) rfl (fun _ _ => rfl) (kM [true, false, true] rfl rfl) (by decide) ?_
  refine pxM hH (fun _ hF => Does.small ((words_c b).does) (fun w => opCall rfl Tryd.func25 rfl rfl (Evs.cons (v := ((cArr 64).val b)) (hF.ev 0 rfl) Evs.nil) w)) trivial rfl (fun _ _ => rfl) (kM [false, true, true] rfl rfl) (by decide) ?_
  clear hH
  rintro _ _ w ⟨rfl, rfl⟩ hH
  replace hH : HH w0 [] [[bl g1 45 ((cWs 8).enc s)], [bl g2 50 ((cArr 64).enc b)], [bl g3 45 ((cWs 8).enc (fun _ => 0))]] w := hH.unpad
  refine pxM hH (fun _ hF => smAlloc (cs := (cWs 64).enc (fun _ => 0)) (z := ((cWs 64).val (fun _ => 0))) rfl (by kernel_rfl) rfl) trivial rfl (fun _ _ => rfl) (kA rfl) (by decide) ?_
  clear hH
  rintro _ _ w ⟨g4, rfl, rfl⟩ hH
  replace hH : HH w0 [] [[bl g1 45 ((cWs 8).enc s)], [bl g2 50 ((cArr 64).enc b)], [bl g3 45 ((cWs 8).enc (fun _ => 0))], [bl g4 46 ((cWs 64).enc (fun _ => 0))]] w := hH
  refine pxE0 3 hH rfl (fun _ hF => smStoreT (C := (cWs 64)) (z := (W32 b)) rfl (hF.ev 0 rfl) (hF.ev 1 rfl) rfl (by kernel_rfl) (by rw [Cod.size]; exact Nat.le_refl _) (put_whole (cWs 64) _ _)) trivial rfl (fun _ _ => rfl) ?_
  clear hH
  rintro _ _ w rfl hH
  replace hH : HH w0 [] [[bl g1 45 ((cWs 8).enc s)], [bl g2 50 ((cArr 64).enc b)], [bl g3 45 ((cWs 8).enc (fun _ => 0))], [bl g4 46 ((cWs 64).enc (W32 b))]] w := hH
  refine pxEnd ?_
  refine qxThen ?_
  refine cxSeq ?_
  refine cxRegX mixedOrders (by kernel_rfl) ?_
  replace hH := hH.drew
  have hi5 : 0 < 8 := by omega
  refine rxV 0 rfl (by kernel_rfl) rfl (fun _ _ => rfl) (fun _ _ hF => opIndexA (i := 0) (e := 44) (sz := 1) rfl (by kernel_rfl) (by kernel_rfl) (hF.ev 3 rfl) rfl rfl hi5) (kM [true, false, true, true] rfl rfl) (by decide) (v := (.pointer (some ⟨g1, 0 + 0 * 1, none⟩))) ?_
  refine rxS (fun w => w.heap[g1]? = some (.cells ((cWs 8).enc s) 45 (0, 0))) 1 rfl (by kernel_rfl) rfl (fun _ _ => rfl) (hH.blk 0 rfl) (fun _ _ hF hS => opLoadT (C := cWd) (y := (s 0)) rfl (hF.ev 0 rfl) (by kernel_rfl) ((holds_blk0 hS).eltV hi5) rfl) (kM [false, true, true, true] rfl rfl) (by decide) (v := (.int .u32 ((((s 0).toNat) : Nat) : Int))) ?_
  have hi6 : 1 < 8 := by omega
  refine rxV 2 rfl (by kernel_rfl) rfl (fun _ _ => rfl) (fun _ _ hF => opIndexA (i := 1) (e := 44) (sz := 1) rfl (by kernel_rfl) (by kernel_rfl) (hF.ev 3 rfl) rfl rfl hi6) (kA rfl) (by decide) (v := (.pointer (some ⟨g1, 0 + 1 * 1, none⟩))) ?_
  refine rxS (fun w => w.heap[g1]? = some (.cells ((cWs 8).enc s) 45 (0, 0))) 3 rfl (by kernel_rfl) rfl (fun _ _ => rfl) (hH.blk 0 rfl) (fun _ _ hF hS => opLoadT (C := cWd) (y := (s 1)) rfl (hF.ev 0 rfl) (by kernel_rfl) ((holds_blk0 hS).eltV hi6) rfl) (kM [false, true, true, true, true] rfl rfl) (by decide) (v := (.int .u32 ((((s 1).toNat) : Nat) : Int))) ?_
  have hi7 : 2 < 8 := by omega
  refine rxV 4 rfl (by kernel_rfl) rfl (fun _ _ => rfl) (fun _ _ hF => opIndexA (i := 2) (e := 44) (sz := 1) rfl (by kernel_rfl) (by kernel_rfl) (hF.ev 4 rfl) rfl rfl hi7) (kA rfl) (by decide) (v := (.pointer (some ⟨g1, 0 + 2 * 1, none⟩))) ?_
  refine rxS (fun w => w.heap[g1]? = some (.cells ((cWs 8).enc s) 45 (0, 0))) 5 rfl (by kernel_rfl) rfl (fun _ _ => rfl) (hH.blk 0 rfl) (fun _ _ hF hS => opLoadT (C := cWd) (y := (s 2)) rfl (hF.ev 0 rfl) (by kernel_rfl) ((holds_blk0 hS).eltV hi7) rfl) (kM [false, true, true, true, true, true] rfl rfl) (by decide) (v := (.int .u32 ((((s 2).toNat) : Nat) : Int))) ?_
  have hi8 : 3 < 8 := by omega
  refine rxV 6 rfl (by kernel_rfl) rfl (fun _ _ => rfl) (fun _ _ hF => opIndexA (i := 3) (e := 44) (sz := 1) rfl (by kernel_rfl) (by kernel_rfl) (hF.ev 5 rfl) rfl rfl hi8) (kA rfl) (by decide) (v := (.pointer (some ⟨g1, 0 + 3 * 1, none⟩))) ?_
  refine rxS (fun w => w.heap[g1]? = some (.cells ((cWs 8).enc s) 45 (0, 0))) 7 rfl (by kernel_rfl) rfl (fun _ _ => rfl) (hH.blk 0 rfl) (fun _ _ hF hS => opLoadT (C := cWd) (y := (s 3)) rfl (hF.ev 0 rfl) (by kernel_rfl) ((holds_blk0 hS).eltV hi8) rfl) (kM [false, true, true, true, true, true, true] rfl rfl) (by decide) (v := (.int .u32 ((((s 3).toNat) : Nat) : Int))) ?_
  have hi9 : 4 < 8 := by omega
  refine rxV 8 rfl (by kernel_rfl) rfl (fun _ _ => rfl) (fun _ _ hF => opIndexA (i := 4) (e := 44) (sz := 1) rfl (by kernel_rfl) (by kernel_rfl) (hF.ev 6 rfl) rfl rfl hi9) (kA rfl) (by decide) (v := (.pointer (some ⟨g1, 0 + 4 * 1, none⟩))) ?_
  refine rxS (fun w => w.heap[g1]? = some (.cells ((cWs 8).enc s) 45 (0, 0))) 9 rfl (by kernel_rfl) rfl (fun _ _ => rfl) (hH.blk 0 rfl) (fun _ _ hF hS => opLoadT (C := cWd) (y := (s 4)) rfl (hF.ev 0 rfl) (by kernel_rfl) ((holds_blk0 hS).eltV hi9) rfl) (kM [false, true, true, true, true, true, true, true] rfl rfl) (by decide) (v := (.int .u32 ((((s 4).toNat) : Nat) : Int))) ?_
  have hi10 : 5 < 8 := by omega
  refine rxV 10 rfl (by kernel_rfl) rfl (fun _ _ => rfl) (fun _ _ hF => opIndexA (i := 5) (e := 44) (sz := 1) rfl (by kernel_rfl) (by kernel_rfl) (hF.ev 7 rfl) rfl rfl hi10) (kA rfl) (by decide) (v := (.pointer (some ⟨g1, 0 + 5 * 1, none⟩))) ?_
  refine rxS (fun w => w.heap[g1]? = some (.cells ((cWs 8).enc s) 45 (0, 0))) 11 rfl (by kernel_rfl) rfl (fun _ _ => rfl) (hH.blk 0 rfl) (fun _ _ hF hS => opLoadT (C := cWd) (y := (s 5)) rfl (hF.ev 0 rfl) (by kernel_rfl) ((holds_blk0 hS).eltV hi10) rfl) (kM [false, true, true, true, true, true, true, true, true] rfl rfl) (by decide) (v := (.int .u32 ((((s 5).toNat) : Nat) : Int))) ?_
  have hi11 : 6 < 8 := by omega
  refine rxV 12 rfl (by kernel_rfl) rfl (fun _ _ => rfl) (fun _ _ hF => opIndexA (i := 6) (e := 44) (sz := 1) rfl (by kernel_rfl) (by kernel_rfl) (hF.ev 8 rfl) rfl rfl hi11) (kA rfl) (by decide) (v := (.pointer (some ⟨g1, 0 + 6 * 1, none⟩))) ?_
  refine rxS (fun w => w.heap[g1]? = some (.cells ((cWs 8).enc s) 45 (0, 0))) 13 rfl (by kernel_rfl) rfl (fun _ _ => rfl) (hH.blk 0 rfl) (fun _ _ hF hS => opLoadT (C := cWd) (y := (s 6)) rfl (hF.ev 0 rfl) (by kernel_rfl) ((holds_blk0 hS).eltV hi11) rfl) (kM [false, true, true, true, true, true, true, true, true, true] rfl rfl) (by decide) (v := (.int .u32 ((((s 6).toNat) : Nat) : Int))) ?_
  have hi12 : 7 < 8 := by omega
  refine rxV 14 rfl (by kernel_rfl) rfl (fun _ _ => rfl) (fun _ _ hF => opIndexA (i := 7) (e := 44) (sz := 1) rfl (by kernel_rfl) (by kernel_rfl) (hF.ev 9 rfl) rfl rfl hi12) (kA rfl) (by decide) (v := (.pointer (some ⟨g1, 0 + 7 * 1, none⟩))) ?_
  refine rxS (fun w => w.heap[g1]? = some (.cells ((cWs 8).enc s) 45 (0, 0))) 15 rfl (by kernel_rfl) rfl (fun _ _ => rfl) (hH.blk 0 rfl) (fun _ _ hF hS => opLoadT (C := cWd) (y := (s 7)) rfl (hF.ev 0 rfl) (by kernel_rfl) ((holds_blk0 hS).eltV hi12) rfl) (kM [false, true, true, true, true, true, true, true, true, true, true] rfl rfl) (by decide) (v := (.int .u32 ((((s 7).toNat) : Nat) : Int))) ?_
  refine rxV 16 rfl (by kernel_rfl) rfl (fun _ _ => rfl) (fun _ _ hF => opAssign rfl (hF.ev 7 rfl)) (kM [true, true, true, true, true, true, true, false, true, true, true] rfl rfl) (by decide) (v := (.int .u32 ((((s 0).toNat) : Nat) : Int))) ?_
  refine rxV 17 rfl (by kernel_rfl) rfl (fun _ _ => rfl) (fun _ _ hF => opAssign rfl (hF.ev 7 rfl)) (kM [true, true, true, true, true, true, true, false, true, true, true] rfl rfl) (by decide) (v := (.int .u32 ((((s 1).toNat) : Nat) : Int))) ?_
  refine rxV 18 rfl (by kernel_rfl) rfl (fun _ _ => rfl) (fun _ _ hF => opAssign rfl (hF.ev 7 rfl)) (kM [true, true, true, true, true, true, true, false, true, true, true] rfl rfl) (by decide) (v := (.int .u32 ((((s 2).toNat) : Nat) : Int))) ?_
  refine rxV 19 rfl (by kernel_rfl) rfl (fun _ _ => rfl) (fun _ _ hF => opAssign rfl (hF.ev 7 rfl)) (kM [true, true, true, true, true, true, true, false, true, true, true] rfl rfl) (by decide) (v := (.int .u32 ((((s 3).toNat) : Nat) : Int))) ?_
  refine rxV 20 rfl (by kernel_rfl) rfl (fun _ _ => rfl) (fun _ _ hF => opAssign rfl (hF.ev 7 rfl)) (kM [true, true, true, true, true, true, true, false, true, true, true] rfl rfl) (by decide) (v := (.int .u32 ((((s 4).toNat) : Nat) : Int))) ?_
  refine rxV 21 rfl (by kernel_rfl) rfl (fun _ _ => rfl) (fun _ _ hF => opAssign rfl (hF.ev 7 rfl)) (kM [true, true, true, true, true, true, true, false, true, true, true] rfl rfl) (by decide) (v := (.int .u32 ((((s 5).toNat) : Nat) : Int))) ?_
  refine rxV 22 rfl (by kernel_rfl) rfl (fun _ _ => rfl) (fun _ _ hF => opAssign rfl (hF.ev 7 rfl)) (kM [true, true, true, true, true, true, true, false, true, true, true] rfl rfl) (by decide) (v := (.int .u32 ((((s 6).toNat) : Nat) : Int))) ?_
  refine rxV 23 rfl (by kernel_rfl) rfl (fun _ _ => rfl) (fun _ _ hF => opAssign rfl (hF.ev 7 rfl)) (kM [true, true, true, true, true, true, true, false, true, true, true] rfl rfl) (by decide) (v := (.int .u32 ((((s 7).toNat) : Nat) : Int))) ?_
  refine rxEnd (by kernel_rfl) ?_
  refine qxThen ?_
  refine cxSeq ?_
  refine cxSeq ?_
  refine cxReg ?_
  refine pxV (v := (.int .i64 0)) (fun _ _ hF => opMove rfl rfl) rfl (fun _ _ => rfl) (kA rfl) (by decide) ?_
  refine pxEnd ?_
  refine qxThen ?_
  refine cxBlock ?_
  refine cxLoop (σ := Nat) (fun x => [(37, (.int .i64 (((x) : Nat) : Int))), (13, (.int .u32 ((((rnd32 b s x 7).toNat) : Nat) : Int))), (12, (.int .u32 ((((rnd32 b s x 6).toNat) : Nat) : Int))), (11, (.int .u32 ((((rnd32 b s x 5).toNat) : Nat) : Int))), (10, (.int .u32 ((((rnd32 b s x 4).toNat) : Nat) : Int))), (9, (.int .u32 ((((rnd32 b s x 3).toNat) : Nat) : Int))), (8, (.int .u32 ((((rnd32 b s x 2).toNat) : Nat) : Int))), (7, (.int .u32 ((((rnd32 b s x 1).toNat) : Nat) : Int))), (6, (.int .u32 ((((rnd32 b s x 0).toNat) : Nat) : Int))), (5, (.pointer (some ⟨g4, 0, none⟩))), (4, (.pointer (some ⟨g3, 0, none⟩))), (2, (.pointer (some ⟨g1, 0, none⟩)))]) (fun x w => HH w0 [] [[bl g1 45 ((cWs 8).enc s)], [bl g2 50 ((cArr 64).enc b)], [bl g3 45 ((cWs 8).enc (fun _ => 0))], [bl g4 46 ((cWs 64).enc (W32 b))]] w ∧ (x ≤ 64)) (fun x => 64 - x) 0 ⟨hH, (Nat.zero_le _)⟩ (slots_at [0, 1, 2, 3, 4, 5, 6, 7, 8, 9, 10, 11] rfl) ?_
  clear hH
  rintro m w ⟨hH, hm⟩
  change CX _ _ _ _ [(37, (.int .i64 (((m) : Nat) : Int))), (13, (.int .u32 ((((rnd32 b s m 7).toNat) : Nat) : Int))), (12, (.int .u32 ((((rnd32 b s m 6).toNat) : Nat) : Int))), (11, (.int .u32 ((((rnd32 b s m 5).toNat) : Nat) : Int))), (10, (.int .u32 ((((rnd32 b s m 4).toNat) : Nat) : Int))), (9, (.int .u32 ((((rnd32 b s m 3).toNat) : Nat) : Int))), (8, (.int .u32 ((((rnd32 b s m 2).toNat) : Nat) : Int))), (7, (.int .u32 ((((rnd32 b s m 1).toNat) : Nat) : Int))), (6, (.int .u32 ((((rnd32 b s m 0).toNat) : Nat) : Int))), (5, (.pointer (some ⟨g4, 0, none⟩))), (4, (.pointer (some ⟨g3, 0, none⟩))), (2, (.pointer (some ⟨g1, 0, none⟩)))] _
  replace hH : HH w0 [] [[bl g1 45 ((cWs 8).enc s)], [bl g2 50 ((cArr 64).enc b)], [bl g3 45 ((cWs 8).enc (fun _ => 0))], [bl g4 46 ((cWs 64).enc (W32 b))]] w := hH
  replace hm : m ≤ 64 := hm
  refine cxSeq ?_
  refine cxReg ?_
  refine pxV (v := (.bool (decide (m < 64)))) (fun _ _ hF => opLss rfl (hF.ev 0 rfl) rfl (dc (by omega))) rfl (fun _ _ => rfl) (kA rfl) (by decide) ?_
  refine pxEnd ?_
  refine qxThen ?_
  refine cxSeq ?_
  refine cxP 0 rfl rfl (fun hc13 => ?_) (fun hc13 => ?_)
  · refine cxSkip ?_
    refine qxThen ?_
    refine cxSeq ?_
    refine cxBlock ?_
    refine cxSeq ?_
    refine cxReg ?_
    refine pxV (v := (.int .i64 (((m) : Nat) : Int))) (fun _ _ hF => opMove rfl (hF.ev 1 rfl)) rfl (fun _ _ => rfl) (kM [false, true, true, true, true, true, true, true, true, true, true, true, true] rfl rfl) (by decide) ?_
    refine pxV (v := (.int .i64 (((m) : Nat) : Int))) (fun _ _ hF => opAssign rfl (hF.ev 0 rfl)) rfl (fun _ _ => rfl) (kM [false, true, true, true, true, true, true, true, true, true, true, true, true] rfl rfl) (by decide) ?_
    refine pxEnd ?_
    refine qxThen ?_
    refine cxSeq ?_
    refine cxRegX mixedOrders (by kernel_rfl) ?_
    replace hH := hH.drew
    refine rxV 0 rfl (by kernel_rfl) rfl (fun _ _ => rfl) (fun _ _ hF => opMove rfl (hF.ev 2 rfl)) (kM [true, true, false, true, true, true, true, true, true, true, true, true, true] rfl rfl) (by decide) (v := (.int .u32 ((((rnd32 b s m 7).toNat) : Nat) : Int))) ?_
    refine rxV 1 rfl (by kernel_rfl) rfl (fun _ _ => rfl) (fun _ _ hF => opMove rfl (hF.ev 5 rfl)) (kA rfl) (by decide) (v := (.int .u32 ((((rnd32 b s m 4).toNat) : Nat) : Int))) ?_
    refine rxV 4 rfl (by kernel_rfl) rfl (fun _ _ => rfl) (fun _ _ hF => opMove rfl (hF.ev 6 rfl)) (kA rfl) (by decide) (v := (.int .u32 ((((rnd32 b s m 4).toNat) : Nat) : Int))) ?_
    refine rxV 5 rfl (by kernel_rfl) rfl (fun _ _ => rfl) (fun _ _ hF => opMove rfl (hF.ev 6 rfl)) (kA rfl) (by decide) (v := (.int .u32 ((((rnd32 b s m 5).toNat) : Nat) : Int))) ?_
    refine rxV 6 rfl (by kernel_rfl) rfl (fun _ _ => rfl) (fun _ _ hF => opAndW (u := (rnd32 b s m 4)) (v := (rnd32 b s m 5)) rfl (hF.ev 1 rfl) (hF.ev 0 rfl) rfl) (kM [false, false, true, true, true, true, true, true, true, true, true, true, true, true, true, true] rfl rfl) (by decide) (v := (.int .u32 ((((and32 (rnd32 b s m 4) (rnd32 b s m 5)).toNat) : Nat) : Int))) ?_
    refine rxV 7 rfl (by kernel_rfl) rfl (fun _ _ => rfl) (fun _ _ hF => opMove rfl (hF.ev 7 rfl)) (kA rfl) (by decide) (v := (.int .u32 ((((rnd32 b s m 4).toNat) : Nat) : Int))) ?_
    refine rxV 8 rfl (by kernel_rfl) rfl (fun _ _ => rfl) (fun _ _ hF => opNotW (u := (rnd32 b s m 4)) rfl (hF.ev 0 rfl) rfl) (kM [false, true, true, true, true, true, true, true, true, true, true, true, true, true, true, true] rfl rfl) (by decide) (v := (.int .u32 ((((not32 (rnd32 b s m 4)).toNat) : Nat) : Int))) ?_
    refine rxV 9 rfl (by kernel_rfl) rfl (fun _ _ => rfl) (fun _ _ hF => opMove rfl (hF.ev 6 rfl)) (kA rfl) (by decide) (v := (.int .u32 ((((rnd32 b s m 6).toNat) : Nat) : Int))) ?_
    refine rxV 10 rfl (by kernel_rfl) rfl (fun _ _ => rfl) (fun _ _ hF => opAndW (u := (not32 (rnd32 b s m 4))) (v := (rnd32 b s m 6)) rfl (hF.ev 1 rfl) (hF.ev 0 rfl) rfl) (kM [false, false, true, true, true, true, true, true, true, true, true, true, true, true, true, true, true] rfl rfl) (by decide) (v := (.int .u32 ((((and32 (not32 (rnd32 b s m 4)) (rnd32 b s m 6)).toNat) : Nat) : Int))) ?_
    refine rxV 11 rfl (by kernel_rfl) rfl (fun _ _ => rfl) (fun _ _ hF => opXorW (u := (and32 (rnd32 b s m 4) (rnd32 b s m 5))) (v := (and32 (not32 (rnd32 b s m 4)) (rnd32 b s m 6))) rfl (hF.ev 1 rfl) (hF.ev 0 rfl) rfl) (kM [false, false, true, true, true, true, true, true, true, true, true, true, true, true, true, true] rfl rfl) (by decide) (v := (.int .u32 ((((xo32 (and32 (rnd32 b s m 4) (rnd32 b s m 5)) (and32 (not32 (rnd32 b s m 4)) (rnd32 b s m 6))).toNat) : Nat) : Int))) ?_
    refine rxV 13 rfl (by kernel_rfl) rfl (fun _ _ => rfl) (fun _ _ hF => opMove rfl (hF.ev 3 rfl)) (kA rfl) (by decide) (v := (.int .i64 (((m) : Nat) : Int))) ?_
    have hi14 : m < 64 := by omega
    refine rxV 14 rfl (by kernel_rfl) rfl (fun _ _ => rfl) (fun _ _ hF => opIndexA (i := m) (e := 44) (sz := 1) rfl (by kernel_rfl) (by kernel_rfl) rfl (hF.ev 0 rfl) rfl hi14) (kM [false, true, true, true, true, true, true, true, true, true, true, true, true, true, true, true] rfl rfl) (by decide) (v := (.pointer (some ⟨1, 0 + m * 1, none⟩))) ?_
    refine rxS (fun w => w.heap[1]? = some (.cells ((cWs 64).enc K32) 46 (0, 0))) 15 rfl (by kernel_rfl) rfl (fun _ _ => rfl) (hH.oldBlk hR (by simp)) (fun _ _ hF hS => opLoadT (C := cWd) (y := (K32 m)) rfl (hF.ev 0 rfl) (by kernel_rfl) ((holds_blk0 hS).eltV hi14) rfl) (kM [false, true, true, true, true, true, true, true, true, true, true, true, true, true, true, true] rfl rfl) (by decide) (v := (.int .u32 ((((K32 m).toNat) : Nat) : Int))) ?_
    refine rxV 17 rfl (by kernel_rfl) rfl (fun _ _ => rfl) (fun _ _ hF => opMove rfl (hF.ev 4 rfl)) (kM [true, true, true, true, false, true, true, true, true, true, true, true, true, true, true, true] rfl rfl) (by decide) (v := (.int .i64 (((m) : Nat) : Int))) ?_
    have hi15 : m < 64 := by omega
    refine rxV 18 rfl (by kernel_rfl) rfl (fun _ _ => rfl) (fun _ _ hF => opIndexA (i := m) (e := 44) (sz := 1) rfl (by kernel_rfl) (by kernel_rfl) (hF.ev 13 rfl) (hF.ev 0 rfl) rfl hi15) (kM [false, true, true, true, true, true, true, true, true, true, true, true, true, true, true, true] rfl rfl) (by decide) (v := (.pointer (some ⟨g4, 0 + m * 1, none⟩))) ?_
    refine rxS (fun w => w.heap[g4]? = some (.cells ((cWs 64).enc (W32 b)) 46 (0, 0))) 19 rfl (by kernel_rfl) rfl (fun _ _ => rfl) (hH.blk 3 rfl) (fun _ _ hF hS => opLoadT (C := cWd) (y := ((W32 b) m)) rfl (hF.ev 0 rfl) (by kernel_rfl) ((holds_blk0 hS).eltV hi15) rfl) (kM [false, true, true, true, true, true, true, true, true, true, true, true, true, true, true, true] rfl rfl) (by decide) (v := (.int .u32 (((((W32 b) m).toNat) : Nat) : Int))) ?_
    refine rx1 2 (by kernel_rfl) ?_
    refine moM rfl hH (fun _ hF => Does.small ((big1_32_c (rnd32 b s m 4)).does) (fun w => opCall rfl Tryd.func26 rfl rfl (Evs.cons (v := (.int .u32 ((((rnd32 b s m 4).toNat) : Nat) : Int))) (hF.ev 3 rfl) Evs.nil) w)) trivial rfl (fun _ _ => rfl) (kM [true, true, true, false, true, true, true, true, true, true, true, true, true, true, true, true] rfl rfl) (by decide) (PendOk.keep (PendOk.keep (PendOk.nil _ []))) ?_
    clear hH
    rintro _ _ w ⟨rfl, rfl⟩ hH
    replace hH : HH w0 [] [[bl g1 45 ((cWs 8).enc s)], [bl g2 50 ((cArr 64).enc b)], [bl g3 45 ((cWs 8).enc (fun _ => 0))], [bl g4 46 ((cWs 64).enc (W32 b))]] w := hH.unpad
    refine ⟨(by
      intro s hs
      simp only [List.mem_cons, List.not_mem_nil, or_false] at hs
      rcases hs with rfl | rfl
      · exact (hH.blk 3 rfl)
      · exact (hH.oldBlk hR (by simp))
      ), ?_⟩
    refine rxV 3 rfl (by kernel_rfl) rfl (fun _ _ => rfl) (fun _ _ hF => opAddW (u := (rnd32 b s m 7)) (v := (big1_32 (rnd32 b s m 4))) rfl (hF.ev 4 rfl) (hF.ev 0 rfl) rfl) (kM [false, true, true, true, false, true, true, true, true, true, true, true, true, true, true, true] rfl rfl) (by decide) (v := (.int .u32 ((((pl32 (rnd32 b s m 7) (big1_32 (rnd32 b s m 4))).toNat) : Nat) : Int))) ?_
    refine rxV 12 rfl (by kernel_rfl) rfl (fun _ _ => rfl) (fun _ _ hF => opAddW (u := (pl32 (rnd32 b s m 7) (big1_32 (rnd32 b s m 4)))) (v := (xo32 (and32 (rnd32 b s m 4) (rnd32 b s m 5)) (and32 (not32 (rnd32 b s m 4)) (rnd32 b s m 6)))) rfl (hF.ev 0 rfl) (hF.ev 3 rfl) rfl) (kM [false, true, true, false, true, true, true, true, true, true, true, true, true, true, true] rfl rfl) (by decide) (v := (.int .u32 ((((pl32 (pl32 (rnd32 b s m 7) (big1_32 (rnd32 b s m 4))) (xo32 (and32 (rnd32 b s m 4) (rnd32 b s m 5)) (and32 (not32 (rnd32 b s m 4)) (rnd32 b s m 6)))).toNat) : Nat) : Int))) ?_
    refine rxV 16 rfl (by kernel_rfl) rfl (fun _ _ => rfl) (fun _ _ hF => opAddW (u := (pl32 (pl32 (rnd32 b s m 7) (big1_32 (rnd32 b s m 4))) (xo32 (and32 (rnd32 b s m 4) (rnd32 b s m 5)) (and32 (not32 (rnd32 b s m 4)) (rnd32 b s m 6))))) (v := (K32 m)) rfl (hF.ev 0 rfl) (hF.ev 2 rfl) rfl) (kM [false, true, false, true, true, true, true, true, true, true, true, true, true, true] rfl rfl) (by decide) (v := (.int .u32 ((((pl32 (pl32 (pl32 (rnd32 b s m 7) (big1_32 (rnd32 b s m 4))) (xo32 (and32 (rnd32 b s m 4) (rnd32 b s m 5)) (and32 (not32 (rnd32 b s m 4)) (rnd32 b s m 6)))) (K32 m)).toNat) : Nat) : Int))) ?_
    refine rxV 20 rfl (by kernel_rfl) rfl (fun _ _ => rfl) (fun _ _ hF => opAddW (u := (pl32 (pl32 (pl32 (rnd32 b s m 7) (big1_32 (rnd32 b s m 4))) (xo32 (and32 (rnd32 b s m 4) (rnd32 b s m 5)) (and32 (not32 (rnd32 b s m 4)) (rnd32 b s m 6)))) (K32 m))) (v := ((W32 b) m)) rfl (hF.ev 0 rfl) (hF.ev 1 rfl) rfl) (kM [false, false, true, true, true, true, true, true, true, true, true, true, true] rfl rfl) (by decide) (v := (.int .u32 ((((pl32 (pl32 (pl32 (pl32 (rnd32 b s m 7) (big1_32 (rnd32 b s m 4))) (xo32 (and32 (rnd32 b s m 4) (rnd32 b s m 5)) (and32 (not32 (rnd32 b s m 4)) (rnd32 b s m 6)))) (K32 m)) ((W32 b) m)).toNat) : Nat) : Int))) ?_
    refine rxV 21 rfl (by kernel_rfl) rfl (fun _ _ => rfl) (fun _ _ hF => opAssign rfl (hF.ev 0 rfl)) (kM [false, true, true, true, true, true, true, true, true, true, true, true] rfl rfl) (by decide) (v := (.int .u32 ((((pl32 (pl32 (pl32 (pl32 (rnd32 b s m 7) (big1_32 (rnd32 b s m 4))) (xo32 (and32 (rnd32 b s m 4) (rnd32 b s m 5)) (and32 (not32 (rnd32 b s m 4)) (rnd32 b s m 6)))) (K32 m)) ((W32 b) m)).toNat) : Nat) : Int))) ?_
    refine rxEnd (by kernel_rfl) ?_
    refine qxThen ?_
    refine cxSeq ?_
    refine cxReg ?_
    refine pxV (v := (.int .u32 ((((rnd32 b s m 0).toNat) : Nat) : Int))) (fun _ _ hF => opMove rfl (hF.ev 8 rfl)) rfl (fun _ _ => rfl) (kA rfl) (by decide) ?_
    refine pxM hH (fun _ hF => Does.small ((big0_32_c (rnd32 b s m 0)).does) (fun w => opCall rfl Tryd.func27 rfl rfl (Evs.cons (v := (.int .u32 ((((rnd32 b s m 0).toNat) : Nat) : Int))) (hF.ev 0 rfl) Evs.nil) w)) trivial rfl (fun _ _ => rfl) (kM [false, true, true, true, true, true, true, true, true, true, true, true, true] rfl rfl) (by decide) ?_
    clear hH
    rintro _ _ w ⟨rfl, rfl⟩ hH
    replace hH : HH w0 [] [[bl g1 45 ((cWs 8).enc s)], [bl g2 50 ((cArr 64).enc b)], [bl g3 45 ((cWs 8).enc (fun _ => 0))], [bl g4 46 ((cWs 64).enc (W32 b))]] w := hH.unpad
    refine pxV (v := (.int .u32 ((((rnd32 b s m 0).toNat) : Nat) : Int))) (fun _ _ hF => opMove rfl (hF.ev 9 rfl)) rfl (fun _ _ => rfl) (kA rfl) (by decide) ?_
    refine pxV (v := (.int .u32 ((((rnd32 b s m 1).toNat) : Nat) : Int))) (fun _ _ hF => opMove rfl (hF.ev 9 rfl)) rfl (fun _ _ => rfl) (kA rfl) (by decide) ?_
    refine pxV (v := (.int .u32 ((((and32 (rnd32 b s m 0) (rnd32 b s m 1)).toNat) : Nat) : Int))) (fun _ _ hF => opAndW (u := (rnd32 b s m 0)) (v := (rnd32 b s m 1)) rfl (hF.ev 1 rfl) (hF.ev 0 rfl) rfl) rfl (fun _ _ => rfl) (kM [false, false, true, true, true, true, true, true, true, true, true, true, true, true, true] rfl rfl) (by decide) ?_
    refine pxV (v := (.int .u32 ((((rnd32 b s m 0).toNat) : Nat) : Int))) (fun _ _ hF => opMove rfl (hF.ev 10 rfl)) rfl (fun _ _ => rfl) (kA rfl) (by decide) ?_
    refine pxV (v := (.int .u32 ((((rnd32 b s m 2).toNat) : Nat) : Int))) (fun _ _ hF => opMove rfl (hF.ev 9 rfl)) rfl (fun _ _ => rfl) (kA rfl) (by decide) ?_
    refine pxV (v := (.int .u32 ((((and32 (rnd32 b s m 0) (rnd32 b s m 2)).toNat) : Nat) : Int))) (fun _ _ hF => opAndW (u := (rnd32 b s m 0)) (v := (rnd32 b s m 2)) rfl (hF.ev 1 rfl) (hF.ev 0 rfl) rfl) rfl (fun _ _ => rfl) (kM [false, false, true, true, true, true, true, true, true, true, true, true, true, true, true, true] rfl rfl) (by decide) ?_
    refine pxV (v := (.int .u32 ((((xo32 (and32 (rnd32 b s m 0) (rnd32 b s m 1)) (and32 (rnd32 b s m 0) (rnd32 b s m 2))).toNat) : Nat) : Int))) (fun _ _ hF => opXorW (u := (and32 (rnd32 b s m 0) (rnd32 b s m 1))) (v := (and32 (rnd32 b s m 0) (rnd32 b s m 2))) rfl (hF.ev 1 rfl) (hF.ev 0 rfl) rfl) rfl (fun _ _ => rfl) (kM [false, false, true, true, true, true, true, true, true, true, true, true, true, true, true] rfl rfl) (by decide) ?_
    refine pxV (v := (.int .u32 ((((rnd32 b s m 1).toNat) : Nat) : Int))) (fun _ _ hF => opMove rfl (hF.ev 9 rfl)) rfl (fun _ _ => rfl) (kA rfl) (by decide) ?_
    refine pxV (v := (.int .u32 ((((rnd32 b s m 2).toNat) : Nat) : Int))) (fun _ _ hF => opMove rfl (hF.ev 9 rfl)) rfl (fun _ _ => rfl) (kA rfl) (by decide) ?_
    refine pxV (v := (.int .u32 ((((and32 (rnd32 b s m 1) (rnd32 b s m 2)).toNat) : Nat) : Int))) (fun _ _ hF => opAndW (u := (rnd32 b s m 1)) (v := (rnd32 b s m 2)) rfl (hF.ev 1 rfl) (hF.ev 0 rfl) rfl) rfl (fun _ _ => rfl) (kM [false, false, true, true, true, true, true, true, true, true, true, true, true, true, true, true] rfl rfl) (by decide) ?_
    refine pxV (v := (.int .u32 ((((xo32 (xo32 (and32 (rnd32 b s m 0) (rnd32 b s m 1)) (and32 (rnd32 b s m 0) (rnd32 b s m 2))) (and32 (rnd32 b s m 1) (rnd32 b s m 2))).toNat) : Nat) : Int))) (fun _ _ hF => opXorW (u := (xo32 (and32 (rnd32 b s m 0) (rnd32 b s m 1)) (and32 (rnd32 b s m 0) (rnd32 b s m 2)))) (v := (and32 (rnd32 b s m 1) (rnd32 b s m 2))) rfl (hF.ev 1 rfl) (hF.ev 0 rfl) rfl) rfl (fun _ _ => rfl) (kM [false, false, true, true, true, true, true, true, true, true, true, true, true, true, true] rfl rfl) (by decide) ?_
    refine pxV (v := (.int .u32 ((((pl32 (big0_32 (rnd32 b s m 0)) (xo32 (xo32 (and32 (rnd32 b s m 0) (rnd32 b s m 1)) (and32 (rnd32 b s m 0) (rnd32 b s m 2))) (and32 (rnd32 b s m 1) (rnd32 b s m 2)))).toNat) : Nat) : Int))) (fun _ _ hF => opAddW (u := (big0_32 (rnd32 b s m 0))) (v := (xo32 (xo32 (and32 (rnd32 b s m 0) (rnd32 b s m 1)) (and32 (rnd32 b s m 0) (rnd32 b s m 2))) (and32 (rnd32 b s m 1) (rnd32 b s m 2)))) rfl (hF.ev 1 rfl) (hF.ev 0 rfl) rfl) rfl (fun _ _ => rfl) (kM [false, false, true, true, true, true, true, true, true, true, true, true, true, true] rfl rfl) (by decide) ?_
    refine pxV (v := (.int .u32 ((((pl32 (big0_32 (rnd32 b s m 0)) (xo32 (xo32 (and32 (rnd32 b s m 0) (rnd32 b s m 1)) (and32 (rnd32 b s m 0) (rnd32 b s m 2))) (and32 (rnd32 b s m 1) (rnd32 b s m 2)))).toNat) : Nat) : Int))) (fun _ _ hF => opAssign rfl (hF.ev 0 rfl)) rfl (fun _ _ => rfl) (kM [false, true, true, true, true, true, true, true, true, true, true, true, true] rfl rfl) (by decide) ?_
    refine pxEnd ?_
    refine qxThen ?_
    refine cxReg ?_
    refine pxV (v := (.int .u32 ((((pl32 (pl32 (pl32 (pl32 (rnd32 b s m 7) (big1_32 (rnd32 b s m 4))) (xo32 (and32 (rnd32 b s m 4) (rnd32 b s m 5)) (and32 (not32 (rnd32 b s m 4)) (rnd32 b s m 6)))) (K32 m)) ((W32 b) m)).toNat) : Nat) : Int))) (fun _ _ hF => opMove rfl (hF.ev 1 rfl)) rfl (fun _ _ => rfl) (kA rfl) (by decide) ?_
    refine pxV (v := (.int .u32 ((((pl32 (big0_32 (rnd32 b s m 0)) (xo32 (xo32 (and32 (rnd32 b s m 0) (rnd32 b s m 1)) (and32 (rnd32 b s m 0) (rnd32 b s m 2))) (and32 (rnd32 b s m 1) (rnd32 b s m 2)))).toNat) : Nat) : Int))) (fun _ _ hF => opMove rfl (hF.ev 1 rfl)) rfl (fun _ _ => rfl) (kM [true, false, true, true, true, true, true, true, true, true, true, true, true, true] rfl rfl) (by decide) ?_
    refine pxV (v := (.int .u32 ((((pl32 (pl32 (pl32 (pl32 (pl32 (rnd32 b s m 7) (big1_32 (rnd32 b s m 4))) (xo32 (and32 (rnd32 b s m 4) (rnd32 b s m 5)) (and32 (not32 (rnd32 b s m 4)) (rnd32 b s m 6)))) (K32 m)) ((W32 b) m)) (pl32 (big0_32 (rnd32 b s m 0)) (xo32 (xo32 (and32 (rnd32 b s m 0) (rnd32 b s m 1)) (and32 (rnd32 b s m 0) (rnd32 b s m 2))) (and32 (rnd32 b s m 1) (rnd32 b s m 2))))).toNat) : Nat) : Int))) (fun _ _ hF => opAddW (u := (pl32 (pl32 (pl32 (pl32 (rnd32 b s m 7) (big1_32 (rnd32 b s m 4))) (xo32 (and32 (rnd32 b s m 4) (rnd32 b s m 5)) (and32 (not32 (rnd32 b s m 4)) (rnd32 b s m 6)))) (K32 m)) ((W32 b) m))) (v := (pl32 (big0_32 (rnd32 b s m 0)) (xo32 (xo32 (and32 (rnd32 b s m 0) (rnd32 b s m 1)) (and32 (rnd32 b s m 0) (rnd32 b s m 2))) (and32 (rnd32 b s m 1) (rnd32 b s m 2))))) rfl (hF.ev 1 rfl) (hF.ev 0 rfl) rfl) rfl (fun _ _ => rfl) (kM [false, false, true, true, true, true, true, true, true, true, true, true, true, true] rfl rfl) (by decide) ?_
    refine pxV (v := (.int .u32 ((((rnd32 b s m 0).toNat) : Nat) : Int))) (fun _ _ hF => opMove rfl (hF.ev 9 rfl)) rfl (fun _ _ => rfl) (kM [true, true, true, true, true, true, true, true, true, false, true, true, true] rfl rfl) (by decide) ?_
    refine pxV (v := (.int .u32 ((((rnd32 b s m 1).toNat) : Nat) : Int))) (fun _ _ hF => opMove rfl (hF.ev 9 rfl)) rfl (fun _ _ => rfl) (kM [true, true, true, true, true, true, true, true, true, false, true, true, true] rfl rfl) (by decide) ?_
    refine pxV (v := (.int .u32 ((((rnd32 b s m 2).toNat) : Nat) : Int))) (fun _ _ hF => opMove rfl (hF.ev 9 rfl)) rfl (fun _ _ => rfl) (kM [true, true, true, true, true, true, true, true, true, false, true, true, true] rfl rfl) (by decide) ?_
    refine pxV (v := (.int .u32 ((((rnd32 b s m 3).toNat) : Nat) : Int))) (fun _ _ hF => opMove rfl (hF.ev 9 rfl)) rfl (fun _ _ => rfl) (kM [true, true, true, true, true, true, true, true, true, false, true, true, true] rfl rfl) (by decide) ?_
    refine pxV (v := (.int .u32 ((((pl32 (pl32 (pl32 (pl32 (rnd32 b s m 7) (big1_32 (rnd32 b s m 4))) (xo32 (and32 (rnd32 b s m 4) (rnd32 b s m 5)) (and32 (not32 (rnd32 b s m 4)) (rnd32 b s m 6)))) (K32 m)) ((W32 b) m)).toNat) : Nat) : Int))) (fun _ _ hF => opMove rfl (hF.ev 5 rfl)) rfl (fun _ _ => rfl) (kM [true, true, true, true, true, false, true, true, true, true, true, true, true] rfl rfl) (by decide) ?_
    refine pxV (v := (.int .u32 ((((pl32 (rnd32 b s m 3) (pl32 (pl32 (pl32 (pl32 (rnd32 b s m 7) (big1_32 (rnd32 b s m 4))) (xo32 (and32 (rnd32 b s m 4) (rnd32 b s m 5)) (and32 (not32 (rnd32 b s m 4)) (rnd32 b s m 6)))) (K32 m)) ((W32 b) m))).toNat) : Nat) : Int))) (fun _ _ hF => opAddW (u := (rnd32 b s m 3)) (v := (pl32 (pl32 (pl32 (pl32 (rnd32 b s m 7) (big1_32 (rnd32 b s m 4))) (xo32 (and32 (rnd32 b s m 4) (rnd32 b s m 5)) (and32 (not32 (rnd32 b s m 4)) (rnd32 b s m 6)))) (K32 m)) ((W32 b) m))) rfl (hF.ev 1 rfl) (hF.ev 0 rfl) rfl) rfl (fun _ _ => rfl) (kM [false, false, true, true, true, true, true, true, true, true, true, true, true] rfl rfl) (by decide) ?_
    refine pxV (v := (.int .u32 ((((rnd32 b s m 4).toNat) : Nat) : Int))) (fun _ _ hF => opMove rfl (hF.ev 8 rfl)) rfl (fun _ _ => rfl) (kM [true, true, true, true, true, true, true, true, false, true, true, true] rfl rfl) (by decide) ?_
    refine pxV (v := (.int .u32 ((((rnd32 b s m 5).toNat) : Nat) : Int))) (fun _ _ hF => opMove rfl (hF.ev 8 rfl)) rfl (fun _ _ => rfl) (kM [true, true, true, true, true, true, true, true, false, true, true, true] rfl rfl) (by decide) ?_
    refine pxV (v := (.int .u32 ((((rnd32 b s m 6).toNat) : Nat) : Int))) (fun _ _ hF => opMove rfl (hF.ev 8 rfl)) rfl (fun _ _ => rfl) (kM [true, true, true, true, true, true, true, true, false, true, true, true] rfl rfl) (by decide) ?_
    refine pxV (v := (.int .u32 ((((pl32 (pl32 (pl32 (pl32 (pl32 (rnd32 b s m 7) (big1_32 (rnd32 b s m 4))) (xo32 (and32 (rnd32 b s m 4) (rnd32 b s m 5)) (and32 (not32 (rnd32 b s m 4)) (rnd32 b s m 6)))) (K32 m)) ((W32 b) m)) (pl32 (big0_32 (rnd32 b s m 0)) (xo32 (xo32 (and32 (rnd32 b s m 0) (rnd32 b s m 1)) (and32 (rnd32 b s m 0) (rnd32 b s m 2))) (and32 (rnd32 b s m 1) (rnd32 b s m 2))))).toNat) : Nat) : Int))) (fun _ _ hF => opAssign rfl (hF.ev 7 rfl)) rfl (fun _ _ => rfl) (kM [true, true, true, true, true, true, true, false, true, true, true, true] rfl rfl) (by decide) ?_
    refine pxV (v := (.int .u32 ((((rnd32 b s m 0).toNat) : Nat) : Int))) (fun _ _ hF => opAssign rfl (hF.ev 7 rfl)) rfl (fun _ _ => rfl) (kM [true, true, true, true, true, true, true, false, true, true, true, true] rfl rfl) (by decide) ?_
    refine pxV (v := (.int .u32 ((((rnd32 b s m 1).toNat) : Nat) : Int))) (fun _ _ hF => opAssign rfl (hF.ev 7 rfl)) rfl (fun _ _ => rfl) (kM [true, true, true, true, true, true, true, false, true, true, true, true] rfl rfl) (by decide) ?_
    refine pxV (v := (.int .u32 ((((rnd32 b s m 2).toNat) : Nat) : Int))) (fun _ _ hF => opAssign rfl (hF.ev 7 rfl)) rfl (fun _ _ => rfl) (kM [true, true, true, true, true, true, true, false, true, true, true, true] rfl rfl) (by decide) ?_
    refine pxV (v := (.int .u32 ((((pl32 (rnd32 b s m 3) (pl32 (pl32 (pl32 (pl32 (rnd32 b s m 7) (big1_32 (rnd32 b s m 4))) (xo32 (and32 (rnd32 b s m 4) (rnd32 b s m 5)) (and32 (not32 (rnd32 b s m 4)) (rnd32 b s m 6)))) (K32 m)) ((W32 b) m))).toNat) : Nat) : Int))) (fun _ _ hF => opAssign rfl (hF.ev 7 rfl)) rfl (fun _ _ => rfl) (kM [true, true, true, true, true, true, true, false, true, true, true, true] rfl rfl) (by decide) ?_
    refine pxV (v := (.int .u32 ((((rnd32 b s m 4).toNat) : Nat) : Int))) (fun _ _ hF => opAssign rfl (hF.ev 7 rfl)) rfl (fun _ _ => rfl) (kM [true, true, true, true, true, true, true, false, true, true, true, true] rfl rfl) (by decide) ?_
    refine pxV (v := (.int .u32 ((((rnd32 b s m 5).toNat) : Nat) : Int))) (fun _ _ hF => opAssign rfl (hF.ev 7 rfl)) rfl (fun _ _ => rfl) (kM [true, true, true, true, true, true, true, false, true, true, true, true] rfl rfl) (by decide) ?_
    refine pxV (v := (.int .u32 ((((rnd32 b s m 6).toNat) : Nat) : Int))) (fun _ _ hF => opAssign rfl (hF.ev 7 rfl)) rfl (fun _ _ => rfl) (kM [true, true, true, true, true, true, true, false, true, true, true, true] rfl rfl) (by decide) ?_
    refine pxEnd ?_
    refine qxInN ?_
    refine qxThen ?_
    refine cxReg ?_
    refine pxV (v := (.int .i64 (((m + 1) : Nat) : Int))) (fun _ _ hF => opAdd rfl (hF.ev 8 rfl) rfl (wI (by omega) (by omega) (by omega))) rfl (fun _ _ => rfl) (kM [true, true, true, true, true, true, true, true, false, true, true, true] rfl rfl) (by decide) ?_
    refine pxV (v := (.int .i64 (((m + 1) : Nat) : Int))) (fun _ _ hF => opMove rfl (hF.ev 0 rfl)) rfl (fun _ _ => rfl) (kM [false, true, true, true, true, true, true, true, true, true, true, true] rfl rfl) (by decide) ?_
    refine pxEnd ?_
    exact qxRound (m + 1) ⟨hH, (show (m + 1) ≤ 64 from (by omega))⟩ (by omega) (slots_at [0, 1, 2, 3, 4, 5, 6, 7, 8, 9, 10, 11] rfl)
  · refine cxExit ?_
    refine qxThenE ?_
    refine qxThenE ?_
    refine qxInE ?_
    refine qxThen ?_
    refine cxSeq ?_
    refine cxSeq ?_
    obtain rfl : m = 64 := by omega
    refine cxReg ?_
    refine pxV (v := (.int .u32 ((((rnd32 b s 64 0).toNat) : Nat) : Int))) (fun _ _ hF => opMove rfl (hF.ev 9 rfl)) rfl (fun _ _ => rfl) (kM [false, false, true, true, true, true, true, true, true, false, false, true, true] rfl rfl) (by decide) ?_
    refine pxV (v := (.int .u32 ((((rnd32 b s 64 1).toNat) : Nat) : Int))) (fun _ _ hF => opMove rfl (hF.ev 7 rfl)) rfl (fun _ _ => rfl) (kM [true, true, true, true, true, true, true, false, true, true] rfl rfl) (by decide) ?_
    refine pxV (v := (.int .u32 ((((rnd32 b s 64 2).toNat) : Nat) : Int))) (fun _ _ hF => opMove rfl (hF.ev 7 rfl)) rfl (fun _ _ => rfl) (kM [true, true, true, true, true, true, true, false, true, true] rfl rfl) (by decide) ?_
    refine pxV (v := (.int .u32 ((((rnd32 b s 64 3).toNat) : Nat) : Int))) (fun _ _ hF => opMove rfl (hF.ev 7 rfl)) rfl (fun _ _ => rfl) (kM [true, true, true, true, true, true, true, false, true, true] rfl rfl) (by decide) ?_
    refine pxV (v := (.int .u32 ((((rnd32 b s 64 4).toNat) : Nat) : Int))) (fun _ _ hF => opMove rfl (hF.ev 7 rfl)) rfl (fun _ _ => rfl) (kM [true, true, true, true, true, true, true, false, true, true] rfl rfl) (by decide) ?_
    refine pxV (v := (.int .u32 ((((rnd32 b s 64 5).toNat) : Nat) : Int))) (fun _ _ hF => opMove rfl (hF.ev 7 rfl)) rfl (fun _ _ => rfl) (kM [true, true, true, true, true, true, true, false, true, true] rfl rfl) (by decide) ?_
    refine pxV (v := (.int .u32 ((((rnd32 b s 64 6).toNat) : Nat) : Int))) (fun _ _ hF => opMove rfl (hF.ev 7 rfl)) rfl (fun _ _ => rfl) (kM [true, true, true, true, true, true, true, false, true, true] rfl rfl) (by decide) ?_
    refine pxV (v := (.int .u32 ((((rnd32 b s 64 7).toNat) : Nat) : Int))) (fun _ _ hF => opMove rfl (hF.ev 7 rfl)) rfl (fun _ _ => rfl) (kM [true, true, true, true, true, true, true, false, true, true] rfl rfl) (by decide) ?_
    refine pxV (v := ((cWs 8).val (rnd32 b s 64))) (fun _ _ hF => opBuildP (cells := (cWs 8).enc (rnd32 b s 64)) (vals := [(0, (.int .u32 ((((rnd32 b s 64 0).toNat) : Nat) : Int))), (1, (.int .u32 ((((rnd32 b s 64 1).toNat) : Nat) : Int))), (2, (.int .u32 ((((rnd32 b s 64 2).toNat) : Nat) : Int))), (3, (.int .u32 ((((rnd32 b s 64 3).toNat) : Nat) : Int))), (4, (.int .u32 ((((rnd32 b s 64 4).toNat) : Nat) : Int))), (5, (.int .u32 ((((rnd32 b s 64 5).toNat) : Nat) : Int))), (6, (.int .u32 ((((rnd32 b s 64 6).toNat) : Nat) : Int))), (7, (.int .u32 ((((rnd32 b s 64 7).toNat) : Nat) : Int)))]) rfl (EvP.cons (v := (.int .u32 ((((rnd32 b s 64 0).toNat) : Nat) : Int))) (hF.ev 7 rfl) (EvP.cons (v := (.int .u32 ((((rnd32 b s 64 1).toNat) : Nat) : Int))) (hF.ev 6 rfl) (EvP.cons (v := (.int .u32 ((((rnd32 b s 64 2).toNat) : Nat) : Int))) (hF.ev 5 rfl) (EvP.cons (v := (.int .u32 ((((rnd32 b s 64 3).toNat) : Nat) : Int))) (hF.ev 4 rfl) (EvP.cons (v := (.int .u32 ((((rnd32 b s 64 4).toNat) : Nat) : Int))) (hF.ev 3 rfl) (EvP.cons (v := (.int .u32 ((((rnd32 b s 64 5).toNat) : Nat) : Int))) (hF.ev 2 rfl) (EvP.cons (v := (.int .u32 ((((rnd32 b s 64 6).toNat) : Nat) : Int))) (hF.ev 1 rfl) (EvP.cons (v := (.int .u32 ((((rnd32 b s 64 7).toNat) : Nat) : Int))) (hF.ev 0 rfl) EvP.nil)))))))) (by kernel_rfl) _) rfl (fun _ _ => rfl) (kM [false, false, false, false, false, false, false, false, true, true] rfl rfl) (by decide) ?_
    have he16 : (cWs 8).enc (upF 0 (comp32 b s) s) = (cWs 8).enc s := vec_congr (fun i _ => by rw [upF_zero])
    replace hH : HH w0 [] [[bl g1 45 ((cWs 8).enc (upF 0 (comp32 b s) s))], [bl g2 50 ((cArr 64).enc b)], [bl g3 45 ((cWs 8).enc (fun _ => 0))], [bl g4 46 ((cWs 64).enc (W32 b))]] w := by rw [he16]; exact hH
    refine pxV (v := (.int .i64 0)) (fun _ _ hF => opMove rfl rfl) rfl (fun _ _ => rfl) (kA rfl) (by decide) ?_
    refine pxEnd ?_
    refine qxThen ?_
    refine cxBlock ?_
    refine cxLoop (σ := Nat) (fun x => [(97, (.int .i64 (((x) : Nat) : Int))), (96, ((cWs 8).val (rnd32 b s 64))), (4, (.pointer (some ⟨g3, 0, none⟩))), (2, (.pointer (some ⟨g1, 0, none⟩)))]) (fun x w => HH w0 [] [[bl g1 45 ((cWs 8).enc (upF x (comp32 b s) s))], [bl g2 50 ((cArr 64).enc b)], [bl g3 45 ((cWs 8).enc (fun _ => 0))], [bl g4 46 ((cWs 64).enc (W32 b))]] w ∧ (x ≤ 8)) (fun x => 8 - x) 0 ⟨hH, (Nat.zero_le _)⟩ (slots_at [0, 1, 2, 3] rfl) ?_
    clear hH
    rintro q w ⟨hH, hq⟩
    change CX _ _ _ _ [(97, (.int .i64 (((q) : Nat) : Int))), (96, ((cWs 8).val (rnd32 b s 64))), (4, (.pointer (some ⟨g3, 0, none⟩))), (2, (.pointer (some ⟨g1, 0, none⟩)))] _
    replace hH : HH w0 [] [[bl g1 45 ((cWs 8).enc (upF q (comp32 b s) s))], [bl g2 50 ((cArr 64).enc b)], [bl g3 45 ((cWs 8).enc (fun _ => 0))], [bl g4 46 ((cWs 64).enc (W32 b))]] w := hH
    replace hq : q ≤ 8 := hq
    refine cxSeq ?_
    refine cxReg ?_
    refine pxV (v := (.bool (decide (q < 8)))) (fun _ _ hF => opLss rfl (hF.ev 0 rfl) rfl (dc (by omega))) rfl (fun _ _ => rfl) (kA rfl) (by decide) ?_
    refine pxEnd ?_
    refine qxThen ?_
    refine cxSeq ?_
    refine cxP 0 rfl rfl (fun hc17 => ?_) (fun hc17 => ?_)
    · refine cxSkip ?_
      refine qxThen ?_
      refine cxSeq ?_
      refine cxBlock ?_
      refine cxSeq ?_
      refine cxReg ?_
      refine pxV (v := (.int .i64 (((q) : Nat) : Int))) (fun _ _ hF => opMove rfl (hF.ev 1 rfl)) rfl (fun _ _ => rfl) (kM [false, true, true, true, true] rfl rfl) (by decide) ?_
      have hi18 : q < 8 := by omega
      refine pxV (v := (.int .u32 (((((rnd32 b s 64) q).toNat) : Nat) : Int))) (fun _ _ hF => opIdxA (S := sWd) (e := 44) (n := 8) (i := q) (f := (rnd32 b s 64)) rfl (by kernel_rfl) (by kernel_rfl) (hF.ev 2 rfl) (hF.ev 1 rfl) rfl hi18) rfl (fun _ _ => rfl) (kA rfl) (by decide) ?_
      refine pxV (v := (.int .i64 (((q) : Nat) : Int))) (fun _ _ hF => opAssign rfl (hF.ev 1 rfl)) rfl (fun _ _ => rfl) (kM [true, false, true, true, true, true] rfl rfl) (by decide) ?_
      refine pxV (v := (.int .u32 (((((rnd32 b s 64) q).toNat) : Nat) : Int))) (fun _ _ hF => opAssign rfl (hF.ev 1 rfl)) rfl (fun _ _ => rfl) (kM [true, false, true, true, true, true] rfl rfl) (by decide) ?_
      refine pxEnd ?_
      refine qxThen ?_
      refine cxReg ?_
      refine pxV (v := (.int .i64 (((q) : Nat) : Int))) (fun _ _ hF => opMove rfl (hF.ev 1 rfl)) rfl (fun _ _ => rfl) (kM [true, false, true, true, true, true] rfl rfl) (by decide) ?_
      have hi19 : q < 8 := by omega
      refine pxV (v := (.pointer (some ⟨g1, 0 + q * 1, none⟩))) (fun _ _ hF => opIndexA (i := q) (e := 44) (sz := 1) rfl (by kernel_rfl) (by kernel_rfl) (hF.ev 5 rfl) (hF.ev 0 rfl) rfl hi19) rfl (fun _ _ => rfl) (kA rfl) (by decide) ?_
      refine pxS (v := (.int .u32 (((((upF q (comp32 b s) s) q).toNat) : Nat) : Int))) (fun w => w.heap[g1]? = some (.cells ((cWs 8).enc (upF q (comp32 b s) s)) 45 (0, 0))) (hH.blk 0 rfl) (fun _ _ hF hS => opLoadT (C := cWd) (y := ((upF q (comp32 b s) s) q)) rfl (hF.ev 0 rfl) (by kernel_rfl) ((holds_blk0 hS).eltV hi19) rfl) rfl (fun _ _ => rfl) (kM [false, true, true, true, true, true, true] rfl rfl) (by decide) ?_
      refine pxV (v := (.int .u32 (((((rnd32 b s 64) q).toNat) : Nat) : Int))) (fun _ _ hF => opMove rfl (hF.ev 2 rfl)) rfl (fun _ _ => rfl) (kM [true, true, false, true, true, true, true] rfl rfl) (by decide) ?_
      refine pxV (v := (.int .u32 ((((pl32 ((upF q (comp32 b s) s) q) ((rnd32 b s 64) q)).toNat) : Nat) : Int))) (fun _ _ hF => opAddW (u := ((upF q (comp32 b s) s) q)) (v := ((rnd32 b s 64) q)) rfl (hF.ev 1 rfl) (hF.ev 0 rfl) rfl) rfl (fun _ _ => rfl) (kM [false, false, true, true, true, true, true] rfl rfl) (by decide) ?_
      have hi20 : q < 8 := by omega
      refine pxV (v := (.pointer (some ⟨g1, 0 + q * 1, none⟩))) (fun _ _ hF => opIndexA (i := q) (e := 44) (sz := 1) rfl (by kernel_rfl) (by kernel_rfl) (hF.ev 5 rfl) (hF.ev 1 rfl) rfl hi20) rfl (fun _ _ => rfl) (kM [true, false, true, true, true, true] rfl rfl) (by decide) ?_
      refine pxE0 0 hH rfl (fun _ hF => smStoreT (C := cWd) (z := (pl32 ((upF q (comp32 b s) s) q) ((rnd32 b s 64) q))) rfl (hF.ev 0 rfl) (hF.ev 1 rfl) rfl (by kernel_rfl) (room_1 (S := sWd) (C := (cWs 8)) rfl hi20) (vec_set0 (upF q (comp32 b s) s) (pl32 ((upF q (comp32 b s) s) q) ((rnd32 b s 64) q)) hi20)) trivial rfl (fun _ _ => rfl) ?_
      clear hH
      rintro _ _ w rfl hH
      replace hH : HH w0 [] [[bl g1 45 ((cWs 8).enc (stF (upF q (comp32 b s) s) q (pl32 ((upF q (comp32 b s) s) q) ((rnd32 b s 64) q))))], [bl g2 50 ((cArr 64).enc b)], [bl g3 45 ((cWs 8).enc (fun _ => 0))], [bl g4 46 ((cWs 64).enc (W32 b))]] w := hH
      refine pxEnd ?_
      refine qxInN ?_
      refine qxThen ?_
      refine cxReg ?_
      refine pxV (v := (.int .i64 (((q + 1) : Nat) : Int))) (fun _ _ hF => opAdd rfl (hF.ev 2 rfl) rfl (wI (by omega) (by omega) (by omega))) rfl (fun _ _ => rfl) (kM [false, false, false, true, true, true] rfl rfl) (by decide) ?_
      refine pxV (v := (.int .i64 (((q + 1) : Nat) : Int))) (fun _ _ hF => opMove rfl (hF.ev 0 rfl)) rfl (fun _ _ => rfl) (kM [false, true, true, true] rfl rfl) (by decide) ?_
      refine pxEnd ?_
      have he21 : (cWs 8).enc (upF (q + 1) (comp32 b s) s) = (cWs 8).enc (stF (upF q (comp32 b s) s) q (pl32 ((upF q (comp32 b s) s) q) ((rnd32 b s 64) q))) := vec_congr (fun i _ => (congrFun (upF_step q (comp32 b s) s (by rw [upF_at]; rfl)) i).symm)
      replace hH : HH w0 [] [[bl g1 45 ((cWs 8).enc (upF (q + 1) (comp32 b s) s))], [bl g2 50 ((cArr 64).enc b)], [bl g3 45 ((cWs 8).enc (fun _ => 0))], [bl g4 46 ((cWs 64).enc (W32 b))]] w := by rw [he21]; exact hH
      exact qxRound (q + 1) ⟨hH, (show (q + 1) ≤ 8 from (by omega))⟩ (by omega) (slots_at [0, 1, 2, 3] rfl)
    · refine cxExit ?_
      refine qxThenE ?_
      refine qxThenE ?_
      refine qxInE ?_
      refine qxThen ?_
      refine cxSeq ?_
      obtain rfl : q = 8 := by omega
      have he22 : (cWs 8).enc (comp32 b s) = (cWs 8).enc (upF 8 (comp32 b s) s) := vec_congr (fun i hi => (upF_lt _ _ hi).symm)
      replace hH : HH w0 [] [[bl g1 45 ((cWs 8).enc (comp32 b s))], [bl g2 50 ((cArr 64).enc b)], [bl g3 45 ((cWs 8).enc (fun _ => 0))], [bl g4 46 ((cWs 64).enc (W32 b))]] w := by rw [he22]; exact hH
      refine cxReg ?_
      refine pxS (v := ((cWs 8).val (comp32 b s))) (fun w => w.heap[g1]? = some (.cells ((cWs 8).enc (comp32 b s)) 45 (0, 0))) (hH.blk 0 rfl) (fun _ _ hF hS => opLoadT (C := (cWs 8)) (y := (comp32 b s)) rfl (hF.ev 4 rfl) (by kernel_rfl) (holds_blk0 hS) rfl) rfl (fun _ _ => rfl) (kM [false, false, false, true, false] rfl rfl) (by decide) ?_
      refine pxE0 2 hH rfl (fun _ hF => smStoreT (C := (cWs 8)) (z := (comp32 b s)) rfl (hF.ev 1 rfl) (hF.ev 0 rfl) rfl (by kernel_rfl) (by rw [Cod.size]; exact Nat.le_refl _) (put_whole (cWs 8) _ _)) trivial rfl (fun _ _ => rfl) ?_
      clear hH
      rintro _ _ w rfl hH
      replace hH : HH w0 [] [[bl g1 45 ((cWs 8).enc (comp32 b s))], [bl g2 50 ((cArr 64).enc b)], [bl g3 45 ((cWs 8).enc (comp32 b s))], [bl g4 46 ((cWs 64).enc (W32 b))]] w := hH
      refine pxEnd ?_
      refine qxThen ?_
      refine cxRet ?_
      refine qxRetC 1 (hH.blk 2 rfl) rfl rfl (by kernel_rfl) (Cod.size _ _) (by kernel_rfl) ?_
      exact ⟨rfl, HH.toBelow hH⟩
end Go.Proofs.YticflflbogdljaaDoor
