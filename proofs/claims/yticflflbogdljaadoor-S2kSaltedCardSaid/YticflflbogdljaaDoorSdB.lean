/- The document's SHA-256 (mksdb.py writes this text). -/
import Derived.Test.YticflflbogdljaaDoorSdA
namespace Go.Proofs.YticflflbogdljaaDoor
open Go Go.RowKit
set_option maxRecDepth 100000

set_option maxHeartbeats 8000000 in
theorem rsum_c (A : Option Addr) (n c : Nat) (l : List UInt8) (hb : n ≤ 140737488351232) : Pure Tryd.prog 14 #[(.slice A n c)] (fun w => Vu cByte w A n c l) ((cArr 32).val (sha l)) := by
  refine pure_of (fn := Tryd.f14) Tryd.func14 rfl Tryd.ntmps14 (Nat.le_of_ble_eq_true rfl) rfl ?_
  intro w0 hH hR
  have hn := hR.len
  have hnb := nb32_ge n
  obtain ⟨F, hF⟩ : ∃ F, F = pad32 n fun j => l.getD j 0 := ⟨_, rfl⟩
  have hM : ∀ j, j < 64 * nb32 n → (pdM l)[j]? = some (F j) := fun j hj => by rw [hF]; subst hn; exact lst_get hj
  refine cxSeq ?_
  refine cxReg ?_
  refine pxM hH (fun _ hF => smAlloc (cs := (cArr 32).enc (fun _ => 0)) (z := ((cArr 32).val (fun _ => 0))) rfl (by kernel_rfl) rfl) trivial rfl (fun _ _ => rfl) (kA rfl) (by decide) ?_
  clear hH
  rintro _ _ w ⟨g1, rfl, rfl⟩ hH
  replace hH : HH w0 [] [[bl g1 34 ((cArr 32).enc (fun _ => 0))]] w := hH
  refine pxEnd ?_
  refine qxThen ?_
  refine cxSeq ?_
  refine cxReg ?_
  refine pxV (v := ((cWs 8).val H32)) (fun _ _ hF => opBuildP (cells := (cWs 8).enc H32) (vals := [(0, (.int .u32 1779033703)), (1, (.int .u32 3144134277)), (2, (.int .u32 1013904242)), (3, (.int .u32 2773480762)), (4, (.int .u32 1359893119)), (5, (.int .u32 2600822924)), (6, (.int .u32 528734635)), (7, (.int .u32 1541459225))]) rfl (EvP.cons (v := (.int .u32 1779033703)) rfl (EvP.cons (v := (.int .u32 3144134277)) rfl (EvP.cons (v := (.int .u32 1013904242)) rfl (EvP.cons (v := (.int .u32 2773480762)) rfl (EvP.cons (v := (.int .u32 1359893119)) rfl (EvP.cons (v := (.int .u32 2600822924)) rfl (EvP.cons (v := (.int .u32 528734635)) rfl (EvP.cons (v := (.int .u32 1541459225)) rfl EvP.nil)))))))) (by kernel_rfl) _) rfl (fun _ _ => rfl) (kA rfl) (by decide) ?_
  refine pxM hH (fun _ hF => smAlloc (cs := (cWs 8).enc (fun _ => 0)) (z := ((cWs 8).val (fun _ => 0))) rfl (by kernel_rfl) rfl) trivial rfl (fun _ _ => rfl) (kA rfl) (by decide) ?_
  clear hH
  rintro _ _ w ⟨g2, rfl, rfl⟩ hH
  replace hH : HH w0 [] [[bl g1 34 ((cArr 32).enc (fun _ => 0))], [bl g2 45 ((cWs 8).enc (fun _ => 0))]] w := hH
  refine pxE0 1 hH rfl (fun _ hF => smStoreT (C := (cWs 8)) (z := H32) rfl (hF.ev 0 rfl) (hF.ev 1 rfl) rfl (by kernel_rfl) (by rw [Cod.size]; exact Nat.le_refl _) (put_whole (cWs 8) _ _)) trivial rfl (fun _ _ => rfl) ?_
  clear hH
  rintro _ _ w rfl hH
  replace hH : HH w0 [] [[bl g1 34 ((cArr 32).enc (fun _ => 0))], [bl g2 45 ((cWs 8).enc H32)]] w := hH
  refine pxEnd ?_
  refine qxThen ?_
  refine cxSeq ?_
  refine cxReg ?_
  refine pxM hH (fun _ hF => Does.small ((rk_c ).does) (fun w => opCall rfl Tryd.func19 rfl rfl Evs.nil w)) trivial rfl (fun _ _ => rfl) (kM [true, false, true, true] rfl rfl) (by decide) ?_
  clear hH
  rintro _ _ w ⟨rfl, rfl⟩ hH
  replace hH : HH w0 [] [[bl g1 34 ((cArr 32).enc (fun _ => 0))], [bl g2 45 ((cWs 8).enc H32)]] w := hH.unpad
  refine pxM hH (fun _ hF => smAlloc (cs := (cWs 64).enc (fun _ => 0)) (z := ((cWs 64).val (fun _ => 0))) rfl (by kernel_rfl) rfl) trivial rfl (fun _ _ => rfl) (kA rfl) (by decide) ?_
  clear hH
  rintro _ _ w ⟨g3, rfl, rfl⟩ hH
  replace hH : HH w0 [] [[bl g1 34 ((cArr 32).enc (fun _ => 0))], [bl g2 45 ((cWs 8).enc H32)], [bl g3 46 ((cWs 64).enc (fun _ => 0))]] w := hH
  refine pxE0 2 hH rfl (fun _ hF => smStoreT (C := (cWs 64)) (z := K32) rfl (hF.ev 0 rfl) (hF.ev 1 rfl) rfl (by kernel_rfl) (by rw [Cod.size]; exact Nat.le_refl _) (put_whole (cWs 64) _ _)) trivial rfl (fun _ _ => rfl) ?_
  clear hH
  rintro _ _ w rfl hH
  replace hH : HH w0 [] [[bl g1 34 ((cArr 32).enc (fun _ => 0))], [bl g2 45 ((cWs 8).enc H32)], [bl g3 46 ((cWs 64).enc K32)]] w := hH
  refine pxEnd ?_
  refine qxThen ?_
  refine cxSeq ?_
  refine cxReg ?_
  refine pxV (v := (.slice A n c)) (fun _ _ hF => opMove rfl (hF.ev 4 rfl)) rfl (fun _ _ => rfl) (kM [true, false, true, true, false] rfl rfl) (by decide) ?_
  refine pxM hH (fun _ hF => Does.small ((rpad_c A n c l hb)) (fun w => opCall rfl Tryd.func20 rfl rfl (Evs.cons (v := (.slice A n c)) (hF.ev 0 rfl) (Evs.cons (v := (.int .i64 64)) rfl (Evs.cons (v := (.int .i64 8)) rfl Evs.nil))) w)) (hH.vu hR (by decide) (Off.nil _ _)) rfl (fun _ _ => rfl) (kM [false, true, true, true] rfl rfl) (by decide) ?_
  clear hH
  rintro v8 E4 w hO5 hH
  replace hH : HH w0 [] [[bl g1 34 ((cArr 32).enc (fun _ => 0))], [bl g2 45 ((cWs 8).enc H32)], [bl g3 46 ((cWs 64).enc K32)], E4] w := hH
  obtain ⟨A6, c7, rfl⟩ := hO5.slice
  refine pxV (v := (.slice A6 ((pdM l).length) c7)) (fun _ _ hF => opAssign rfl (hF.ev 0 rfl)) rfl (fun _ _ => rfl) (kM [false, true, true, true] rfl rfl) (by decide) ?_
  refine pxEnd ?_
  refine qxThen ?_
  refine cxSeq ?_
  refine cxSeq ?_
  have hlM := pdM_len l
  rw [hn] at hlM
  obtain ⟨g10, cap11, cur12, hv14, rfl, hB13⟩ := hO5.open (by omega)
  obtain ⟨rfl, rfl⟩ : A6 = some ⟨g10, 0, none⟩ ∧ c7 = cap11 := by injection hv14 with h1 h2 h3; exact ⟨h1, h3⟩
  have := hB13.le
  have he15 : (cWs 8).enc (hs32 F 0) = (cWs 8).enc H32 := vec_congr (fun _ _ => rfl)
  replace hH : HH w0 [] [[bl g1 34 ((cArr 32).enc (fun _ => 0))], [bl g2 45 ((cWs 8).enc (hs32 F 0))], [bl g3 46 ((cWs 64).enc K32)], [bl g10 5 cur12]] w := by rw [he15]; exact hH
  refine cxReg ?_
  refine pxV (v := (.int .i64 0)) (fun _ _ hF => opAssign rfl rfl) rfl (fun _ _ => rfl) (kA rfl) (by decide) ?_
  refine pxEnd ?_
  refine qxThen ?_
  refine cxBlock ?_
  refine cxLoop (σ := Nat) (fun x => [(6, (.int .i64 (((64 * x) : Nat) : Int))), (5, (.slice (some ⟨g10, 0, none⟩) ((pdM l).length) c7)), (4, (.pointer (some ⟨g3, 0, none⟩))), (3, (.pointer (some ⟨g2, 0, none⟩))), (2, (.pointer (some ⟨g1, 0, none⟩)))]) (fun x w => HH w0 [] [[bl g1 34 ((cArr 32).enc (fun _ => 0))], [bl g2 45 ((cWs 8).enc (hs32 F x))], [bl g3 46 ((cWs 64).enc K32)], [bl g10 5 cur12]] w ∧ (x ≤ nb32 n)) (fun x => nb32 n - x) 0 ⟨hH, (Nat.zero_le _)⟩ (slots_at [0, 1, 2, 3, 4] rfl) ?_
  clear hH
  rintro i w ⟨hH, hi⟩
  change CX _ _ _ _ [(6, (.int .i64 (((64 * i) : Nat) : Int))), (5, (.slice (some ⟨g10, 0, none⟩) ((pdM l).length) c7)), (4, (.pointer (some ⟨g3, 0, none⟩))), (3, (.pointer (some ⟨g2, 0, none⟩))), (2, (.pointer (some ⟨g1, 0, none⟩)))] _
  replace hH : HH w0 [] [[bl g1 34 ((cArr 32).enc (fun _ => 0))], [bl g2 45 ((cWs 8).enc (hs32 F i))], [bl g3 46 ((cWs 64).enc K32)], [bl g10 5 cur12]] w := hH
  replace hi : i ≤ nb32 n := hi
  refine cxSeq ?_
  refine cxSeq ?_
  refine cxReg ?_
  refine pxV (v := (.int .i64 (((64 * i) : Nat) : Int))) (fun _ _ hF => opMove rfl (hF.ev 0 rfl)) rfl (fun _ _ => rfl) (kA rfl) (by decide) ?_
  refine pxV (v := (.slice (some ⟨g10, 0, none⟩) ((pdM l).length) c7)) (fun _ _ hF => opMove rfl (hF.ev 2 rfl)) rfl (fun _ _ => rfl) (kA rfl) (by decide) ?_
  refine pxV (v := (.int .i64 ((((pdM l).length) : Nat) : Int))) (fun _ _ hF => opLen (e := 5) rfl (by kernel_rfl) (hF.ev 0 rfl)) rfl (fun _ _ => rfl) (kM [false, true, true, true, true, true, true] rfl rfl) (by decide) ?_
  refine pxV (v := (.bool (decide (64 * i < (pdM l).length)))) (fun _ _ hF => opLss rfl (hF.ev 1 rfl) (hF.ev 0 rfl) (dc (by omega))) rfl (fun _ _ => rfl) (kM [false, false, true, true, true, true, true] rfl rfl) (by decide) ?_
  refine pxEnd ?_
  refine qxThen ?_
  refine cxP 0 rfl rfl (fun hc16 => ?_) (fun hc16 => ?_)
  · refine cxSkip ?_
    refine qxThen ?_
    refine cxSeq ?_
    refine cxBlock ?_
    refine cxSeq ?_
    refine cxReg ?_
    refine pxM hH (fun _ hF => smAlloc (cs := (cWs 64).enc (fun _ => 0)) (z := ((cWs 64).val (fun _ => 0))) rfl (by kernel_rfl) rfl) trivial rfl (fun _ _ => rfl) (kM [false, true, true, true, true, true] rfl rfl) (by decide) ?_
    clear hH
    rintro _ _ w ⟨g17, rfl, rfl⟩ hH
    replace hH : HH w0 [] [[bl g1 34 ((cArr 32).enc (fun _ => 0))], [bl g2 45 ((cWs 8).enc (hs32 F i))], [bl g3 46 ((cWs 64).enc K32)], [bl g10 5 cur12], [bl g17 46 ((cWs 64).enc (fun _ => 0))]] w := hH
    refine pxEnd ?_
    refine qxThen ?_
    refine cxSeq ?_
    refine cxSeq ?_
    have he18 : (cWs 64).enc (upF 0 (W32 (blkF F i)) (fun _ => 0)) = (cWs 64).enc (fun _ => 0) := vec_congr (fun _ _ => by rw [upF_zero])
    replace hH : HH w0 [] [[bl g1 34 ((cArr 32).enc (fun _ => 0))], [bl g2 45 ((cWs 8).enc (hs32 F i))], [bl g3 46 ((cWs 64).enc K32)], [bl g10 5 cur12], [bl g17 46 ((cWs 64).enc (upF 0 (W32 (blkF F i)) (fun _ => 0)))]] w := by rw [he18]; exact hH
    refine cxReg ?_
    refine pxV (v := (.int .i64 0)) (fun _ _ hF => opMove rfl rfl) rfl (fun _ _ => rfl) (kA rfl) (by decide) ?_
    refine pxEnd ?_
    refine qxThen ?_
    refine cxBlock ?_
    refine cxLoop (σ := Nat) (fun x => [(31, (.int .i64 (((x) : Nat) : Int))), (7, (.pointer (some ⟨g17, 0, none⟩))), (6, (.int .i64 (((64 * i) : Nat) : Int))), (5, (.slice (some ⟨g10, 0, none⟩) ((pdM l).length) c7)), (4, (.pointer (some ⟨g3, 0, none⟩))), (3, (.pointer (some ⟨g2, 0, none⟩))), (2, (.pointer (some ⟨g1, 0, none⟩)))]) (fun x w => HH w0 [] [[bl g1 34 ((cArr 32).enc (fun _ => 0))], [bl g2 45 ((cWs 8).enc (hs32 F i))], [bl g3 46 ((cWs 64).enc K32)], [bl g10 5 cur12], [bl g17 46 ((cWs 64).enc (upF x (W32 (blkF F i)) (fun _ => 0)))]] w ∧ (x ≤ 16)) (fun x => 16 - x) 0 ⟨hH, (Nat.zero_le _)⟩ (slots_at [0, 1, 2, 3, 4, 5, 6] rfl) ?_
    clear hH
    rintro q w ⟨hH, hq⟩
    change CX _ _ _ _ [(31, (.int .i64 (((q) : Nat) : Int))), (7, (.pointer (some ⟨g17, 0, none⟩))), (6, (.int .i64 (((64 * i) : Nat) : Int))), (5, (.slice (some ⟨g10, 0, none⟩) ((pdM l).length) c7)), (4, (.pointer (some ⟨g3, 0, none⟩))), (3, (.pointer (some ⟨g2, 0, none⟩))), (2, (.pointer (some ⟨g1, 0, none⟩)))] _
    replace hH : HH w0 [] [[bl g1 34 ((cArr 32).enc (fun _ => 0))], [bl g2 45 ((cWs 8).enc (hs32 F i))], [bl g3 46 ((cWs 64).enc K32)], [bl g10 5 cur12], [bl g17 46 ((cWs 64).enc (upF q (W32 (blkF F i)) (fun _ => 0)))]] w := hH
    replace hq : q ≤ 16 := hq
    refine cxSeq ?_
    refine cxReg ?_
    refine pxV (v := (.bool (decide (q < 16)))) (fun _ _ hF => opLss rfl (hF.ev 0 rfl) rfl (dc (by omega))) rfl (fun _ _ => rfl) (kA rfl) (by decide) ?_
    refine pxEnd ?_
    refine qxThen ?_
    refine cxSeq ?_
    refine cxP 0 rfl rfl (fun hc19 => ?_) (fun hc19 => ?_)
    · refine cxSkip ?_
      refine qxThen ?_
      refine cxSeq ?_
      refine cxBlock ?_
      refine cxSeq ?_
      refine cxReg ?_
      refine pxV (v := (.int .i64 (((q) : Nat) : Int))) (fun _ _ hF => opMove rfl (hF.ev 1 rfl)) rfl (fun _ _ => rfl) (kM [false, true, true, true, true, true, true, true] rfl rfl) (by decide) ?_
      refine pxV (v := (.int .i64 (((q) : Nat) : Int))) (fun _ _ hF => opAssign rfl (hF.ev 0 rfl)) rfl (fun _ _ => rfl) (kM [false, true, true, true, true, true, true, true] rfl rfl) (by decide) ?_
      refine pxEnd ?_
      refine qxThen ?_
      have hx00 : (pdM l)[64 * i + 4 * q]? = some ((blkF F i) (4 * q)) := hM _ (by omega)
      have hb00 := UInt8.toNat_lt ((blkF F i) (4 * q))
      have hx01 : (pdM l)[64 * i + (4 * q + 1)]? = some ((blkF F i) (4 * q + 1)) := hM _ (by omega)
      have hb01 := UInt8.toNat_lt ((blkF F i) (4 * q + 1))
      have hx02 : (pdM l)[64 * i + (4 * q + 2)]? = some ((blkF F i) (4 * q + 2)) := hM _ (by omega)
      have hb02 := UInt8.toNat_lt ((blkF F i) (4 * q + 2))
      have hx03 : (pdM l)[64 * i + (4 * q + 3)]? = some ((blkF F i) (4 * q + 3)) := hM _ (by omega)
      have hb03 := UInt8.toNat_lt ((blkF F i) (4 * q + 3))
      refine cxRegX mixedOrders (by kernel_rfl) ?_
      replace hH := hH.drew
      refine rxV 0 rfl (by kernel_rfl) rfl (fun _ _ => rfl) (fun _ _ hF => opMove rfl (hF.ev 0 rfl)) (kA rfl) (by decide) (v := (.int .i64 (((q) : Nat) : Int))) ?_
      refine rxV 1 rfl (by kernel_rfl) rfl (fun _ _ => rfl) (fun _ _ hF => opMove rfl (hF.ev 5 rfl)) (kA rfl) (by decide) (v := (.slice (some ⟨g10, 0, none⟩) ((pdM l).length) c7)) ?_
      refine rxV 2 rfl (by kernel_rfl) rfl (fun _ _ => rfl) (fun _ _ hF => opMove rfl (hF.ev 5 rfl)) (kA rfl) (by decide) (v := (.int .i64 (((64 * i) : Nat) : Int))) ?_
      refine rxV 3 rfl (by kernel_rfl) rfl (fun _ _ => rfl) (fun _ _ hF => opMove rfl (hF.ev 3 rfl)) (kA rfl) (by decide) (v := (.int .i64 (((q) : Nat) : Int))) ?_
      refine rxV 4 rfl (by kernel_rfl) rfl (fun _ _ => rfl) (fun _ _ hF => opMul rfl rfl (hF.ev 0 rfl) (wI (by omega) (by omega) (by omega))) (kM [false, true, true, true, true, true, true, true, true, true, true, true] rfl rfl) (by decide) (v := (.int .i64 (((4 * q) : Nat) : Int))) ?_
      refine rxV 5 rfl (by kernel_rfl) rfl (fun _ _ => rfl) (fun _ _ hF => opAdd rfl (hF.ev 1 rfl) (hF.ev 0 rfl) (wI (by omega) (by omega) (by omega))) (kM [false, false, true, true, true, true, true, true, true, true, true, true] rfl rfl) (by decide) (v := (.int .i64 (((64 * i + 4 * q) : Nat) : Int))) ?_
      have hi20 : 64 * i + 4 * q < (pdM l).length := by omega
      have hj23 : 64 * i + 4 * q < (pdM l).length := by omega
      refine rxV 6 rfl (by kernel_rfl) rfl (fun _ _ => rfl) (fun _ _ hF => opIndex (i := 64 * i + 4 * q) (e := 5) (sz := 1) rfl (by kernel_rfl) (by kernel_rfl) (hF.ev 1 rfl) (hF.ev 0 rfl) rfl hi20) (kM [false, false, true, true, true, true, true, true, true, true, true] rfl rfl) (by decide) (v := (.pointer (some ⟨g10, 0 + (64 * i + 4 * q) * 1, none⟩))) ?_
      refine rxS (fun w => w.heap[g10]? = some (.cells cur12 5 (0, 0))) 7 rfl (by kernel_rfl) rfl (fun _ _ => rfl) (hH.blk 3 rfl) (fun _ _ hF hS => opLoadT (C := cByte) (y := ((blkF F i) (4 * q))) rfl (hF.ev 0 rfl) (by kernel_rfl) ((hB13.holdsL hS) (64 * i + 4 * q) _ hx00) rfl) (kM [false, true, true, true, true, true, true, true, true, true] rfl rfl) (by decide) (v := (.int .u8 (((((blkF F i) (4 * q)).toNat) : Nat) : Int))) ?_
      refine rxV 8 rfl (by kernel_rfl) rfl (fun _ _ => rfl) (fun _ _ hF => opConvU (k' := .u32) (m := ((blkF F i) (4 * q)).toNat) rfl rfl (by kernel_rfl) (by kernel_rfl) (hF.ev 0 rfl) (Nat.mod_eq_of_lt (by show _ < 4294967296; omega))) (kM [false, true, true, true, true, true, true, true, true, true] rfl rfl) (by decide) (v := (.int .u32 (((((blkF F i) (4 * q)).toNat) : Nat) : Int))) ?_
      refine rxV 9 rfl (by kernel_rfl) rfl (fun _ _ => rfl) (fun _ _ hF => opShlU (n := 24) (z := (((blkF F i) (4 * q)).toNat * 16777216)) rfl rfl (hF.ev 0 rfl) rfl (leb rfl) (by show (((blkF F i) (4 * q)).toNat * 2 ^ 24) % 4294967296 = _; omega)) (kM [false, true, true, true, true, true, true, true, true, true] rfl rfl) (by decide) (v := (.int .u32 (((((blkF F i) (4 * q)).toNat * 16777216) : Nat) : Int))) ?_
      refine rxV 10 rfl (by kernel_rfl) rfl (fun _ _ => rfl) (fun _ _ hF => opMove rfl (hF.ev 6 rfl)) (kA rfl) (by decide) (v := (.slice (some ⟨g10, 0, none⟩) ((pdM l).length) c7)) ?_
      refine rxV 11 rfl (by kernel_rfl) rfl (fun _ _ => rfl) (fun _ _ hF => opMove rfl (hF.ev 6 rfl)) (kA rfl) (by decide) (v := (.int .i64 (((64 * i) : Nat) : Int))) ?_
      refine rxV 12 rfl (by kernel_rfl) rfl (fun _ _ => rfl) (fun _ _ hF => opMove rfl (hF.ev 4 rfl)) (kA rfl) (by decide) (v := (.int .i64 (((q) : Nat) : Int))) ?_
      refine rxV 13 rfl (by kernel_rfl) rfl (fun _ _ => rfl) (fun _ _ hF => opMul rfl rfl (hF.ev 0 rfl) (wI (by omega) (by omega) (by omega))) (kM [false, true, true, true, true, true, true, true, true, true, true, true, true] rfl rfl) (by decide) (v := (.int .i64 (((4 * q) : Nat) : Int))) ?_
      refine rxV 14 rfl (by kernel_rfl) rfl (fun _ _ => rfl) (fun _ _ hF => opAdd rfl (hF.ev 1 rfl) (hF.ev 0 rfl) (wI (by omega) (by omega) (by omega))) (kM [false, false, true, true, true, true, true, true, true, true, true, true, true] rfl rfl) (by decide) (v := (.int .i64 ((((64 * i) + (4 * q)) : Nat) : Int))) ?_
      refine rxV 15 rfl (by kernel_rfl) rfl (fun _ _ => rfl) (fun _ _ hF => opAdd rfl (hF.ev 0 rfl) rfl (wI (by omega) (by omega) (by omega))) (kM [false, true, true, true, true, true, true, true, true, true, true, true] rfl rfl) (by decide) (v := (.int .i64 (((64 * i + (4 * q + 1)) : Nat) : Int))) ?_
      have hi24 : 64 * i + (4 * q + 1) < (pdM l).length := by omega
      have hj27 : 64 * i + (4 * q + 1) < (pdM l).length := by omega
      refine rxV 16 rfl (by kernel_rfl) rfl (fun _ _ => rfl) (fun _ _ hF => opIndex (i := 64 * i + (4 * q + 1)) (e := 5) (sz := 1) rfl (by kernel_rfl) (by kernel_rfl) (hF.ev 1 rfl) (hF.ev 0 rfl) rfl hi24) (kM [false, false, true, true, true, true, true, true, true, true, true, true] rfl rfl) (by decide) (v := (.pointer (some ⟨g10, 0 + (64 * i + (4 * q + 1)) * 1, none⟩))) ?_
      refine rxS (fun w => w.heap[g10]? = some (.cells cur12 5 (0, 0))) 17 rfl (by kernel_rfl) rfl (fun _ _ => rfl) (hH.blk 3 rfl) (fun _ _ hF hS => opLoadT (C := cByte) (y := ((blkF F i) (4 * q + 1))) rfl (hF.ev 0 rfl) (by kernel_rfl) ((hB13.holdsL hS) (64 * i + (4 * q + 1)) _ hx01) rfl) (kM [false, true, true, true, true, true, true, true, true, true, true] rfl rfl) (by decide) (v := (.int .u8 (((((blkF F i) (4 * q + 1)).toNat) : Nat) : Int))) ?_
      refine rxV 18 rfl (by kernel_rfl) rfl (fun _ _ => rfl) (fun _ _ hF => opConvU (k' := .u32) (m := ((blkF F i) (4 * q + 1)).toNat) rfl rfl (by kernel_rfl) (by kernel_rfl) (hF.ev 0 rfl) (Nat.mod_eq_of_lt (by show _ < 4294967296; omega))) (kM [false, true, true, true, true, true, true, true, true, true, true] rfl rfl) (by decide) (v := (.int .u32 (((((blkF F i) (4 * q + 1)).toNat) : Nat) : Int))) ?_
      refine rxV 19 rfl (by kernel_rfl) rfl (fun _ _ => rfl) (fun _ _ hF => opShlU (n := 16) (z := (((blkF F i) (4 * q + 1)).toNat * 65536)) rfl rfl (hF.ev 0 rfl) rfl (leb rfl) (by show (((blkF F i) (4 * q + 1)).toNat * 2 ^ 16) % 4294967296 = _; omega)) (kM [false, true, true, true, true, true, true, true, true, true, true] rfl rfl) (by decide) (v := (.int .u32 (((((blkF F i) (4 * q + 1)).toNat * 65536) : Nat) : Int))) ?_
      refine rxV 20 rfl (by kernel_rfl) rfl (fun _ _ => rfl) (fun _ _ hF => opOrU (m := ((blkF F i) (4 * q)).toNat * 16777216) (j := ((blkF F i) (4 * q + 1)).toNat * 65536) (z := (((blkF F i) (4 * q)).toNat * 16777216 + ((blkF F i) (4 * q + 1)).toNat * 65536)) rfl rfl (hF.ev 1 rfl) (hF.ev 0 rfl) (by show _ < 4294967296; omega) (by show _ < 4294967296; omega) (by rw [show ((blkF F i) (4 * q)).toNat * 16777216 = ((blkF F i) (4 * q)).toNat * 2 ^ 24 by omega, or_addk (show ((blkF F i) (4 * q + 1)).toNat * 65536 < 2 ^ 24 by omega)])) (kM [false, false, true, true, true, true, true, true, true, true, true] rfl rfl) (by decide) (v := (.int .u32 (((((blkF F i) (4 * q)).toNat * 16777216 + ((blkF F i) (4 * q + 1)).toNat * 65536) : Nat) : Int))) ?_
      refine rxV 21 rfl (by kernel_rfl) rfl (fun _ _ => rfl) (fun _ _ hF => opMove rfl (hF.ev 6 rfl)) (kA rfl) (by decide) (v := (.slice (some ⟨g10, 0, none⟩) ((pdM l).length) c7)) ?_
      refine rxV 22 rfl (by kernel_rfl) rfl (fun _ _ => rfl) (fun _ _ hF => opMove rfl (hF.ev 6 rfl)) (kA rfl) (by decide) (v := (.int .i64 (((64 * i) : Nat) : Int))) ?_
      refine rxV 23 rfl (by kernel_rfl) rfl (fun _ _ => rfl) (fun _ _ hF => opMove rfl (hF.ev 4 rfl)) (kA rfl) (by decide) (v := (.int .i64 (((q) : Nat) : Int))) ?_
      refine rxV 24 rfl (by kernel_rfl) rfl (fun _ _ => rfl) (fun _ _ hF => opMul rfl rfl (hF.ev 0 rfl) (wI (by omega) (by omega) (by omega))) (kM [false, true, true, true, true, true, true, true, true, true, true, true, true] rfl rfl) (by decide) (v := (.int .i64 (((4 * q) : Nat) : Int))) ?_
      refine rxV 25 rfl (by kernel_rfl) rfl (fun _ _ => rfl) (fun _ _ hF => opAdd rfl (hF.ev 1 rfl) (hF.ev 0 rfl) (wI (by omega) (by omega) (by omega))) (kM [false, false, true, true, true, true, true, true, true, true, true, true, true] rfl rfl) (by decide) (v := (.int .i64 ((((64 * i) + (4 * q)) : Nat) : Int))) ?_
      refine rxV 26 rfl (by kernel_rfl) rfl (fun _ _ => rfl) (fun _ _ hF => opAdd rfl (hF.ev 0 rfl) rfl (wI (by omega) (by omega) (by omega))) (kM [false, true, true, true, true, true, true, true, true, true, true, true] rfl rfl) (by decide) (v := (.int .i64 (((64 * i + (4 * q + 2)) : Nat) : Int))) ?_
      have hi28 : 64 * i + (4 * q + 2) < (pdM l).length := by omega
      have hj31 : 64 * i + (4 * q + 2) < (pdM l).length := by omega
      refine rxV 27 rfl (by kernel_rfl) rfl (fun _ _ => rfl) (fun _ _ hF => opIndex (i := 64 * i + (4 * q + 2)) (e := 5) (sz := 1) rfl (by kernel_rfl) (by kernel_rfl) (hF.ev 1 rfl) (hF.ev 0 rfl) rfl hi28) (kM [false, false, true, true, true, true, true, true, true, true, true, true] rfl rfl) (by decide) (v := (.pointer (some ⟨g10, 0 + (64 * i + (4 * q + 2)) * 1, none⟩))) ?_
      refine rxS (fun w => w.heap[g10]? = some (.cells cur12 5 (0, 0))) 28 rfl (by kernel_rfl) rfl (fun _ _ => rfl) (hH.blk 3 rfl) (fun _ _ hF hS => opLoadT (C := cByte) (y := ((blkF F i) (4 * q + 2))) rfl (hF.ev 0 rfl) (by kernel_rfl) ((hB13.holdsL hS) (64 * i + (4 * q + 2)) _ hx02) rfl) (kM [false, true, true, true, true, true, true, true, true, true, true] rfl rfl) (by decide) (v := (.int .u8 (((((blkF F i) (4 * q + 2)).toNat) : Nat) : Int))) ?_
      refine rxV 29 rfl (by kernel_rfl) rfl (fun _ _ => rfl) (fun _ _ hF => opConvU (k' := .u32) (m := ((blkF F i) (4 * q + 2)).toNat) rfl rfl (by kernel_rfl) (by kernel_rfl) (hF.ev 0 rfl) (Nat.mod_eq_of_lt (by show _ < 4294967296; omega))) (kM [false, true, true, true, true, true, true, true, true, true, true] rfl rfl) (by decide) (v := (.int .u32 (((((blkF F i) (4 * q + 2)).toNat) : Nat) : Int))) ?_
      refine rxV 30 rfl (by kernel_rfl) rfl (fun _ _ => rfl) (fun _ _ hF => opShlU (n := 8) (z := (((blkF F i) (4 * q + 2)).toNat * 256)) rfl rfl (hF.ev 0 rfl) rfl (leb rfl) (by show (((blkF F i) (4 * q + 2)).toNat * 2 ^ 8) % 4294967296 = _; omega)) (kM [false, true, true, true, true, true, true, true, true, true, true] rfl rfl) (by decide) (v := (.int .u32 (((((blkF F i) (4 * q + 2)).toNat * 256) : Nat) : Int))) ?_
      refine rxV 31 rfl (by kernel_rfl) rfl (fun _ _ => rfl) (fun _ _ hF => opOrU (m := ((blkF F i) (4 * q)).toNat * 16777216 + ((blkF F i) (4 * q + 1)).toNat * 65536) (j := ((blkF F i) (4 * q + 2)).toNat * 256) (z := (((blkF F i) (4 * q)).toNat * 16777216 + ((blkF F i) (4 * q + 1)).toNat * 65536 + ((blkF F i) (4 * q + 2)).toNat * 256)) rfl rfl (hF.ev 1 rfl) (hF.ev 0 rfl) (by show _ < 4294967296; omega) (by show _ < 4294967296; omega) (by rw [show ((blkF F i) (4 * q)).toNat * 16777216 + ((blkF F i) (4 * q + 1)).toNat * 65536 = (((blkF F i) (4 * q)).toNat * 256 + ((blkF F i) (4 * q + 1)).toNat) * 2 ^ 16 by omega, or_addk (show ((blkF F i) (4 * q + 2)).toNat * 256 < 2 ^ 16 by omega)])) (kM [false, false, true, true, true, true, true, true, true, true, true] rfl rfl) (by decide) (v := (.int .u32 (((((blkF F i) (4 * q)).toNat * 16777216 + ((blkF F i) (4 * q + 1)).toNat * 65536 + ((blkF F i) (4 * q + 2)).toNat * 256) : Nat) : Int))) ?_
      refine rxV 32 rfl (by kernel_rfl) rfl (fun _ _ => rfl) (fun _ _ hF => opMove rfl (hF.ev 6 rfl)) (kA rfl) (by decide) (v := (.slice (some ⟨g10, 0, none⟩) ((pdM l).length) c7)) ?_
      refine rxV 33 rfl (by kernel_rfl) rfl (fun _ _ => rfl) (fun _ _ hF => opMove rfl (hF.ev 6 rfl)) (kA rfl) (by decide) (v := (.int .i64 (((64 * i) : Nat) : Int))) ?_
      refine rxV 34 rfl (by kernel_rfl) rfl (fun _ _ => rfl) (fun _ _ hF => opMove rfl (hF.ev 4 rfl)) (kM [true, true, true, true, false, true, true, true, true, true, true, true] rfl rfl) (by decide) (v := (.int .i64 (((q) : Nat) : Int))) ?_
      refine rxV 35 rfl (by kernel_rfl) rfl (fun _ _ => rfl) (fun _ _ hF => opMul rfl rfl (hF.ev 0 rfl) (wI (by omega) (by omega) (by omega))) (kM [false, true, true, true, true, true, true, true, true, true, true, true] rfl rfl) (by decide) (v := (.int .i64 (((4 * q) : Nat) : Int))) ?_
      refine rxV 36 rfl (by kernel_rfl) rfl (fun _ _ => rfl) (fun _ _ hF => opAdd rfl (hF.ev 1 rfl) (hF.ev 0 rfl) (wI (by omega) (by omega) (by omega))) (kM [false, false, true, true, true, true, true, true, true, true, true, true] rfl rfl) (by decide) (v := (.int .i64 ((((64 * i) + (4 * q)) : Nat) : Int))) ?_
      refine rxV 37 rfl (by kernel_rfl) rfl (fun _ _ => rfl) (fun _ _ hF => opAdd rfl (hF.ev 0 rfl) rfl (wI (by omega) (by omega) (by omega))) (kM [false, true, true, true, true, true, true, true, true, true, true] rfl rfl) (by decide) (v := (.int .i64 (((64 * i + (4 * q + 3)) : Nat) : Int))) ?_
      have hi32 : 64 * i + (4 * q + 3) < (pdM l).length := by omega
      have hj35 : 64 * i + (4 * q + 3) < (pdM l).length := by omega
      refine rxV 38 rfl (by kernel_rfl) rfl (fun _ _ => rfl) (fun _ _ hF => opIndex (i := 64 * i + (4 * q + 3)) (e := 5) (sz := 1) rfl (by kernel_rfl) (by kernel_rfl) (hF.ev 1 rfl) (hF.ev 0 rfl) rfl hi32) (kM [false, false, true, true, true, true, true, true, true, true, true] rfl rfl) (by decide) (v := (.pointer (some ⟨g10, 0 + (64 * i + (4 * q + 3)) * 1, none⟩))) ?_
      refine rxS (fun w => w.heap[g10]? = some (.cells cur12 5 (0, 0))) 39 rfl (by kernel_rfl) rfl (fun _ _ => rfl) (hH.blk 3 rfl) (fun _ _ hF hS => opLoadT (C := cByte) (y := ((blkF F i) (4 * q + 3))) rfl (hF.ev 0 rfl) (by kernel_rfl) ((hB13.holdsL hS) (64 * i + (4 * q + 3)) _ hx03) rfl) (kM [false, true, true, true, true, true, true, true, true, true] rfl rfl) (by decide) (v := (.int .u8 (((((blkF F i) (4 * q + 3)).toNat) : Nat) : Int))) ?_
      refine rxV 40 rfl (by kernel_rfl) rfl (fun _ _ => rfl) (fun _ _ hF => opConvU (k' := .u32) (m := ((blkF F i) (4 * q + 3)).toNat) rfl rfl (by kernel_rfl) (by kernel_rfl) (hF.ev 0 rfl) (Nat.mod_eq_of_lt (by show _ < 4294967296; omega))) (kM [false, true, true, true, true, true, true, true, true, true] rfl rfl) (by decide) (v := (.int .u32 (((((blkF F i) (4 * q + 3)).toNat) : Nat) : Int))) ?_
      refine rxV 41 rfl (by kernel_rfl) rfl (fun _ _ => rfl) (fun _ _ hF => opOrU (m := ((blkF F i) (4 * q)).toNat * 16777216 + ((blkF F i) (4 * q + 1)).toNat * 65536 + ((blkF F i) (4 * q + 2)).toNat * 256) (j := ((blkF F i) (4 * q + 3)).toNat) (z := (((blkF F i) (4 * q)).toNat * 16777216 + ((blkF F i) (4 * q + 1)).toNat * 65536 + ((blkF F i) (4 * q + 2)).toNat * 256 + ((blkF F i) (4 * q + 3)).toNat)) rfl rfl (hF.ev 1 rfl) (hF.ev 0 rfl) (by show _ < 4294967296; omega) (by show _ < 4294967296; omega) (by rw [show ((blkF F i) (4 * q)).toNat * 16777216 + ((blkF F i) (4 * q + 1)).toNat * 65536 + ((blkF F i) (4 * q + 2)).toNat * 256 = (((blkF F i) (4 * q)).toNat * 65536 + ((blkF F i) (4 * q + 1)).toNat * 256 + ((blkF F i) (4 * q + 2)).toNat) * 2 ^ 8 by omega, or_addk (show ((blkF F i) (4 * q + 3)).toNat < 2 ^ 8 by omega)])) (kM [false, false, true, true, true, true, true, true, true, true] rfl rfl) (by decide) (v := (.int .u32 (((((blkF F i) (4 * q)).toNat * 16777216 + ((blkF F i) (4 * q + 1)).toNat * 65536 + ((blkF F i) (4 * q + 2)).toNat * 256 + ((blkF F i) (4 * q + 3)).toNat) : Nat) : Int))) ?_
      have hi36 : q < 64 := by omega
      refine rxV 42 rfl (by kernel_rfl) rfl (fun _ _ => rfl) (fun _ _ hF => opIndexA (i := q) (e := 44) (sz := 1) rfl (by kernel_rfl) (by kernel_rfl) (hF.ev 3 rfl) (hF.ev 1 rfl) rfl hi36) (kM [true, false, true, true, true, true, true, true, true] rfl rfl) (by decide) (v := (.pointer (some ⟨g17, 0 + q * 1, none⟩))) ?_
      refine rx1 43 (by kernel_rfl) ?_
      refine moE0 4 rfl hH rfl (fun _ hF => smStoreT (C := cWd) (z := (UInt32.ofNat (((blkF F i) (4 * q)).toNat * 16777216 + ((blkF F i) (4 * q + 1)).toNat * 65536 + ((blkF F i) (4 * q + 2)).toNat * 256 + ((blkF F i) (4 * q + 3)).toNat))) rfl (hF.ev 0 rfl) ((hF.ev 1 rfl).trans (wd_val (by omega))) rfl (by kernel_rfl) (room_1 (S := sWd) (C := (cWs 64)) rfl hi36) (vec_set0 (upF q (W32 (blkF F i)) (fun _ => 0)) (UInt32.ofNat (((blkF F i) (4 * q)).toNat * 16777216 + ((blkF F i) (4 * q + 1)).toNat * 65536 + ((blkF F i) (4 * q + 2)).toNat * 256 + ((blkF F i) (4 * q + 3)).toNat)) hi36)) trivial rfl (fun _ _ => rfl) (PendOk.go [] (by kernel_rfl) (PendOk.go [] (by kernel_rfl) (PendOk.go [] (by kernel_rfl) (PendOk.go [] (by kernel_rfl) (PendOk.nil _ []))))) ?_
      clear hH
      rintro _ _ w rfl hH
      replace hH : HH w0 [] [[bl g1 34 ((cArr 32).enc (fun _ => 0))], [bl g2 45 ((cWs 8).enc (hs32 F i))], [bl g3 46 ((cWs 64).enc K32)], [bl g10 5 cur12], [bl g17 46 ((cWs 64).enc (stF (upF q (W32 (blkF F i)) (fun _ => 0)) q (UInt32.ofNat (((blkF F i) (4 * q)).toNat * 16777216 + ((blkF F i) (4 * q + 1)).toNat * 65536 + ((blkF F i) (4 * q + 2)).toNat * 256 + ((blkF F i) (4 * q + 3)).toNat))))]] w := hH
      refine ⟨(fun _ hs => by cases hs), ?_⟩
      refine rxEnd (by kernel_rfl) ?_
      refine qxInN ?_
      refine qxThen ?_
      refine cxReg ?_
      refine pxV (v := (.int .i64 (((q + 1) : Nat) : Int))) (fun _ _ hF => opAdd rfl (hF.ev 2 rfl) rfl (wI (by omega) (by omega) (by omega))) rfl (fun _ _ => rfl) (kM [false, false, false, true, true, true, true, true, true] rfl rfl) (by decide) ?_
      refine pxV (v := (.int .i64 (((q + 1) : Nat) : Int))) (fun _ _ hF => opMove rfl (hF.ev 0 rfl)) rfl (fun _ _ => rfl) (kM [false, true, true, true, true, true, true] rfl rfl) (by decide) ?_
      refine pxEnd ?_
      have he37 : (cWs 64).enc (upF (q + 1) (W32 (blkF F i)) (fun _ => 0)) = (cWs 64).enc (stF (upF q (W32 (blkF F i)) (fun _ => 0)) q (UInt32.ofNat (((blkF F i) (4 * q)).toNat * 16777216 + ((blkF F i) (4 * q + 1)).toNat * 65536 + ((blkF F i) (4 * q + 2)).toNat * 256 + ((blkF F i) (4 * q + 3)).toNat))) := vec_congr (fun j _ => (congrFun (upF_step q (W32 (blkF F i)) (fun _ => 0) (up_low (show q < 16 by omega))) j).symm)
      replace hH : HH w0 [] [[bl g1 34 ((cArr 32).enc (fun _ => 0))], [bl g2 45 ((cWs 8).enc (hs32 F i))], [bl g3 46 ((cWs 64).enc K32)], [bl g10 5 cur12], [bl g17 46 ((cWs 64).enc (upF (q + 1) (W32 (blkF F i)) (fun _ => 0)))]] w := by rw [he37]; exact hH
      exact qxRound (q + 1) ⟨hH, (show (q + 1) ≤ 16 from (by omega))⟩ (by omega) (slots_at [0, 1, 2, 3, 4, 5, 6] rfl)
    · refine cxExit ?_
      refine qxThenE ?_
      refine qxThenE ?_
      refine qxInE ?_
      refine qxThen ?_
      refine cxSeq ?_
      refine cxSeq ?_
      obtain rfl : q = 16 := by omega
      refine cxReg ?_
      refine pxV (v := (.int .i64 16)) (fun _ _ hF => opAssign rfl rfl) rfl (fun _ _ => rfl) (kM [false, false, true, true, true, true, true, true] rfl rfl) (by decide) ?_
      refine pxEnd ?_
      refine qxThen ?_
      refine cxBlock ?_
      refine cxLoop (σ := Nat) (fun x => [(9, (.int .i64 (((x) : Nat) : Int))), (7, (.pointer (some ⟨g17, 0, none⟩))), (6, (.int .i64 (((64 * i) : Nat) : Int))), (5, (.slice (some ⟨g10, 0, none⟩) ((pdM l).length) c7)), (4, (.pointer (some ⟨g3, 0, none⟩))), (3, (.pointer (some ⟨g2, 0, none⟩))), (2, (.pointer (some ⟨g1, 0, none⟩)))]) (fun x w => HH w0 [] [[bl g1 34 ((cArr 32).enc (fun _ => 0))], [bl g2 45 ((cWs 8).enc (hs32 F i))], [bl g3 46 ((cWs 64).enc K32)], [bl g10 5 cur12], [bl g17 46 ((cWs 64).enc (upF x (W32 (blkF F i)) (fun _ => 0)))]] w ∧ (16 ≤ x) ∧ (x ≤ 64)) (fun x => 64 - x) 16 ⟨hH, (Nat.le_refl _), (by decide)⟩ (slots_at [0, 1, 2, 3, 4, 5, 6] rfl) ?_
      clear hH
      rintro q w ⟨hH, hq, hq2⟩
      change CX _ _ _ _ [(9, (.int .i64 (((q) : Nat) : Int))), (7, (.pointer (some ⟨g17, 0, none⟩))), (6, (.int .i64 (((64 * i) : Nat) : Int))), (5, (.slice (some ⟨g10, 0, none⟩) ((pdM l).length) c7)), (4, (.pointer (some ⟨g3, 0, none⟩))), (3, (.pointer (some ⟨g2, 0, none⟩))), (2, (.pointer (some ⟨g1, 0, none⟩)))] _
      replace hH : HH w0 [] [[bl g1 34 ((cArr 32).enc (fun _ => 0))], [bl g2 45 ((cWs 8).enc (hs32 F i))], [bl g3 46 ((cWs 64).enc K32)], [bl g10 5 cur12], [bl g17 46 ((cWs 64).enc (upF q (W32 (blkF F i)) (fun _ => 0)))]] w := hH
      replace hq : 16 ≤ q := hq
      replace hq2 : q ≤ 64 := hq2
      refine cxSeq ?_
      refine cxSeq ?_
      refine cxReg ?_
      refine pxV (v := (.int .i64 (((q) : Nat) : Int))) (fun _ _ hF => opMove rfl (hF.ev 0 rfl)) rfl (fun _ _ => rfl) (kA rfl) (by decide) ?_
      refine pxV (v := (.bool (decide (q < 64)))) (fun _ _ hF => opLss rfl (hF.ev 0 rfl) rfl (dc (by omega))) rfl (fun _ _ => rfl) (kM [false, true, true, true, true, true, true, true] rfl rfl) (by decide) ?_
      refine pxEnd ?_
      refine qxThen ?_
      refine cxP 0 rfl rfl (fun hc38 => ?_) (fun hc38 => ?_)
      · refine cxSkip ?_
        refine qxThen ?_
        refine cxSeq ?_
        refine cxBlock ?_
        refine cxSeq ?_
        refine cxRegX mixedOrders (by kernel_rfl) ?_
        replace hH := hH.drew
        refine rxV 0 rfl (by kernel_rfl) rfl (fun _ _ => rfl) (fun _ _ hF => opMove rfl (hF.ev 1 rfl)) (kM [false, true, true, true, true, true, true, true] rfl rfl) (by decide) (v := (.int .i64 (((q) : Nat) : Int))) ?_
        refine rxV 1 rfl (by kernel_rfl) rfl (fun _ _ => rfl) (fun _ _ hF => opSub rfl (hF.ev 0 rfl) rfl (wI (by omega) (by omega) (by omega))) (kM [false, true, true, true, true, true, true, true] rfl rfl) (by decide) (v := (.int .i64 (((q - 2) : Nat) : Int))) ?_
        have hi39 : q - 2 < 64 := by omega
        refine rxV 2 rfl (by kernel_rfl) rfl (fun _ _ => rfl) (fun _ _ hF => opIndexA (i := q - 2) (e := 44) (sz := 1) rfl (by kernel_rfl) (by kernel_rfl) (hF.ev 2 rfl) (hF.ev 0 rfl) rfl hi39) (kM [false, true, true, true, true, true, true, true] rfl rfl) (by decide) (v := (.pointer (some ⟨g17, 0 + (q - 2) * 1, none⟩))) ?_
        refine rxS (fun w => w.heap[g17]? = some (.cells ((cWs 64).enc (upF q (W32 (blkF F i)) (fun _ => 0))) 46 (0, 0))) 3 rfl (by kernel_rfl) rfl (fun _ _ => rfl) (hH.blk 4 rfl) (fun _ _ hF hS => opLoadT (C := cWd) (y := ((upF q (W32 (blkF F i)) (fun _ => 0)) (q - 2))) rfl (hF.ev 0 rfl) (by kernel_rfl) ((holds_blk0 hS).eltV hi39) rfl) (kM [false, true, true, true, true, true, true, true] rfl rfl) (by decide) (v := (.int .u32 (((((upF q (W32 (blkF F i)) (fun _ => 0)) (q - 2)).toNat) : Nat) : Int))) ?_
        refine rxV 5 rfl (by kernel_rfl) rfl (fun _ _ => rfl) (fun _ _ hF => opMove rfl (hF.ev 1 rfl)) (kA rfl) (by decide) (v := (.int .i64 (((q) : Nat) : Int))) ?_
        refine rxV 6 rfl (by kernel_rfl) rfl (fun _ _ => rfl) (fun _ _ hF => opSub rfl (hF.ev 0 rfl) rfl (wI (by omega) (by omega) (by omega))) (kM [false, true, true, true, true, true, true, true, true] rfl rfl) (by decide) (v := (.int .i64 (((q - 2) : Nat) : Int))) ?_
        have hi40 : q - 2 < 64 := by omega
        refine rxV 7 rfl (by kernel_rfl) rfl (fun _ _ => rfl) (fun _ _ hF => opIndexA (i := q - 2) (e := 44) (sz := 1) rfl (by kernel_rfl) (by kernel_rfl) (hF.ev 3 rfl) (hF.ev 0 rfl) rfl hi40) (kM [false, true, true, true, true, true, true, true, true] rfl rfl) (by decide) (v := (.pointer (some ⟨g17, 0 + (q - 2) * 1, none⟩))) ?_
        refine rxS (fun w => w.heap[g17]? = some (.cells ((cWs 64).enc (upF q (W32 (blkF F i)) (fun _ => 0))) 46 (0, 0))) 8 rfl (by kernel_rfl) rfl (fun _ _ => rfl) (hH.blk 4 rfl) (fun _ _ hF hS => opLoadT (C := cWd) (y := ((upF q (W32 (blkF F i)) (fun _ => 0)) (q - 2))) rfl (hF.ev 0 rfl) (by kernel_rfl) ((holds_blk0 hS).eltV hi40) rfl) (kM [false, true, true, true, true, true, true, true, true] rfl rfl) (by decide) (v := (.int .u32 (((((upF q (W32 (blkF F i)) (fun _ => 0)) (q - 2)).toNat) : Nat) : Int))) ?_
        refine rxV 11 rfl (by kernel_rfl) rfl (fun _ _ => rfl) (fun _ _ hF => opMove rfl (hF.ev 2 rfl)) (kA rfl) (by decide) (v := (.int .i64 (((q) : Nat) : Int))) ?_
        refine rxV 12 rfl (by kernel_rfl) rfl (fun _ _ => rfl) (fun _ _ hF => opSub rfl (hF.ev 0 rfl) rfl (wI (by omega) (by omega) (by omega))) (kM [false, true, true, true, true, true, true, true, true, true] rfl rfl) (by decide) (v := (.int .i64 (((q - 2) : Nat) : Int))) ?_
        have hi41 : q - 2 < 64 := by omega
        refine rxV 13 rfl (by kernel_rfl) rfl (fun _ _ => rfl) (fun _ _ hF => opIndexA (i := q - 2) (e := 44) (sz := 1) rfl (by kernel_rfl) (by kernel_rfl) (hF.ev 4 rfl) (hF.ev 0 rfl) rfl hi41) (kM [false, true, true, true, true, true, true, true, true, true] rfl rfl) (by decide) (v := (.pointer (some ⟨g17, 0 + (q - 2) * 1, none⟩))) ?_
        refine rxS (fun w => w.heap[g17]? = some (.cells ((cWs 64).enc (upF q (W32 (blkF F i)) (fun _ => 0))) 46 (0, 0))) 14 rfl (by kernel_rfl) rfl (fun _ _ => rfl) (hH.blk 4 rfl) (fun _ _ hF hS => opLoadT (C := cWd) (y := ((upF q (W32 (blkF F i)) (fun _ => 0)) (q - 2))) rfl (hF.ev 0 rfl) (by kernel_rfl) ((holds_blk0 hS).eltV hi41) rfl) (kM [false, true, true, true, true, true, true, true, true, true] rfl rfl) (by decide) (v := (.int .u32 (((((upF q (W32 (blkF F i)) (fun _ => 0)) (q - 2)).toNat) : Nat) : Int))) ?_
        refine rxV 15 rfl (by kernel_rfl) rfl (fun _ _ => rfl) (fun _ _ hF => opShrW (u := ((upF q (W32 (blkF F i)) (fun _ => 0)) (q - 2))) (n := 10) rfl (hF.ev 0 rfl) rfl (leb rfl) rfl) (kM [false, true, true, true, true, true, true, true, true, true] rfl rfl) (by decide) (v := (.int .u32 ((((sr32 ((upF q (W32 (blkF F i)) (fun _ => 0)) (q - 2)) 10).toNat) : Nat) : Int))) ?_
        refine rx1 4 (by kernel_rfl) ?_
        refine moM rfl hH (fun _ hF => Does.small ((rrot_c ((upF q (W32 (blkF F i)) (fun _ => 0)) (q - 2)) 17 (ltb rfl) (ltb rfl)).does) (fun w => opCall rfl Tryd.func21 rfl rfl (Evs.cons (v := (.int .u32 (((((upF q (W32 (blkF F i)) (fun _ => 0)) (q - 2)).toNat) : Nat) : Int))) (hF.ev 2 rfl) (Evs.cons (v := (.int .u64 17)) rfl Evs.nil)) w)) trivial rfl (fun _ _ => rfl) (kM [true, true, false, true, true, true, true, true, true, true] rfl rfl) (by decide) (PendOk.keep (PendOk.keep (PendOk.go [] (by kernel_rfl) (PendOk.nil _ [])))) ?_
        clear hH
        rintro _ _ w ⟨rfl, rfl⟩ hH
        replace hH : HH w0 [] [[bl g1 34 ((cArr 32).enc (fun _ => 0))], [bl g2 45 ((cWs 8).enc (hs32 F i))], [bl g3 46 ((cWs 64).enc K32)], [bl g10 5 cur12], [bl g17 46 ((cWs 64).enc (upF q (W32 (blkF F i)) (fun _ => 0)))]] w := hH.unpad
        refine ⟨(by
          intro s hs
          simp only [List.mem_cons, List.not_mem_nil, or_false] at hs
          rcases hs with rfl | rfl
          · exact (hH.blk 4 rfl)
          · exact (hH.blk 4 rfl)
          ), ?_⟩
        refine rx1 9 (by kernel_rfl) ?_
        refine moM rfl hH (fun _ hF => Does.small ((rrot_c ((upF q (W32 (blkF F i)) (fun _ => 0)) (q - 2)) 19 (ltb rfl) (ltb rfl)).does) (fun w => opCall rfl Tryd.func21 rfl rfl (Evs.cons (v := (.int .u32 (((((upF q (W32 (blkF F i)) (fun _ => 0)) (q - 2)).toNat) : Nat) : Int))) (hF.ev 2 rfl) (Evs.cons (v := (.int .u64 19)) rfl Evs.nil)) w)) trivial rfl (fun _ _ => rfl) (kM [true, true, false, true, true, true, true, true, true, true] rfl rfl) (by decide) (PendOk.keep (PendOk.go [] (by kernel_rfl) (PendOk.nil _ []))) ?_
        clear hH
        rintro _ _ w ⟨rfl, rfl⟩ hH
        replace hH : HH w0 [] [[bl g1 34 ((cArr 32).enc (fun _ => 0))], [bl g2 45 ((cWs 8).enc (hs32 F i))], [bl g3 46 ((cWs 64).enc K32)], [bl g10 5 cur12], [bl g17 46 ((cWs 64).enc (upF q (W32 (blkF F i)) (fun _ => 0)))]] w := hH.unpad
        refine ⟨(by
          intro s hs
          simp only [List.mem_cons, List.not_mem_nil, or_false] at hs
          rcases hs with rfl
          · exact (hH.blk 4 rfl)
          ), ?_⟩
        refine rxV 10 rfl (by kernel_rfl) rfl (fun _ _ => rfl) (fun _ _ hF => opXorW (u := (rr32 ((upF q (W32 (blkF F i)) (fun _ => 0)) (q - 2)) 17)) (v := (rr32 ((upF q (W32 (blkF F i)) (fun _ => 0)) (q - 2)) 19)) rfl (hF.ev 1 rfl) (hF.ev 0 rfl) rfl) (kM [false, false, true, true, true, true, true, true, true, true] rfl rfl) (by decide) (v := (.int .u32 ((((xo32 (rr32 ((upF q (W32 (blkF F i)) (fun _ => 0)) (q - 2)) 17) (rr32 ((upF q (W32 (blkF F i)) (fun _ => 0)) (q - 2)) 19)).toNat) : Nat) : Int))) ?_
        refine rxV 16 rfl (by kernel_rfl) rfl (fun _ _ => rfl) (fun _ _ hF => opXorW (u := (xo32 (rr32 ((upF q (W32 (blkF F i)) (fun _ => 0)) (q - 2)) 17) (rr32 ((upF q (W32 (blkF F i)) (fun _ => 0)) (q - 2)) 19))) (v := (sr32 ((upF q (W32 (blkF F i)) (fun _ => 0)) (q - 2)) 10)) rfl (hF.ev 0 rfl) (hF.ev 1 rfl) rfl) (kM [false, false, true, true, true, true, true, true, true] rfl rfl) (by decide) (v := (.int .u32 ((((sml1_32 (upF q (W32 (blkF F i)) (fun _ => 0) (q - 2))).toNat) : Nat) : Int))) ?_
        refine rxV 17 rfl (by kernel_rfl) rfl (fun _ _ => rfl) (fun _ _ hF => opAssign rfl (hF.ev 0 rfl)) (kM [false, true, true, true, true, true, true, true] rfl rfl) (by decide) (v := (.int .u32 ((((sml1_32 (upF q (W32 (blkF F i)) (fun _ => 0) (q - 2))).toNat) : Nat) : Int))) ?_
        refine rxEnd (by kernel_rfl) ?_
        refine qxThen ?_
        refine cxSeq ?_
        refine cxRegX mixedOrders (by kernel_rfl) ?_
        replace hH := hH.drew
        refine rxV 0 rfl (by kernel_rfl) rfl (fun _ _ => rfl) (fun _ _ hF => opMove rfl (hF.ev 1 rfl)) (kA rfl) (by decide) (v := (.int .i64 (((q) : Nat) : Int))) ?_
        refine rxV 1 rfl (by kernel_rfl) rfl (fun _ _ => rfl) (fun _ _ hF => opSub rfl (hF.ev 0 rfl) rfl (wI (by omega) (by omega) (by omega))) (kM [false, true, true, true, true, true, true, true, true] rfl rfl) (by decide) (v := (.int .i64 (((q - 15) : Nat) : Int))) ?_
        have hi42 : q - 15 < 64 := by omega
        refine rxV 2 rfl (by kernel_rfl) rfl (fun _ _ => rfl) (fun _ _ hF => opIndexA (i := q - 15) (e := 44) (sz := 1) rfl (by kernel_rfl) (by kernel_rfl) (hF.ev 3 rfl) (hF.ev 0 rfl) rfl hi42) (kM [false, true, true, true, true, true, true, true, true] rfl rfl) (by decide) (v := (.pointer (some ⟨g17, 0 + (q - 15) * 1, none⟩))) ?_
        refine rxS (fun w => w.heap[g17]? = some (.cells ((cWs 64).enc (upF q (W32 (blkF F i)) (fun _ => 0))) 46 (0, 0))) 3 rfl (by kernel_rfl) rfl (fun _ _ => rfl) (hH.blk 4 rfl) (fun _ _ hF hS => opLoadT (C := cWd) (y := ((upF q (W32 (blkF F i)) (fun _ => 0)) (q - 15))) rfl (hF.ev 0 rfl) (by kernel_rfl) ((holds_blk0 hS).eltV hi42) rfl) (kM [false, true, true, true, true, true, true, true, true] rfl rfl) (by decide) (v := (.int .u32 (((((upF q (W32 (blkF F i)) (fun _ => 0)) (q - 15)).toNat) : Nat) : Int))) ?_
        refine rxV 5 rfl (by kernel_rfl) rfl (fun _ _ => rfl) (fun _ _ hF => opMove rfl (hF.ev 2 rfl)) (kA rfl) (by decide) (v := (.int .i64 (((q) : Nat) : Int))) ?_
        refine rxV 6 rfl (by kernel_rfl) rfl (fun _ _ => rfl) (fun _ _ hF => opSub rfl (hF.ev 0 rfl) rfl (wI (by omega) (by omega) (by omega))) (kM [false, true, true, true, true, true, true, true, true, true] rfl rfl) (by decide) (v := (.int .i64 (((q - 15) : Nat) : Int))) ?_
        have hi43 : q - 15 < 64 := by omega
        refine rxV 7 rfl (by kernel_rfl) rfl (fun _ _ => rfl) (fun _ _ hF => opIndexA (i := q - 15) (e := 44) (sz := 1) rfl (by kernel_rfl) (by kernel_rfl) (hF.ev 4 rfl) (hF.ev 0 rfl) rfl hi43) (kM [false, true, true, true, true, true, true, true, true, true] rfl rfl) (by decide) (v := (.pointer (some ⟨g17, 0 + (q - 15) * 1, none⟩))) ?_
        refine rxS (fun w => w.heap[g17]? = some (.cells ((cWs 64).enc (upF q (W32 (blkF F i)) (fun _ => 0))) 46 (0, 0))) 8 rfl (by kernel_rfl) rfl (fun _ _ => rfl) (hH.blk 4 rfl) (fun _ _ hF hS => opLoadT (C := cWd) (y := ((upF q (W32 (blkF F i)) (fun _ => 0)) (q - 15))) rfl (hF.ev 0 rfl) (by kernel_rfl) ((holds_blk0 hS).eltV hi43) rfl) (kM [false, true, true, true, true, true, true, true, true, true] rfl rfl) (by decide) (v := (.int .u32 (((((upF q (W32 (blkF F i)) (fun _ => 0)) (q - 15)).toNat) : Nat) : Int))) ?_
        refine rxV 11 rfl (by kernel_rfl) rfl (fun _ _ => rfl) (fun _ _ hF => opMove rfl (hF.ev 3 rfl)) (kA rfl) (by decide) (v := (.int .i64 (((q) : Nat) : Int))) ?_
        refine rxV 12 rfl (by kernel_rfl) rfl (fun _ _ => rfl) (fun _ _ hF => opSub rfl (hF.ev 0 rfl) rfl (wI (by omega) (by omega) (by omega))) (kM [false, true, true, true, true, true, true, true, true, true, true] rfl rfl) (by decide) (v := (.int .i64 (((q - 15) : Nat) : Int))) ?_
        have hi44 : q - 15 < 64 := by omega
        refine rxV 13 rfl (by kernel_rfl) rfl (fun _ _ => rfl) (fun _ _ hF => opIndexA (i := q - 15) (e := 44) (sz := 1) rfl (by kernel_rfl) (by kernel_rfl) (hF.ev 5 rfl) (hF.ev 0 rfl) rfl hi44) (kM [false, true, true, true, true, true, true, true, true, true, true] rfl rfl) (by decide) (v := (.pointer (some ⟨g17, 0 + (q - 15) * 1, none⟩))) ?_
        refine rxS (fun w => w.heap[g17]? = some (.cells ((cWs 64).enc (upF q (W32 (blkF F i)) (fun _ => 0))) 46 (0, 0))) 14 rfl (by kernel_rfl) rfl (fun _ _ => rfl) (hH.blk 4 rfl) (fun _ _ hF hS => opLoadT (C := cWd) (y := ((upF q (W32 (blkF F i)) (fun _ => 0)) (q - 15))) rfl (hF.ev 0 rfl) (by kernel_rfl) ((holds_blk0 hS).eltV hi44) rfl) (kM [false, true, true, true, true, true, true, true, true, true, true] rfl rfl) (by decide) (v := (.int .u32 (((((upF q (W32 (blkF F i)) (fun _ => 0)) (q - 15)).toNat) : Nat) : Int))) ?_
        refine rxV 15 rfl (by kernel_rfl) rfl (fun _ _ => rfl) (fun _ _ hF => opShrW (u := ((upF q (W32 (blkF F i)) (fun _ => 0)) (q - 15))) (n := 3) rfl (hF.ev 0 rfl) rfl (leb rfl) rfl) (kM [false, true, true, true, true, true, true, true, true, true, true] rfl rfl) (by decide) (v := (.int .u32 ((((sr32 ((upF q (W32 (blkF F i)) (fun _ => 0)) (q - 15)) 3).toNat) : Nat) : Int))) ?_
        refine rx1 4 (by kernel_rfl) ?_
        refine moM rfl hH (fun _ hF => Does.small ((rrot_c ((upF q (W32 (blkF F i)) (fun _ => 0)) (q - 15)) 7 (ltb rfl) (ltb rfl)).does) (fun w => opCall rfl Tryd.func21 rfl rfl (Evs.cons (v := (.int .u32 (((((upF q (W32 (blkF F i)) (fun _ => 0)) (q - 15)).toNat) : Nat) : Int))) (hF.ev 2 rfl) (Evs.cons (v := (.int .u64 7)) rfl Evs.nil)) w)) trivial rfl (fun _ _ => rfl) (kM [true, true, false, true, true, true, true, true, true, true, true] rfl rfl) (by decide) (PendOk.keep (PendOk.keep (PendOk.go [] (by kernel_rfl) (PendOk.nil _ [])))) ?_
        clear hH
        rintro _ _ w ⟨rfl, rfl⟩ hH
        replace hH : HH w0 [] [[bl g1 34 ((cArr 32).enc (fun _ => 0))], [bl g2 45 ((cWs 8).enc (hs32 F i))], [bl g3 46 ((cWs 64).enc K32)], [bl g10 5 cur12], [bl g17 46 ((cWs 64).enc (upF q (W32 (blkF F i)) (fun _ => 0)))]] w := hH.unpad
        refine ⟨(by
          intro s hs
          simp only [List.mem_cons, List.not_mem_nil, or_false] at hs
          rcases hs with rfl | rfl
          · exact (hH.blk 4 rfl)
          · exact (hH.blk 4 rfl)
          ), ?_⟩
        refine rx1 9 (by kernel_rfl) ?_
        refine moM rfl hH (fun _ hF => Does.small ((rrot_c ((upF q (W32 (blkF F i)) (fun _ => 0)) (q - 15)) 18 (ltb rfl) (ltb rfl)).does) (fun w => opCall rfl Tryd.func21 rfl rfl (Evs.cons (v := (.int .u32 (((((upF q (W32 (blkF F i)) (fun _ => 0)) (q - 15)).toNat) : Nat) : Int))) (hF.ev 2 rfl) (Evs.cons (v := (.int .u64 18)) rfl Evs.nil)) w)) trivial rfl (fun _ _ => rfl) (kM [true, true, false, true, true, true, true, true, true, true, true] rfl rfl) (by decide) (PendOk.keep (PendOk.go [] (by kernel_rfl) (PendOk.nil _ []))) ?_
        clear hH
        rintro _ _ w ⟨rfl, rfl⟩ hH
        replace hH : HH w0 [] [[bl g1 34 ((cArr 32).enc (fun _ => 0))], [bl g2 45 ((cWs 8).enc (hs32 F i))], [bl g3 46 ((cWs 64).enc K32)], [bl g10 5 cur12], [bl g17 46 ((cWs 64).enc (upF q (W32 (blkF F i)) (fun _ => 0)))]] w := hH.unpad
        refine ⟨(by
          intro s hs
          simp only [List.mem_cons, List.not_mem_nil, or_false] at hs
          rcases hs with rfl
          · exact (hH.blk 4 rfl)
          ), ?_⟩
        refine rxV 10 rfl (by kernel_rfl) rfl (fun _ _ => rfl) (fun _ _ hF => opXorW (u := (rr32 ((upF q (W32 (blkF F i)) (fun _ => 0)) (q - 15)) 7)) (v := (rr32 ((upF q (W32 (blkF F i)) (fun _ => 0)) (q - 15)) 18)) rfl (hF.ev 1 rfl) (hF.ev 0 rfl) rfl) (kM [false, false, true, true, true, true, true, true, true, true, true] rfl rfl) (by decide) (v := (.int .u32 ((((xo32 (rr32 ((upF q (W32 (blkF F i)) (fun _ => 0)) (q - 15)) 7) (rr32 ((upF q (W32 (blkF F i)) (fun _ => 0)) (q - 15)) 18)).toNat) : Nat) : Int))) ?_
        refine rxV 16 rfl (by kernel_rfl) rfl (fun _ _ => rfl) (fun _ _ hF => opXorW (u := (xo32 (rr32 ((upF q (W32 (blkF F i)) (fun _ => 0)) (q - 15)) 7) (rr32 ((upF q (W32 (blkF F i)) (fun _ => 0)) (q - 15)) 18))) (v := (sr32 ((upF q (W32 (blkF F i)) (fun _ => 0)) (q - 15)) 3)) rfl (hF.ev 0 rfl) (hF.ev 1 rfl) rfl) (kM [false, false, true, true, true, true, true, true, true, true] rfl rfl) (by decide) (v := (.int .u32 ((((sml0_32 (upF q (W32 (blkF F i)) (fun _ => 0) (q - 15))).toNat) : Nat) : Int))) ?_
        refine rxV 17 rfl (by kernel_rfl) rfl (fun _ _ => rfl) (fun _ _ hF => opAssign rfl (hF.ev 0 rfl)) (kM [false, true, true, true, true, true, true, true, true] rfl rfl) (by decide) (v := (.int .u32 ((((sml0_32 (upF q (W32 (blkF F i)) (fun _ => 0) (q - 15))).toNat) : Nat) : Int))) ?_
        refine rxEnd (by kernel_rfl) ?_
        refine qxThen ?_
        refine cxRegX mixedOrders (by kernel_rfl) ?_
        replace hH := hH.drew
        refine rxV 0 rfl (by kernel_rfl) rfl (fun _ _ => rfl) (fun _ _ hF => opMove rfl (hF.ev 2 rfl)) (kA rfl) (by decide) (v := (.int .i64 (((q) : Nat) : Int))) ?_
        refine rxV 1 rfl (by kernel_rfl) rfl (fun _ _ => rfl) (fun _ _ hF => opMove rfl (hF.ev 2 rfl)) (kM [true, true, false, true, true, true, true, true, true, true] rfl rfl) (by decide) (v := (.int .u32 ((((sml1_32 (upF q (W32 (blkF F i)) (fun _ => 0) (q - 2))).toNat) : Nat) : Int))) ?_
        refine rxV 2 rfl (by kernel_rfl) rfl (fun _ _ => rfl) (fun _ _ hF => opMove rfl (hF.ev 3 rfl)) (kA rfl) (by decide) (v := (.int .i64 (((q) : Nat) : Int))) ?_
        refine rxV 3 rfl (by kernel_rfl) rfl (fun _ _ => rfl) (fun _ _ hF => opSub rfl (hF.ev 0 rfl) rfl (wI (by omega) (by omega) (by omega))) (kM [false, true, true, true, true, true, true, true, true, true, true] rfl rfl) (by decide) (v := (.int .i64 (((q - 7) : Nat) : Int))) ?_
        have hi45 : q - 7 < 64 := by omega
        refine rxV 4 rfl (by kernel_rfl) rfl (fun _ _ => rfl) (fun _ _ hF => opIndexA (i := q - 7) (e := 44) (sz := 1) rfl (by kernel_rfl) (by kernel_rfl) (hF.ev 5 rfl) (hF.ev 0 rfl) rfl hi45) (kM [false, true, true, true, true, true, true, true, true, true, true] rfl rfl) (by decide) (v := (.pointer (some ⟨g17, 0 + (q - 7) * 1, none⟩))) ?_
        refine rxS (fun w => w.heap[g17]? = some (.cells ((cWs 64).enc (upF q (W32 (blkF F i)) (fun _ => 0))) 46 (0, 0))) 5 rfl (by kernel_rfl) rfl (fun _ _ => rfl) (hH.blk 4 rfl) (fun _ _ hF hS => opLoadT (C := cWd) (y := ((upF q (W32 (blkF F i)) (fun _ => 0)) (q - 7))) rfl (hF.ev 0 rfl) (by kernel_rfl) ((holds_blk0 hS).eltV hi45) rfl) (kM [false, true, true, true, true, true, true, true, true, true, true] rfl rfl) (by decide) (v := (.int .u32 (((((upF q (W32 (blkF F i)) (fun _ => 0)) (q - 7)).toNat) : Nat) : Int))) ?_
        refine rxV 6 rfl (by kernel_rfl) rfl (fun _ _ => rfl) (fun _ _ hF => opAddW (u := (sml1_32 (upF q (W32 (blkF F i)) (fun _ => 0) (q - 2)))) (v := ((upF q (W32 (blkF F i)) (fun _ => 0)) (q - 7))) rfl (hF.ev 1 rfl) (hF.ev 0 rfl) rfl) (kM [false, false, true, true, true, true, true, true, true, true, true] rfl rfl) (by decide) (v := (.int .u32 ((((pl32 (sml1_32 (upF q (W32 (blkF F i)) (fun _ => 0) (q - 2))) ((upF q (W32 (blkF F i)) (fun _ => 0)) (q - 7))).toNat) : Nat) : Int))) ?_
        refine rxV 7 rfl (by kernel_rfl) rfl (fun _ _ => rfl) (fun _ _ hF => opMove rfl (hF.ev 2 rfl)) (kM [true, true, false, true, true, true, true, true, true, true] rfl rfl) (by decide) (v := (.int .u32 ((((sml0_32 (upF q (W32 (blkF F i)) (fun _ => 0) (q - 15))).toNat) : Nat) : Int))) ?_
        refine rxV 8 rfl (by kernel_rfl) rfl (fun _ _ => rfl) (fun _ _ hF => opAddW (u := (pl32 (sml1_32 (upF q (W32 (blkF F i)) (fun _ => 0) (q - 2))) ((upF q (W32 (blkF F i)) (fun _ => 0)) (q - 7)))) (v := (sml0_32 (upF q (W32 (blkF F i)) (fun _ => 0) (q - 15)))) rfl (hF.ev 1 rfl) (hF.ev 0 rfl) rfl) (kM [false, false, true, true, true, true, true, true, true, true] rfl rfl) (by decide) (v := (.int .u32 ((((pl32 (pl32 (sml1_32 (upF q (W32 (blkF F i)) (fun _ => 0) (q - 2))) (upF q (W32 (blkF F i)) (fun _ => 0) (q - 7))) (sml0_32 (upF q (W32 (blkF F i)) (fun _ => 0) (q - 15)))).toNat) : Nat) : Int))) ?_
        refine rxV 9 rfl (by kernel_rfl) rfl (fun _ _ => rfl) (fun _ _ hF => opMove rfl (hF.ev 2 rfl)) (kA rfl) (by decide) (v := (.int .i64 (((q) : Nat) : Int))) ?_
        refine rxV 10 rfl (by kernel_rfl) rfl (fun _ _ => rfl) (fun _ _ hF => opSub rfl (hF.ev 0 rfl) rfl (wI (by omega) (by omega) (by omega))) (kM [false, true, true, true, true, true, true, true, true, true] rfl rfl) (by decide) (v := (.int .i64 (((q - 16) : Nat) : Int))) ?_
        have hi46 : q - 16 < 64 := by omega
        refine rxV 11 rfl (by kernel_rfl) rfl (fun _ _ => rfl) (fun _ _ hF => opIndexA (i := q - 16) (e := 44) (sz := 1) rfl (by kernel_rfl) (by kernel_rfl) (hF.ev 4 rfl) (hF.ev 0 rfl) rfl hi46) (kM [false, true, true, true, true, true, true, true, true, true] rfl rfl) (by decide) (v := (.pointer (some ⟨g17, 0 + (q - 16) * 1, none⟩))) ?_
        refine rxS (fun w => w.heap[g17]? = some (.cells ((cWs 64).enc (upF q (W32 (blkF F i)) (fun _ => 0))) 46 (0, 0))) 12 rfl (by kernel_rfl) rfl (fun _ _ => rfl) (hH.blk 4 rfl) (fun _ _ hF hS => opLoadT (C := cWd) (y := ((upF q (W32 (blkF F i)) (fun _ => 0)) (q - 16))) rfl (hF.ev 0 rfl) (by kernel_rfl) ((holds_blk0 hS).eltV hi46) rfl) (kM [false, true, true, true, true, true, true, true, true, true] rfl rfl) (by decide) (v := (.int .u32 (((((upF q (W32 (blkF F i)) (fun _ => 0)) (q - 16)).toNat) : Nat) : Int))) ?_
        refine rxV 13 rfl (by kernel_rfl) rfl (fun _ _ => rfl) (fun _ _ hF => opAddW (u := (pl32 (pl32 (sml1_32 (upF q (W32 (blkF F i)) (fun _ => 0) (q - 2))) (upF q (W32 (blkF F i)) (fun _ => 0) (q - 7))) (sml0_32 (upF q (W32 (blkF F i)) (fun _ => 0) (q - 15))))) (v := ((upF q (W32 (blkF F i)) (fun _ => 0)) (q - 16))) rfl (hF.ev 1 rfl) (hF.ev 0 rfl) rfl) (kM [false, false, true, true, true, true, true, true, true, true] rfl rfl) (by decide) (v := (.int .u32 ((((pl32 (pl32 (pl32 (sml1_32 (upF q (W32 (blkF F i)) (fun _ => 0) (q - 2))) (upF q (W32 (blkF F i)) (fun _ => 0) (q - 7))) (sml0_32 (upF q (W32 (blkF F i)) (fun _ => 0) (q - 15)))) ((upF q (W32 (blkF F i)) (fun _ => 0)) (q - 16))).toNat) : Nat) : Int))) ?_
        have hi47 : q < 64 := by omega
        refine rxV 14 rfl (by kernel_rfl) rfl (fun _ _ => rfl) (fun _ _ hF => opIndexA (i := q) (e := 44) (sz := 1) rfl (by kernel_rfl) (by kernel_rfl) (hF.ev 3 rfl) (hF.ev 1 rfl) rfl hi47) (kM [true, false, true, true, true, true, true, true, true] rfl rfl) (by decide) (v := (.pointer (some ⟨g17, 0 + q * 1, none⟩))) ?_
        refine rx1 15 (by kernel_rfl) ?_
        refine moE0 4 rfl hH rfl (fun _ hF => smStoreT (C := cWd) (z := (pl32 (pl32 (pl32 (sml1_32 (upF q (W32 (blkF F i)) (fun _ => 0) (q - 2))) (upF q (W32 (blkF F i)) (fun _ => 0) (q - 7))) (sml0_32 (upF q (W32 (blkF F i)) (fun _ => 0) (q - 15)))) ((upF q (W32 (blkF F i)) (fun _ => 0)) (q - 16)))) rfl (hF.ev 0 rfl) (hF.ev 1 rfl) rfl (by kernel_rfl) (room_1 (S := sWd) (C := (cWs 64)) rfl hi47) (vec_set0 (upF q (W32 (blkF F i)) (fun _ => 0)) (pl32 (pl32 (pl32 (sml1_32 (upF q (W32 (blkF F i)) (fun _ => 0) (q - 2))) (upF q (W32 (blkF F i)) (fun _ => 0) (q - 7))) (sml0_32 (upF q (W32 (blkF F i)) (fun _ => 0) (q - 15)))) ((upF q (W32 (blkF F i)) (fun _ => 0)) (q - 16))) hi47)) trivial rfl (fun _ _ => rfl) (PendOk.go [] (by kernel_rfl) (PendOk.go [] (by kernel_rfl) (PendOk.nil _ []))) ?_
        clear hH
        rintro _ _ w rfl hH
        replace hH : HH w0 [] [[bl g1 34 ((cArr 32).enc (fun _ => 0))], [bl g2 45 ((cWs 8).enc (hs32 F i))], [bl g3 46 ((cWs 64).enc K32)], [bl g10 5 cur12], [bl g17 46 ((cWs 64).enc (stF (upF q (W32 (blkF F i)) (fun _ => 0)) q (pl32 (pl32 (pl32 (sml1_32 (upF q (W32 (blkF F i)) (fun _ => 0) (q - 2))) (upF q (W32 (blkF F i)) (fun _ => 0) (q - 7))) (sml0_32 (upF q (W32 (blkF F i)) (fun _ => 0) (q - 15)))) ((upF q (W32 (blkF F i)) (fun _ => 0)) (q - 16)))))]] w := hH
        refine ⟨(fun _ hs => by cases hs), ?_⟩
        refine rxEnd (by kernel_rfl) ?_
        refine qxInN ?_
        refine qxThen ?_
        refine cxReg ?_
        refine pxV (v := (.int .i64 (((q) : Nat) : Int))) (fun _ _ hF => opMove rfl (hF.ev 2 rfl)) rfl (fun _ _ => rfl) (kM [false, false, false, true, true, true, true, true, true] rfl rfl) (by decide) ?_
        refine pxV (v := (.int .i64 (((q + 1) : Nat) : Int))) (fun _ _ hF => opAdd rfl (hF.ev 0 rfl) rfl (wI (by omega) (by omega) (by omega))) rfl (fun _ _ => rfl) (kM [false, true, true, true, true, true, true] rfl rfl) (by decide) ?_
        refine pxV (v := (.int .i64 (((q + 1) : Nat) : Int))) (fun _ _ hF => opAssign rfl (hF.ev 0 rfl)) rfl (fun _ _ => rfl) (kM [false, true, true, true, true, true, true] rfl rfl) (by decide) ?_
        refine pxEnd ?_
        have he48 : (cWs 64).enc (upF (q + 1) (W32 (blkF F i)) (fun _ => 0)) = (cWs 64).enc (stF (upF q (W32 (blkF F i)) (fun _ => 0)) q (pl32 (pl32 (pl32 (sml1_32 (upF q (W32 (blkF F i)) (fun _ => 0) (q - 2))) (upF q (W32 (blkF F i)) (fun _ => 0) (q - 7))) (sml0_32 (upF q (W32 (blkF F i)) (fun _ => 0) (q - 15)))) ((upF q (W32 (blkF F i)) (fun _ => 0)) (q - 16)))) := vec_congr (fun j _ => (congrFun (upF_step q (W32 (blkF F i)) (fun _ => 0) (up_word hq)) j).symm)
        replace hH : HH w0 [] [[bl g1 34 ((cArr 32).enc (fun _ => 0))], [bl g2 45 ((cWs 8).enc (hs32 F i))], [bl g3 46 ((cWs 64).enc K32)], [bl g10 5 cur12], [bl g17 46 ((cWs 64).enc (upF (q + 1) (W32 (blkF F i)) (fun _ => 0)))]] w := by rw [he48]; exact hH
        exact qxRound (q + 1) ⟨hH, (show 16 ≤ (q + 1) from (by omega)), (show (q + 1) ≤ 64 from (by omega))⟩ (by omega) (slots_at [0, 1, 2, 3, 4, 5, 6] rfl)
      · refine cxExit ?_
        refine qxThenE ?_
        refine qxThenE ?_
        refine qxInE ?_
        refine qxThen ?_
        refine cxSeq ?_
        obtain rfl : q = 64 := by omega
        have he49 : (cWs 64).enc (W32 (blkF F i)) = (cWs 64).enc (upF 64 (W32 (blkF F i)) (fun _ => 0)) := vec_congr (fun j hj => (upF_lt _ _ hj).symm)
        replace hH : HH w0 [] [[bl g1 34 ((cArr 32).enc (fun _ => 0))], [bl g2 45 ((cWs 8).enc (hs32 F i))], [bl g3 46 ((cWs 64).enc K32)], [bl g10 5 cur12], [bl g17 46 ((cWs 64).enc (W32 (blkF F i)))]] w := by rw [he49]; exact hH
        refine cxReg ?_
        refine pxS (v := ((cWs 8).val (hs32 F i))) (fun w => w.heap[g2]? = some (.cells ((cWs 8).enc (hs32 F i)) 45 (0, 0))) (hH.blk 1 rfl) (fun _ _ hF hS => opLoadT (C := (cWs 8)) (y := (hs32 F i)) rfl (hF.ev 6 rfl) (by kernel_rfl) (holds_blk0 hS) rfl) rfl (fun _ _ => rfl) (kM [false, false, true, true, true, true, true, true] rfl rfl) (by decide) ?_
        refine pxM hH (fun _ hF => smAlloc (cs := (cWs 8).enc (fun _ => 0)) (z := ((cWs 8).val (fun _ => 0))) rfl (by kernel_rfl) rfl) trivial rfl (fun _ _ => rfl) (kA rfl) (by decide) ?_
        clear hH
        rintro _ _ w ⟨g50, rfl, rfl⟩ hH
        replace hH : HH w0 [] [[bl g1 34 ((cArr 32).enc (fun _ => 0))], [bl g2 45 ((cWs 8).enc (hs32 F i))], [bl g3 46 ((cWs 64).enc K32)], [bl g10 5 cur12], [bl g17 46 ((cWs 64).enc (W32 (blkF F i)))], [bl g50 45 ((cWs 8).enc (fun _ => 0))]] w := hH
        refine pxE0 5 hH rfl (fun _ hF => smStoreT (C := (cWs 8)) (z := (hs32 F i)) rfl (hF.ev 0 rfl) (hF.ev 1 rfl) rfl (by kernel_rfl) (by rw [Cod.size]; exact Nat.le_refl _) (put_whole (cWs 8) _ _)) trivial rfl (fun _ _ => rfl) ?_
        clear hH
        rintro _ _ w rfl hH
        replace hH : HH w0 [] [[bl g1 34 ((cArr 32).enc (fun _ => 0))], [bl g2 45 ((cWs 8).enc (hs32 F i))], [bl g3 46 ((cWs 64).enc K32)], [bl g10 5 cur12], [bl g17 46 ((cWs 64).enc (W32 (blkF F i)))], [bl g50 45 ((cWs 8).enc (hs32 F i))]] w := hH
        refine pxEnd ?_
        refine qxThen ?_
        refine cxSeq ?_
        refine cxSeq ?_
        have he51 : (cWs 8).enc (rnd32 (blkF F i) (hs32 F i) 0) = (cWs 8).enc (hs32 F i) := vec_congr (fun _ _ => rfl)
        replace hH : HH w0 [] [[bl g1 34 ((cArr 32).enc (fun _ => 0))], [bl g2 45 ((cWs 8).enc (hs32 F i))], [bl g3 46 ((cWs 64).enc K32)], [bl g10 5 cur12], [bl g17 46 ((cWs 64).enc (W32 (blkF F i)))], [bl g50 45 ((cWs 8).enc (rnd32 (blkF F i) (hs32 F i) 0))]] w := by rw [he51]; exact hH
        refine cxReg ?_
        refine pxV (v := (.int .i64 0)) (fun _ _ hF => opMove rfl rfl) rfl (fun _ _ => rfl) (kM [true, false, true, true, true, true, true, true] rfl rfl) (by decide) ?_
        refine pxEnd ?_
        refine qxThen ?_
        refine cxBlock ?_
        refine cxLoop (σ := Nat) (fun x => [(132, (.int .i64 (((x) : Nat) : Int))), (12, (.pointer (some ⟨g50, 0, none⟩))), (7, (.pointer (some ⟨g17, 0, none⟩))), (6, (.int .i64 (((64 * i) : Nat) : Int))), (5, (.slice (some ⟨g10, 0, none⟩) ((pdM l).length) c7)), (4, (.pointer (some ⟨g3, 0, none⟩))), (3, (.pointer (some ⟨g2, 0, none⟩))), (2, (.pointer (some ⟨g1, 0, none⟩)))]) (fun x w => HH w0 [] [[bl g1 34 ((cArr 32).enc (fun _ => 0))], [bl g2 45 ((cWs 8).enc (hs32 F i))], [bl g3 46 ((cWs 64).enc K32)], [bl g10 5 cur12], [bl g17 46 ((cWs 64).enc (W32 (blkF F i)))], [bl g50 45 ((cWs 8).enc (rnd32 (blkF F i) (hs32 F i) x))]] w ∧ (x ≤ 64)) (fun x => 64 - x) 0 ⟨hH, (Nat.zero_le _)⟩ (slots_at [0, 1, 2, 3, 4, 5, 6, 7] rfl) ?_
        clear hH
        rintro q w ⟨hH, hq⟩
        change CX _ _ _ _ [(132, (.int .i64 (((q) : Nat) : Int))), (12, (.pointer (some ⟨g50, 0, none⟩))), (7, (.pointer (some ⟨g17, 0, none⟩))), (6, (.int .i64 (((64 * i) : Nat) : Int))), (5, (.slice (some ⟨g10, 0, none⟩) ((pdM l).length) c7)), (4, (.pointer (some ⟨g3, 0, none⟩))), (3, (.pointer (some ⟨g2, 0, none⟩))), (2, (.pointer (some ⟨g1, 0, none⟩)))] _
        replace hH : HH w0 [] [[bl g1 34 ((cArr 32).enc (fun _ => 0))], [bl g2 45 ((cWs 8).enc (hs32 F i))], [bl g3 46 ((cWs 64).enc K32)], [bl g10 5 cur12], [bl g17 46 ((cWs 64).enc (W32 (blkF F i)))], [bl g50 45 ((cWs 8).enc (rnd32 (blkF F i) (hs32 F i) q))]] w := hH
        replace hq : q ≤ 64 := hq
        refine cxSeq ?_
        refine cxReg ?_
        refine pxV (v := (.bool (decide (q < 64)))) (fun _ _ hF => opLss rfl (hF.ev 0 rfl) rfl (dc (by omega))) rfl (fun _ _ => rfl) (kA rfl) (by decide) ?_
        refine pxEnd ?_
        refine qxThen ?_
        refine cxSeq ?_
        refine cxP 0 rfl rfl (fun hc52 => ?_) (fun hc52 => ?_)
        · refine cxSkip ?_
          refine qxThen ?_
          refine cxSeq ?_
          refine cxBlock ?_
          refine cxSeq ?_
          refine cxReg ?_
          refine pxV (v := (.int .i64 (((q) : Nat) : Int))) (fun _ _ hF => opMove rfl (hF.ev 1 rfl)) rfl (fun _ _ => rfl) (kM [false, true, true, true, true, true, true, true, true] rfl rfl) (by decide) ?_
          refine pxV (v := (.int .i64 (((q) : Nat) : Int))) (fun _ _ hF => opAssign rfl (hF.ev 0 rfl)) rfl (fun _ _ => rfl) (kM [false, true, true, true, true, true, true, true, true] rfl rfl) (by decide) ?_
          refine pxEnd ?_
          refine qxThen ?_
          refine cxSeq ?_
          refine cxRegX mixedOrders (by kernel_rfl) ?_
          replace hH := hH.drew
          have hi53 : 4 < 8 := by omega
          refine rxV 0 rfl (by kernel_rfl) rfl (fun _ _ => rfl) (fun _ _ hF => opIndexA (i := 4) (e := 44) (sz := 1) rfl (by kernel_rfl) (by kernel_rfl) (hF.ev 2 rfl) rfl rfl hi53) (kA rfl) (by decide) (v := (.pointer (some ⟨g50, 0 + 4 * 1, none⟩))) ?_
          refine rxS (fun w => w.heap[g50]? = some (.cells ((cWs 8).enc (rnd32 (blkF F i) (hs32 F i) q)) 45 (0, 0))) 1 rfl (by kernel_rfl) rfl (fun _ _ => rfl) (hH.blk 5 rfl) (fun _ _ hF hS => opLoadT (C := cWd) (y := ((rnd32 (blkF F i) (hs32 F i) q) 4)) rfl (hF.ev 0 rfl) (by kernel_rfl) ((holds_blk0 hS).eltV hi53) rfl) (kM [false, true, true, true, true, true, true, true, true, true] rfl rfl) (by decide) (v := (.int .u32 (((((rnd32 (blkF F i) (hs32 F i) q) 4).toNat) : Nat) : Int))) ?_
          have hi54 : 0 < 8 := by omega
          refine rxV 2 rfl (by kernel_rfl) rfl (fun _ _ => rfl) (fun _ _ hF => opIndexA (i := 0) (e := 44) (sz := 1) rfl (by kernel_rfl) (by kernel_rfl) (hF.ev 3 rfl) rfl rfl hi54) (kA rfl) (by decide) (v := (.pointer (some ⟨g50, 0 + 0 * 1, none⟩))) ?_
          refine rxS (fun w => w.heap[g50]? = some (.cells ((cWs 8).enc (rnd32 (blkF F i) (hs32 F i) q)) 45 (0, 0))) 3 rfl (by kernel_rfl) rfl (fun _ _ => rfl) (hH.blk 5 rfl) (fun _ _ hF hS => opLoadT (C := cWd) (y := ((rnd32 (blkF F i) (hs32 F i) q) 0)) rfl (hF.ev 0 rfl) (by kernel_rfl) ((holds_blk0 hS).eltV hi54) rfl) (kM [false, true, true, true, true, true, true, true, true, true, true] rfl rfl) (by decide) (v := (.int .u32 (((((rnd32 (blkF F i) (hs32 F i) q) 0).toNat) : Nat) : Int))) ?_
          refine rxV 4 rfl (by kernel_rfl) rfl (fun _ _ => rfl) (fun _ _ hF => opAssign rfl (hF.ev 1 rfl)) (kM [true, false, true, true, true, true, true, true, true, true, true] rfl rfl) (by decide) (v := (.int .u32 (((((rnd32 (blkF F i) (hs32 F i) q) 4).toNat) : Nat) : Int))) ?_
          refine rxV 5 rfl (by kernel_rfl) rfl (fun _ _ => rfl) (fun _ _ hF => opAssign rfl (hF.ev 1 rfl)) (kM [true, false, true, true, true, true, true, true, true, true, true] rfl rfl) (by decide) (v := (.int .u32 (((((rnd32 (blkF F i) (hs32 F i) q) 0).toNat) : Nat) : Int))) ?_
          refine rxEnd (by kernel_rfl) ?_
          refine qxThen ?_
          refine cxSeq ?_
          refine cxRegX mixedOrders (by kernel_rfl) ?_
          replace hH := hH.drew
          have hi55 : 7 < 8 := by omega
          refine rxV 0 rfl (by kernel_rfl) rfl (fun _ _ => rfl) (fun _ _ hF => opIndexA (i := 7) (e := 44) (sz := 1) rfl (by kernel_rfl) (by kernel_rfl) (hF.ev 4 rfl) rfl rfl hi55) (kA rfl) (by decide) (v := (.pointer (some ⟨g50, 0 + 7 * 1, none⟩))) ?_
          refine rxS (fun w => w.heap[g50]? = some (.cells ((cWs 8).enc (rnd32 (blkF F i) (hs32 F i) q)) 45 (0, 0))) 1 rfl (by kernel_rfl) rfl (fun _ _ => rfl) (hH.blk 5 rfl) (fun _ _ hF hS => opLoadT (C := cWd) (y := ((rnd32 (blkF F i) (hs32 F i) q) 7)) rfl (hF.ev 0 rfl) (by kernel_rfl) ((holds_blk0 hS).eltV hi55) rfl) (kM [false, true, true, true, true, true, true, true, true, true, true, true] rfl rfl) (by decide) (v := (.int .u32 (((((rnd32 (blkF F i) (hs32 F i) q) 7).toNat) : Nat) : Int))) ?_
          refine rxV 2 rfl (by kernel_rfl) rfl (fun _ _ => rfl) (fun _ _ hF => opMove rfl (hF.ev 2 rfl)) (kA rfl) (by decide) (v := (.int .u32 (((((rnd32 (blkF F i) (hs32 F i) q) 4).toNat) : Nat) : Int))) ?_
          refine rxV 4 rfl (by kernel_rfl) rfl (fun _ _ => rfl) (fun _ _ hF => opMove rfl (hF.ev 3 rfl)) (kA rfl) (by decide) (v := (.int .u32 (((((rnd32 (blkF F i) (hs32 F i) q) 4).toNat) : Nat) : Int))) ?_
          refine rxV 7 rfl (by kernel_rfl) rfl (fun _ _ => rfl) (fun _ _ hF => opMove rfl (hF.ev 4 rfl)) (kA rfl) (by decide) (v := (.int .u32 (((((rnd32 (blkF F i) (hs32 F i) q) 4).toNat) : Nat) : Int))) ?_
          refine rxV 11 rfl (by kernel_rfl) rfl (fun _ _ => rfl) (fun _ _ hF => opMove rfl (hF.ev 5 rfl)) (kA rfl) (by decide) (v := (.int .u32 (((((rnd32 (blkF F i) (hs32 F i) q) 4).toNat) : Nat) : Int))) ?_
          have hi56 : 5 < 8 := by omega
          refine rxV 12 rfl (by kernel_rfl) rfl (fun _ _ => rfl) (fun _ _ hF => opIndexA (i := 5) (e := 44) (sz := 1) rfl (by kernel_rfl) (by kernel_rfl) (hF.ev 9 rfl) rfl rfl hi56) (kA rfl) (by decide) (v := (.pointer (some ⟨g50, 0 + 5 * 1, none⟩))) ?_
          refine rxS (fun w => w.heap[g50]? = some (.cells ((cWs 8).enc (rnd32 (blkF F i) (hs32 F i) q)) 45 (0, 0))) 13 rfl (by kernel_rfl) rfl (fun _ _ => rfl) (hH.blk 5 rfl) (fun _ _ hF hS => opLoadT (C := cWd) (y := ((rnd32 (blkF F i) (hs32 F i) q) 5)) rfl (hF.ev 0 rfl) (by kernel_rfl) ((holds_blk0 hS).eltV hi56) rfl) (kM [false, true, true, true, true, true, true, true, true, true, true, true, true, true, true, true, true] rfl rfl) (by decide) (v := (.int .u32 (((((rnd32 (blkF F i) (hs32 F i) q) 5).toNat) : Nat) : Int))) ?_
          refine rxV 14 rfl (by kernel_rfl) rfl (fun _ _ => rfl) (fun _ _ hF => opAndW (u := ((rnd32 (blkF F i) (hs32 F i) q) 4)) (v := ((rnd32 (blkF F i) (hs32 F i) q) 5)) rfl (hF.ev 1 rfl) (hF.ev 0 rfl) rfl) (kM [false, false, true, true, true, true, true, true, true, true, true, true, true, true, true, true, true] rfl rfl) (by decide) (v := (.int .u32 ((((and32 ((rnd32 (blkF F i) (hs32 F i) q) 4) ((rnd32 (blkF F i) (hs32 F i) q) 5)).toNat) : Nat) : Int))) ?_
          refine rxV 15 rfl (by kernel_rfl) rfl (fun _ _ => rfl) (fun _ _ hF => opMove rfl (hF.ev 6 rfl)) (kM [true, true, true, true, true, true, false, true, true, true, true, true, true, true, true, true] rfl rfl) (by decide) (v := (.int .u32 (((((rnd32 (blkF F i) (hs32 F i) q) 4).toNat) : Nat) : Int))) ?_
          refine rxV 16 rfl (by kernel_rfl) rfl (fun _ _ => rfl) (fun _ _ hF => opNotW (u := ((rnd32 (blkF F i) (hs32 F i) q) 4)) rfl (hF.ev 0 rfl) rfl) (kM [false, true, true, true, true, true, true, true, true, true, true, true, true, true, true, true] rfl rfl) (by decide) (v := (.int .u32 ((((not32 ((rnd32 (blkF F i) (hs32 F i) q) 4)).toNat) : Nat) : Int))) ?_
          have hi57 : 6 < 8 := by omega
          refine rxV 17 rfl (by kernel_rfl) rfl (fun _ _ => rfl) (fun _ _ hF => opIndexA (i := 6) (e := 44) (sz := 1) rfl (by kernel_rfl) (by kernel_rfl) (hF.ev 9 rfl) rfl rfl hi57) (kA rfl) (by decide) (v := (.pointer (some ⟨g50, 0 + 6 * 1, none⟩))) ?_
          refine rxS (fun w => w.heap[g50]? = some (.cells ((cWs 8).enc (rnd32 (blkF F i) (hs32 F i) q)) 45 (0, 0))) 18 rfl (by kernel_rfl) rfl (fun _ _ => rfl) (hH.blk 5 rfl) (fun _ _ hF hS => opLoadT (C := cWd) (y := ((rnd32 (blkF F i) (hs32 F i) q) 6)) rfl (hF.ev 0 rfl) (by kernel_rfl) ((holds_blk0 hS).eltV hi57) rfl) (kM [false, true, true, true, true, true, true, true, true, true, true, true, true, true, true, true, true] rfl rfl) (by decide) (v := (.int .u32 (((((rnd32 (blkF F i) (hs32 F i) q) 6).toNat) : Nat) : Int))) ?_
          refine rxV 19 rfl (by kernel_rfl) rfl (fun _ _ => rfl) (fun _ _ hF => opAndW (u := (not32 ((rnd32 (blkF F i) (hs32 F i) q) 4))) (v := ((rnd32 (blkF F i) (hs32 F i) q) 6)) rfl (hF.ev 1 rfl) (hF.ev 0 rfl) rfl) (kM [false, false, true, true, true, true, true, true, true, true, true, true, true, true, true, true, true] rfl rfl) (by decide) (v := (.int .u32 ((((and32 (not32 ((rnd32 (blkF F i) (hs32 F i) q) 4)) ((rnd32 (blkF F i) (hs32 F i) q) 6)).toNat) : Nat) : Int))) ?_
          refine rxV 20 rfl (by kernel_rfl) rfl (fun _ _ => rfl) (fun _ _ hF => opXorW (u := (and32 ((rnd32 (blkF F i) (hs32 F i) q) 4) ((rnd32 (blkF F i) (hs32 F i) q) 5))) (v := (and32 (not32 ((rnd32 (blkF F i) (hs32 F i) q) 4)) ((rnd32 (blkF F i) (hs32 F i) q) 6))) rfl (hF.ev 1 rfl) (hF.ev 0 rfl) rfl) (kM [false, false, true, true, true, true, true, true, true, true, true, true, true, true, true, true] rfl rfl) (by decide) (v := (.int .u32 ((((ch32 (rnd32 (blkF F i) (hs32 F i) q 4) (rnd32 (blkF F i) (hs32 F i) q 5) (rnd32 (blkF F i) (hs32 F i) q 6)).toNat) : Nat) : Int))) ?_
          refine rxV 22 rfl (by kernel_rfl) rfl (fun _ _ => rfl) (fun _ _ hF => opMove rfl (hF.ev 6 rfl)) (kA rfl) (by decide) (v := (.int .i64 (((q) : Nat) : Int))) ?_
          have hi58 : q < 64 := by omega
          refine rxV 23 rfl (by kernel_rfl) rfl (fun _ _ => rfl) (fun _ _ hF => opIndexA (i := q) (e := 44) (sz := 1) rfl (by kernel_rfl) (by kernel_rfl) (hF.ev 13 rfl) (hF.ev 0 rfl) rfl hi58) (kM [false, true, true, true, true, true, true, true, true, true, true, true, true, true, true, true] rfl rfl) (by decide) (v := (.pointer (some ⟨g3, 0 + q * 1, none⟩))) ?_
          refine rxS (fun w => w.heap[g3]? = some (.cells ((cWs 64).enc K32) 46 (0, 0))) 24 rfl (by kernel_rfl) rfl (fun _ _ => rfl) (hH.blk 2 rfl) (fun _ _ hF hS => opLoadT (C := cWd) (y := (K32 q)) rfl (hF.ev 0 rfl) (by kernel_rfl) ((holds_blk0 hS).eltV hi58) rfl) (kM [false, true, true, true, true, true, true, true, true, true, true, true, true, true, true, true] rfl rfl) (by decide) (v := (.int .u32 ((((K32 q).toNat) : Nat) : Int))) ?_
          refine rxV 26 rfl (by kernel_rfl) rfl (fun _ _ => rfl) (fun _ _ hF => opMove rfl (hF.ev 7 rfl)) (kM [true, true, true, true, true, true, true, false, true, true, true, true, true, true, true, true] rfl rfl) (by decide) (v := (.int .i64 (((q) : Nat) : Int))) ?_
          have hi59 : q < 64 := by omega
          refine rxV 27 rfl (by kernel_rfl) rfl (fun _ _ => rfl) (fun _ _ hF => opIndexA (i := q) (e := 44) (sz := 1) rfl (by kernel_rfl) (by kernel_rfl) (hF.ev 10 rfl) (hF.ev 0 rfl) rfl hi59) (kM [false, true, true, true, true, true, true, true, true, true, true, true, true, true, true, true] rfl rfl) (by decide) (v := (.pointer (some ⟨g17, 0 + q * 1, none⟩))) ?_
          refine rxS (fun w => w.heap[g17]? = some (.cells ((cWs 64).enc (W32 (blkF F i))) 46 (0, 0))) 28 rfl (by kernel_rfl) rfl (fun _ _ => rfl) (hH.blk 4 rfl) (fun _ _ hF hS => opLoadT (C := cWd) (y := ((W32 (blkF F i)) q)) rfl (hF.ev 0 rfl) (by kernel_rfl) ((holds_blk0 hS).eltV hi59) rfl) (kM [false, true, true, true, true, true, true, true, true, true, true, true, true, true, true, true] rfl rfl) (by decide) (v := (.int .u32 (((((W32 (blkF F i)) q).toNat) : Nat) : Int))) ?_
          refine rx1 3 (by kernel_rfl) ?_
          refine moM rfl hH (fun _ hF => Does.small ((rrot_c ((rnd32 (blkF F i) (hs32 F i) q) 4) 6 (ltb rfl) (ltb rfl)).does) (fun w => opCall rfl Tryd.func21 rfl rfl (Evs.cons (v := (.int .u32 (((((rnd32 (blkF F i) (hs32 F i) q) 4).toNat) : Nat) : Int))) (hF.ev 5 rfl) (Evs.cons (v := (.int .u64 6)) rfl Evs.nil)) w)) trivial rfl (fun _ _ => rfl) (kM [true, true, true, true, true, false, true, true, true, true, true, true, true, true, true, true] rfl rfl) (by decide) (PendOk.keep (PendOk.keep (PendOk.keep (PendOk.keep (PendOk.keep (PendOk.nil _ [])))))) ?_
          clear hH
          rintro _ _ w ⟨rfl, rfl⟩ hH
          replace hH : HH w0 [] [[bl g1 34 ((cArr 32).enc (fun _ => 0))], [bl g2 45 ((cWs 8).enc (hs32 F i))], [bl g3 46 ((cWs 64).enc K32)], [bl g10 5 cur12], [bl g17 46 ((cWs 64).enc (W32 (blkF F i)))], [bl g50 45 ((cWs 8).enc (rnd32 (blkF F i) (hs32 F i) q))]] w := hH.unpad
          refine ⟨(by
            intro s hs
            simp only [List.mem_cons, List.not_mem_nil, or_false] at hs
            rcases hs with rfl | rfl | rfl | rfl | rfl
            · exact (hH.blk 4 rfl)
            · exact (hH.blk 2 rfl)
            · exact (hH.blk 5 rfl)
            · exact (hH.blk 5 rfl)
            · exact (hH.blk 5 rfl)
            ), ?_⟩
          refine rx1 5 (by kernel_rfl) ?_
          refine moM rfl hH (fun _ hF => Does.small ((rrot_c ((rnd32 (blkF F i) (hs32 F i) q) 4) 11 (ltb rfl) (ltb rfl)).does) (fun w => opCall rfl Tryd.func21 rfl rfl (Evs.cons (v := (.int .u32 (((((rnd32 (blkF F i) (hs32 F i) q) 4).toNat) : Nat) : Int))) (hF.ev 5 rfl) (Evs.cons (v := (.int .u64 11)) rfl Evs.nil)) w)) trivial rfl (fun _ _ => rfl) (kM [true, true, true, true, true, false, true, true, true, true, true, true, true, true, true, true] rfl rfl) (by decide) (PendOk.keep (PendOk.keep (PendOk.keep (PendOk.keep (PendOk.keep (PendOk.nil _ [])))))) ?_
          clear hH
          rintro _ _ w ⟨rfl, rfl⟩ hH
          replace hH : HH w0 [] [[bl g1 34 ((cArr 32).enc (fun _ => 0))], [bl g2 45 ((cWs 8).enc (hs32 F i))], [bl g3 46 ((cWs 64).enc K32)], [bl g10 5 cur12], [bl g17 46 ((cWs 64).enc (W32 (blkF F i)))], [bl g50 45 ((cWs 8).enc (rnd32 (blkF F i) (hs32 F i) q))]] w := hH.unpad
          refine ⟨(by
            intro s hs
            simp only [List.mem_cons, List.not_mem_nil, or_false] at hs
            rcases hs with rfl | rfl | rfl | rfl | rfl
            · exact (hH.blk 4 rfl)
            · exact (hH.blk 2 rfl)
            · exact (hH.blk 5 rfl)
            · exact (hH.blk 5 rfl)
            · exact (hH.blk 5 rfl)
            ), ?_⟩
          refine rxV 6 rfl (by kernel_rfl) rfl (fun _ _ => rfl) (fun _ _ hF => opXorW (u := (rr32 ((rnd32 (blkF F i) (hs32 F i) q) 4) 6)) (v := (rr32 ((rnd32 (blkF F i) (hs32 F i) q) 4) 11)) rfl (hF.ev 1 rfl) (hF.ev 0 rfl) rfl) (kM [false, false, true, true, true, true, true, true, true, true, true, true, true, true, true, true] rfl rfl) (by decide) (v := (.int .u32 ((((xo32 (rr32 ((rnd32 (blkF F i) (hs32 F i) q) 4) 6) (rr32 ((rnd32 (blkF F i) (hs32 F i) q) 4) 11)).toNat) : Nat) : Int))) ?_
          refine rx1 8 (by kernel_rfl) ?_
          refine moM rfl hH (fun _ hF => Does.small ((rrot_c ((rnd32 (blkF F i) (hs32 F i) q) 4) 25 (ltb rfl) (ltb rfl)).does) (fun w => opCall rfl Tryd.func21 rfl rfl (Evs.cons (v := (.int .u32 (((((rnd32 (blkF F i) (hs32 F i) q) 4).toNat) : Nat) : Int))) (hF.ev 4 rfl) (Evs.cons (v := (.int .u64 25)) rfl Evs.nil)) w)) trivial rfl (fun _ _ => rfl) (kM [true, true, true, true, false, true, true, true, true, true, true, true, true, true, true] rfl rfl) (by decide) (PendOk.keep (PendOk.keep (PendOk.keep (PendOk.keep (PendOk.keep (PendOk.nil _ [])))))) ?_
          clear hH
          rintro _ _ w ⟨rfl, rfl⟩ hH
          replace hH : HH w0 [] [[bl g1 34 ((cArr 32).enc (fun _ => 0))], [bl g2 45 ((cWs 8).enc (hs32 F i))], [bl g3 46 ((cWs 64).enc K32)], [bl g10 5 cur12], [bl g17 46 ((cWs 64).enc (W32 (blkF F i)))], [bl g50 45 ((cWs 8).enc (rnd32 (blkF F i) (hs32 F i) q))]] w := hH.unpad
          refine ⟨(by
            intro s hs
            simp only [List.mem_cons, List.not_mem_nil, or_false] at hs
            rcases hs with rfl | rfl | rfl | rfl | rfl
            · exact (hH.blk 4 rfl)
            · exact (hH.blk 2 rfl)
            · exact (hH.blk 5 rfl)
            · exact (hH.blk 5 rfl)
            · exact (hH.blk 5 rfl)
            ), ?_⟩
          refine rxV 9 rfl (by kernel_rfl) rfl (fun _ _ => rfl) (fun _ _ hF => opXorW (u := (xo32 (rr32 ((rnd32 (blkF F i) (hs32 F i) q) 4) 6) (rr32 ((rnd32 (blkF F i) (hs32 F i) q) 4) 11))) (v := (rr32 ((rnd32 (blkF F i) (hs32 F i) q) 4) 25)) rfl (hF.ev 1 rfl) (hF.ev 0 rfl) rfl) (kM [false, false, true, true, true, true, true, true, true, true, true, true, true, true, true] rfl rfl) (by decide) (v := (.int .u32 ((((big1_32 (rnd32 (blkF F i) (hs32 F i) q 4)).toNat) : Nat) : Int))) ?_
          refine rxV 10 rfl (by kernel_rfl) rfl (fun _ _ => rfl) (fun _ _ hF => opAddW (u := ((rnd32 (blkF F i) (hs32 F i) q) 7)) (v := (big1_32 (rnd32 (blkF F i) (hs32 F i) q 4))) rfl (hF.ev 4 rfl) (hF.ev 0 rfl) rfl) (kM [false, true, true, true, false, true, true, true, true, true, true, true, true, true] rfl rfl) (by decide) (v := (.int .u32 ((((pl32 ((rnd32 (blkF F i) (hs32 F i) q) 7) (big1_32 (rnd32 (blkF F i) (hs32 F i) q 4))).toNat) : Nat) : Int))) ?_
          refine rxV 21 rfl (by kernel_rfl) rfl (fun _ _ => rfl) (fun _ _ hF => opAddW (u := (pl32 ((rnd32 (blkF F i) (hs32 F i) q) 7) (big1_32 (rnd32 (blkF F i) (hs32 F i) q 4)))) (v := (ch32 (rnd32 (blkF F i) (hs32 F i) q 4) (rnd32 (blkF F i) (hs32 F i) q 5) (rnd32 (blkF F i) (hs32 F i) q 6))) rfl (hF.ev 0 rfl) (hF.ev 3 rfl) rfl) (kM [false, true, true, false, true, true, true, true, true, true, true, true, true] rfl rfl) (by decide) (v := (.int .u32 ((((pl32 (pl32 ((rnd32 (blkF F i) (hs32 F i) q) 7) (big1_32 (rnd32 (blkF F i) (hs32 F i) q 4))) (ch32 (rnd32 (blkF F i) (hs32 F i) q 4) (rnd32 (blkF F i) (hs32 F i) q 5) (rnd32 (blkF F i) (hs32 F i) q 6))).toNat) : Nat) : Int))) ?_
          refine rxV 25 rfl (by kernel_rfl) rfl (fun _ _ => rfl) (fun _ _ hF => opAddW (u := (pl32 (pl32 ((rnd32 (blkF F i) (hs32 F i) q) 7) (big1_32 (rnd32 (blkF F i) (hs32 F i) q 4))) (ch32 (rnd32 (blkF F i) (hs32 F i) q 4) (rnd32 (blkF F i) (hs32 F i) q 5) (rnd32 (blkF F i) (hs32 F i) q 6)))) (v := (K32 q)) rfl (hF.ev 0 rfl) (hF.ev 2 rfl) rfl) (kM [false, true, false, true, true, true, true, true, true, true, true, true] rfl rfl) (by decide) (v := (.int .u32 ((((pl32 (pl32 (pl32 ((rnd32 (blkF F i) (hs32 F i) q) 7) (big1_32 (rnd32 (blkF F i) (hs32 F i) q 4))) (ch32 (rnd32 (blkF F i) (hs32 F i) q 4) (rnd32 (blkF F i) (hs32 F i) q 5) (rnd32 (blkF F i) (hs32 F i) q 6))) (K32 q)).toNat) : Nat) : Int))) ?_
          refine rxV 29 rfl (by kernel_rfl) rfl (fun _ _ => rfl) (fun _ _ hF => opAddW (u := (pl32 (pl32 (pl32 ((rnd32 (blkF F i) (hs32 F i) q) 7) (big1_32 (rnd32 (blkF F i) (hs32 F i) q 4))) (ch32 (rnd32 (blkF F i) (hs32 F i) q 4) (rnd32 (blkF F i) (hs32 F i) q 5) (rnd32 (blkF F i) (hs32 F i) q 6))) (K32 q))) (v := ((W32 (blkF F i)) q)) rfl (hF.ev 0 rfl) (hF.ev 1 rfl) rfl) (kM [false, false, true, true, true, true, true, true, true, true, true] rfl rfl) (by decide) (v := (.int .u32 ((((one32 (W32 (blkF F i) q) q (rnd32 (blkF F i) (hs32 F i) q)).toNat) : Nat) : Int))) ?_
          refine rxV 30 rfl (by kernel_rfl) rfl (fun _ _ => rfl) (fun _ _ hF => opAssign rfl (hF.ev 0 rfl)) (kM [false, true, true, true, true, true, true, true, true, true] rfl rfl) (by decide) (v := (.int .u32 ((((one32 (W32 (blkF F i) q) q (rnd32 (blkF F i) (hs32 F i) q)).toNat) : Nat) : Int))) ?_
          refine rxEnd (by kernel_rfl) ?_
          refine qxThen ?_
          refine cxSeq ?_
          refine cxRegX mixedOrders (by kernel_rfl) ?_
          replace hH := hH.drew
          refine rxV 0 rfl (by kernel_rfl) rfl (fun _ _ => rfl) (fun _ _ hF => opMove rfl (hF.ev 1 rfl)) (kA rfl) (by decide) (v := (.int .u32 (((((rnd32 (blkF F i) (hs32 F i) q) 0).toNat) : Nat) : Int))) ?_
          refine rxV 2 rfl (by kernel_rfl) rfl (fun _ _ => rfl) (fun _ _ hF => opMove rfl (hF.ev 2 rfl)) (kA rfl) (by decide) (v := (.int .u32 (((((rnd32 (blkF F i) (hs32 F i) q) 0).toNat) : Nat) : Int))) ?_
          refine rxV 5 rfl (by kernel_rfl) rfl (fun _ _ => rfl) (fun _ _ hF => opMove rfl (hF.ev 3 rfl)) (kA rfl) (by decide) (v := (.int .u32 (((((rnd32 (blkF F i) (hs32 F i) q) 0).toNat) : Nat) : Int))) ?_
          refine rxV 8 rfl (by kernel_rfl) rfl (fun _ _ => rfl) (fun _ _ hF => opMove rfl (hF.ev 4 rfl)) (kA rfl) (by decide) (v := (.int .u32 (((((rnd32 (blkF F i) (hs32 F i) q) 0).toNat) : Nat) : Int))) ?_
          have hi60 : 1 < 8 := by omega
          refine rxV 9 rfl (by kernel_rfl) rfl (fun _ _ => rfl) (fun _ _ hF => opIndexA (i := 1) (e := 44) (sz := 1) rfl (by kernel_rfl) (by kernel_rfl) (hF.ev 7 rfl) rfl rfl hi60) (kA rfl) (by decide) (v := (.pointer (some ⟨g50, 0 + 1 * 1, none⟩))) ?_
          refine rxS (fun w => w.heap[g50]? = some (.cells ((cWs 8).enc (rnd32 (blkF F i) (hs32 F i) q)) 45 (0, 0))) 10 rfl (by kernel_rfl) rfl (fun _ _ => rfl) (hH.blk 5 rfl) (fun _ _ hF hS => opLoadT (C := cWd) (y := ((rnd32 (blkF F i) (hs32 F i) q) 1)) rfl (hF.ev 0 rfl) (by kernel_rfl) ((holds_blk0 hS).eltV hi60) rfl) (kM [false, true, true, true, true, true, true, true, true, true, true, true, true, true, true] rfl rfl) (by decide) (v := (.int .u32 (((((rnd32 (blkF F i) (hs32 F i) q) 1).toNat) : Nat) : Int))) ?_
          refine rxV 11 rfl (by kernel_rfl) rfl (fun _ _ => rfl) (fun _ _ hF => opAndW (u := ((rnd32 (blkF F i) (hs32 F i) q) 0)) (v := ((rnd32 (blkF F i) (hs32 F i) q) 1)) rfl (hF.ev 1 rfl) (hF.ev 0 rfl) rfl) (kM [false, false, true, true, true, true, true, true, true, true, true, true, true, true, true] rfl rfl) (by decide) (v := (.int .u32 ((((and32 ((rnd32 (blkF F i) (hs32 F i) q) 0) ((rnd32 (blkF F i) (hs32 F i) q) 1)).toNat) : Nat) : Int))) ?_
          refine rxV 12 rfl (by kernel_rfl) rfl (fun _ _ => rfl) (fun _ _ hF => opMove rfl (hF.ev 5 rfl)) (kM [true, true, true, true, true, false, true, true, true, true, true, true, true, true] rfl rfl) (by decide) (v := (.int .u32 (((((rnd32 (blkF F i) (hs32 F i) q) 0).toNat) : Nat) : Int))) ?_
          have hi61 : 2 < 8 := by omega
          refine rxV 13 rfl (by kernel_rfl) rfl (fun _ _ => rfl) (fun _ _ hF => opIndexA (i := 2) (e := 44) (sz := 1) rfl (by kernel_rfl) (by kernel_rfl) (hF.ev 7 rfl) rfl rfl hi61) (kA rfl) (by decide) (v := (.pointer (some ⟨g50, 0 + 2 * 1, none⟩))) ?_
          refine rxS (fun w => w.heap[g50]? = some (.cells ((cWs 8).enc (rnd32 (blkF F i) (hs32 F i) q)) 45 (0, 0))) 14 rfl (by kernel_rfl) rfl (fun _ _ => rfl) (hH.blk 5 rfl) (fun _ _ hF hS => opLoadT (C := cWd) (y := ((rnd32 (blkF F i) (hs32 F i) q) 2)) rfl (hF.ev 0 rfl) (by kernel_rfl) ((holds_blk0 hS).eltV hi61) rfl) (kM [false, true, true, true, true, true, true, true, true, true, true, true, true, true, true] rfl rfl) (by decide) (v := (.int .u32 (((((rnd32 (blkF F i) (hs32 F i) q) 2).toNat) : Nat) : Int))) ?_
          refine rxV 15 rfl (by kernel_rfl) rfl (fun _ _ => rfl) (fun _ _ hF => opAndW (u := ((rnd32 (blkF F i) (hs32 F i) q) 0)) (v := ((rnd32 (blkF F i) (hs32 F i) q) 2)) rfl (hF.ev 1 rfl) (hF.ev 0 rfl) rfl) (kM [false, false, true, true, true, true, true, true, true, true, true, true, true, true, true] rfl rfl) (by decide) (v := (.int .u32 ((((and32 ((rnd32 (blkF F i) (hs32 F i) q) 0) ((rnd32 (blkF F i) (hs32 F i) q) 2)).toNat) : Nat) : Int))) ?_
          refine rxV 16 rfl (by kernel_rfl) rfl (fun _ _ => rfl) (fun _ _ hF => opXorW (u := (and32 ((rnd32 (blkF F i) (hs32 F i) q) 0) ((rnd32 (blkF F i) (hs32 F i) q) 1))) (v := (and32 ((rnd32 (blkF F i) (hs32 F i) q) 0) ((rnd32 (blkF F i) (hs32 F i) q) 2))) rfl (hF.ev 1 rfl) (hF.ev 0 rfl) rfl) (kM [false, false, true, true, true, true, true, true, true, true, true, true, true, true] rfl rfl) (by decide) (v := (.int .u32 ((((xo32 (and32 ((rnd32 (blkF F i) (hs32 F i) q) 0) ((rnd32 (blkF F i) (hs32 F i) q) 1)) (and32 ((rnd32 (blkF F i) (hs32 F i) q) 0) ((rnd32 (blkF F i) (hs32 F i) q) 2))).toNat) : Nat) : Int))) ?_
          have hi62 : 1 < 8 := by omega
          refine rxV 17 rfl (by kernel_rfl) rfl (fun _ _ => rfl) (fun _ _ hF => opIndexA (i := 1) (e := 44) (sz := 1) rfl (by kernel_rfl) (by kernel_rfl) (hF.ev 6 rfl) rfl rfl hi62) (kA rfl) (by decide) (v := (.pointer (some ⟨g50, 0 + 1 * 1, none⟩))) ?_
          refine rxS (fun w => w.heap[g50]? = some (.cells ((cWs 8).enc (rnd32 (blkF F i) (hs32 F i) q)) 45 (0, 0))) 18 rfl (by kernel_rfl) rfl (fun _ _ => rfl) (hH.blk 5 rfl) (fun _ _ hF hS => opLoadT (C := cWd) (y := ((rnd32 (blkF F i) (hs32 F i) q) 1)) rfl (hF.ev 0 rfl) (by kernel_rfl) ((holds_blk0 hS).eltV hi62) rfl) (kM [false, true, true, true, true, true, true, true, true, true, true, true, true, true] rfl rfl) (by decide) (v := (.int .u32 (((((rnd32 (blkF F i) (hs32 F i) q) 1).toNat) : Nat) : Int))) ?_
          have hi63 : 2 < 8 := by omega
          refine rxV 19 rfl (by kernel_rfl) rfl (fun _ _ => rfl) (fun _ _ hF => opIndexA (i := 2) (e := 44) (sz := 1) rfl (by kernel_rfl) (by kernel_rfl) (hF.ev 7 rfl) rfl rfl hi63) (kA rfl) (by decide) (v := (.pointer (some ⟨g50, 0 + 2 * 1, none⟩))) ?_
          refine rxS (fun w => w.heap[g50]? = some (.cells ((cWs 8).enc (rnd32 (blkF F i) (hs32 F i) q)) 45 (0, 0))) 20 rfl (by kernel_rfl) rfl (fun _ _ => rfl) (hH.blk 5 rfl) (fun _ _ hF hS => opLoadT (C := cWd) (y := ((rnd32 (blkF F i) (hs32 F i) q) 2)) rfl (hF.ev 0 rfl) (by kernel_rfl) ((holds_blk0 hS).eltV hi63) rfl) (kM [false, true, true, true, true, true, true, true, true, true, true, true, true, true, true] rfl rfl) (by decide) (v := (.int .u32 (((((rnd32 (blkF F i) (hs32 F i) q) 2).toNat) : Nat) : Int))) ?_
          refine rxV 21 rfl (by kernel_rfl) rfl (fun _ _ => rfl) (fun _ _ hF => opAndW (u := ((rnd32 (blkF F i) (hs32 F i) q) 1)) (v := ((rnd32 (blkF F i) (hs32 F i) q) 2)) rfl (hF.ev 1 rfl) (hF.ev 0 rfl) rfl) (kM [false, false, true, true, true, true, true, true, true, true, true, true, true, true, true] rfl rfl) (by decide) (v := (.int .u32 ((((and32 ((rnd32 (blkF F i) (hs32 F i) q) 1) ((rnd32 (blkF F i) (hs32 F i) q) 2)).toNat) : Nat) : Int))) ?_
          refine rxV 22 rfl (by kernel_rfl) rfl (fun _ _ => rfl) (fun _ _ hF => opXorW (u := (xo32 (and32 ((rnd32 (blkF F i) (hs32 F i) q) 0) ((rnd32 (blkF F i) (hs32 F i) q) 1)) (and32 ((rnd32 (blkF F i) (hs32 F i) q) 0) ((rnd32 (blkF F i) (hs32 F i) q) 2)))) (v := (and32 ((rnd32 (blkF F i) (hs32 F i) q) 1) ((rnd32 (blkF F i) (hs32 F i) q) 2))) rfl (hF.ev 1 rfl) (hF.ev 0 rfl) rfl) (kM [false, false, true, true, true, true, true, true, true, true, true, true, true, true] rfl rfl) (by decide) (v := (.int .u32 ((((maj32 (rnd32 (blkF F i) (hs32 F i) q 0) (rnd32 (blkF F i) (hs32 F i) q 1) (rnd32 (blkF F i) (hs32 F i) q 2)).toNat) : Nat) : Int))) ?_
          refine rx1 1 (by kernel_rfl) ?_
          refine moM rfl hH (fun _ hF => Does.small ((rrot_c ((rnd32 (blkF F i) (hs32 F i) q) 0) 2 (ltb rfl) (ltb rfl)).does) (fun w => opCall rfl Tryd.func21 rfl rfl (Evs.cons (v := (.int .u32 (((((rnd32 (blkF F i) (hs32 F i) q) 0).toNat) : Nat) : Int))) (hF.ev 3 rfl) (Evs.cons (v := (.int .u64 2)) rfl Evs.nil)) w)) trivial rfl (fun _ _ => rfl) (kM [true, true, true, false, true, true, true, true, true, true, true, true, true] rfl rfl) (by decide) (PendOk.keep (PendOk.keep (PendOk.keep (PendOk.keep (PendOk.nil _ []))))) ?_
          clear hH
          rintro _ _ w ⟨rfl, rfl⟩ hH
          replace hH : HH w0 [] [[bl g1 34 ((cArr 32).enc (fun _ => 0))], [bl g2 45 ((cWs 8).enc (hs32 F i))], [bl g3 46 ((cWs 64).enc K32)], [bl g10 5 cur12], [bl g17 46 ((cWs 64).enc (W32 (blkF F i)))], [bl g50 45 ((cWs 8).enc (rnd32 (blkF F i) (hs32 F i) q))]] w := hH.unpad
          refine ⟨(by
            intro s hs
            simp only [List.mem_cons, List.not_mem_nil, or_false] at hs
            rcases hs with rfl | rfl | rfl | rfl
            · exact (hH.blk 5 rfl)
            · exact (hH.blk 5 rfl)
            · exact (hH.blk 5 rfl)
            · exact (hH.blk 5 rfl)
            ), ?_⟩
          refine rx1 3 (by kernel_rfl) ?_
          refine moM rfl hH (fun _ hF => Does.small ((rrot_c ((rnd32 (blkF F i) (hs32 F i) q) 0) 13 (ltb rfl) (ltb rfl)).does) (fun w => opCall rfl Tryd.func21 rfl rfl (Evs.cons (v := (.int .u32 (((((rnd32 (blkF F i) (hs32 F i) q) 0).toNat) : Nat) : Int))) (hF.ev 3 rfl) (Evs.cons (v := (.int .u64 13)) rfl Evs.nil)) w)) trivial rfl (fun _ _ => rfl) (kM [true, true, true, false, true, true, true, true, true, true, true, true, true] rfl rfl) (by decide) (PendOk.keep (PendOk.keep (PendOk.keep (PendOk.keep (PendOk.nil _ []))))) ?_
          clear hH
          rintro _ _ w ⟨rfl, rfl⟩ hH
          replace hH : HH w0 [] [[bl g1 34 ((cArr 32).enc (fun _ => 0))], [bl g2 45 ((cWs 8).enc (hs32 F i))], [bl g3 46 ((cWs 64).enc K32)], [bl g10 5 cur12], [bl g17 46 ((cWs 64).enc (W32 (blkF F i)))], [bl g50 45 ((cWs 8).enc (rnd32 (blkF F i) (hs32 F i) q))]] w := hH.unpad
          refine ⟨(by
            intro s hs
            simp only [List.mem_cons, List.not_mem_nil, or_false] at hs
            rcases hs with rfl | rfl | rfl | rfl
            · exact (hH.blk 5 rfl)
            · exact (hH.blk 5 rfl)
            · exact (hH.blk 5 rfl)
            · exact (hH.blk 5 rfl)
            ), ?_⟩
          refine rxV 4 rfl (by kernel_rfl) rfl (fun _ _ => rfl) (fun _ _ hF => opXorW (u := (rr32 ((rnd32 (blkF F i) (hs32 F i) q) 0) 2)) (v := (rr32 ((rnd32 (blkF F i) (hs32 F i) q) 0) 13)) rfl (hF.ev 1 rfl) (hF.ev 0 rfl) rfl) (kM [false, false, true, true, true, true, true, true, true, true, true, true, true] rfl rfl) (by decide) (v := (.int .u32 ((((xo32 (rr32 ((rnd32 (blkF F i) (hs32 F i) q) 0) 2) (rr32 ((rnd32 (blkF F i) (hs32 F i) q) 0) 13)).toNat) : Nat) : Int))) ?_
          refine rx1 6 (by kernel_rfl) ?_
          refine moM rfl hH (fun _ hF => Does.small ((rrot_c ((rnd32 (blkF F i) (hs32 F i) q) 0) 22 (ltb rfl) (ltb rfl)).does) (fun w => opCall rfl Tryd.func21 rfl rfl (Evs.cons (v := (.int .u32 (((((rnd32 (blkF F i) (hs32 F i) q) 0).toNat) : Nat) : Int))) (hF.ev 2 rfl) (Evs.cons (v := (.int .u64 22)) rfl Evs.nil)) w)) trivial rfl (fun _ _ => rfl) (kM [true, true, false, true, true, true, true, true, true, true, true, true] rfl rfl) (by decide) (PendOk.keep (PendOk.keep (PendOk.keep (PendOk.keep (PendOk.nil _ []))))) ?_
          clear hH
          rintro _ _ w ⟨rfl, rfl⟩ hH
          replace hH : HH w0 [] [[bl g1 34 ((cArr 32).enc (fun _ => 0))], [bl g2 45 ((cWs 8).enc (hs32 F i))], [bl g3 46 ((cWs 64).enc K32)], [bl g10 5 cur12], [bl g17 46 ((cWs 64).enc (W32 (blkF F i)))], [bl g50 45 ((cWs 8).enc (rnd32 (blkF F i) (hs32 F i) q))]] w := hH.unpad
          refine ⟨(by
            intro s hs
            simp only [List.mem_cons, List.not_mem_nil, or_false] at hs
            rcases hs with rfl | rfl | rfl | rfl
            · exact (hH.blk 5 rfl)
            · exact (hH.blk 5 rfl)
            · exact (hH.blk 5 rfl)
            · exact (hH.blk 5 rfl)
            ), ?_⟩
          refine rxV 7 rfl (by kernel_rfl) rfl (fun _ _ => rfl) (fun _ _ hF => opXorW (u := (xo32 (rr32 ((rnd32 (blkF F i) (hs32 F i) q) 0) 2) (rr32 ((rnd32 (blkF F i) (hs32 F i) q) 0) 13))) (v := (rr32 ((rnd32 (blkF F i) (hs32 F i) q) 0) 22)) rfl (hF.ev 1 rfl) (hF.ev 0 rfl) rfl) (kM [false, false, true, true, true, true, true, true, true, true, true, true] rfl rfl) (by decide) (v := (.int .u32 ((((big0_32 (rnd32 (blkF F i) (hs32 F i) q 0)).toNat) : Nat) : Int))) ?_
          refine rxV 23 rfl (by kernel_rfl) rfl (fun _ _ => rfl) (fun _ _ hF => opAddW (u := (big0_32 (rnd32 (blkF F i) (hs32 F i) q 0))) (v := (maj32 (rnd32 (blkF F i) (hs32 F i) q 0) (rnd32 (blkF F i) (hs32 F i) q 1) (rnd32 (blkF F i) (hs32 F i) q 2))) rfl (hF.ev 0 rfl) (hF.ev 1 rfl) rfl) (kM [false, false, true, true, true, true, true, true, true, true, true] rfl rfl) (by decide) (v := (.int .u32 ((((two32 (rnd32 (blkF F i) (hs32 F i) q)).toNat) : Nat) : Int))) ?_
          refine rxV 24 rfl (by kernel_rfl) rfl (fun _ _ => rfl) (fun _ _ hF => opAssign rfl (hF.ev 0 rfl)) (kM [false, true, true, true, true, true, true, true, true, true] rfl rfl) (by decide) (v := (.int .u32 ((((two32 (rnd32 (blkF F i) (hs32 F i) q)).toNat) : Nat) : Int))) ?_
          refine rxEnd (by kernel_rfl) ?_
          refine qxThen ?_
          refine cxReg ?_
          refine pxV (v := (.int .u32 ((((one32 (W32 (blkF F i) q) q (rnd32 (blkF F i) (hs32 F i) q)).toNat) : Nat) : Int))) (fun _ _ hF => opMove rfl (hF.ev 1 rfl)) rfl (fun _ _ => rfl) (kA rfl) (by decide) ?_
          refine pxV (v := (.int .u32 ((((two32 (rnd32 (blkF F i) (hs32 F i) q)).toNat) : Nat) : Int))) (fun _ _ hF => opMove rfl (hF.ev 1 rfl)) rfl (fun _ _ => rfl) (kM [true, false, true, true, true, true, true, true, true, true, true] rfl rfl) (by decide) ?_
          refine pxV (v := (.int .u32 ((((pl32 (one32 (W32 (blkF F i) q) q (rnd32 (blkF F i) (hs32 F i) q)) (two32 (rnd32 (blkF F i) (hs32 F i) q))).toNat) : Nat) : Int))) (fun _ _ hF => opAddW (u := (one32 (W32 (blkF F i) q) q (rnd32 (blkF F i) (hs32 F i) q))) (v := (two32 (rnd32 (blkF F i) (hs32 F i) q))) rfl (hF.ev 1 rfl) (hF.ev 0 rfl) rfl) rfl (fun _ _ => rfl) (kM [false, false, true, true, true, true, true, true, true, true, true] rfl rfl) (by decide) ?_
          have hi64 : 0 < 8 := by omega
          refine pxV (v := (.pointer (some ⟨g50, 0 + 0 * 1, none⟩))) (fun _ _ hF => opIndexA (i := 0) (e := 44) (sz := 1) rfl (by kernel_rfl) (by kernel_rfl) (hF.ev 3 rfl) rfl rfl hi64) rfl (fun _ _ => rfl) (kA rfl) (by decide) ?_
          refine pxS (v := (.int .u32 (((((rnd32 (blkF F i) (hs32 F i) q) 0).toNat) : Nat) : Int))) (fun w => w.heap[g50]? = some (.cells ((cWs 8).enc (rnd32 (blkF F i) (hs32 F i) q)) 45 (0, 0))) (hH.blk 5 rfl) (fun _ _ hF hS => opLoadT (C := cWd) (y := ((rnd32 (blkF F i) (hs32 F i) q) 0)) rfl (hF.ev 0 rfl) (by kernel_rfl) ((holds_blk0 hS).eltV hi64) rfl) rfl (fun _ _ => rfl) (kM [false, true, true, true, true, true, true, true, true, true, true] rfl rfl) (by decide) ?_
          have hi65 : 1 < 8 := by omega
          refine pxV (v := (.pointer (some ⟨g50, 0 + 1 * 1, none⟩))) (fun _ _ hF => opIndexA (i := 1) (e := 44) (sz := 1) rfl (by kernel_rfl) (by kernel_rfl) (hF.ev 4 rfl) rfl rfl hi65) rfl (fun _ _ => rfl) (kA rfl) (by decide) ?_
          refine pxS (v := (.int .u32 (((((rnd32 (blkF F i) (hs32 F i) q) 1).toNat) : Nat) : Int))) (fun w => w.heap[g50]? = some (.cells ((cWs 8).enc (rnd32 (blkF F i) (hs32 F i) q)) 45 (0, 0))) (hH.blk 5 rfl) (fun _ _ hF hS => opLoadT (C := cWd) (y := ((rnd32 (blkF F i) (hs32 F i) q) 1)) rfl (hF.ev 0 rfl) (by kernel_rfl) ((holds_blk0 hS).eltV hi65) rfl) rfl (fun _ _ => rfl) (kM [false, true, true, true, true, true, true, true, true, true, true, true] rfl rfl) (by decide) ?_
          have hi66 : 2 < 8 := by omega
          refine pxV (v := (.pointer (some ⟨g50, 0 + 2 * 1, none⟩))) (fun _ _ hF => opIndexA (i := 2) (e := 44) (sz := 1) rfl (by kernel_rfl) (by kernel_rfl) (hF.ev 5 rfl) rfl rfl hi66) rfl (fun _ _ => rfl) (kA rfl) (by decide) ?_
          refine pxS (v := (.int .u32 (((((rnd32 (blkF F i) (hs32 F i) q) 2).toNat) : Nat) : Int))) (fun w => w.heap[g50]? = some (.cells ((cWs 8).enc (rnd32 (blkF F i) (hs32 F i) q)) 45 (0, 0))) (hH.blk 5 rfl) (fun _ _ hF hS => opLoadT (C := cWd) (y := ((rnd32 (blkF F i) (hs32 F i) q) 2)) rfl (hF.ev 0 rfl) (by kernel_rfl) ((holds_blk0 hS).eltV hi66) rfl) rfl (fun _ _ => rfl) (kM [false, true, true, true, true, true, true, true, true, true, true, true, true] rfl rfl) (by decide) ?_
          have hi67 : 3 < 8 := by omega
          refine pxV (v := (.pointer (some ⟨g50, 0 + 3 * 1, none⟩))) (fun _ _ hF => opIndexA (i := 3) (e := 44) (sz := 1) rfl (by kernel_rfl) (by kernel_rfl) (hF.ev 6 rfl) rfl rfl hi67) rfl (fun _ _ => rfl) (kA rfl) (by decide) ?_
          refine pxS (v := (.int .u32 (((((rnd32 (blkF F i) (hs32 F i) q) 3).toNat) : Nat) : Int))) (fun w => w.heap[g50]? = some (.cells ((cWs 8).enc (rnd32 (blkF F i) (hs32 F i) q)) 45 (0, 0))) (hH.blk 5 rfl) (fun _ _ hF hS => opLoadT (C := cWd) (y := ((rnd32 (blkF F i) (hs32 F i) q) 3)) rfl (hF.ev 0 rfl) (by kernel_rfl) ((holds_blk0 hS).eltV hi67) rfl) rfl (fun _ _ => rfl) (kM [false, true, true, true, true, true, true, true, true, true, true, true, true, true] rfl rfl) (by decide) ?_
          refine pxV (v := (.int .u32 ((((one32 (W32 (blkF F i) q) q (rnd32 (blkF F i) (hs32 F i) q)).toNat) : Nat) : Int))) (fun _ _ hF => opMove rfl (hF.ev 5 rfl)) rfl (fun _ _ => rfl) (kM [true, true, true, true, true, false, true, true, true, true, true, true, true, true] rfl rfl) (by decide) ?_
          refine pxV (v := (.int .u32 ((((pl32 ((rnd32 (blkF F i) (hs32 F i) q) 3) (one32 (W32 (blkF F i) q) q (rnd32 (blkF F i) (hs32 F i) q))).toNat) : Nat) : Int))) (fun _ _ hF => opAddW (u := ((rnd32 (blkF F i) (hs32 F i) q) 3)) (v := (one32 (W32 (blkF F i) q) q (rnd32 (blkF F i) (hs32 F i) q))) rfl (hF.ev 1 rfl) (hF.ev 0 rfl) rfl) rfl (fun _ _ => rfl) (kM [false, false, true, true, true, true, true, true, true, true, true, true, true, true] rfl rfl) (by decide) ?_
          have hi68 : 4 < 8 := by omega
          refine pxV (v := (.pointer (some ⟨g50, 0 + 4 * 1, none⟩))) (fun _ _ hF => opIndexA (i := 4) (e := 44) (sz := 1) rfl (by kernel_rfl) (by kernel_rfl) (hF.ev 6 rfl) rfl rfl hi68) rfl (fun _ _ => rfl) (kA rfl) (by decide) ?_
          refine pxS (v := (.int .u32 (((((rnd32 (blkF F i) (hs32 F i) q) 4).toNat) : Nat) : Int))) (fun w => w.heap[g50]? = some (.cells ((cWs 8).enc (rnd32 (blkF F i) (hs32 F i) q)) 45 (0, 0))) (hH.blk 5 rfl) (fun _ _ hF hS => opLoadT (C := cWd) (y := ((rnd32 (blkF F i) (hs32 F i) q) 4)) rfl (hF.ev 0 rfl) (by kernel_rfl) ((holds_blk0 hS).eltV hi68) rfl) rfl (fun _ _ => rfl) (kM [false, true, true, true, true, true, true, true, true, true, true, true, true, true] rfl rfl) (by decide) ?_
          have hi69 : 5 < 8 := by omega
          refine pxV (v := (.pointer (some ⟨g50, 0 + 5 * 1, none⟩))) (fun _ _ hF => opIndexA (i := 5) (e := 44) (sz := 1) rfl (by kernel_rfl) (by kernel_rfl) (hF.ev 7 rfl) rfl rfl hi69) rfl (fun _ _ => rfl) (kA rfl) (by decide) ?_
          refine pxS (v := (.int .u32 (((((rnd32 (blkF F i) (hs32 F i) q) 5).toNat) : Nat) : Int))) (fun w => w.heap[g50]? = some (.cells ((cWs 8).enc (rnd32 (blkF F i) (hs32 F i) q)) 45 (0, 0))) (hH.blk 5 rfl) (fun _ _ hF hS => opLoadT (C := cWd) (y := ((rnd32 (blkF F i) (hs32 F i) q) 5)) rfl (hF.ev 0 rfl) (by kernel_rfl) ((holds_blk0 hS).eltV hi69) rfl) rfl (fun _ _ => rfl) (kM [false, true, true, true, true, true, true, true, true, true, true, true, true, true, true] rfl rfl) (by decide) ?_
          have hi70 : 6 < 8 := by omega
          refine pxV (v := (.pointer (some ⟨g50, 0 + 6 * 1, none⟩))) (fun _ _ hF => opIndexA (i := 6) (e := 44) (sz := 1) rfl (by kernel_rfl) (by kernel_rfl) (hF.ev 8 rfl) rfl rfl hi70) rfl (fun _ _ => rfl) (kA rfl) (by decide) ?_
          refine pxS (v := (.int .u32 (((((rnd32 (blkF F i) (hs32 F i) q) 6).toNat) : Nat) : Int))) (fun w => w.heap[g50]? = some (.cells ((cWs 8).enc (rnd32 (blkF F i) (hs32 F i) q)) 45 (0, 0))) (hH.blk 5 rfl) (fun _ _ hF hS => opLoadT (C := cWd) (y := ((rnd32 (blkF F i) (hs32 F i) q) 6)) rfl (hF.ev 0 rfl) (by kernel_rfl) ((holds_blk0 hS).eltV hi70) rfl) rfl (fun _ _ => rfl) (kM [false, true, true, true, true, true, true, true, true, true, true, true, true, true, true, true] rfl rfl) (by decide) ?_
          refine pxV (v := ((cWs 8).val (rnd32 (blkF F i) (hs32 F i) (q + 1)))) (fun _ _ hF => opBuildP (cells := (cWs 8).enc (rnd32 (blkF F i) (hs32 F i) (q + 1))) (vals := [(0, (.int .u32 ((((pl32 (one32 (W32 (blkF F i) q) q (rnd32 (blkF F i) (hs32 F i) q)) (two32 (rnd32 (blkF F i) (hs32 F i) q))).toNat) : Nat) : Int))), (1, (.int .u32 (((((rnd32 (blkF F i) (hs32 F i) q) 0).toNat) : Nat) : Int))), (2, (.int .u32 (((((rnd32 (blkF F i) (hs32 F i) q) 1).toNat) : Nat) : Int))), (3, (.int .u32 (((((rnd32 (blkF F i) (hs32 F i) q) 2).toNat) : Nat) : Int))), (4, (.int .u32 ((((pl32 ((rnd32 (blkF F i) (hs32 F i) q) 3) (one32 (W32 (blkF F i) q) q (rnd32 (blkF F i) (hs32 F i) q))).toNat) : Nat) : Int))), (5, (.int .u32 (((((rnd32 (blkF F i) (hs32 F i) q) 4).toNat) : Nat) : Int))), (6, (.int .u32 (((((rnd32 (blkF F i) (hs32 F i) q) 5).toNat) : Nat) : Int))), (7, (.int .u32 (((((rnd32 (blkF F i) (hs32 F i) q) 6).toNat) : Nat) : Int)))]) rfl (EvP.cons (v := (.int .u32 ((((pl32 (one32 (W32 (blkF F i) q) q (rnd32 (blkF F i) (hs32 F i) q)) (two32 (rnd32 (blkF F i) (hs32 F i) q))).toNat) : Nat) : Int))) (hF.ev 7 rfl) (EvP.cons (v := (.int .u32 (((((rnd32 (blkF F i) (hs32 F i) q) 0).toNat) : Nat) : Int))) (hF.ev 6 rfl) (EvP.cons (v := (.int .u32 (((((rnd32 (blkF F i) (hs32 F i) q) 1).toNat) : Nat) : Int))) (hF.ev 5 rfl) (EvP.cons (v := (.int .u32 (((((rnd32 (blkF F i) (hs32 F i) q) 2).toNat) : Nat) : Int))) (hF.ev 4 rfl) (EvP.cons (v := (.int .u32 ((((pl32 ((rnd32 (blkF F i) (hs32 F i) q) 3) (one32 (W32 (blkF F i) q) q (rnd32 (blkF F i) (hs32 F i) q))).toNat) : Nat) : Int))) (hF.ev 3 rfl) (EvP.cons (v := (.int .u32 (((((rnd32 (blkF F i) (hs32 F i) q) 4).toNat) : Nat) : Int))) (hF.ev 2 rfl) (EvP.cons (v := (.int .u32 (((((rnd32 (blkF F i) (hs32 F i) q) 5).toNat) : Nat) : Int))) (hF.ev 1 rfl) (EvP.cons (v := (.int .u32 (((((rnd32 (blkF F i) (hs32 F i) q) 6).toNat) : Nat) : Int))) (hF.ev 0 rfl) EvP.nil)))))))) (by kernel_rfl) _) rfl (fun _ _ => rfl) (kM [false, false, false, false, false, false, false, false, true, true, true, true, true, true, true, true] rfl rfl) (by decide) ?_
          refine pxE0 5 hH rfl (fun _ hF => smStoreT (C := (cWs 8)) (z := (rnd32 (blkF F i) (hs32 F i) (q + 1))) rfl (hF.ev 2 rfl) (hF.ev 0 rfl) rfl (by kernel_rfl) (by rw [Cod.size]; exact Nat.le_refl _) (put_whole (cWs 8) _ _)) trivial rfl (fun _ _ => rfl) ?_
          clear hH
          rintro _ _ w rfl hH
          replace hH : HH w0 [] [[bl g1 34 ((cArr 32).enc (fun _ => 0))], [bl g2 45 ((cWs 8).enc (hs32 F i))], [bl g3 46 ((cWs 64).enc K32)], [bl g10 5 cur12], [bl g17 46 ((cWs 64).enc (W32 (blkF F i)))], [bl g50 45 ((cWs 8).enc (rnd32 (blkF F i) (hs32 F i) (q + 1)))]] w := hH
          refine pxEnd ?_
          refine qxInN ?_
          refine qxThen ?_
          refine cxReg ?_
          refine pxV (v := (.int .i64 (((q + 1) : Nat) : Int))) (fun _ _ hF => opAdd rfl (hF.ev 1 rfl) rfl (wI (by omega) (by omega) (by omega))) rfl (fun _ _ => rfl) (kM [false, false, true, true, true, true, true, true, true] rfl rfl) (by decide) ?_
          refine pxV (v := (.int .i64 (((q + 1) : Nat) : Int))) (fun _ _ hF => opMove rfl (hF.ev 0 rfl)) rfl (fun _ _ => rfl) (kM [false, true, true, true, true, true, true, true] rfl rfl) (by decide) ?_
          refine pxEnd ?_
          exact qxRound (q + 1) ⟨hH, (show (q + 1) ≤ 64 from (by omega))⟩ (by omega) (slots_at [0, 1, 2, 3, 4, 5, 6, 7] rfl)
        · refine cxExit ?_
          refine qxThenE ?_
          refine qxThenE ?_
          refine qxInE ?_
          refine qxThen ?_
          refine cxSeq ?_
          obtain rfl : q = 64 := by omega
          have he71 : (cWs 8).enc (upF 0 (comp32 (blkF F i) (hs32 F i)) (hs32 F i)) = (cWs 8).enc (hs32 F i) := vec_congr (fun _ _ => by rw [upF_zero])
          replace hH : HH w0 [] [[bl g1 34 ((cArr 32).enc (fun _ => 0))], [bl g2 45 ((cWs 8).enc (upF 0 (comp32 (blkF F i) (hs32 F i)) (hs32 F i)))], [bl g3 46 ((cWs 64).enc K32)], [bl g10 5 cur12], [bl g17 46 ((cWs 64).enc (W32 (blkF F i)))], [bl g50 45 ((cWs 8).enc (rnd32 (blkF F i) (hs32 F i) 64))]] w := by rw [he71]; exact hH
          refine cxReg ?_
          refine pxV (v := (.int .i64 0)) (fun _ _ hF => opMove rfl rfl) rfl (fun _ _ => rfl) (kM [false, false, true, false, true, true, true, true, true] rfl rfl) (by decide) ?_
          refine pxEnd ?_
          refine qxThen ?_
          refine cxBlock ?_
          refine cxLoop (σ := Nat) (fun x => [(214, (.int .i64 (((x) : Nat) : Int))), (12, (.pointer (some ⟨g50, 0, none⟩))), (6, (.int .i64 (((64 * i) : Nat) : Int))), (5, (.slice (some ⟨g10, 0, none⟩) ((pdM l).length) c7)), (4, (.pointer (some ⟨g3, 0, none⟩))), (3, (.pointer (some ⟨g2, 0, none⟩))), (2, (.pointer (some ⟨g1, 0, none⟩)))]) (fun x w => HH w0 [] [[bl g1 34 ((cArr 32).enc (fun _ => 0))], [bl g2 45 ((cWs 8).enc (upF x (comp32 (blkF F i) (hs32 F i)) (hs32 F i)))], [bl g3 46 ((cWs 64).enc K32)], [bl g10 5 cur12], [bl g17 46 ((cWs 64).enc (W32 (blkF F i)))], [bl g50 45 ((cWs 8).enc (rnd32 (blkF F i) (hs32 F i) 64))]] w ∧ (x ≤ 8)) (fun x => 8 - x) 0 ⟨hH, (Nat.zero_le _)⟩ (slots_at [0, 1, 2, 3, 4, 5, 6] rfl) ?_
          clear hH
          rintro q w ⟨hH, hq⟩
          change CX _ _ _ _ [(214, (.int .i64 (((q) : Nat) : Int))), (12, (.pointer (some ⟨g50, 0, none⟩))), (6, (.int .i64 (((64 * i) : Nat) : Int))), (5, (.slice (some ⟨g10, 0, none⟩) ((pdM l).length) c7)), (4, (.pointer (some ⟨g3, 0, none⟩))), (3, (.pointer (some ⟨g2, 0, none⟩))), (2, (.pointer (some ⟨g1, 0, none⟩)))] _
          replace hH : HH w0 [] [[bl g1 34 ((cArr 32).enc (fun _ => 0))], [bl g2 45 ((cWs 8).enc (upF q (comp32 (blkF F i) (hs32 F i)) (hs32 F i)))], [bl g3 46 ((cWs 64).enc K32)], [bl g10 5 cur12], [bl g17 46 ((cWs 64).enc (W32 (blkF F i)))], [bl g50 45 ((cWs 8).enc (rnd32 (blkF F i) (hs32 F i) 64))]] w := hH
          replace hq : q ≤ 8 := hq
          refine cxSeq ?_
          refine cxReg ?_
          refine pxV (v := (.bool (decide (q < 8)))) (fun _ _ hF => opLss rfl (hF.ev 0 rfl) rfl (dc (by omega))) rfl (fun _ _ => rfl) (kA rfl) (by decide) ?_
          refine pxEnd ?_
          refine qxThen ?_
          refine cxSeq ?_
          refine cxP 0 rfl rfl (fun hc72 => ?_) (fun hc72 => ?_)
          · refine cxSkip ?_
            refine qxThen ?_
            refine cxSeq ?_
            refine cxBlock ?_
            refine cxSeq ?_
            refine cxReg ?_
            refine pxV (v := (.int .i64 (((q) : Nat) : Int))) (fun _ _ hF => opMove rfl (hF.ev 1 rfl)) rfl (fun _ _ => rfl) (kM [false, true, true, true, true, true, true, true] rfl rfl) (by decide) ?_
            refine pxV (v := (.int .i64 (((q) : Nat) : Int))) (fun _ _ hF => opAssign rfl (hF.ev 0 rfl)) rfl (fun _ _ => rfl) (kM [false, true, true, true, true, true, true, true] rfl rfl) (by decide) ?_
            refine pxEnd ?_
            refine qxThen ?_
            refine cxRegX mixedOrders (by kernel_rfl) ?_
            replace hH := hH.drew
            refine rxV 0 rfl (by kernel_rfl) rfl (fun _ _ => rfl) (fun _ _ hF => opMove rfl (hF.ev 0 rfl)) (kA rfl) (by decide) (v := (.int .i64 (((q) : Nat) : Int))) ?_
            refine rxV 1 rfl (by kernel_rfl) rfl (fun _ _ => rfl) (fun _ _ hF => opMove rfl (hF.ev 1 rfl)) (kA rfl) (by decide) (v := (.int .i64 (((q) : Nat) : Int))) ?_
            have hi73 : q < 8 := by omega
            refine rxV 2 rfl (by kernel_rfl) rfl (fun _ _ => rfl) (fun _ _ hF => opIndexA (i := q) (e := 44) (sz := 1) rfl (by kernel_rfl) (by kernel_rfl) (hF.ev 8 rfl) (hF.ev 0 rfl) rfl hi73) (kM [false, true, true, true, true, true, true, true, true, true] rfl rfl) (by decide) (v := (.pointer (some ⟨g2, 0 + q * 1, none⟩))) ?_
            refine rxS (fun w => w.heap[g2]? = some (.cells ((cWs 8).enc (upF q (comp32 (blkF F i) (hs32 F i)) (hs32 F i))) 45 (0, 0))) 3 rfl (by kernel_rfl) rfl (fun _ _ => rfl) (hH.blk 1 rfl) (fun _ _ hF hS => opLoadT (C := cWd) (y := ((upF q (comp32 (blkF F i) (hs32 F i)) (hs32 F i)) q)) rfl (hF.ev 0 rfl) (by kernel_rfl) ((holds_blk0 hS).eltV hi73) rfl) (kM [false, true, true, true, true, true, true, true, true, true] rfl rfl) (by decide) (v := (.int .u32 (((((upF q (comp32 (blkF F i) (hs32 F i)) (hs32 F i)) q).toNat) : Nat) : Int))) ?_
            refine rxV 4 rfl (by kernel_rfl) rfl (fun _ _ => rfl) (fun _ _ hF => opMove rfl (hF.ev 2 rfl)) (kM [true, true, false, true, true, true, true, true, true, true] rfl rfl) (by decide) (v := (.int .i64 (((q) : Nat) : Int))) ?_
            have hi74 : q < 8 := by omega
            refine rxV 5 rfl (by kernel_rfl) rfl (fun _ _ => rfl) (fun _ _ hF => opIndexA (i := q) (e := 44) (sz := 1) rfl (by kernel_rfl) (by kernel_rfl) (hF.ev 4 rfl) (hF.ev 0 rfl) rfl hi74) (kM [false, true, true, true, true, true, true, true, true, true] rfl rfl) (by decide) (v := (.pointer (some ⟨g50, 0 + q * 1, none⟩))) ?_
            refine rxS (fun w => w.heap[g50]? = some (.cells ((cWs 8).enc (rnd32 (blkF F i) (hs32 F i) 64)) 45 (0, 0))) 6 rfl (by kernel_rfl) rfl (fun _ _ => rfl) (hH.blk 5 rfl) (fun _ _ hF hS => opLoadT (C := cWd) (y := ((rnd32 (blkF F i) (hs32 F i) 64) q)) rfl (hF.ev 0 rfl) (by kernel_rfl) ((holds_blk0 hS).eltV hi74) rfl) (kM [false, true, true, true, true, true, true, true, true, true] rfl rfl) (by decide) (v := (.int .u32 (((((rnd32 (blkF F i) (hs32 F i) 64) q).toNat) : Nat) : Int))) ?_
            refine rxV 7 rfl (by kernel_rfl) rfl (fun _ _ => rfl) (fun _ _ hF => opAddW (u := ((upF q (comp32 (blkF F i) (hs32 F i)) (hs32 F i)) q)) (v := ((rnd32 (blkF F i) (hs32 F i) 64) q)) rfl (hF.ev 1 rfl) (hF.ev 0 rfl) rfl) (kM [false, false, true, true, true, true, true, true, true, true] rfl rfl) (by decide) (v := (.int .u32 ((((pl32 ((upF q (comp32 (blkF F i) (hs32 F i)) (hs32 F i)) q) ((rnd32 (blkF F i) (hs32 F i) 64) q)).toNat) : Nat) : Int))) ?_
            have hi75 : q < 8 := by omega
            refine rxV 8 rfl (by kernel_rfl) rfl (fun _ _ => rfl) (fun _ _ hF => opIndexA (i := q) (e := 44) (sz := 1) rfl (by kernel_rfl) (by kernel_rfl) (hF.ev 7 rfl) (hF.ev 1 rfl) rfl hi75) (kM [true, false, true, true, true, true, true, true, true] rfl rfl) (by decide) (v := (.pointer (some ⟨g2, 0 + q * 1, none⟩))) ?_
            refine rx1 9 (by kernel_rfl) ?_
            refine moE0 1 rfl hH rfl (fun _ hF => smStoreT (C := cWd) (z := (pl32 ((upF q (comp32 (blkF F i) (hs32 F i)) (hs32 F i)) q) ((rnd32 (blkF F i) (hs32 F i) 64) q))) rfl (hF.ev 0 rfl) (hF.ev 1 rfl) rfl (by kernel_rfl) (room_1 (S := sWd) (C := (cWs 8)) rfl hi75) (vec_set0 (upF q (comp32 (blkF F i) (hs32 F i)) (hs32 F i)) (pl32 ((upF q (comp32 (blkF F i) (hs32 F i)) (hs32 F i)) q) ((rnd32 (blkF F i) (hs32 F i) 64) q)) hi75)) trivial rfl (fun _ _ => rfl) (PendOk.go [] (by kernel_rfl) (PendOk.go [] (by kernel_rfl) (PendOk.nil _ []))) ?_
            clear hH
            rintro _ _ w rfl hH
            replace hH : HH w0 [] [[bl g1 34 ((cArr 32).enc (fun _ => 0))], [bl g2 45 ((cWs 8).enc (stF (upF q (comp32 (blkF F i) (hs32 F i)) (hs32 F i)) q (pl32 ((upF q (comp32 (blkF F i) (hs32 F i)) (hs32 F i)) q) ((rnd32 (blkF F i) (hs32 F i) 64) q))))], [bl g3 46 ((cWs 64).enc K32)], [bl g10 5 cur12], [bl g17 46 ((cWs 64).enc (W32 (blkF F i)))], [bl g50 45 ((cWs 8).enc (rnd32 (blkF F i) (hs32 F i) 64))]] w := hH
            refine ⟨(fun _ hs => by cases hs), ?_⟩
            refine rxEnd (by kernel_rfl) ?_
            refine qxInN ?_
            refine qxThen ?_
            refine cxReg ?_
            refine pxV (v := (.int .i64 (((q + 1) : Nat) : Int))) (fun _ _ hF => opAdd rfl (hF.ev 2 rfl) rfl (wI (by omega) (by omega) (by omega))) rfl (fun _ _ => rfl) (kM [false, false, false, true, true, true, true, true, true] rfl rfl) (by decide) ?_
            refine pxV (v := (.int .i64 (((q + 1) : Nat) : Int))) (fun _ _ hF => opMove rfl (hF.ev 0 rfl)) rfl (fun _ _ => rfl) (kM [false, true, true, true, true, true, true] rfl rfl) (by decide) ?_
            refine pxEnd ?_
            have he76 : (cWs 8).enc (upF (q + 1) (comp32 (blkF F i) (hs32 F i)) (hs32 F i)) = (cWs 8).enc (stF (upF q (comp32 (blkF F i) (hs32 F i)) (hs32 F i)) q (pl32 ((upF q (comp32 (blkF F i) (hs32 F i)) (hs32 F i)) q) ((rnd32 (blkF F i) (hs32 F i) 64) q))) := vec_congr (fun j _ => (congrFun (upF_step q (comp32 (blkF F i) (hs32 F i)) (hs32 F i) (by rw [upF_at]; rfl)) j).symm)
            replace hH : HH w0 [] [[bl g1 34 ((cArr 32).enc (fun _ => 0))], [bl g2 45 ((cWs 8).enc (upF (q + 1) (comp32 (blkF F i) (hs32 F i)) (hs32 F i)))], [bl g3 46 ((cWs 64).enc K32)], [bl g10 5 cur12], [bl g17 46 ((cWs 64).enc (W32 (blkF F i)))], [bl g50 45 ((cWs 8).enc (rnd32 (blkF F i) (hs32 F i) 64))]] w := by rw [he76]; exact hH
            exact qxRound (q + 1) ⟨hH, (show (q + 1) ≤ 8 from (by omega))⟩ (by omega) (slots_at [0, 1, 2, 3, 4, 5, 6] rfl)
          · refine cxExit ?_
            refine qxThenE ?_
            refine qxThenE ?_
            refine qxInE ?_
            refine qxInN ?_
            refine qxThen ?_
            obtain rfl : q = 8 := by omega
            have he77 : (cWs 8).enc (hs32 F (i + 1)) = (cWs 8).enc (upF 8 (comp32 (blkF F i) (hs32 F i)) (hs32 F i)) := vec_congr (fun j hj => (upF_lt _ _ hj).symm)
            replace hH : HH w0 [] [[bl g1 34 ((cArr 32).enc (fun _ => 0))], [bl g2 45 ((cWs 8).enc (hs32 F (i + 1)))], [bl g3 46 ((cWs 64).enc K32)], [bl g10 5 cur12], [bl g17 46 ((cWs 64).enc (W32 (blkF F i)))], [bl g50 45 ((cWs 8).enc (rnd32 (blkF F i) (hs32 F i) 64))]] w := by rw [he77]; exact hH
            refine cxReg ?_
            refine pxV (v := (.int .i64 (((64 * i) : Nat) : Int))) (fun _ _ hF => opMove rfl (hF.ev 3 rfl)) rfl (fun _ _ => rfl) (kM [false, false, false, false, true, true, true, true] rfl rfl) (by decide) ?_
            refine pxV (v := (.int .i64 (((64 * (i + 1)) : Nat) : Int))) (fun _ _ hF => opAdd rfl (hF.ev 0 rfl) rfl (wI (by omega) (by omega) (by omega))) rfl (fun _ _ => rfl) (kM [false, true, true, true, true] rfl rfl) (by decide) ?_
            refine pxV (v := (.int .i64 (((64 * (i + 1)) : Nat) : Int))) (fun _ _ hF => opAssign rfl (hF.ev 0 rfl)) rfl (fun _ _ => rfl) (kM [false, true, true, true, true] rfl rfl) (by decide) ?_
            refine pxEnd ?_
            replace hH : HH w0 [] [[bl g1 34 ((cArr 32).enc (fun _ => 0))], [bl g2 45 ((cWs 8).enc (hs32 F (i + 1)))], [bl g3 46 ((cWs 64).enc K32)], [bl g10 5 cur12]] w := hH.only [true, true, true, true, false, false]
            exact qxRound (i + 1) ⟨hH, (show (i + 1) ≤ nb32 n from (by omega))⟩ (by omega) (slots_at [0, 1, 2, 3, 4] rfl)
  · refine cxExit ?_
    refine qxThenE ?_
    refine qxThenE ?_
    refine qxInE ?_
    refine qxThen ?_
    refine cxSeq ?_
    obtain rfl : i = nb32 n := by omega
    refine cxReg ?_
    refine pxM hH (fun _ hF => smAlloc (cs := (cArr 32).enc (fun _ => 0)) (z := ((cArr 32).val (fun _ => 0))) rfl (by kernel_rfl) rfl) trivial rfl (fun _ _ => rfl) (kM [false, false, false, false, true, true] rfl rfl) (by decide) ?_
    clear hH
    rintro _ _ w ⟨g78, rfl, rfl⟩ hH
    replace hH : HH w0 [] [[bl g1 34 ((cArr 32).enc (fun _ => 0))], [bl g2 45 ((cWs 8).enc (hs32 F (nb32 n)))], [bl g3 46 ((cWs 64).enc K32)], [bl g10 5 cur12], [bl g78 34 ((cArr 32).enc (fun _ => 0))]] w := hH
    refine pxEnd ?_
    refine qxThen ?_
    refine cxSeq ?_
    refine cxSeq ?_
    have he79 : (cArr 32).enc (upF 0 (out32 (hs32 F (nb32 n))) (fun _ => 0)) = (cArr 32).enc (fun _ => 0) := arr_congr (fun _ _ => by rw [upF_zero])
    replace hH : HH w0 [] [[bl g1 34 ((cArr 32).enc (fun _ => 0))], [bl g2 45 ((cWs 8).enc (hs32 F (nb32 n)))], [bl g3 46 ((cWs 64).enc K32)], [bl g10 5 cur12], [bl g78 34 ((cArr 32).enc (upF 0 (out32 (hs32 F (nb32 n))) (fun _ => 0)))]] w := by rw [he79]; exact hH
    refine cxReg ?_
    refine pxV (v := (.int .i64 0)) (fun _ _ hF => opMove rfl rfl) rfl (fun _ _ => rfl) (kA rfl) (by decide) ?_
    refine pxEnd ?_
    refine qxThen ?_
    refine cxBlock ?_
    refine cxLoop (σ := Nat) (fun x => [(227, (.int .i64 (((x) : Nat) : Int))), (19, (.pointer (some ⟨g78, 0, none⟩))), (3, (.pointer (some ⟨g2, 0, none⟩))), (2, (.pointer (some ⟨g1, 0, none⟩)))]) (fun x w => HH w0 [] [[bl g1 34 ((cArr 32).enc (fun _ => 0))], [bl g2 45 ((cWs 8).enc (hs32 F (nb32 n)))], [bl g3 46 ((cWs 64).enc K32)], [bl g10 5 cur12], [bl g78 34 ((cArr 32).enc (upF x (out32 (hs32 F (nb32 n))) (fun _ => 0)))]] w ∧ (x ≤ 32)) (fun x => 32 - x) 0 ⟨hH, (Nat.zero_le _)⟩ (slots_at [0, 1, 2, 3] rfl) ?_
    clear hH
    rintro m w ⟨hH, hm⟩
    change CX _ _ _ _ [(227, (.int .i64 (((m) : Nat) : Int))), (19, (.pointer (some ⟨g78, 0, none⟩))), (3, (.pointer (some ⟨g2, 0, none⟩))), (2, (.pointer (some ⟨g1, 0, none⟩)))] _
    replace hH : HH w0 [] [[bl g1 34 ((cArr 32).enc (fun _ => 0))], [bl g2 45 ((cWs 8).enc (hs32 F (nb32 n)))], [bl g3 46 ((cWs 64).enc K32)], [bl g10 5 cur12], [bl g78 34 ((cArr 32).enc (upF m (out32 (hs32 F (nb32 n))) (fun _ => 0)))]] w := hH
    replace hm : m ≤ 32 := hm
    refine cxSeq ?_
    refine cxReg ?_
    refine pxV (v := (.bool (decide (m < 32)))) (fun _ _ hF => opLss rfl (hF.ev 0 rfl) rfl (dc (by omega))) rfl (fun _ _ => rfl) (kA rfl) (by decide) ?_
    refine pxEnd ?_
    refine qxThen ?_
    refine cxSeq ?_
    refine cxP 0 rfl rfl (fun hc80 => ?_) (fun hc80 => ?_)
    · refine cxSkip ?_
      refine qxThen ?_
      refine cxSeq ?_
      refine cxBlock ?_
      refine cxSeq ?_
      refine cxReg ?_
      refine pxV (v := (.int .i64 (((m) : Nat) : Int))) (fun _ _ hF => opMove rfl (hF.ev 1 rfl)) rfl (fun _ _ => rfl) (kM [false, true, true, true, true] rfl rfl) (by decide) ?_
      refine pxV (v := (.int .i64 (((m) : Nat) : Int))) (fun _ _ hF => opAssign rfl (hF.ev 0 rfl)) rfl (fun _ _ => rfl) (kM [false, true, true, true, true] rfl rfl) (by decide) ?_
      refine pxEnd ?_
      refine qxThen ?_
      refine cxReg ?_
      refine pxV (v := (.int .i64 (((m) : Nat) : Int))) (fun _ _ hF => opMove rfl (hF.ev 0 rfl)) rfl (fun _ _ => rfl) (kA rfl) (by decide) ?_
      refine pxV (v := (.int .i64 (((m) : Nat) : Int))) (fun _ _ hF => opMove rfl (hF.ev 1 rfl)) rfl (fun _ _ => rfl) (kA rfl) (by decide) ?_
      refine pxV (v := (.int .i64 (((m / 4) : Nat) : Int))) (fun _ _ hF => opQuo (z := ((m / 4 : Nat) : Int)) rfl (hF.ev 0 rfl) rfl (by omega) (wI quoN (by omega) (by omega))) rfl (fun _ _ => rfl) (kM [false, true, true, true, true, true, true] rfl rfl) (by decide) ?_
      have hi81 : m / 4 < 8 := by omega
      refine pxV (v := (.pointer (some ⟨g2, 0 + (m / 4) * 1, none⟩))) (fun _ _ hF => opIndexA (i := m / 4) (e := 44) (sz := 1) rfl (by kernel_rfl) (by kernel_rfl) (hF.ev 5 rfl) (hF.ev 0 rfl) rfl hi81) rfl (fun _ _ => rfl) (kM [false, true, true, true, true, true, true] rfl rfl) (by decide) ?_
      refine pxS (v := (.int .u32 (((((hs32 F (nb32 n)) (m / 4)).toNat) : Nat) : Int))) (fun w => w.heap[g2]? = some (.cells ((cWs 8).enc (hs32 F (nb32 n))) 45 (0, 0))) (hH.blk 1 rfl) (fun _ _ hF hS => opLoadT (C := cWd) (y := ((hs32 F (nb32 n)) (m / 4))) rfl (hF.ev 0 rfl) (by kernel_rfl) ((holds_blk0 hS).eltV hi81) rfl) rfl (fun _ _ => rfl) (kM [false, true, true, true, true, true, true] rfl rfl) (by decide) ?_
      refine pxV (v := (.int .i64 (((m) : Nat) : Int))) (fun _ _ hF => opMove rfl (hF.ev 2 rfl)) rfl (fun _ _ => rfl) (kM [true, true, false, true, true, true, true] rfl rfl) (by decide) ?_
      refine pxV (v := (.int .i64 (((m % 4) : Nat) : Int))) (fun _ _ hF => opRem (z := ((m % 4 : Nat) : Int)) rfl (hF.ev 0 rfl) rfl (by omega) remN) rfl (fun _ _ => rfl) (kM [false, true, true, true, true, true, true] rfl rfl) (by decide) ?_
      refine pxV (v := (.int .i64 (((8 * (m % 4)) : Nat) : Int))) (fun _ _ hF => opMul rfl rfl (hF.ev 0 rfl) (wI (by omega) (by omega) (by omega))) rfl (fun _ _ => rfl) (kM [false, true, true, true, true, true, true] rfl rfl) (by decide) ?_
      refine pxV (v := (.int .i64 (((24 - 8 * (m % 4)) : Nat) : Int))) (fun _ _ hF => opSub rfl rfl (hF.ev 0 rfl) (wI (by omega) (by omega) (by omega))) rfl (fun _ _ => rfl) (kM [false, true, true, true, true, true, true] rfl rfl) (by decide) ?_
      refine pxV (v := (.int .u64 (((24 - 8 * (m % 4)) : Nat) : Int))) (fun _ _ hF => opConvU (k' := .u64) (m := 24 - 8 * (m % 4)) rfl rfl (by kernel_rfl) (by kernel_rfl) (hF.ev 0 rfl) (Nat.mod_eq_of_lt (by show _ < 18446744073709551616; omega))) rfl (fun _ _ => rfl) (kM [false, true, true, true, true, true, true] rfl rfl) (by decide) ?_
      refine pxV (v := (.int .u32 ((((sr32 ((hs32 F (nb32 n)) (m / 4)) (24 - 8 * (m % 4))).toNat) : Nat) : Int))) (fun _ _ hF => opShrW (u := ((hs32 F (nb32 n)) (m / 4))) (n := 24 - 8 * (m % 4)) rfl (hF.ev 1 rfl) (hF.ev 0 rfl) (by omega) rfl) rfl (fun _ _ => rfl) (kM [false, false, true, true, true, true, true] rfl rfl) (by decide) ?_
      refine pxV (v := (.int .u8 ((((UInt8.ofNat ((sr32 ((hs32 F (nb32 n)) (m / 4)) (24 - 8 * (m % 4))).toNat)).toNat) : Nat) : Int))) (fun _ _ hF => opConvU (k' := .u8) rfl rfl (by kernel_rfl) (by kernel_rfl) (hF.ev 0 rfl) (UInt8.toNat_ofNat' (n := (sr32 ((hs32 F (nb32 n)) (m / 4)) (24 - 8 * (m % 4))).toNat)).symm) rfl (fun _ _ => rfl) (kM [false, true, true, true, true, true] rfl rfl) (by decide) ?_
      have hi82 : m < 32 := by omega
      refine pxV (v := (.pointer (some ⟨g78, 0 + m * 1, none⟩))) (fun _ _ hF => opIndexA (i := m) (e := 5) (sz := 1) rfl (by kernel_rfl) (by kernel_rfl) (hF.ev 3 rfl) (hF.ev 1 rfl) rfl hi82) rfl (fun _ _ => rfl) (kM [true, false, true, true, true, true] rfl rfl) (by decide) ?_
      refine pxE0 4 hH rfl (fun _ hF => smStoreT (C := cByte) (z := (UInt8.ofNat ((sr32 ((hs32 F (nb32 n)) (m / 4)) (24 - 8 * (m % 4))).toNat))) rfl (hF.ev 0 rfl) (hF.ev 1 rfl) rfl (by kernel_rfl) (room_1 (S := sBy) (C := (cArr 32)) rfl hi82) (arr_set0 (upF m (out32 (hs32 F (nb32 n))) (fun _ => 0)) (UInt8.ofNat ((sr32 ((hs32 F (nb32 n)) (m / 4)) (24 - 8 * (m % 4))).toNat)) hi82)) trivial rfl (fun _ _ => rfl) ?_
      clear hH
      rintro _ _ w rfl hH
      replace hH : HH w0 [] [[bl g1 34 ((cArr 32).enc (fun _ => 0))], [bl g2 45 ((cWs 8).enc (hs32 F (nb32 n)))], [bl g3 46 ((cWs 64).enc K32)], [bl g10 5 cur12], [bl g78 34 ((cArr 32).enc (stF (upF m (out32 (hs32 F (nb32 n))) (fun _ => 0)) m (UInt8.ofNat ((sr32 ((hs32 F (nb32 n)) (m / 4)) (24 - 8 * (m % 4))).toNat))))]] w := hH
      refine pxEnd ?_
      refine qxInN ?_
      refine qxThen ?_
      refine cxReg ?_
      refine pxV (v := (.int .i64 (((m + 1) : Nat) : Int))) (fun _ _ hF => opAdd rfl (hF.ev 2 rfl) rfl (wI (by omega) (by omega) (by omega))) rfl (fun _ _ => rfl) (kM [false, false, false, true, true, true] rfl rfl) (by decide) ?_
      refine pxV (v := (.int .i64 (((m + 1) : Nat) : Int))) (fun _ _ hF => opMove rfl (hF.ev 0 rfl)) rfl (fun _ _ => rfl) (kM [false, true, true, true] rfl rfl) (by decide) ?_
      refine pxEnd ?_
      have he83 : (cArr 32).enc (upF (m + 1) (out32 (hs32 F (nb32 n))) (fun _ => 0)) = (cArr 32).enc (stF (upF m (out32 (hs32 F (nb32 n))) (fun _ => 0)) m (UInt8.ofNat ((sr32 ((hs32 F (nb32 n)) (m / 4)) (24 - 8 * (m % 4))).toNat))) := arr_congr (fun j _ => (congrFun (upF_step m (out32 (hs32 F (nb32 n))) (fun _ => 0) (out32_at2 _ m)) j).symm)
      replace hH : HH w0 [] [[bl g1 34 ((cArr 32).enc (fun _ => 0))], [bl g2 45 ((cWs 8).enc (hs32 F (nb32 n)))], [bl g3 46 ((cWs 64).enc K32)], [bl g10 5 cur12], [bl g78 34 ((cArr 32).enc (upF (m + 1) (out32 (hs32 F (nb32 n))) (fun _ => 0)))]] w := by rw [he83]; exact hH
      exact qxRound (m + 1) ⟨hH, (show (m + 1) ≤ 32 from (by omega))⟩ (by omega) (slots_at [0, 1, 2, 3] rfl)
    · refine cxExit ?_
      refine qxThenE ?_
      refine qxThenE ?_
      refine qxInE ?_
      refine qxThen ?_
      refine cxSeq ?_
      obtain rfl : m = 32 := by omega
      have he84 : (cArr 32).enc (out32 (hs32 F (nb32 n))) = (cArr 32).enc (upF 32 (out32 (hs32 F (nb32 n))) (fun _ => 0)) := arr_congr (fun j hj => (upF_lt _ _ hj).symm)
      replace hH : HH w0 [] [[bl g1 34 ((cArr 32).enc (fun _ => 0))], [bl g2 45 ((cWs 8).enc (hs32 F (nb32 n)))], [bl g3 46 ((cWs 64).enc K32)], [bl g10 5 cur12], [bl g78 34 ((cArr 32).enc (out32 (hs32 F (nb32 n))))]] w := by rw [he84]; exact hH
      refine cxReg ?_
      refine pxS (v := ((cArr 32).val (out32 (hs32 F (nb32 n))))) (fun w => w.heap[g78]? = some (.cells ((cArr 32).enc (out32 (hs32 F (nb32 n)))) 34 (0, 0))) (hH.blk 4 rfl) (fun _ _ hF hS => opLoadT (C := (cArr 32)) (y := (out32 (hs32 F (nb32 n)))) rfl (hF.ev 2 rfl) (by kernel_rfl) (holds_blk0 hS) rfl) rfl (fun _ _ => rfl) (kM [false, false, false, false, true] rfl rfl) (by decide) ?_
      refine pxE0 0 hH rfl (fun _ hF => smStoreT (C := (cArr 32)) (z := (out32 (hs32 F (nb32 n)))) rfl (hF.ev 1 rfl) (hF.ev 0 rfl) rfl (by kernel_rfl) (by rw [Cod.size]; exact Nat.le_refl _) (put_whole (cArr 32) _ _)) trivial rfl (fun _ _ => rfl) ?_
      clear hH
      rintro _ _ w rfl hH
      replace hH : HH w0 [] [[bl g1 34 ((cArr 32).enc (out32 (hs32 F (nb32 n))))], [bl g2 45 ((cWs 8).enc (hs32 F (nb32 n)))], [bl g3 46 ((cWs 64).enc K32)], [bl g10 5 cur12], [bl g78 34 ((cArr 32).enc (out32 (hs32 F (nb32 n))))]] w := hH
      refine pxEnd ?_
      refine qxThen ?_
      refine cxRet ?_
      refine qxRetC 1 (hH.blk 0 rfl) rfl rfl (by kernel_rfl) (Cod.size _ _) (by kernel_rfl) ?_
      have he : out32 (hs32 F (nb32 n)) = sha l := by rw [hF]; subst hn; rfl
      rw [he]
      exact ⟨rfl, HH.toBelow hH⟩
end Go.Proofs.YticflflbogdljaaDoor
