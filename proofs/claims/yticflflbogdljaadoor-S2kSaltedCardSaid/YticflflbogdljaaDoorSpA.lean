/- The program's hash, block by block (mksp.py writes this text). -/
import Derived.Test.YticflflbogdljaaDoorSx
import Derived.Test.YticflflbogdljaaDoorTy
namespace Go.Proofs.YticflflbogdljaaDoor
open Go Go.RowKit
set_option maxRecDepth 100000

set_option maxHeartbeats 8000000 in
theorem rotl_c (x : UInt32) (n : Nat) (h0 : 0 < n) (h32 : n < 32) : Pure Tryd.prog 31 #[(.int .u32 (((x.toNat) : Nat) : Int)), (.int .i64 (-(n : Int)))] (fun _ => True) (.int .u32 ((((rr32 x n).toNat) : Nat) : Int)) := by
  refine pure_of (fn := Tryd.f31) Tryd.func31 rfl Tryd.ntmps31 (Nat.le_of_ble_eq_true rfl) rfl ?_
  intro w0 hH hR
  refine cxSeq ?_
  refine cxReg ?_
  refine pxV (v := (.int .u32 0)) (fun _ _ hF => opAssign rfl rfl) rfl (fun _ _ => rfl) (kA rfl) (by decide) ?_
  refine pxEnd ?_
  refine qxThen ?_
  refine cxSeq ?_
  refine cxReg ?_
  refine pxV (v := (.int .i64 (-(n : Int)))) (fun _ _ hF => opMove rfl (hF.ev 2 rfl)) rfl (fun _ _ => rfl) (kM [false, true, false] rfl rfl) (by decide) ?_
  refine pxV (v := (.int .u64 (((18446744073709551616 - n) : Nat) : Int))) (fun _ _ hF => opConvI (k' := .u64) rfl (by kernel_rfl) (by kernel_rfl) (hF.ev 0 rfl) (wrap_neg64 h0 (by omega))) rfl (fun _ _ => rfl) (kM [false, true] rfl rfl) (by decide) ?_
  refine pxV (v := (.int .u64 (((32 - n) : Nat) : Int))) (fun _ _ hF => opAndU (m := 18446744073709551616 - n) (j := 31) (z := (32 - n)) rfl rfl (hF.ev 0 rfl) rfl (by show _ < 18446744073709551616; omega) (by decide) (by rw [show (31 : Nat) = 2 ^ 5 - 1 from rfl, and_mask]; omega)) rfl (fun _ _ => rfl) (kM [false, true] rfl rfl) (by decide) ?_
  refine pxV (v := (.int .u64 (((32 - n) : Nat) : Int))) (fun _ _ hF => opAssign rfl (hF.ev 0 rfl)) rfl (fun _ _ => rfl) (kM [false, true] rfl rfl) (by decide) ?_
  refine pxEnd ?_
  refine qxThen ?_
  refine cxSeq ?_
  refine cxReg ?_
  refine pxV (v := (.int .u32 (((x.toNat) : Nat) : Int))) (fun _ _ hF => opMove rfl (hF.ev 1 rfl)) rfl (fun _ _ => rfl) (kA rfl) (by decide) ?_
  refine pxV (v := (.int .u64 (((32 - n) : Nat) : Int))) (fun _ _ hF => opMove rfl (hF.ev 1 rfl)) rfl (fun _ _ => rfl) (kA rfl) (by decide) ?_
  refine pxV (v := (.int .u32 ((((sl32 x (32 - n)).toNat) : Nat) : Int))) (fun _ _ hF => opShlW (u := x) (n := 32 - n) rfl (hF.ev 1 rfl) (hF.ev 0 rfl) (by omega) rfl) rfl (fun _ _ => rfl) (kM [false, false, true, true] rfl rfl) (by decide) ?_
  refine pxV (v := (.int .u32 (((x.toNat) : Nat) : Int))) (fun _ _ hF => opMove rfl (hF.ev 2 rfl)) rfl (fun _ _ => rfl) (kM [true, true, false] rfl rfl) (by decide) ?_
  refine pxV (v := (.int .u64 (((32 - n) : Nat) : Int))) (fun _ _ hF => opMove rfl (hF.ev 2 rfl)) rfl (fun _ _ => rfl) (kM [true, true, false] rfl rfl) (by decide) ?_
  refine pxV (v := (.int .u64 (((n) : Nat) : Int))) (fun _ _ hF => opSubU (m := 32) (j := 32 - n) (z := n) rfl rfl rfl (hF.ev 0 rfl) (by show 32 - n ≤ 18446744073709551616; omega) (by show (32 + (18446744073709551616 - (32 - n))) % 18446744073709551616 = _; omega)) rfl (fun _ _ => rfl) (kM [false, true, true] rfl rfl) (by decide) ?_
  refine pxV (v := (.int .u32 ((((sr32 x n).toNat) : Nat) : Int))) (fun _ _ hF => opShrW (u := x) (n := n) rfl (hF.ev 1 rfl) (hF.ev 0 rfl) (by omega) rfl) rfl (fun _ _ => rfl) (kM [false, false, true] rfl rfl) (by decide) ?_
  refine pxV (v := (.int .u32 ((((rr32 x n).toNat) : Nat) : Int))) (fun _ _ hF => opOrW (u := (sl32 x (32 - n))) (v := (sr32 x n)) rfl (hF.ev 1 rfl) (hF.ev 0 rfl) (rr32_or x n)) rfl (fun _ _ => rfl) (kM [false, false] rfl rfl) (by decide) ?_
  refine pxV (v := (.int .u32 ((((rr32 x n).toNat) : Nat) : Int))) (fun _ _ hF => opAssign rfl (hF.ev 0 rfl)) rfl (fun _ _ => rfl) (kM [false] rfl rfl) (by decide) ?_
  refine pxEnd ?_
  refine qxThen ?_
  refine cxRet ?_
  refine qxRet1 0 rfl rfl ?_
  exact ⟨rfl, HH.toBelow hH⟩

set_option maxHeartbeats 8000000 in
theorem rotr_c (x : UInt32) (n : Nat) (h0 : 0 < n) (h32 : n < 32) : Pure Tryd.prog 30 #[(.int .u32 (((x.toNat) : Nat) : Int)), (.int .i64 (((n) : Nat) : Int))] (fun _ => True) (.int .u32 ((((rr32 x n).toNat) : Nat) : Int)) := by
  refine pure_of (fn := Tryd.f30) Tryd.func30 rfl Tryd.ntmps30 (Nat.le_of_ble_eq_true rfl) rfl ?_
  intro w0 hH hR
  refine cxSeq ?_
  refine cxReg ?_
  refine pxV (v := (.int .u32 0)) (fun _ _ hF => opAssign rfl rfl) rfl (fun _ _ => rfl) (kA rfl) (by decide) ?_
  refine pxEnd ?_
  refine qxThen ?_
  refine cxSeq ?_
  refine cxReg ?_
  refine pxV (v := (.int .u32 (((x.toNat) : Nat) : Int))) (fun _ _ hF => opMove rfl (hF.ev 1 rfl)) rfl (fun _ _ => rfl) (kM [false, false, true] rfl rfl) (by decide) ?_
  refine pxV (v := (.int .i64 (((n) : Nat) : Int))) (fun _ _ hF => opMove rfl (hF.ev 1 rfl)) rfl (fun _ _ => rfl) (kM [true, false] rfl rfl) (by decide) ?_
  refine pxV (v := (.int .i64 (-(((n) : Nat) : Int)))) (fun _ _ hF => opNegI rfl (hF.ev 0 rfl) (wI (by omega) (by omega) (by omega))) rfl (fun _ _ => rfl) (kM [false, true] rfl rfl) (by decide) ?_
  refine pxM hH (fun _ hF => Does.small ((rotl_c x n h0 h32).does) (fun w => opCall rfl Tryd.func31 rfl rfl (Evs.cons (v := (.int .u32 (((x.toNat) : Nat) : Int))) (hF.ev 1 rfl) (Evs.cons (v := (.int .i64 (-(((n) : Nat) : Int)))) (hF.ev 0 rfl) Evs.nil)) w)) trivial rfl (fun _ _ => rfl) (kM [false, false] rfl rfl) (by decide) ?_
  clear hH
  rintro _ _ w ⟨rfl, rfl⟩ hH
  replace hH : HH w0 [] [] w := hH.unpad
  refine pxV (v := (.int .u32 ((((rr32 x n).toNat) : Nat) : Int))) (fun _ _ hF => opAssign rfl (hF.ev 0 rfl)) rfl (fun _ _ => rfl) (kM [false] rfl rfl) (by decide) ?_
  refine pxEnd ?_
  refine qxThen ?_
  refine cxRet ?_
  refine qxRet1 0 rfl rfl ?_
  exact ⟨rfl, HH.toBelow hH⟩

set_option maxHeartbeats 8000000 in
theorem big0_32_c (x : UInt32) : Pure Tryd.prog 27 #[(.int .u32 (((x.toNat) : Nat) : Int))] (fun _ => True) (.int .u32 ((((big0_32 x).toNat) : Nat) : Int)) := by
  refine pure_of (fn := Tryd.f27) Tryd.func27 rfl Tryd.ntmps27 (Nat.le_of_ble_eq_true rfl) rfl ?_
  intro w0 hH hR
  refine cxSeq ?_
  refine cxReg ?_
  refine pxV (v := (.int .u32 0)) (fun _ _ hF => opAssign rfl rfl) rfl (fun _ _ => rfl) (kA rfl) (by decide) ?_
  refine pxEnd ?_
  refine qxThen ?_
  refine cxSeq ?_
  refine cxReg ?_
  refine pxV (v := (.int .u32 (((x.toNat) : Nat) : Int))) (fun _ _ hF => opMove rfl (hF.ev 1 rfl)) rfl (fun _ _ => rfl) (kM [false, true] rfl rfl) (by decide) ?_
  refine pxM hH (fun _ hF => Does.small ((rotr_c x 2 (ltb rfl) (ltb rfl)).does) (fun w => opCall rfl Tryd.func30 rfl rfl (Evs.cons (v := (.int .u32 (((x.toNat) : Nat) : Int))) (hF.ev 0 rfl) (Evs.cons (v := (.int .i64 2)) rfl Evs.nil)) w)) trivial rfl (fun _ _ => rfl) (kM [false, true] rfl rfl) (by decide) ?_
  clear hH
  rintro _ _ w ⟨rfl, rfl⟩ hH
  replace hH : HH w0 [] [] w := hH.unpad
  refine pxV (v := (.int .u32 (((x.toNat) : Nat) : Int))) (fun _ _ hF => opMove rfl (hF.ev 1 rfl)) rfl (fun _ _ => rfl) (kA rfl) (by decide) ?_
  refine pxM hH (fun _ hF => Does.small ((rotr_c x 13 (ltb rfl) (ltb rfl)).does) (fun w => opCall rfl Tryd.func30 rfl rfl (Evs.cons (v := (.int .u32 (((x.toNat) : Nat) : Int))) (hF.ev 0 rfl) (Evs.cons (v := (.int .i64 13)) rfl Evs.nil)) w)) trivial rfl (fun _ _ => rfl) (kM [false, true, true] rfl rfl) (by decide) ?_
  clear hH
  rintro _ _ w ⟨rfl, rfl⟩ hH
  replace hH : HH w0 [] [] w := hH.unpad
  refine pxV (v := (.int .u32 ((((xo32 (rr32 x 2) (rr32 x 13)).toNat) : Nat) : Int))) (fun _ _ hF => opXorW (u := (rr32 x 2)) (v := (rr32 x 13)) rfl (hF.ev 1 rfl) (hF.ev 0 rfl) rfl) rfl (fun _ _ => rfl) (kM [false, false, true] rfl rfl) (by decide) ?_
  refine pxV (v := (.int .u32 (((x.toNat) : Nat) : Int))) (fun _ _ hF => opMove rfl (hF.ev 1 rfl)) rfl (fun _ _ => rfl) (kM [true, false] rfl rfl) (by decide) ?_
  refine pxM hH (fun _ hF => Does.small ((rotr_c x 22 (ltb rfl) (ltb rfl)).does) (fun w => opCall rfl Tryd.func30 rfl rfl (Evs.cons (v := (.int .u32 (((x.toNat) : Nat) : Int))) (hF.ev 0 rfl) (Evs.cons (v := (.int .i64 22)) rfl Evs.nil)) w)) trivial rfl (fun _ _ => rfl) (kM [false, true] rfl rfl) (by decide) ?_
  clear hH
  rintro _ _ w ⟨rfl, rfl⟩ hH
  replace hH : HH w0 [] [] w := hH.unpad
  refine pxV (v := (.int .u32 ((((xo32 (xo32 (rr32 x 2) (rr32 x 13)) (rr32 x 22)).toNat) : Nat) : Int))) (fun _ _ hF => opXorW (u := (xo32 (rr32 x 2) (rr32 x 13))) (v := (rr32 x 22)) rfl (hF.ev 1 rfl) (hF.ev 0 rfl) rfl) rfl (fun _ _ => rfl) (kM [false, false] rfl rfl) (by decide) ?_
  refine pxV (v := (.int .u32 ((((xo32 (xo32 (rr32 x 2) (rr32 x 13)) (rr32 x 22)).toNat) : Nat) : Int))) (fun _ _ hF => opAssign rfl (hF.ev 0 rfl)) rfl (fun _ _ => rfl) (kM [false] rfl rfl) (by decide) ?_
  refine pxEnd ?_
  refine qxThen ?_
  refine cxRet ?_
  refine qxRet1 0 rfl rfl ?_
  exact ⟨rfl, HH.toBelow hH⟩

set_option maxHeartbeats 8000000 in
theorem big1_32_c (x : UInt32) : Pure Tryd.prog 26 #[(.int .u32 (((x.toNat) : Nat) : Int))] (fun _ => True) (.int .u32 ((((big1_32 x).toNat) : Nat) : Int)) := by
  refine pure_of (fn := Tryd.f26) Tryd.func26 rfl Tryd.ntmps26 (Nat.le_of_ble_eq_true rfl) rfl ?_
  intro w0 hH hR
  refine cxSeq ?_
  refine cxReg ?_
  refine pxV (v := (.int .u32 0)) (fun _ _ hF => opAssign rfl rfl) rfl (fun _ _ => rfl) (kA rfl) (by decide) ?_
  refine pxEnd ?_
  refine qxThen ?_
  refine cxSeq ?_
  refine cxReg ?_
  refine pxV (v := (.int .u32 (((x.toNat) : Nat) : Int))) (fun _ _ hF => opMove rfl (hF.ev 1 rfl)) rfl (fun _ _ => rfl) (kM [false, true] rfl rfl) (by decide) ?_
  refine pxM hH (fun _ hF => Does.small ((rotr_c x 6 (ltb rfl) (ltb rfl)).does) (fun w => opCall rfl Tryd.func30 rfl rfl (Evs.cons (v := (.int .u32 (((x.toNat) : Nat) : Int))) (hF.ev 0 rfl) (Evs.cons (v := (.int .i64 6)) rfl Evs.nil)) w)) trivial rfl (fun _ _ => rfl) (kM [false, true] rfl rfl) (by decide) ?_
  clear hH
  rintro _ _ w ⟨rfl, rfl⟩ hH
  replace hH : HH w0 [] [] w := hH.unpad
  refine pxV (v := (.int .u32 (((x.toNat) : Nat) : Int))) (fun _ _ hF => opMove rfl (hF.ev 1 rfl)) rfl (fun _ _ => rfl) (kA rfl) (by decide) ?_
  refine pxM hH (fun _ hF => Does.small ((rotr_c x 11 (ltb rfl) (ltb rfl)).does) (fun w => opCall rfl Tryd.func30 rfl rfl (Evs.cons (v := (.int .u32 (((x.toNat) : Nat) : Int))) (hF.ev 0 rfl) (Evs.cons (v := (.int .i64 11)) rfl Evs.nil)) w)) trivial rfl (fun _ _ => rfl) (kM [false, true, true] rfl rfl) (by decide) ?_
  clear hH
  rintro _ _ w ⟨rfl, rfl⟩ hH
  replace hH : HH w0 [] [] w := hH.unpad
  refine pxV (v := (.int .u32 ((((xo32 (rr32 x 6) (rr32 x 11)).toNat) : Nat) : Int))) (fun _ _ hF => opXorW (u := (rr32 x 6)) (v := (rr32 x 11)) rfl (hF.ev 1 rfl) (hF.ev 0 rfl) rfl) rfl (fun _ _ => rfl) (kM [false, false, true] rfl rfl) (by decide) ?_
  refine pxV (v := (.int .u32 (((x.toNat) : Nat) : Int))) (fun _ _ hF => opMove rfl (hF.ev 1 rfl)) rfl (fun _ _ => rfl) (kM [true, false] rfl rfl) (by decide) ?_
  refine pxM hH (fun _ hF => Does.small ((rotr_c x 25 (ltb rfl) (ltb rfl)).does) (fun w => opCall rfl Tryd.func30 rfl rfl (Evs.cons (v := (.int .u32 (((x.toNat) : Nat) : Int))) (hF.ev 0 rfl) (Evs.cons (v := (.int .i64 25)) rfl Evs.nil)) w)) trivial rfl (fun _ _ => rfl) (kM [false, true] rfl rfl) (by decide) ?_
  clear hH
  rintro _ _ w ⟨rfl, rfl⟩ hH
  replace hH : HH w0 [] [] w := hH.unpad
  refine pxV (v := (.int .u32 ((((xo32 (xo32 (rr32 x 6) (rr32 x 11)) (rr32 x 25)).toNat) : Nat) : Int))) (fun _ _ hF => opXorW (u := (xo32 (rr32 x 6) (rr32 x 11))) (v := (rr32 x 25)) rfl (hF.ev 1 rfl) (hF.ev 0 rfl) rfl) rfl (fun _ _ => rfl) (kM [false, false] rfl rfl) (by decide) ?_
  refine pxV (v := (.int .u32 ((((xo32 (xo32 (rr32 x 6) (rr32 x 11)) (rr32 x 25)).toNat) : Nat) : Int))) (fun _ _ hF => opAssign rfl (hF.ev 0 rfl)) rfl (fun _ _ => rfl) (kM [false] rfl rfl) (by decide) ?_
  refine pxEnd ?_
  refine qxThen ?_
  refine cxRet ?_
  refine qxRet1 0 rfl rfl ?_
  exact ⟨rfl, HH.toBelow hH⟩

set_option maxHeartbeats 8000000 in
theorem sml0_32_c (x : UInt32) : Pure Tryd.prog 29 #[(.int .u32 (((x.toNat) : Nat) : Int))] (fun _ => True) (.int .u32 ((((sml0_32 x).toNat) : Nat) : Int)) := by
  refine pure_of (fn := Tryd.f29) Tryd.func29 rfl Tryd.ntmps29 (Nat.le_of_ble_eq_true rfl) rfl ?_
  intro w0 hH hR
  refine cxSeq ?_
  refine cxReg ?_
  refine pxV (v := (.int .u32 0)) (fun _ _ hF => opAssign rfl rfl) rfl (fun _ _ => rfl) (kA rfl) (by decide) ?_
  refine pxEnd ?_
  refine qxThen ?_
  refine cxSeq ?_
  refine cxReg ?_
  refine pxV (v := (.int .u32 (((x.toNat) : Nat) : Int))) (fun _ _ hF => opMove rfl (hF.ev 1 rfl)) rfl (fun _ _ => rfl) (kM [false, true] rfl rfl) (by decide) ?_
  refine pxM hH (fun _ hF => Does.small ((rotr_c x 7 (ltb rfl) (ltb rfl)).does) (fun w => opCall rfl Tryd.func30 rfl rfl (Evs.cons (v := (.int .u32 (((x.toNat) : Nat) : Int))) (hF.ev 0 rfl) (Evs.cons (v := (.int .i64 7)) rfl Evs.nil)) w)) trivial rfl (fun _ _ => rfl) (kM [false, true] rfl rfl) (by decide) ?_
  clear hH
  rintro _ _ w ⟨rfl, rfl⟩ hH
  replace hH : HH w0 [] [] w := hH.unpad
  refine pxV (v := (.int .u32 (((x.toNat) : Nat) : Int))) (fun _ _ hF => opMove rfl (hF.ev 1 rfl)) rfl (fun _ _ => rfl) (kA rfl) (by decide) ?_
  refine pxM hH (fun _ hF => Does.small ((rotr_c x 18 (ltb rfl) (ltb rfl)).does) (fun w => opCall rfl Tryd.func30 rfl rfl (Evs.cons (v := (.int .u32 (((x.toNat) : Nat) : Int))) (hF.ev 0 rfl) (Evs.cons (v := (.int .i64 18)) rfl Evs.nil)) w)) trivial rfl (fun _ _ => rfl) (kM [false, true, true] rfl rfl) (by decide) ?_
  clear hH
  rintro _ _ w ⟨rfl, rfl⟩ hH
  replace hH : HH w0 [] [] w := hH.unpad
  refine pxV (v := (.int .u32 ((((xo32 (rr32 x 7) (rr32 x 18)).toNat) : Nat) : Int))) (fun _ _ hF => opXorW (u := (rr32 x 7)) (v := (rr32 x 18)) rfl (hF.ev 1 rfl) (hF.ev 0 rfl) rfl) rfl (fun _ _ => rfl) (kM [false, false, true] rfl rfl) (by decide) ?_
  refine pxV (v := (.int .u32 (((x.toNat) : Nat) : Int))) (fun _ _ hF => opMove rfl (hF.ev 1 rfl)) rfl (fun _ _ => rfl) (kM [true, false] rfl rfl) (by decide) ?_
  refine pxV (v := (.int .u32 ((((sr32 x 3).toNat) : Nat) : Int))) (fun _ _ hF => opShrW (u := x) (n := 3) rfl (hF.ev 0 rfl) rfl (leb rfl) rfl) rfl (fun _ _ => rfl) (kM [false, true] rfl rfl) (by decide) ?_
  refine pxV (v := (.int .u32 ((((xo32 (xo32 (rr32 x 7) (rr32 x 18)) (sr32 x 3)).toNat) : Nat) : Int))) (fun _ _ hF => opXorW (u := (xo32 (rr32 x 7) (rr32 x 18))) (v := (sr32 x 3)) rfl (hF.ev 1 rfl) (hF.ev 0 rfl) rfl) rfl (fun _ _ => rfl) (kM [false, false] rfl rfl) (by decide) ?_
  refine pxV (v := (.int .u32 ((((xo32 (xo32 (rr32 x 7) (rr32 x 18)) (sr32 x 3)).toNat) : Nat) : Int))) (fun _ _ hF => opAssign rfl (hF.ev 0 rfl)) rfl (fun _ _ => rfl) (kM [false] rfl rfl) (by decide) ?_
  refine pxEnd ?_
  refine qxThen ?_
  refine cxRet ?_
  refine qxRet1 0 rfl rfl ?_
  exact ⟨rfl, HH.toBelow hH⟩

set_option maxHeartbeats 8000000 in
theorem sml1_32_c (x : UInt32) : Pure Tryd.prog 28 #[(.int .u32 (((x.toNat) : Nat) : Int))] (fun _ => True) (.int .u32 ((((sml1_32 x).toNat) : Nat) : Int)) := by
  refine pure_of (fn := Tryd.f28) Tryd.func28 rfl Tryd.ntmps28 (Nat.le_of_ble_eq_true rfl) rfl ?_
  intro w0 hH hR
  refine cxSeq ?_
  refine cxReg ?_
  refine pxV (v := (.int .u32 0)) (fun _ _ hF => opAssign rfl rfl) rfl (fun _ _ => rfl) (kA rfl) (by decide) ?_
  refine pxEnd ?_
  refine qxThen ?_
  refine cxSeq ?_
  refine cxReg ?_
  refine pxV (v := (.int .u32 (((x.toNat) : Nat) : Int))) (fun _ _ hF => opMove rfl (hF.ev 1 rfl)) rfl (fun _ _ => rfl) (kM [false, true] rfl rfl) (by decide) ?_
  refine pxM hH (fun _ hF => Does.small ((rotr_c x 17 (ltb rfl) (ltb rfl)).does) (fun w => opCall rfl Tryd.func30 rfl rfl (Evs.cons (v := (.int .u32 (((x.toNat) : Nat) : Int))) (hF.ev 0 rfl) (Evs.cons (v := (.int .i64 17)) rfl Evs.nil)) w)) trivial rfl (fun _ _ => rfl) (kM [false, true] rfl rfl) (by decide) ?_
  clear hH
  rintro _ _ w ⟨rfl, rfl⟩ hH
  replace hH : HH w0 [] [] w := hH.unpad
  refine pxV (v := (.int .u32 (((x.toNat) : Nat) : Int))) (fun _ _ hF => opMove rfl (hF.ev 1 rfl)) rfl (fun _ _ => rfl) (kA rfl) (by decide) ?_
  refine pxM hH (fun _ hF => Does.small ((rotr_c x 19 (ltb rfl) (ltb rfl)).does) (fun w => opCall rfl Tryd.func30 rfl rfl (Evs.cons (v := (.int .u32 (((x.toNat) : Nat) : Int))) (hF.ev 0 rfl) (Evs.cons (v := (.int .i64 19)) rfl Evs.nil)) w)) trivial rfl (fun _ _ => rfl) (kM [false, true, true] rfl rfl) (by decide) ?_
  clear hH
  rintro _ _ w ⟨rfl, rfl⟩ hH
  replace hH : HH w0 [] [] w := hH.unpad
  refine pxV (v := (.int .u32 ((((xo32 (rr32 x 17) (rr32 x 19)).toNat) : Nat) : Int))) (fun _ _ hF => opXorW (u := (rr32 x 17)) (v := (rr32 x 19)) rfl (hF.ev 1 rfl) (hF.ev 0 rfl) rfl) rfl (fun _ _ => rfl) (kM [false, false, true] rfl rfl) (by decide) ?_
  refine pxV (v := (.int .u32 (((x.toNat) : Nat) : Int))) (fun _ _ hF => opMove rfl (hF.ev 1 rfl)) rfl (fun _ _ => rfl) (kM [true, false] rfl rfl) (by decide) ?_
  refine pxV (v := (.int .u32 ((((sr32 x 10).toNat) : Nat) : Int))) (fun _ _ hF => opShrW (u := x) (n := 10) rfl (hF.ev 0 rfl) rfl (leb rfl) rfl) rfl (fun _ _ => rfl) (kM [false, true] rfl rfl) (by decide) ?_
  refine pxV (v := (.int .u32 ((((xo32 (xo32 (rr32 x 17) (rr32 x 19)) (sr32 x 10)).toNat) : Nat) : Int))) (fun _ _ hF => opXorW (u := (xo32 (rr32 x 17) (rr32 x 19))) (v := (sr32 x 10)) rfl (hF.ev 1 rfl) (hF.ev 0 rfl) rfl) rfl (fun _ _ => rfl) (kM [false, false] rfl rfl) (by decide) ?_
  refine pxV (v := (.int .u32 ((((xo32 (xo32 (rr32 x 17) (rr32 x 19)) (sr32 x 10)).toNat) : Nat) : Int))) (fun _ _ hF => opAssign rfl (hF.ev 0 rfl)) rfl (fun _ _ => rfl) (kM [false] rfl rfl) (by decide) ?_
  refine pxEnd ?_
  refine qxThen ?_
  refine cxRet ?_
  refine qxRet1 0 rfl rfl ?_
  exact ⟨rfl, HH.toBelow hH⟩

set_option maxHeartbeats 8000000 in
theorem words_c (b : Nat → UInt8) : Pure Tryd.prog 25 #[((cArr 64).val b)] (fun _ => True) ((cWs 64).val (W32 b)) := by
  refine pure_of (fn := Tryd.f25) Tryd.func25 rfl Tryd.ntmps25 (Nat.le_of_ble_eq_true rfl) rfl ?_
  intro w0 hH hR
  refine cxSeq ?_
  refine cxReg ?_
  refine pxM hH (fun _ hF => smBox rfl (hF.ev 0 rfl) rfl) trivial rfl (fun _ _ => rfl) (kM [false] rfl rfl) (by decide) ?_
  clear hH
  rintro _ _ w ⟨g1, rfl, rfl⟩ hH
  replace hH : HH w0 [] [[bl g1 50 ((cArr 64).enc b)]] w := hH
  refine pxM hH (fun _ hF => smAlloc (cs := (cWs 64).enc (fun _ => 0)) (z := ((cWs 64).val (fun _ => 0))) rfl (by kernel_rfl) rfl) trivial rfl (fun _ _ => rfl) (kA rfl) (by decide) ?_
  clear hH
  rintro _ _ w ⟨g2, rfl, rfl⟩ hH
  replace hH : HH w0 [] [[bl g1 50 ((cArr 64).enc b)], [bl g2 46 ((cWs 64).enc (fun _ => 0))]] w := hH
  refine pxEnd ?_
  refine qxThen ?_
  refine cxSeq ?_
  refine cxReg ?_
  refine pxM hH (fun _ hF => smAlloc (cs := (cWs 64).enc (fun _ => 0)) (z := ((cWs 64).val (fun _ => 0))) rfl (by kernel_rfl) rfl) trivial rfl (fun _ _ => rfl) (kA rfl) (by decide) ?_
  clear hH
  rintro _ _ w ⟨g3, rfl, rfl⟩ hH
  replace hH : HH w0 [] [[bl g1 50 ((cArr 64).enc b)], [bl g2 46 ((cWs 64).enc (fun _ => 0))], [bl g3 46 ((cWs 64).enc (fun _ => 0))]] w := hH
  refine pxEnd ?_
  refine qxThen ?_
  refine cxSeq ?_
  refine cxSeq ?_
  have he4 : (cWs 64).enc (pr32 b 0) = (cWs 64).enc (fun _ => 0) := vec_congr (fun i _ => by rw [pr32_zero])
  replace hH : HH w0 [] [[bl g1 50 ((cArr 64).enc b)], [bl g2 46 ((cWs 64).enc (fun _ => 0))], [bl g3 46 ((cWs 64).enc (pr32 b 0))]] w := by rw [he4]; exact hH
  refine cxReg ?_
  refine pxS (v := ((cArr 64).val b)) (fun w => w.heap[g1]? = some (.cells ((cArr 64).enc b) 50 (0, 0))) (hH.blk 0 rfl) (fun _ _ hF hS => opLoadT (C := (cArr 64)) (y := b) rfl (hF.ev 2 rfl) (by kernel_rfl) (holds_blk0 hS) rfl) rfl (fun _ _ => rfl) (kM [true, true, false] rfl rfl) (by decide) ?_
  refine pxV (v := (.int .i64 0)) (fun _ _ hF => opMove rfl rfl) rfl (fun _ _ => rfl) (kA rfl) (by decide) ?_
  refine pxEnd ?_
  refine qxThen ?_
  refine cxBlock ?_
  refine cxLoop (σ := Nat) (fun x => [(8, (.int .i64 (((x) : Nat) : Int))), (7, ((cArr 64).val b)), (3, (.pointer (some ⟨g3, 0, none⟩))), (2, (.pointer (some ⟨g2, 0, none⟩)))]) (fun x w => HH w0 [] [[bl g1 50 ((cArr 64).enc b)], [bl g2 46 ((cWs 64).enc (fun _ => 0))], [bl g3 46 ((cWs 64).enc (pr32 b x))]] w ∧ (x ≤ 64)) (fun x => 64 - x) 0 ⟨hH, (Nat.zero_le _)⟩ (slots_at [0, 1, 2, 3] rfl) ?_
  clear hH
  rintro m w ⟨hH, hm⟩
  change CX _ _ _ _ [(8, (.int .i64 (((m) : Nat) : Int))), (7, ((cArr 64).val b)), (3, (.pointer (some ⟨g3, 0, none⟩))), (2, (.pointer (some ⟨g2, 0, none⟩)))] _
  replace hH : HH w0 [] [[bl g1 50 ((cArr 64).enc b)], [bl g2 46 ((cWs 64).enc (fun _ => 0))], [bl g3 46 ((cWs 64).enc (pr32 b m))]] w := hH
  replace hm : m ≤ 64 := hm
  refine cxSeq ?_
  refine cxReg ?_
  refine pxV (v := (.bool (decide (m < 64)))) (fun _ _ hF => opLss rfl (hF.ev 0 rfl) rfl (dc (by omega))) rfl (fun _ _ => rfl) (kA rfl) (by decide) ?_
  refine pxEnd ?_
  refine qxThen ?_
  refine cxSeq ?_
  refine cxP 0 rfl rfl (fun hc5 => ?_) (fun hc5 => ?_)
  · refine cxSkip ?_
    refine qxThen ?_
    refine cxSeq ?_
    refine cxBlock ?_
    refine cxSeq ?_
    refine cxReg ?_
    refine pxV (v := (.int .i64 (((m) : Nat) : Int))) (fun _ _ hF => opMove rfl (hF.ev 1 rfl)) rfl (fun _ _ => rfl) (kM [false, true, true, true, true] rfl rfl) (by decide) ?_
    have hi6 : m < 64 := by omega
    refine pxV (v := (.int .u8 ((((b m).toNat) : Nat) : Int))) (fun _ _ hF => opIdxA (S := sBy) (e := 5) (n := 64) (i := m) (f := b) rfl (by kernel_rfl) (by kernel_rfl) (hF.ev 2 rfl) (hF.ev 1 rfl) rfl hi6) rfl (fun _ _ => rfl) (kA rfl) (by decide) ?_
    refine pxV (v := (.int .i64 (((m) : Nat) : Int))) (fun _ _ hF => opAssign rfl (hF.ev 1 rfl)) rfl (fun _ _ => rfl) (kM [true, false, true, true, true, true] rfl rfl) (by decide) ?_
    refine pxV (v := (.int .u8 ((((b m).toNat) : Nat) : Int))) (fun _ _ hF => opAssign rfl (hF.ev 1 rfl)) rfl (fun _ _ => rfl) (kM [true, false, true, true, true, true] rfl rfl) (by decide) ?_
    refine pxEnd ?_
    refine qxThen ?_
    refine cxReg ?_
    refine pxV (v := (.int .i64 (((m) : Nat) : Int))) (fun _ _ hF => opMove rfl (hF.ev 1 rfl)) rfl (fun _ _ => rfl) (kA rfl) (by decide) ?_
    refine pxV (v := (.int .i64 (((m / 4) : Nat) : Int))) (fun _ _ hF => opQuo (z := ((m / 4 : Nat) : Int)) rfl (hF.ev 0 rfl) rfl (by omega) (wI quoN (by omega) (by omega))) rfl (fun _ _ => rfl) (kM [false, true, true, true, true, true, true] rfl rfl) (by decide) ?_
    refine pxV (v := (.int .i64 (((m) : Nat) : Int))) (fun _ _ hF => opMove rfl (hF.ev 2 rfl)) rfl (fun _ _ => rfl) (kM [true, true, false, true, true, true, true] rfl rfl) (by decide) ?_
    refine pxV (v := (.int .i64 (((m / 4) : Nat) : Int))) (fun _ _ hF => opQuo (z := ((m / 4 : Nat) : Int)) rfl (hF.ev 0 rfl) rfl (by omega) (wI quoN (by omega) (by omega))) rfl (fun _ _ => rfl) (kM [false, true, true, true, true, true, true] rfl rfl) (by decide) ?_
    have hi7 : m / 4 < 64 := by omega
    refine pxV (v := (.pointer (some ⟨g3, 0 + (m / 4) * 1, none⟩))) (fun _ _ hF => opIndexA (i := m / 4) (e := 44) (sz := 1) rfl (by kernel_rfl) (by kernel_rfl) (hF.ev 5 rfl) (hF.ev 0 rfl) rfl hi7) rfl (fun _ _ => rfl) (kM [false, true, true, true, true, true, true] rfl rfl) (by decide) ?_
    refine pxS (v := (.int .u32 (((((pr32 b m) (m / 4)).toNat) : Nat) : Int))) (fun w => w.heap[g3]? = some (.cells ((cWs 64).enc (pr32 b m)) 46 (0, 0))) (hH.blk 2 rfl) (fun _ _ hF hS => opLoadT (C := cWd) (y := ((pr32 b m) (m / 4))) rfl (hF.ev 0 rfl) (by kernel_rfl) ((holds_blk0 hS).eltV hi7) rfl) rfl (fun _ _ => rfl) (kM [false, true, true, true, true, true, true] rfl rfl) (by decide) ?_
    refine pxV (v := (.int .u32 ((((sl32 ((pr32 b m) (m / 4)) 8).toNat) : Nat) : Int))) (fun _ _ hF => opShlW (u := ((pr32 b m) (m / 4))) (n := 8) rfl (hF.ev 0 rfl) rfl (leb rfl) rfl) rfl (fun _ _ => rfl) (kM [false, true, true, true, true, true, true] rfl rfl) (by decide) ?_
    refine pxV (v := (.int .u8 ((((b m).toNat) : Nat) : Int))) (fun _ _ hF => opMove rfl (hF.ev 2 rfl)) rfl (fun _ _ => rfl) (kM [true, true, false, true, true, true, true] rfl rfl) (by decide) ?_
    refine pxV (v := (.int .u32 ((((UInt32.ofNat (b m).toNat).toNat) : Nat) : Int))) (fun _ _ hF => opConvW (z := UInt32.ofNat (b m).toNat) rfl rfl (by kernel_rfl) (hF.ev 0 rfl) rfl) rfl (fun _ _ => rfl) (kM [false, true, true, true, true, true, true] rfl rfl) (by decide) ?_
    refine pxV (v := (.int .u32 ((((pr32 b (m + 1) (m / 4)).toNat) : Nat) : Int))) (fun _ _ hF => opOrW (u := (sl32 ((pr32 b m) (m / 4)) 8)) (v := (UInt32.ofNat (b m).toNat)) rfl (hF.ev 1 rfl) (hF.ev 0 rfl) (pr32_step b m (m / 4) rfl)) rfl (fun _ _ => rfl) (kM [false, false, true, true, true, true, true] rfl rfl) (by decide) ?_
    have hi8 : m / 4 < 64 := by omega
    refine pxV (v := (.pointer (some ⟨g3, 0 + (m / 4) * 1, none⟩))) (fun _ _ hF => opIndexA (i := m / 4) (e := 44) (sz := 1) rfl (by kernel_rfl) (by kernel_rfl) (hF.ev 4 rfl) (hF.ev 1 rfl) rfl hi8) rfl (fun _ _ => rfl) (kM [true, false, true, true, true, true] rfl rfl) (by decide) ?_
    refine pxE0 2 hH rfl (fun _ hF => smStoreT (C := cWd) (z := (pr32 b (m + 1) (m / 4))) rfl (hF.ev 0 rfl) (hF.ev 1 rfl) rfl (by kernel_rfl) (room_1 (S := sWd) (C := (cWs 64)) rfl hi8) (vec_set0 (pr32 b m) (pr32 b (m + 1) (m / 4)) hi8)) trivial rfl (fun _ _ => rfl) ?_
    clear hH
    rintro _ _ w rfl hH
    replace hH : HH w0 [] [[bl g1 50 ((cArr 64).enc b)], [bl g2 46 ((cWs 64).enc (fun _ => 0))], [bl g3 46 ((cWs 64).enc (stF (pr32 b m) (m / 4) (pr32 b (m + 1) (m / 4))))]] w := hH
    refine pxEnd ?_
    refine qxInN ?_
    refine qxThen ?_
    refine cxReg ?_
    refine pxV (v := (.int .i64 (((m + 1) : Nat) : Int))) (fun _ _ hF => opAdd rfl (hF.ev 2 rfl) rfl (wI (by omega) (by omega) (by omega))) rfl (fun _ _ => rfl) (kM [false, false, false, true, true, true] rfl rfl) (by decide) ?_
    refine pxV (v := (.int .i64 (((m + 1) : Nat) : Int))) (fun _ _ hF => opMove rfl (hF.ev 0 rfl)) rfl (fun _ _ => rfl) (kM [false, true, true, true] rfl rfl) (by decide) ?_
    refine pxEnd ?_
    have he9 : (cWs 64).enc (pr32 b (m + 1)) = (cWs 64).enc (stF (pr32 b m) (m / 4) (pr32 b (m + 1) (m / 4))) := vec_congr (fun i _ => (congrFun (pr32_set b m (m / 4) _ rfl rfl) i).symm)
    replace hH : HH w0 [] [[bl g1 50 ((cArr 64).enc b)], [bl g2 46 ((cWs 64).enc (fun _ => 0))], [bl g3 46 ((cWs 64).enc (pr32 b (m + 1)))]] w := by rw [he9]; exact hH
    exact qxRound (m + 1) ⟨hH, (show (m + 1) ≤ 64 from (by omega))⟩ (by omega) (slots_at [0, 1, 2, 3] rfl)
  · refine cxExit ?_
    refine qxThenE ?_
    refine qxThenE ?_
    refine qxInE ?_
    refine qxThen ?_
    refine cxSeq ?_
    refine cxSeq ?_
    obtain rfl : m = 64 := by omega
    have he10 : (cWs 64).enc (upF 16 (W32 b) (pr32 b 64)) = (cWs 64).enc (pr32 b 64) := vec_congr (fun i _ => by rw [up_first])
    replace hH : HH w0 [] [[bl g1 50 ((cArr 64).enc b)], [bl g2 46 ((cWs 64).enc (fun _ => 0))], [bl g3 46 ((cWs 64).enc (upF 16 (W32 b) (pr32 b 64)))]] w := by rw [he10]; exact hH
    refine cxReg ?_
    refine pxV (v := (.int .i64 16)) (fun _ _ hF => opAssign rfl rfl) rfl (fun _ _ => rfl) (kM [false, false, false, true, true] rfl rfl) (by decide) ?_
    refine pxEnd ?_
    refine qxThen ?_
    refine cxBlock ?_
    refine cxLoop (σ := Nat) (fun x => [(6, (.int .i64 (((x) : Nat) : Int))), (3, (.pointer (some ⟨g3, 0, none⟩))), (2, (.pointer (some ⟨g2, 0, none⟩)))]) (fun x w => HH w0 [] [[bl g1 50 ((cArr 64).enc b)], [bl g2 46 ((cWs 64).enc (fun _ => 0))], [bl g3 46 ((cWs 64).enc (upF x (W32 b) (pr32 b 64)))]] w ∧ (16 ≤ x) ∧ (x ≤ 64)) (fun x => 64 - x) 16 ⟨hH, (Nat.le_refl _), (by decide)⟩ (slots_at [0, 1, 2] rfl) ?_
    clear hH
    rintro t w ⟨hH, h16, ht⟩
    change CX _ _ _ _ [(6, (.int .i64 (((t) : Nat) : Int))), (3, (.pointer (some ⟨g3, 0, none⟩))), (2, (.pointer (some ⟨g2, 0, none⟩)))] _
    replace hH : HH w0 [] [[bl g1 50 ((cArr 64).enc b)], [bl g2 46 ((cWs 64).enc (fun _ => 0))], [bl g3 46 ((cWs 64).enc (upF t (W32 b) (pr32 b 64)))]] w := hH
    replace h16 : 16 ≤ t := h16
    replace ht : t ≤ 64 := ht
    refine cxSeq ?_
    refine cxSeq ?_
    refine cxReg ?_
    refine pxV (v := (.int .i64 (((t) : Nat) : Int))) (fun _ _ hF => opMove rfl (hF.ev 0 rfl)) rfl (fun _ _ => rfl) (kA rfl) (by decide) ?_
    refine pxV (v := (.bool (decide (t < 64)))) (fun _ _ hF => opLss rfl (hF.ev 0 rfl) rfl (dc (by omega))) rfl (fun _ _ => rfl) (kM [false, true, true, true] rfl rfl) (by decide) ?_
    refine pxEnd ?_
    refine qxThen ?_
    refine cxP 0 rfl rfl (fun hc11 => ?_) (fun hc11 => ?_)
    · refine cxSkip ?_
      refine qxThen ?_
      refine cxSeq ?_
      refine cxBlock ?_
      refine cxRegX mixedOrders (by kernel_rfl) ?_
      replace hH := hH.drew
      refine rxV 0 rfl (by kernel_rfl) rfl (fun _ _ => rfl) (fun _ _ hF => opMove rfl (hF.ev 1 rfl)) (kM [false, true, true, true] rfl rfl) (by decide) (v := (.int .i64 (((t) : Nat) : Int))) ?_
      refine rxV 1 rfl (by kernel_rfl) rfl (fun _ _ => rfl) (fun _ _ hF => opMove rfl (hF.ev 1 rfl)) (kA rfl) (by decide) (v := (.int .i64 (((t) : Nat) : Int))) ?_
      refine rxV 2 rfl (by kernel_rfl) rfl (fun _ _ => rfl) (fun _ _ hF => opSub rfl (hF.ev 0 rfl) rfl (wI (by omega) (by omega) (by omega))) (kM [false, true, true, true, true] rfl rfl) (by decide) (v := (.int .i64 (((t - 2) : Nat) : Int))) ?_
      have hi12 : t - 2 < 64 := by omega
      refine rxV 3 rfl (by kernel_rfl) rfl (fun _ _ => rfl) (fun _ _ hF => opIndexA (i := t - 2) (e := 44) (sz := 1) rfl (by kernel_rfl) (by kernel_rfl) (hF.ev 3 rfl) (hF.ev 0 rfl) rfl hi12) (kM [false, true, true, true, true] rfl rfl) (by decide) (v := (.pointer (some ⟨g3, 0 + (t - 2) * 1, none⟩))) ?_
      refine rxS (fun w => w.heap[g3]? = some (.cells ((cWs 64).enc (upF t (W32 b) (pr32 b 64))) 46 (0, 0))) 4 rfl (by kernel_rfl) rfl (fun _ _ => rfl) (hH.blk 2 rfl) (fun _ _ hF hS => opLoadT (C := cWd) (y := ((upF t (W32 b) (pr32 b 64)) (t - 2))) rfl (hF.ev 0 rfl) (by kernel_rfl) ((holds_blk0 hS).eltV hi12) rfl) (kM [false, true, true, true, true] rfl rfl) (by decide) (v := (.int .u32 (((((upF t (W32 b) (pr32 b 64)) (t - 2)).toNat) : Nat) : Int))) ?_
      refine rxV 6 rfl (by kernel_rfl) rfl (fun _ _ => rfl) (fun _ _ hF => opMove rfl (hF.ev 2 rfl)) (kA rfl) (by decide) (v := (.int .i64 (((t) : Nat) : Int))) ?_
      refine rxV 7 rfl (by kernel_rfl) rfl (fun _ _ => rfl) (fun _ _ hF => opSub rfl (hF.ev 0 rfl) rfl (wI (by omega) (by omega) (by omega))) (kM [false, true, true, true, true, true] rfl rfl) (by decide) (v := (.int .i64 (((t - 7) : Nat) : Int))) ?_
      have hi13 : t - 7 < 64 := by omega
      refine rxV 8 rfl (by kernel_rfl) rfl (fun _ _ => rfl) (fun _ _ hF => opIndexA (i := t - 7) (e := 44) (sz := 1) rfl (by kernel_rfl) (by kernel_rfl) (hF.ev 4 rfl) (hF.ev 0 rfl) rfl hi13) (kM [false, true, true, true, true, true] rfl rfl) (by decide) (v := (.pointer (some ⟨g3, 0 + (t - 7) * 1, none⟩))) ?_
      refine rxS (fun w => w.heap[g3]? = some (.cells ((cWs 64).enc (upF t (W32 b) (pr32 b 64))) 46 (0, 0))) 9 rfl (by kernel_rfl) rfl (fun _ _ => rfl) (hH.blk 2 rfl) (fun _ _ hF hS => opLoadT (C := cWd) (y := ((upF t (W32 b) (pr32 b 64)) (t - 7))) rfl (hF.ev 0 rfl) (by kernel_rfl) ((holds_blk0 hS).eltV hi13) rfl) (kM [false, true, true, true, true, true] rfl rfl) (by decide) (v := (.int .u32 (((((upF t (W32 b) (pr32 b 64)) (t - 7)).toNat) : Nat) : Int))) ?_
      refine rxV 11 rfl (by kernel_rfl) rfl (fun _ _ => rfl) (fun _ _ hF => opMove rfl (hF.ev 3 rfl)) (kA rfl) (by decide) (v := (.int .i64 (((t) : Nat) : Int))) ?_
      refine rxV 12 rfl (by kernel_rfl) rfl (fun _ _ => rfl) (fun _ _ hF => opSub rfl (hF.ev 0 rfl) rfl (wI (by omega) (by omega) (by omega))) (kM [false, true, true, true, true, true, true] rfl rfl) (by decide) (v := (.int .i64 (((t - 15) : Nat) : Int))) ?_
      have hi14 : t - 15 < 64 := by omega
      refine rxV 13 rfl (by kernel_rfl) rfl (fun _ _ => rfl) (fun _ _ hF => opIndexA (i := t - 15) (e := 44) (sz := 1) rfl (by kernel_rfl) (by kernel_rfl) (hF.ev 5 rfl) (hF.ev 0 rfl) rfl hi14) (kM [false, true, true, true, true, true, true] rfl rfl) (by decide) (v := (.pointer (some ⟨g3, 0 + (t - 15) * 1, none⟩))) ?_
      refine rxS (fun w => w.heap[g3]? = some (.cells ((cWs 64).enc (upF t (W32 b) (pr32 b 64))) 46 (0, 0))) 14 rfl (by kernel_rfl) rfl (fun _ _ => rfl) (hH.blk 2 rfl) (fun _ _ hF hS => opLoadT (C := cWd) (y := ((upF t (W32 b) (pr32 b 64)) (t - 15))) rfl (hF.ev 0 rfl) (by kernel_rfl) ((holds_blk0 hS).eltV hi14) rfl) (kM [false, true, true, true, true, true, true] rfl rfl) (by decide) (v := (.int .u32 (((((upF t (W32 b) (pr32 b 64)) (t - 15)).toNat) : Nat) : Int))) ?_
      refine rxV 17 rfl (by kernel_rfl) rfl (fun _ _ => rfl) (fun _ _ hF => opMove rfl (hF.ev 4 rfl)) (kA rfl) (by decide) (v := (.int .i64 (((t) : Nat) : Int))) ?_
      refine rxV 18 rfl (by kernel_rfl) rfl (fun _ _ => rfl) (fun _ _ hF => opSub rfl (hF.ev 0 rfl) rfl (wI (by omega) (by omega) (by omega))) (kM [false, true, true, true, true, true, true, true] rfl rfl) (by decide) (v := (.int .i64 (((t - 16) : Nat) : Int))) ?_
      have hi15 : t - 16 < 64 := by omega
      refine rxV 19 rfl (by kernel_rfl) rfl (fun _ _ => rfl) (fun _ _ hF => opIndexA (i := t - 16) (e := 44) (sz := 1) rfl (by kernel_rfl) (by kernel_rfl) (hF.ev 6 rfl) (hF.ev 0 rfl) rfl hi15) (kM [false, true, true, true, true, true, true, true] rfl rfl) (by decide) (v := (.pointer (some ⟨g3, 0 + (t - 16) * 1, none⟩))) ?_
      refine rxS (fun w => w.heap[g3]? = some (.cells ((cWs 64).enc (upF t (W32 b) (pr32 b 64))) 46 (0, 0))) 20 rfl (by kernel_rfl) rfl (fun _ _ => rfl) (hH.blk 2 rfl) (fun _ _ hF hS => opLoadT (C := cWd) (y := ((upF t (W32 b) (pr32 b 64)) (t - 16))) rfl (hF.ev 0 rfl) (by kernel_rfl) ((holds_blk0 hS).eltV hi15) rfl) (kM [false, true, true, true, true, true, true, true] rfl rfl) (by decide) (v := (.int .u32 (((((upF t (W32 b) (pr32 b 64)) (t - 16)).toNat) : Nat) : Int))) ?_
      refine rx1 5 (by kernel_rfl) ?_
      refine moM rfl hH (fun _ hF => Does.small ((sml1_32_c ((upF t (W32 b) (pr32 b 64)) (t - 2))).does) (fun w => opCall rfl Tryd.func28 rfl rfl (Evs.cons (v := (.int .u32 (((((upF t (W32 b) (pr32 b 64)) (t - 2)).toNat) : Nat) : Int))) (hF.ev 3 rfl) Evs.nil) w)) trivial rfl (fun _ _ => rfl) (kM [true, true, true, false, true, true, true, true] rfl rfl) (by decide) (PendOk.keep (PendOk.keep (PendOk.keep (PendOk.go [] (by kernel_rfl) (PendOk.nil _ []))))) ?_
      clear hH
      rintro _ _ w ⟨rfl, rfl⟩ hH
      replace hH : HH w0 [] [[bl g1 50 ((cArr 64).enc b)], [bl g2 46 ((cWs 64).enc (fun _ => 0))], [bl g3 46 ((cWs 64).enc (upF t (W32 b) (pr32 b 64)))]] w := hH.unpad
      refine ⟨(by
        intro s hs
        simp only [List.mem_cons, List.not_mem_nil, or_false] at hs
        rcases hs with rfl | rfl | rfl
        · exact (hH.blk 2 rfl)
        · exact (hH.blk 2 rfl)
        · exact (hH.blk 2 rfl)
        ), ?_⟩
      refine rxV 10 rfl (by kernel_rfl) rfl (fun _ _ => rfl) (fun _ _ hF => opAddW (u := (sml1_32 ((upF t (W32 b) (pr32 b 64)) (t - 2)))) (v := ((upF t (W32 b) (pr32 b 64)) (t - 7))) rfl (hF.ev 0 rfl) (hF.ev 3 rfl) rfl) (kM [false, true, true, false, true, true, true, true] rfl rfl) (by decide) (v := (.int .u32 ((((pl32 (sml1_32 ((upF t (W32 b) (pr32 b 64)) (t - 2))) ((upF t (W32 b) (pr32 b 64)) (t - 7))).toNat) : Nat) : Int))) ?_
      refine rx1 15 (by kernel_rfl) ?_
      refine moM rfl hH (fun _ hF => Does.small ((sml0_32_c ((upF t (W32 b) (pr32 b 64)) (t - 15))).does) (fun w => opCall rfl Tryd.func29 rfl rfl (Evs.cons (v := (.int .u32 (((((upF t (W32 b) (pr32 b 64)) (t - 15)).toNat) : Nat) : Int))) (hF.ev 2 rfl) Evs.nil) w)) trivial rfl (fun _ _ => rfl) (kM [true, true, false, true, true, true, true] rfl rfl) (by decide) (PendOk.keep (PendOk.go [] (by kernel_rfl) (PendOk.keep (PendOk.nil _ [])))) ?_
      clear hH
      rintro _ _ w ⟨rfl, rfl⟩ hH
      replace hH : HH w0 [] [[bl g1 50 ((cArr 64).enc b)], [bl g2 46 ((cWs 64).enc (fun _ => 0))], [bl g3 46 ((cWs 64).enc (upF t (W32 b) (pr32 b 64)))]] w := hH.unpad
      refine ⟨(by
        intro s hs
        simp only [List.mem_cons, List.not_mem_nil, or_false] at hs
        rcases hs with rfl | rfl
        · exact (hH.blk 2 rfl)
        · exact (hH.blk 2 rfl)
        ), ?_⟩
      refine rxV 16 rfl (by kernel_rfl) rfl (fun _ _ => rfl) (fun _ _ hF => opAddW (u := (pl32 (sml1_32 ((upF t (W32 b) (pr32 b 64)) (t - 2))) ((upF t (W32 b) (pr32 b 64)) (t - 7)))) (v := (sml0_32 ((upF t (W32 b) (pr32 b 64)) (t - 15)))) rfl (hF.ev 1 rfl) (hF.ev 0 rfl) rfl) (kM [false, false, true, true, true, true, true] rfl rfl) (by decide) (v := (.int .u32 ((((pl32 (pl32 (sml1_32 ((upF t (W32 b) (pr32 b 64)) (t - 2))) ((upF t (W32 b) (pr32 b 64)) (t - 7))) (sml0_32 ((upF t (W32 b) (pr32 b 64)) (t - 15)))).toNat) : Nat) : Int))) ?_
      refine rxV 21 rfl (by kernel_rfl) rfl (fun _ _ => rfl) (fun _ _ hF => opAddW (u := (pl32 (pl32 (sml1_32 ((upF t (W32 b) (pr32 b 64)) (t - 2))) ((upF t (W32 b) (pr32 b 64)) (t - 7))) (sml0_32 ((upF t (W32 b) (pr32 b 64)) (t - 15))))) (v := ((upF t (W32 b) (pr32 b 64)) (t - 16))) rfl (hF.ev 0 rfl) (hF.ev 1 rfl) rfl) (kM [false, false, true, true, true, true] rfl rfl) (by decide) (v := (.int .u32 ((((pl32 (pl32 (pl32 (sml1_32 ((upF t (W32 b) (pr32 b 64)) (t - 2))) ((upF t (W32 b) (pr32 b 64)) (t - 7))) (sml0_32 ((upF t (W32 b) (pr32 b 64)) (t - 15)))) ((upF t (W32 b) (pr32 b 64)) (t - 16))).toNat) : Nat) : Int))) ?_
      have hi16 : t < 64 := by omega
      refine rxV 22 rfl (by kernel_rfl) rfl (fun _ _ => rfl) (fun _ _ hF => opIndexA (i := t) (e := 44) (sz := 1) rfl (by kernel_rfl) (by kernel_rfl) (hF.ev 3 rfl) (hF.ev 1 rfl) rfl hi16) (kM [true, false, true, true, true] rfl rfl) (by decide) (v := (.pointer (some ⟨g3, 0 + t * 1, none⟩))) ?_
      refine rx1 23 (by kernel_rfl) ?_
      refine moE0 2 rfl hH rfl (fun _ hF => smStoreT (C := cWd) (z := (pl32 (pl32 (pl32 (sml1_32 ((upF t (W32 b) (pr32 b 64)) (t - 2))) ((upF t (W32 b) (pr32 b 64)) (t - 7))) (sml0_32 ((upF t (W32 b) (pr32 b 64)) (t - 15)))) ((upF t (W32 b) (pr32 b 64)) (t - 16)))) rfl (hF.ev 0 rfl) (hF.ev 1 rfl) rfl (by kernel_rfl) (room_1 (S := sWd) (C := (cWs 64)) rfl hi16) (vec_set0 (upF t (W32 b) (pr32 b 64)) (pl32 (pl32 (pl32 (sml1_32 ((upF t (W32 b) (pr32 b 64)) (t - 2))) ((upF t (W32 b) (pr32 b 64)) (t - 7))) (sml0_32 ((upF t (W32 b) (pr32 b 64)) (t - 15)))) ((upF t (W32 b) (pr32 b 64)) (t - 16))) hi16)) trivial rfl (fun _ _ => rfl) (PendOk.go [] (by kernel_rfl) (PendOk.go [] (by kernel_rfl) (PendOk.nil _ []))) ?_
      clear hH
      rintro _ _ w rfl hH
      replace hH : HH w0 [] [[bl g1 50 ((cArr 64).enc b)], [bl g2 46 ((cWs 64).enc (fun _ => 0))], [bl g3 46 ((cWs 64).enc (stF (upF t (W32 b) (pr32 b 64)) t (pl32 (pl32 (pl32 (sml1_32 ((upF t (W32 b) (pr32 b 64)) (t - 2))) ((upF t (W32 b) (pr32 b 64)) (t - 7))) (sml0_32 ((upF t (W32 b) (pr32 b 64)) (t - 15)))) ((upF t (W32 b) (pr32 b 64)) (t - 16)))))]] w := hH
      refine ⟨(fun _ hs => by cases hs), ?_⟩
      refine rxEnd (by kernel_rfl) ?_
      refine qxInN ?_
      refine qxThen ?_
      refine cxReg ?_
      refine pxV (v := (.int .i64 (((t) : Nat) : Int))) (fun _ _ hF => opMove rfl (hF.ev 2 rfl)) rfl (fun _ _ => rfl) (kM [false, false, false, true, true] rfl rfl) (by decide) ?_
      refine pxV (v := (.int .i64 (((t + 1) : Nat) : Int))) (fun _ _ hF => opAdd rfl (hF.ev 0 rfl) rfl (wI (by omega) (by omega) (by omega))) rfl (fun _ _ => rfl) (kM [false, true, true] rfl rfl) (by decide) ?_
      refine pxV (v := (.int .i64 (((t + 1) : Nat) : Int))) (fun _ _ hF => opAssign rfl (hF.ev 0 rfl)) rfl (fun _ _ => rfl) (kM [false, true, true] rfl rfl) (by decide) ?_
      refine pxEnd ?_
      have he17 : (cWs 64).enc (upF (t + 1) (W32 b) (pr32 b 64)) = (cWs 64).enc (stF (upF t (W32 b) (pr32 b 64)) t (pl32 (pl32 (pl32 (sml1_32 ((upF t (W32 b) (pr32 b 64)) (t - 2))) ((upF t (W32 b) (pr32 b 64)) (t - 7))) (sml0_32 ((upF t (W32 b) (pr32 b 64)) (t - 15)))) ((upF t (W32 b) (pr32 b 64)) (t - 16)))) := vec_congr (fun i _ => (congrFun (upF_step t (W32 b) (pr32 b 64) (up_word h16)) i).symm)
      replace hH : HH w0 [] [[bl g1 50 ((cArr 64).enc b)], [bl g2 46 ((cWs 64).enc (fun _ => 0))], [bl g3 46 ((cWs 64).enc (upF (t + 1) (W32 b) (pr32 b 64)))]] w := by rw [he17]; exact hH
      exact qxRound (t + 1) ⟨hH, (show 16 ≤ (t + 1) from (by omega)), (show (t + 1) ≤ 64 from (by omega))⟩ (by omega) (slots_at [0, 1, 2] rfl)
    · refine cxExit ?_
      refine qxThenE ?_
      refine qxThenE ?_
      refine qxInE ?_
      refine qxThen ?_
      refine cxSeq ?_
      obtain rfl : t = 64 := by omega
      have he18 : (cWs 64).enc (W32 b) = (cWs 64).enc (upF 64 (W32 b) (pr32 b 64)) := vec_congr (fun i hi => (upF_lt _ _ hi).symm)
      replace hH : HH w0 [] [[bl g1 50 ((cArr 64).enc b)], [bl g2 46 ((cWs 64).enc (fun _ => 0))], [bl g3 46 ((cWs 64).enc (W32 b))]] w := by rw [he18]; exact hH
      refine cxReg ?_
      refine pxS (v := ((cWs 64).val (W32 b))) (fun w => w.heap[g3]? = some (.cells ((cWs 64).enc (W32 b)) 46 (0, 0))) (hH.blk 2 rfl) (fun _ _ hF hS => opLoadT (C := (cWs 64)) (y := (W32 b)) rfl (hF.ev 2 rfl) (by kernel_rfl) (holds_blk0 hS) rfl) rfl (fun _ _ => rfl) (kM [false, false, false, true] rfl rfl) (by decide) ?_
      refine pxE0 1 hH rfl (fun _ hF => smStoreT (C := (cWs 64)) (z := (W32 b)) rfl (hF.ev 1 rfl) (hF.ev 0 rfl) rfl (by kernel_rfl) (by rw [Cod.size]; exact Nat.le_refl _) (put_whole (cWs 64) _ _)) trivial rfl (fun _ _ => rfl) ?_
      clear hH
      rintro _ _ w rfl hH
      replace hH : HH w0 [] [[bl g1 50 ((cArr 64).enc b)], [bl g2 46 ((cWs 64).enc (W32 b))], [bl g3 46 ((cWs 64).enc (W32 b))]] w := hH
      refine pxEnd ?_
      refine qxThen ?_
      refine cxRet ?_
      refine qxRetC 1 (hH.blk 1 rfl) rfl rfl (by kernel_rfl) (Cod.size _ _) (by kernel_rfl) ?_
      exact ⟨rfl, HH.toBelow hH⟩

set_option maxHeartbeats 8000000 in
theorem bytes_c (s : Nat → UInt32) : Pure Tryd.prog 24 #[((cWs 8).val s)] (fun _ => True) ((cArr 32).val (out32 s)) := by
  refine pure_of (fn := Tryd.f24) Tryd.func24 rfl Tryd.ntmps24 (Nat.le_of_ble_eq_true rfl) rfl ?_
  intro w0 hH hR
  refine cxSeq ?_
  refine cxReg ?_
  refine pxM hH (fun _ hF => smBox rfl (hF.ev 0 rfl) rfl) trivial rfl (fun _ _ => rfl) (kM [false] rfl rfl) (by decide) ?_
  clear hH
  rintro _ _ w ⟨g1, rfl, rfl⟩ hH
  replace hH : HH w0 [] [[bl g1 45 ((cWs 8).enc s)]] w := hH
  refine pxM hH (fun _ hF => smAlloc (cs := (cArr 32).enc (fun _ => 0)) (z := ((cArr 32).val (fun _ => 0))) rfl (by kernel_rfl) rfl) trivial rfl (fun _ _ => rfl) (kA rfl) (by decide) ?_
  clear hH
  rintro _ _ w ⟨g2, rfl, rfl⟩ hH
  replace hH : HH w0 [] [[bl g1 45 ((cWs 8).enc s)], [bl g2 34 ((cArr 32).enc (fun _ => 0))]] w := hH
  refine pxEnd ?_
  refine qxThen ?_
  refine cxSeq ?_
  refine cxReg ?_
  refine pxM hH (fun _ hF => smAlloc (cs := (cArr 32).enc (fun _ => 0)) (z := ((cArr 32).val (fun _ => 0))) rfl (by kernel_rfl) rfl) trivial rfl (fun _ _ => rfl) (kA rfl) (by decide) ?_
  clear hH
  rintro _ _ w ⟨g3, rfl, rfl⟩ hH
  replace hH : HH w0 [] [[bl g1 45 ((cWs 8).enc s)], [bl g2 34 ((cArr 32).enc (fun _ => 0))], [bl g3 34 ((cArr 32).enc (fun _ => 0))]] w := hH
  refine pxEnd ?_
  refine qxThen ?_
  refine cxSeq ?_
  refine cxSeq ?_
  have he4 : (cArr 32).enc (upF 0 (out32 s) (fun _ => 0)) = (cArr 32).enc (fun _ => 0) := arr_congr (fun i _ => by rw [upF_zero])
  replace hH : HH w0 [] [[bl g1 45 ((cWs 8).enc s)], [bl g2 34 ((cArr 32).enc (fun _ => 0))], [bl g3 34 ((cArr 32).enc (upF 0 (out32 s) (fun _ => 0)))]] w := by rw [he4]; exact hH
  refine cxReg ?_
  refine pxV (v := (.int .i64 0)) (fun _ _ hF => opMove rfl rfl) rfl (fun _ _ => rfl) (kA rfl) (by decide) ?_
  refine pxEnd ?_
  refine qxThen ?_
  refine cxBlock ?_
  refine cxLoop (σ := Nat) (fun x => [(5, (.int .i64 (((x) : Nat) : Int))), (3, (.pointer (some ⟨g3, 0, none⟩))), (2, (.pointer (some ⟨g2, 0, none⟩))), (1, (.pointer (some ⟨g1, 0, none⟩)))]) (fun x w => HH w0 [] [[bl g1 45 ((cWs 8).enc s)], [bl g2 34 ((cArr 32).enc (fun _ => 0))], [bl g3 34 ((cArr 32).enc (upF x (out32 s) (fun _ => 0)))]] w ∧ (x ≤ 32)) (fun x => 32 - x) 0 ⟨hH, (Nat.zero_le _)⟩ (slots_at [0, 1, 2, 3] rfl) ?_
  clear hH
  rintro m w ⟨hH, hm⟩
  change CX _ _ _ _ [(5, (.int .i64 (((m) : Nat) : Int))), (3, (.pointer (some ⟨g3, 0, none⟩))), (2, (.pointer (some ⟨g2, 0, none⟩))), (1, (.pointer (some ⟨g1, 0, none⟩)))] _
  replace hH : HH w0 [] [[bl g1 45 ((cWs 8).enc s)], [bl g2 34 ((cArr 32).enc (fun _ => 0))], [bl g3 34 ((cArr 32).enc (upF m (out32 s) (fun _ => 0)))]] w := hH
  replace hm : m ≤ 32 := hm
  refine cxSeq ?_
  refine cxReg ?_
  refine pxV (v := (.bool (decide (m < 32)))) (fun _ _ hF => opLss rfl (hF.ev 0 rfl) rfl (dc (by omega))) rfl (fun _ _ => rfl) (kA rfl) (by decide) ?_
  refine pxEnd ?_
  refine qxThen ?_
  refine cxSeq ?_
  refine cxP 0 rfl rfl (fun hc5 => ?_) (fun hc5 => ?_)
  · refine cxSkip ?_
    refine qxThen ?_
    refine cxSeq ?_
    refine cxBlock ?_
    refine cxSeq ?_
    refine cxReg ?_
    refine pxV (v := (.int .i64 (((m) : Nat) : Int))) (fun _ _ hF => opMove rfl (hF.ev 1 rfl)) rfl (fun _ _ => rfl) (kM [false, true, true, true, true] rfl rfl) (by decide) ?_
    refine pxV (v := (.int .i64 (((m) : Nat) : Int))) (fun _ _ hF => opAssign rfl (hF.ev 0 rfl)) rfl (fun _ _ => rfl) (kM [false, true, true, true, true] rfl rfl) (by decide) ?_
    refine pxEnd ?_
    refine qxThen ?_
    refine cxReg ?_
    refine pxV (v := (.int .i64 (((m) : Nat) : Int))) (fun _ _ hF => opMove rfl (hF.ev 0 rfl)) rfl (fun _ _ => rfl) (kA rfl) (by decide) ?_
    refine pxV (v := (.int .i64 (((m) : Nat) : Int))) (fun _ _ hF => opMove rfl (hF.ev 1 rfl)) rfl (fun _ _ => rfl) (kA rfl) (by decide) ?_
    refine pxV (v := (.int .i64 (((m / 4) : Nat) : Int))) (fun _ _ hF => opQuo (z := ((m / 4 : Nat) : Int)) rfl (hF.ev 0 rfl) rfl (by omega) (wI quoN (by omega) (by omega))) rfl (fun _ _ => rfl) (kM [false, true, true, true, true, true, true] rfl rfl) (by decide) ?_
    have hi6 : m / 4 < 8 := by omega
    refine pxV (v := (.pointer (some ⟨g1, 0 + (m / 4) * 1, none⟩))) (fun _ _ hF => opIndexA (i := m / 4) (e := 44) (sz := 1) rfl (by kernel_rfl) (by kernel_rfl) (hF.ev 6 rfl) (hF.ev 0 rfl) rfl hi6) rfl (fun _ _ => rfl) (kM [false, true, true, true, true, true, true] rfl rfl) (by decide) ?_
    refine pxS (v := (.int .u32 ((((s (m / 4)).toNat) : Nat) : Int))) (fun w => w.heap[g1]? = some (.cells ((cWs 8).enc s) 45 (0, 0))) (hH.blk 0 rfl) (fun _ _ hF hS => opLoadT (C := cWd) (y := (s (m / 4))) rfl (hF.ev 0 rfl) (by kernel_rfl) ((holds_blk0 hS).eltV hi6) rfl) rfl (fun _ _ => rfl) (kM [false, true, true, true, true, true, true] rfl rfl) (by decide) ?_
    refine pxV (v := (.int .i64 (((m) : Nat) : Int))) (fun _ _ hF => opMove rfl (hF.ev 2 rfl)) rfl (fun _ _ => rfl) (kM [true, true, false, true, true, true, true] rfl rfl) (by decide) ?_
    refine pxV (v := (.int .i64 (((m % 4) : Nat) : Int))) (fun _ _ hF => opRem (z := ((m % 4 : Nat) : Int)) rfl (hF.ev 0 rfl) rfl (by omega) remN) rfl (fun _ _ => rfl) (kM [false, true, true, true, true, true, true] rfl rfl) (by decide) ?_
    refine pxV (v := (.int .i64 ((((m % 4) * 8) : Nat) : Int))) (fun _ _ hF => opMul rfl (hF.ev 0 rfl) rfl (wI (by omega) (by omega) (by omega))) rfl (fun _ _ => rfl) (kM [false, true, true, true, true, true, true] rfl rfl) (by decide) ?_
    refine pxV (v := (.int .i64 (((24 - m % 4 * 8) : Nat) : Int))) (fun _ _ hF => opSub rfl rfl (hF.ev 0 rfl) (wI (by omega) (by omega) (by omega))) rfl (fun _ _ => rfl) (kM [false, true, true, true, true, true, true] rfl rfl) (by decide) ?_
    refine pxV (v := (.int .u32 ((((sr32 (s (m / 4)) (24 - m % 4 * 8)).toNat) : Nat) : Int))) (fun _ _ hF => opShrW (u := (s (m / 4))) (n := 24 - m % 4 * 8) rfl (hF.ev 1 rfl) (hF.ev 0 rfl) (by omega) rfl) rfl (fun _ _ => rfl) (kM [false, false, true, true, true, true, true] rfl rfl) (by decide) ?_
    refine pxV (v := (.int .u8 ((((UInt8.ofNat ((sr32 (s (m / 4)) (24 - m % 4 * 8)).toNat)).toNat) : Nat) : Int))) (fun _ _ hF => opConvU (k' := .u8) rfl rfl (by kernel_rfl) (by kernel_rfl) (hF.ev 0 rfl) (UInt8.toNat_ofNat' (n := (sr32 (s (m / 4)) (24 - m % 4 * 8)).toNat)).symm) rfl (fun _ _ => rfl) (kM [false, true, true, true, true, true] rfl rfl) (by decide) ?_
    have hi7 : m < 32 := by omega
    refine pxV (v := (.pointer (some ⟨g3, 0 + m * 1, none⟩))) (fun _ _ hF => opIndexA (i := m) (e := 5) (sz := 1) rfl (by kernel_rfl) (by kernel_rfl) (hF.ev 3 rfl) (hF.ev 1 rfl) rfl hi7) rfl (fun _ _ => rfl) (kM [true, false, true, true, true, true] rfl rfl) (by decide) ?_
    refine pxE0 2 hH rfl (fun _ hF => smStoreT (C := cByte) (z := (UInt8.ofNat ((sr32 (s (m / 4)) (24 - m % 4 * 8)).toNat))) rfl (hF.ev 0 rfl) (hF.ev 1 rfl) rfl (by kernel_rfl) (room_1 (S := sBy) (C := (cArr 32)) rfl hi7) (arr_set0 (upF m (out32 s) (fun _ => 0)) (UInt8.ofNat ((sr32 (s (m / 4)) (24 - m % 4 * 8)).toNat)) hi7)) trivial rfl (fun _ _ => rfl) ?_
    clear hH
    rintro _ _ w rfl hH
    replace hH : HH w0 [] [[bl g1 45 ((cWs 8).enc s)], [bl g2 34 ((cArr 32).enc (fun _ => 0))], [bl g3 34 ((cArr 32).enc (stF (upF m (out32 s) (fun _ => 0)) m (UInt8.ofNat ((sr32 (s (m / 4)) (24 - m % 4 * 8)).toNat))))]] w := hH
    refine pxEnd ?_
    refine qxInN ?_
    refine qxThen ?_
    refine cxReg ?_
    refine pxV (v := (.int .i64 (((m + 1) : Nat) : Int))) (fun _ _ hF => opAdd rfl (hF.ev 2 rfl) rfl (wI (by omega) (by omega) (by omega))) rfl (fun _ _ => rfl) (kM [false, false, false, true, true, true] rfl rfl) (by decide) ?_
    refine pxV (v := (.int .i64 (((m + 1) : Nat) : Int))) (fun _ _ hF => opMove rfl (hF.ev 0 rfl)) rfl (fun _ _ => rfl) (kM [false, true, true, true] rfl rfl) (by decide) ?_
    refine pxEnd ?_
    have he8 : (cArr 32).enc (upF (m + 1) (out32 s) (fun _ => 0)) = (cArr 32).enc (stF (upF m (out32 s) (fun _ => 0)) m (UInt8.ofNat ((sr32 (s (m / 4)) (24 - m % 4 * 8)).toNat))) := arr_congr (fun i _ => (congrFun (upF_step m (out32 s) (fun _ => 0) (out32_at s m)) i).symm)
    replace hH : HH w0 [] [[bl g1 45 ((cWs 8).enc s)], [bl g2 34 ((cArr 32).enc (fun _ => 0))], [bl g3 34 ((cArr 32).enc (upF (m + 1) (out32 s) (fun _ => 0)))]] w := by rw [he8]; exact hH
    exact qxRound (m + 1) ⟨hH, (show (m + 1) ≤ 32 from (by omega))⟩ (by omega) (slots_at [0, 1, 2, 3] rfl)
  · refine cxExit ?_
    refine qxThenE ?_
    refine qxThenE ?_
    refine qxInE ?_
    refine qxThen ?_
    refine cxSeq ?_
    obtain rfl : m = 32 := by omega
    have he9 : (cArr 32).enc (out32 s) = (cArr 32).enc (upF 32 (out32 s) (fun _ => 0)) := arr_congr (fun i hi => (upF_lt _ _ hi).symm)
    replace hH : HH w0 [] [[bl g1 45 ((cWs 8).enc s)], [bl g2 34 ((cArr 32).enc (fun _ => 0))], [bl g3 34 ((cArr 32).enc (out32 s))]] w := by rw [he9]; exact hH
    refine cxReg ?_
    refine pxS (v := ((cArr 32).val (out32 s))) (fun w => w.heap[g3]? = some (.cells ((cArr 32).enc (out32 s)) 34 (0, 0))) (hH.blk 2 rfl) (fun _ _ hF hS => opLoadT (C := (cArr 32)) (y := (out32 s)) rfl (hF.ev 2 rfl) (by kernel_rfl) (holds_blk0 hS) rfl) rfl (fun _ _ => rfl) (kM [false, false, false, true, false] rfl rfl) (by decide) ?_
    refine pxE0 1 hH rfl (fun _ hF => smStoreT (C := (cArr 32)) (z := (out32 s)) rfl (hF.ev 1 rfl) (hF.ev 0 rfl) rfl (by kernel_rfl) (by rw [Cod.size]; exact Nat.le_refl _) (put_whole (cArr 32) _ _)) trivial rfl (fun _ _ => rfl) ?_
    clear hH
    rintro _ _ w rfl hH
    replace hH : HH w0 [] [[bl g1 45 ((cWs 8).enc s)], [bl g2 34 ((cArr 32).enc (out32 s))], [bl g3 34 ((cArr 32).enc (out32 s))]] w := hH
    refine pxEnd ?_
    refine qxThen ?_
    refine cxRet ?_
    refine qxRetC 1 (hH.blk 1 rfl) rfl rfl (by kernel_rfl) (Cod.size _ _) (by kernel_rfl) ?_
    exact ⟨rfl, HH.toBelow hH⟩
end Go.Proofs.YticflflbogdljaaDoor
