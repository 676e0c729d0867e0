/- The document's hash: rotations, constants, the message in whole blocks (mksd.py writes this text). -/
import Derived.Test.YticflflbogdljaaDoorSx
import Derived.Test.YticflflbogdljaaDoorTy
namespace Go.Proofs.YticflflbogdljaaDoor
open Go Go.RowKit
set_option maxRecDepth 100000

set_option maxHeartbeats 8000000 in
theorem rrot_c (x : UInt32) (n : Nat) (h0 : 0 < n) (h32 : n < 32) : Pure Tryd.prog 21 #[(.int .u32 (((x.toNat) : Nat) : Int)), (.int .u64 (((n) : Nat) : Int))] (fun _ => True) (.int .u32 ((((rr32 x n).toNat) : Nat) : Int)) := by
  refine pure_of (fn := Tryd.f21) Tryd.func21 rfl Tryd.ntmps21 (Nat.le_of_ble_eq_true rfl) rfl ?_
  intro w0 hH hR
  refine cxSeq ?_
  refine cxReg ?_
  refine pxV (v := (.int .u32 0)) (fun _ _ hF => opAssign rfl rfl) rfl (fun _ _ => rfl) (kA rfl) (by decide) ?_
  refine pxEnd ?_
  refine qxThen ?_
  refine cxSeq ?_
  refine cxReg ?_
  refine pxV (v := (.int .u32 (((x.toNat) : Nat) : Int))) (fun _ _ hF => opMove rfl (hF.ev 1 rfl)) rfl (fun _ _ => rfl) (kM [false, true, true] rfl rfl) (by decide) ?_
  refine pxV (v := (.int .u64 (((n) : Nat) : Int))) (fun _ _ hF => opMove rfl (hF.ev 2 rfl)) rfl (fun _ _ => rfl) (kA rfl) (by decide) ?_
  refine pxV (v := (.int .u32 ((((sr32 x n).toNat) : Nat) : Int))) (fun _ _ hF => opShrW (u := x) (n := n) rfl (hF.ev 1 rfl) (hF.ev 0 rfl) (by omega) rfl) rfl (fun _ _ => rfl) (kM [false, false, true, true] rfl rfl) (by decide) ?_
  refine pxV (v := (.int .u32 (((x.toNat) : Nat) : Int))) (fun _ _ hF => opMove rfl (hF.ev 1 rfl)) rfl (fun _ _ => rfl) (kM [true, false, true] rfl rfl) (by decide) ?_
  refine pxV (v := (.int .u64 (((n) : Nat) : Int))) (fun _ _ hF => opMove rfl (hF.ev 2 rfl)) rfl (fun _ _ => rfl) (kM [true, true, false] rfl rfl) (by decide) ?_
  refine pxV (v := (.int .u64 (((32 - n) : Nat) : Int))) (fun _ _ hF => opSubU (m := 32) (j := n) (z := (32 - n)) rfl rfl rfl (hF.ev 0 rfl) (by show n ≤ 18446744073709551616; omega) (by show (32 + (18446744073709551616 - n)) % 18446744073709551616 = _; omega)) rfl (fun _ _ => rfl) (kM [false, true, true] rfl rfl) (by decide) ?_
  refine pxV (v := (.int .u32 ((((sl32 x (32 - n)).toNat) : Nat) : Int))) (fun _ _ hF => opShlW (u := x) (n := 32 - n) rfl (hF.ev 1 rfl) (hF.ev 0 rfl) (by omega) rfl) rfl (fun _ _ => rfl) (kM [false, false, true] rfl rfl) (by decide) ?_
  refine pxV (v := (.int .u32 ((((rr32 x n).toNat) : Nat) : Int))) (fun _ _ hF => opOrW (u := (sr32 x n)) (v := (sl32 x (32 - n))) rfl (hF.ev 1 rfl) (hF.ev 0 rfl) rfl) rfl (fun _ _ => rfl) (kM [false, false] rfl rfl) (by decide) ?_
  refine pxV (v := (.int .u32 ((((rr32 x n).toNat) : Nat) : Int))) (fun _ _ hF => opAssign rfl (hF.ev 0 rfl)) rfl (fun _ _ => rfl) (kM [false] rfl rfl) (by decide) ?_
  refine pxEnd ?_
  refine qxThen ?_
  refine cxRet ?_
  refine qxRet1 0 rfl rfl ?_
  exact ⟨rfl, HH.toBelow hH⟩

set_option maxHeartbeats 8000000 in
theorem rk_c  : Pure Tryd.prog 19 #[] (fun _ => True) ((cWs 64).val K32) := by
  refine pure_of (fn := Tryd.f19) Tryd.func19 rfl Tryd.ntmps19 (Nat.le_of_ble_eq_true rfl) rfl ?_
  intro w0 hH hR
  refine cxSeq ?_
  refine cxReg ?_
  refine pxM hH (fun _ hF => smAlloc (cs := (cWs 64).enc (fun _ => 0)) (z := ((cWs 64).val (fun _ => 0))) rfl (by kernel_rfl) rfl) trivial rfl (fun _ _ => rfl) (kA rfl) (by decide) ?_
  clear hH
  rintro _ _ w ⟨g1, rfl, rfl⟩ hH
  replace hH : HH w0 [] [[bl g1 46 ((cWs 64).enc (fun _ => 0))]] w := hH
  refine pxEnd ?_
  refine qxThen ?_
  refine cxSeq ?_
  refine cxReg ?_
  refine pxV (v := ((cWs 64).val K32)) (fun _ _ hF => opBuildP (cells := (cWs 64).enc K32) (vals := [(0, (.int .u32 1116352408)), (1, (.int .u32 1899447441)), (2, (.int .u32 3049323471)), (3, (.int .u32 3921009573)), (4, (.int .u32 961987163)), (5, (.int .u32 1508970993)), (6, (.int .u32 2453635748)), (7, (.int .u32 2870763221)), (8, (.int .u32 3624381080)), (9, (.int .u32 310598401)), (10, (.int .u32 607225278)), (11, (.int .u32 1426881987)), (12, (.int .u32 1925078388)), (13, (.int .u32 2162078206)), (14, (.int .u32 2614888103)), (15, (.int .u32 3248222580)), (16, (.int .u32 3835390401)), (17, (.int .u32 4022224774)), (18, (.int .u32 264347078)), (19, (.int .u32 604807628)), (20, (.int .u32 770255983)), (21, (.int .u32 1249150122)), (22, (.int .u32 1555081692)), (23, (.int .u32 1996064986)), (24, (.int .u32 2554220882)), (25, (.int .u32 2821834349)), (26, (.int .u32 2952996808)), (27, (.int .u32 3210313671)), (28, (.int .u32 3336571891)), (29, (.int .u32 3584528711)), (30, (.int .u32 113926993)), (31, (.int .u32 338241895)), (32, (.int .u32 666307205)), (33, (.int .u32 773529912)), (34, (.int .u32 1294757372)), (35, (.int .u32 1396182291)), (36, (.int .u32 1695183700)), (37, (.int .u32 1986661051)), (38, (.int .u32 2177026350)), (39, (.int .u32 2456956037)), (40, (.int .u32 2730485921)), (41, (.int .u32 2820302411)), (42, (.int .u32 3259730800)), (43, (.int .u32 3345764771)), (44, (.int .u32 3516065817)), (45, (.int .u32 3600352804)), (46, (.int .u32 4094571909)), (47, (.int .u32 275423344)), (48, (.int .u32 430227734)), (49, (.int .u32 506948616)), (50, (.int .u32 659060556)), (51, (.int .u32 883997877)), (52, (.int .u32 958139571)), (53, (.int .u32 1322822218)), (54, (.int .u32 1537002063)), (55, (.int .u32 1747873779)), (56, (.int .u32 1955562222)), (57, (.int .u32 2024104815)), (58, (.int .u32 2227730452)), (59, (.int .u32 2361852424)), (60, (.int .u32 2428436474)), (61, (.int .u32 2756734187)), (62, (.int .u32 3204031479)), (63, (.int .u32 3329325298))]) rfl (EvP.cons (v := (.int .u32 1116352408)) rfl (EvP.cons (v := (.int .u32 1899447441)) rfl (EvP.cons (v := (.int .u32 3049323471)) rfl (EvP.cons (v := (.int .u32 3921009573)) rfl (EvP.cons (v := (.int .u32 961987163)) rfl (EvP.cons (v := (.int .u32 1508970993)) rfl (EvP.cons (v := (.int .u32 2453635748)) rfl (EvP.cons (v := (.int .u32 2870763221)) rfl (EvP.cons (v := (.int .u32 3624381080)) rfl (EvP.cons (v := (.int .u32 310598401)) rfl (EvP.cons (v := (.int .u32 607225278)) rfl (EvP.cons (v := (.int .u32 1426881987)) rfl (EvP.cons (v := (.int .u32 1925078388)) rfl (EvP.cons (v := (.int .u32 2162078206)) rfl (EvP.cons (v := (.int .u32 2614888103)) rfl (EvP.cons (v := (.int .u32 3248222580)) rfl (EvP.cons (v := (.int .u32 3835390401)) rfl (EvP.cons (v := (.int .u32 4022224774)) rfl (EvP.cons (v := (.int .u32 264347078)) rfl (EvP.cons (v := (.int .u32 604807628)) rfl (EvP.cons (v := (.int .u32 770255983)) rfl (EvP.cons (v := (.int .u32 1249150122)) rfl (EvP.cons (v := (.int .u32 1555081692)) rfl (EvP.cons (v := (.int .u32 1996064986)) rfl (EvP.cons (v := (.int .u32 2554220882)) rfl (EvP.cons (v := (.int .u32 2821834349)) rfl (EvP.cons (v := (.int .u32 2952996808)) rfl (EvP.cons (v := (.int .u32 3210313671)) rfl (EvP.cons (v := (.int .u32 3336571891)) rfl (EvP.cons (v := (.int .u32 3584528711)) rfl (EvP.cons (v := (.int .u32 113926993)) rfl (EvP.cons (v := (.int .u32 338241895)) rfl (EvP.cons (v := (.int .u32 666307205)) rfl (EvP.cons (v := (.int .u32 773529912)) rfl (EvP.cons (v := (.int .u32 1294757372)) rfl (EvP.cons (v := (.int .u32 1396182291)) rfl (EvP.cons (v := (.int .u32 1695183700)) rfl (EvP.cons (v := (.int .u32 1986661051)) rfl (EvP.cons (v := (.int .u32 2177026350)) rfl (EvP.cons (v := (.int .u32 2456956037)) rfl (EvP.cons (v := (.int .u32 2730485921)) rfl (EvP.cons (v := (.int .u32 2820302411)) rfl (EvP.cons (v := (.int .u32 3259730800)) rfl (EvP.cons (v := (.int .u32 3345764771)) rfl (EvP.cons (v := (.int .u32 3516065817)) rfl (EvP.cons (v := (.int .u32 3600352804)) rfl (EvP.cons (v := (.int .u32 4094571909)) rfl (EvP.cons (v := (.int .u32 275423344)) rfl (EvP.cons (v := (.int .u32 430227734)) rfl (EvP.cons (v := (.int .u32 506948616)) rfl (EvP.cons (v := (.int .u32 659060556)) rfl (EvP.cons (v := (.int .u32 883997877)) rfl (EvP.cons (v := (.int .u32 958139571)) rfl (EvP.cons (v := (.int .u32 1322822218)) rfl (EvP.cons (v := (.int .u32 1537002063)) rfl (EvP.cons (v := (.int .u32 1747873779)) rfl (EvP.cons (v := (.int .u32 1955562222)) rfl (EvP.cons (v := (.int .u32 2024104815)) rfl (EvP.cons (v := (.int .u32 2227730452)) rfl (EvP.cons (v := (.int .u32 2361852424)) rfl (EvP.cons (v := (.int .u32 2428436474)) rfl (EvP.cons (v := (.int .u32 2756734187)) rfl (EvP.cons (v := (.int .u32 3204031479)) rfl (EvP.cons (v := (.int .u32 3329325298)) rfl EvP.nil)))))))))))))))))))))))))))))))))))))))))))))))))))))))))))))))) (by kernel_rfl) _) rfl (fun _ _ => rfl) (kA rfl) (by decide) ?_
  refine pxE0 0 hH rfl (fun _ hF => smStoreT (C := (cWs 64)) (z := K32) rfl (hF.ev 1 rfl) (hF.ev 0 rfl) rfl (by kernel_rfl) (by rw [Cod.size]; exact Nat.le_refl _) (put_whole (cWs 64) _ _)) trivial rfl (fun _ _ => rfl) ?_
  clear hH
  rintro _ _ w rfl hH
  replace hH : HH w0 [] [[bl g1 46 ((cWs 64).enc K32)]] w := hH
  refine pxEnd ?_
  refine qxThen ?_
  refine cxRet ?_
  refine qxRetC 1 (hH.blk 0 rfl) rfl rfl (by kernel_rfl) (Cod.size _ _) (by kernel_rfl) ?_
  exact ⟨rfl, HH.toBelow hH⟩

set_option maxHeartbeats 8000000 in
theorem rpad_c (A : Option Addr) (n c : Nat) (l : List UInt8) (hb : n ≤ 140737488351232) : Does Tryd.prog 20 #[(.slice A n c), (.int .i64 64), (.int .i64 8)] [] (fun w => Vu cByte w A n c l) (fun v E' => OwnT cByte 5 v (pdM l) E') := by
  refine does_of (fn := Tryd.f20) Tryd.func20 rfl Tryd.ntmps20 (Nat.le_of_ble_eq_true rfl) rfl ?_
  intro w0 hH hR
  replace hH : HH w0 [] [] w0 := hH.only [false]
  have hn := hR.len
  have hnb := nb32_ge n
  refine cxSeq ?_
  refine cxReg ?_
  refine pxV (v := (.slice none 0 0)) (fun _ _ hF => opAssign rfl rfl) rfl (fun _ _ => rfl) (kA rfl) (by decide) ?_
  refine pxEnd ?_
  refine qxThen ?_
  refine cxSeq ?_
  refine cxReg ?_
  refine pxM hH (fun _ hF => smLit0 (e := 5) rfl (by kernel_rfl) (by kernel_rfl)) trivial rfl (fun _ _ => rfl) (kM [false, true, true, true] rfl rfl) (by decide) ?_
  clear hH
  rintro _ _ w ⟨g1, rfl, rfl⟩ hH
  replace hH : HH w0 [] [[bl g1 5 #[]]] w := hH
  refine pxV (v := (.slice A n c)) (fun _ _ hF => opMove rfl (hF.ev 1 rfl)) rfl (fun _ _ => rfl) (kA rfl) (by decide) ?_
  refine pxE 0 hH rfl (fun _ hF => smAppT (C := cByte) (l := []) (m := l) (e := 5) (z := (.int .u8 0)) (by_ := 1) rfl (by kernel_rfl) (by kernel_rfl) rfl (ltb rfl) (hF.ev 1 rfl) ((Bk.lit0 (C := cByte)).own 5 g1 rfl) (hF.ev 0 rfl) hn (fun h => ⟨by have := hR.nil h; have := hR.cap; omega, hR.nil h⟩) (by rw [List.length_nil]; unfold maxLen; omega) (by rw [List.length_nil]; omega)) (hH.vu hR (by decide) (Off.nil _ _)) rfl (fun _ _ => rfl) (kM [false, false, true, true, true] rfl rfl) (by decide) ?_
  clear hH
  rintro v4 E5 w ⟨hO6, _⟩ hH
  replace hH : HH w0 [] [E5] w := hH
  replace hO6 : OwnT cByte 5 v4 l E5 := hO6
  obtain ⟨A2, c3, rfl⟩ := hO6.slice
  refine pxV (v := (.slice A2 l.length c3)) (fun _ _ hF => opAssign rfl (hF.ev 0 rfl)) rfl (fun _ _ => rfl) (kM [false, true, true, true] rfl rfl) (by decide) ?_
  refine pxEnd ?_
  refine qxThen ?_
  refine cxSeq ?_
  refine cxReg ?_
  refine pxV (v := (.slice A2 l.length c3)) (fun _ _ hF => opMove rfl (hF.ev 0 rfl)) rfl (fun _ _ => rfl) (kM [false, true, true, true] rfl rfl) (by decide) ?_
  refine pxM hH (fun _ hF => smLit1 (e := 5) (sz := 1) (z := (.int .u8 0)) (by_ := 1) (cs := cByte.enc 128) rfl (by kernel_rfl) (by kernel_rfl) rfl (cByte.len 128) (ltb rfl) (leb rfl) rfl) trivial rfl (fun _ _ => rfl) (kA rfl) (by decide) ?_
  clear hH
  rintro _ _ w ⟨g7, rfl, rfl⟩ hH
  replace hH : HH w0 [] [E5, [bl g7 5 (cByte.enc 128)]] w := hH
  refine pxE 0 hH rfl (fun _ hF => smAppT (C := cByte) (l := l) (m := [128]) (e := 5) (z := (.int .u8 0)) (by_ := 1) rfl (by kernel_rfl) (by kernel_rfl) rfl (ltb rfl) (hF.ev 1 rfl) hO6 (hF.ev 0 rfl) rfl (fun h => by cases h) (by unfold maxLen; omega) (by omega)) ((Bk.lit1 (C := cByte) 128).vu (n := 1) (hH.blk 1 rfl) rfl) rfl (fun _ _ => rfl) (kM [false, false, true, true, true] rfl rfl) (by decide) ?_
  clear hH
  rintro v10 E11 w ⟨hO12, _⟩ hH
  replace hH : HH w0 [] [E11, [bl g7 5 (cByte.enc 128)]] w := hH
  replace hO12 : OwnT cByte 5 v10 (l ++ [128]) E11 := hO12
  obtain ⟨A8, c9, rfl⟩ := hO12.slice
  refine pxV (v := (.slice A8 ((l ++ [128]).length) c9)) (fun _ _ hF => opAssign rfl (hF.ev 0 rfl)) rfl (fun _ _ => rfl) (kM [false, true, true, true] rfl rfl) (by decide) ?_
  refine pxEnd ?_
  refine qxThen ?_
  refine cxSeq ?_
  refine cxBlock ?_
  replace hH : HH w0 [] [E11] w := hH.only [true]
  refine cxLoop (σ := Nat × (Option Addr) × Nat × (List UInt8) × Hl) (fun x => [(7, (.slice x.2.1 x.2.2.2.1.length x.2.2.1)), (2, (.int .i64 8)), (1, (.int .i64 64)), (0, (.slice A n c))]) (fun x w => HH w0 [] [x.2.2.2.2] w ∧ (OwnT cByte 5 (.slice x.2.1 x.2.2.2.1.length x.2.2.1) x.2.2.2.1 x.2.2.2.2) ∧ (x.2.2.2.1 = mzL l x.1) ∧ (x.2.2.2.1.length = n + 1 + x.1) ∧ (n + 1 + x.1 + 8 ≤ 64 * nb32 n)) (fun x => 64 * nb32 n - (n + 1 + x.1)) (0, A8, c9, (l ++ [128]), E11) ⟨hH, hO12, (by simp [mzL]), (by rw [List.length_append, hn]; rfl), (by omega)⟩ (slots_at [0, 3, 2, 1] rfl) ?_
  clear hH
  rintro ⟨z, A1, c1, L, E1⟩ w ⟨hH, hO, hL, hlen, hz⟩
  change CX _ _ _ _ [(7, (.slice A1 L.length c1)), (2, (.int .i64 8)), (1, (.int .i64 64)), (0, (.slice A n c))] _
  replace hH : HH w0 [] [E1] w := hH
  replace hO : OwnT cByte 5 (.slice A1 L.length c1) L E1 := hO
  replace hL : L = mzL l z := hL
  replace hlen : L.length = n + 1 + z := hlen
  replace hz : n + 1 + z + 8 ≤ 64 * nb32 n := hz
  refine cxSeq ?_
  refine cxSeq ?_
  refine cxReg ?_
  refine pxV (v := (.slice A1 L.length c1)) (fun _ _ hF => opMove rfl (hF.ev 0 rfl)) rfl (fun _ _ => rfl) (kA rfl) (by decide) ?_
  refine pxV (v := (.int .i64 (((L.length) : Nat) : Int))) (fun _ _ hF => opLen (e := 5) rfl (by kernel_rfl) (hF.ev 0 rfl)) rfl (fun _ _ => rfl) (kM [false, true, true, true, true] rfl rfl) (by decide) ?_
  refine pxV (v := (.int .i64 8)) (fun _ _ hF => opMove rfl (hF.ev 2 rfl)) rfl (fun _ _ => rfl) (kA rfl) (by decide) ?_
  refine pxV (v := (.int .i64 (((L.length + 8) : Nat) : Int))) (fun _ _ hF => opAdd rfl (hF.ev 1 rfl) (hF.ev 0 rfl) (wI (by omega) (by omega) (by omega))) rfl (fun _ _ => rfl) (kM [false, false, true, true, true, true] rfl rfl) (by decide) ?_
  refine pxV (v := (.int .i64 64)) (fun _ _ hF => opMove rfl (hF.ev 3 rfl)) rfl (fun _ _ => rfl) (kA rfl) (by decide) ?_
  refine pxV (v := (.int .i64 ((((L.length + 8) % 64) : Nat) : Int))) (fun _ _ hF => opRem (z := (((L.length + 8) % 64 : Nat) : Int)) rfl (hF.ev 1 rfl) (hF.ev 0 rfl) (by omega) remN) rfl (fun _ _ => rfl) (kM [false, false, true, true, true, true] rfl rfl) (by decide) ?_
  refine pxV (v := (.bool (decide ((L.length + 8) % 64 ≠ 0)))) (fun _ _ hF => opNeI rfl (hF.ev 0 rfl) rfl (dc (by omega))) rfl (fun _ _ => rfl) (kM [false, true, true, true, true] rfl rfl) (by decide) ?_
  refine pxEnd ?_
  refine qxThen ?_
  refine cxP 0 rfl rfl (fun hc13 => ?_) (fun hc13 => ?_)
  · refine cxSkip ?_
    refine qxThen ?_
    refine cxBlock ?_
    refine cxReg ?_
    refine pxV (v := (.slice A1 L.length c1)) (fun _ _ hF => opMove rfl (hF.ev 1 rfl)) rfl (fun _ _ => rfl) (kM [false, false, true, true, true] rfl rfl) (by decide) ?_
    refine pxM hH (fun _ hF => smLit1 (e := 5) (sz := 1) (z := (.int .u8 0)) (by_ := 1) (cs := cByte.enc 0) rfl (by kernel_rfl) (by kernel_rfl) rfl (cByte.len 0) (ltb rfl) (leb rfl) rfl) trivial rfl (fun _ _ => rfl) (kA rfl) (by decide) ?_
    clear hH
    rintro _ _ w ⟨g14, rfl, rfl⟩ hH
    replace hH : HH w0 [] [E1, [bl g14 5 (cByte.enc 0)]] w := hH
    refine pxE 0 hH rfl (fun _ hF => smAppT (C := cByte) (l := L) (m := [0]) (e := 5) (z := (.int .u8 0)) (by_ := 1) rfl (by kernel_rfl) (by kernel_rfl) rfl (ltb rfl) (hF.ev 1 rfl) hO (hF.ev 0 rfl) rfl (fun h => by cases h) (by unfold maxLen; omega) (by omega)) ((Bk.lit1 (C := cByte) 0).vu (n := 1) (hH.blk 1 rfl) rfl) rfl (fun _ _ => rfl) (kM [false, false, true, true, true] rfl rfl) (by decide) ?_
    clear hH
    rintro v17 E18 w ⟨hO19, _⟩ hH
    replace hH : HH w0 [] [E18, [bl g14 5 (cByte.enc 0)]] w := hH
    replace hO19 : OwnT cByte 5 v17 (L ++ [0]) E18 := hO19
    obtain ⟨A15, c16, rfl⟩ := hO19.slice
    refine pxV (v := (.slice A15 ((L ++ [0]).length) c16)) (fun _ _ hF => opAssign rfl (hF.ev 0 rfl)) rfl (fun _ _ => rfl) (kM [false, true, true, true] rfl rfl) (by decide) ?_
    refine pxEnd ?_
    refine qxInN ?_
    replace hH : HH w0 [] [E18] w := hH.only [true, false]
    exact qxRound (z + 1, A15, c16, (L ++ [0]), E18) ⟨hH, hO19, (by rw [hL, mzL_step]), (show (L ++ [0]).length = n + 1 + (z + 1) from (by rw [List.length_append, hlen]; show n + 1 + z + 1 = _; omega)), (show n + 1 + (z + 1) + 8 ≤ 64 * nb32 n from by omega)⟩ (by omega) (slots_at [0, 1, 2, 3] rfl)
  · refine cxExit ?_
    refine qxThenE ?_
    refine qxThenE ?_
    refine qxInE ?_
    refine qxThen ?_
    refine cxSeq ?_
    have hze : n + 1 + z + 8 = 64 * nb32 n := by omega
    refine cxReg ?_
    refine pxV (v := (.slice A n c)) (fun _ _ hF => opMove rfl (hF.ev 4 rfl)) rfl (fun _ _ => rfl) (kM [false, true, true, false, false] rfl rfl) (by decide) ?_
    refine pxV (v := (.int .i64 (((n) : Nat) : Int))) (fun _ _ hF => opLen (e := 5) rfl (by kernel_rfl) (hF.ev 0 rfl)) rfl (fun _ _ => rfl) (kM [false, true, true] rfl rfl) (by decide) ?_
    refine pxV (v := (.int .u64 (((n) : Nat) : Int))) (fun _ _ hF => opConvU (k' := .u64) (m := n) rfl rfl (by kernel_rfl) (by kernel_rfl) (hF.ev 0 rfl) (Nat.mod_eq_of_lt (by show _ < 18446744073709551616; omega))) rfl (fun _ _ => rfl) (kM [false, true, true] rfl rfl) (by decide) ?_
    refine pxV (v := (.int .u64 (((n * 8) : Nat) : Int))) (fun _ _ hF => opMulU (m := n) (j := 8) (z := (n * 8)) rfl rfl (hF.ev 0 rfl) rfl (Nat.mod_eq_of_lt (by show _ < 18446744073709551616; omega))) rfl (fun _ _ => rfl) (kM [false, true, true] rfl rfl) (by decide) ?_
    refine pxV (v := (.int .u64 (((n * 8) : Nat) : Int))) (fun _ _ hF => opAssign rfl (hF.ev 0 rfl)) rfl (fun _ _ => rfl) (kM [false, true, true] rfl rfl) (by decide) ?_
    refine pxEnd ?_
    refine qxThen ?_
    refine cxSeq ?_
    refine cxSeq ?_
    refine cxReg ?_
    refine pxV (v := (.int .i64 8)) (fun _ _ hF => opMove rfl (hF.ev 2 rfl)) rfl (fun _ _ => rfl) (kM [true, true, false] rfl rfl) (by decide) ?_
    refine pxV (v := (.int .i64 7)) (fun _ _ hF => opSub rfl (hF.ev 0 rfl) rfl (by decide)) rfl (fun _ _ => rfl) (kM [false, true, true] rfl rfl) (by decide) ?_
    refine pxV (v := (.int .i64 7)) (fun _ _ hF => opAssign rfl (hF.ev 0 rfl)) rfl (fun _ _ => rfl) (kM [false, true, true] rfl rfl) (by decide) ?_
    refine pxEnd ?_
    refine qxThen ?_
    refine cxBlock ?_
    refine cxLoop (σ := Nat × (Option Addr) × Nat × (List UInt8) × Hl) (fun x => [(9, (.int .i64 (7 - ((x.1 : Nat) : Int)))), (8, (.int .u64 (((n * 8) : Nat) : Int))), (7, (.slice x.2.1 x.2.2.2.1.length x.2.2.1))]) (fun x w => HH w0 [] [x.2.2.2.2] w ∧ (OwnT cByte 5 (.slice x.2.1 x.2.2.2.1.length x.2.2.1) x.2.2.2.1 x.2.2.2.2) ∧ (x.2.2.2.1 = mzL l z ++ be8 (n * 8) x.1) ∧ (x.2.2.2.1.length = n + 1 + z + x.1) ∧ (x.1 ≤ 8)) (fun x => 8 - x.1) (0, A1, c1, L, E1) ⟨hH, hO, (by rw [hL]; simp [be8, lst]), hlen, (Nat.zero_le _)⟩ (slots_at [0, 1, 2] rfl) ?_
    clear hH
    rintro ⟨k, A1, c1, L, E1⟩ w ⟨hH, hO, hL2, hlen2, hk⟩
    change CX _ _ _ _ [(9, (.int .i64 (7 - ((k : Nat) : Int)))), (8, (.int .u64 (((n * 8) : Nat) : Int))), (7, (.slice A1 L.length c1))] _
    replace hH : HH w0 [] [E1] w := hH
    replace hO : OwnT cByte 5 (.slice A1 L.length c1) L E1 := hO
    replace hL2 : L = mzL l z ++ be8 (n * 8) k := hL2
    replace hlen2 : L.length = n + 1 + z + k := hlen2
    replace hk : k ≤ 8 := hk
    refine cxSeq ?_
    refine cxSeq ?_
    refine cxReg ?_
    refine pxV (v := (.int .i64 (7 - ((k : Nat) : Int)))) (fun _ _ hF => opMove rfl (hF.ev 0 rfl)) rfl (fun _ _ => rfl) (kA rfl) (by decide) ?_
    refine pxV (v := (.bool (decide ((7 - ((k : Nat) : Int)) ≥ 0)))) (fun _ _ hF => opGeq rfl (hF.ev 0 rfl) rfl rfl) rfl (fun _ _ => rfl) (kM [false, true, true, true] rfl rfl) (by decide) ?_
    refine pxEnd ?_
    refine qxThen ?_
    refine cxP 0 rfl rfl (fun hc20 => ?_) (fun hc20 => ?_)
    · refine cxSkip ?_
      refine qxThen ?_
      refine cxSeq ?_
      refine cxBlock ?_
      refine cxSeq ?_
      refine cxReg ?_
      refine pxV (v := (.int .i64 (7 - ((k : Nat) : Int)))) (fun _ _ hF => opMove rfl (hF.ev 1 rfl)) rfl (fun _ _ => rfl) (kM [false, true, true, true] rfl rfl) (by decide) ?_
      refine pxV (v := (.bool false)) (fun _ _ hF => opGeq rfl (hF.ev 0 rfl) rfl (decide_eq_false (by omega))) rfl (fun _ _ => rfl) (kM [false, true, true, true] rfl rfl) (by decide) ?_
      refine pxEnd ?_
      refine qxThen ?_
      refine cxF 0 rfl rfl ?_
      refine cxReg ?_
      refine pxV (v := (.slice A1 L.length c1)) (fun _ _ hF => opMove rfl (hF.ev 3 rfl)) rfl (fun _ _ => rfl) (kM [false, true, true, false] rfl rfl) (by decide) ?_
      refine pxV (v := (.int .u64 (((n * 8) : Nat) : Int))) (fun _ _ hF => opMove rfl (hF.ev 2 rfl)) rfl (fun _ _ => rfl) (kA rfl) (by decide) ?_
      refine pxV (v := (.int .i64 (7 - ((k : Nat) : Int)))) (fun _ _ hF => opMove rfl (hF.ev 2 rfl)) rfl (fun _ _ => rfl) (kA rfl) (by decide) ?_
      refine pxV (v := (.int .i64 (((8 * (7 - k)) : Nat) : Int))) (fun _ _ hF => opMul rfl rfl (hF.ev 0 rfl) (wI (by omega) (by omega) (by omega))) rfl (fun _ _ => rfl) (kM [false, true, true, true, true] rfl rfl) (by decide) ?_
      refine pxV (v := (.int .u64 (((8 * (7 - k)) : Nat) : Int))) (fun _ _ hF => opConvU (k' := .u64) (m := 8 * (7 - k)) rfl rfl (by kernel_rfl) (by kernel_rfl) (hF.ev 0 rfl) (Nat.mod_eq_of_lt (by show _ < 18446744073709551616; omega))) rfl (fun _ _ => rfl) (kM [false, true, true, true, true] rfl rfl) (by decide) ?_
      refine pxV (v := (.int .u64 ((((n * 8) / 2 ^ (8 * (7 - k))) : Nat) : Int))) (fun _ _ hF => opShrU (n := 8 * (7 - k)) (z := ((n * 8) / 2 ^ (8 * (7 - k)))) rfl (hF.ev 1 rfl) (hF.ev 0 rfl) (by show _ ≤ 64; omega) (rfl)) rfl (fun _ _ => rfl) (kM [false, false, true, true, true] rfl rfl) (by decide) ?_
      refine pxV (v := (.int .u8 ((((UInt8.ofNat ((n * 8) / 2 ^ (8 * (7 - k)))).toNat) : Nat) : Int))) (fun _ _ hF => opConvU (k' := .u8) rfl rfl (by kernel_rfl) (by kernel_rfl) (hF.ev 0 rfl) (UInt8.toNat_ofNat' (n := (n * 8) / 2 ^ (8 * (7 - k)))).symm) rfl (fun _ _ => rfl) (kM [false, true, true, true] rfl rfl) (by decide) ?_
      refine pxM hH (fun _ hF => smLit1 (e := 5) (sz := 1) (z := (.int .u8 0)) (by_ := 1) (cs := cByte.enc (UInt8.ofNat ((n * 8) / 2 ^ (8 * (7 - k))))) rfl (by kernel_rfl) (by kernel_rfl) (hF.ev 0 rfl) (cByte.len (UInt8.ofNat ((n * 8) / 2 ^ (8 * (7 - k))))) (ltb rfl) (leb rfl) rfl) trivial rfl (fun _ _ => rfl) (kM [false, true, true, true] rfl rfl) (by decide) ?_
      clear hH
      rintro _ _ w ⟨g21, rfl, rfl⟩ hH
      replace hH : HH w0 [] [E1, [bl g21 5 (cByte.enc (UInt8.ofNat ((n * 8) / 2 ^ (8 * (7 - k)))))]] w := hH
      refine pxE 0 hH rfl (fun _ hF => smAppT (C := cByte) (l := L) (m := [(UInt8.ofNat ((n * 8) / 2 ^ (8 * (7 - k))))]) (e := 5) (z := (.int .u8 0)) (by_ := 1) rfl (by kernel_rfl) (by kernel_rfl) rfl (ltb rfl) (hF.ev 1 rfl) hO (hF.ev 0 rfl) rfl (fun h => by cases h) (by unfold maxLen; omega) (by omega)) ((Bk.lit1 (C := cByte) (UInt8.ofNat ((n * 8) / 2 ^ (8 * (7 - k))))).vu (n := 1) (hH.blk 1 rfl) rfl) rfl (fun _ _ => rfl) (kM [false, false, true, true] rfl rfl) (by decide) ?_
      clear hH
      rintro v24 E25 w ⟨hO26, _⟩ hH
      replace hH : HH w0 [] [E25, [bl g21 5 (cByte.enc (UInt8.ofNat ((n * 8) / 2 ^ (8 * (7 - k)))))]] w := hH
      replace hO26 : OwnT cByte 5 v24 (L ++ [(UInt8.ofNat ((n * 8) / 2 ^ (8 * (7 - k))))]) E25 := hO26
      obtain ⟨A22, c23, rfl⟩ := hO26.slice
      refine pxV (v := (.slice A22 ((L ++ [(UInt8.ofNat ((n * 8) / 2 ^ (8 * (7 - k))))]).length) c23)) (fun _ _ hF => opAssign rfl (hF.ev 0 rfl)) rfl (fun _ _ => rfl) (kM [false, true, true] rfl rfl) (by decide) ?_
      refine pxEnd ?_
      refine qxInN ?_
      refine qxThen ?_
      refine cxReg ?_
      refine pxV (v := (.int .i64 (7 - ((k : Nat) : Int)))) (fun _ _ hF => opMove rfl (hF.ev 1 rfl)) rfl (fun _ _ => rfl) (kM [true, false, true] rfl rfl) (by decide) ?_
      refine pxV (v := (.int .i64 (7 - ((k + 1 : Nat) : Int)))) (fun _ _ hF => opSub rfl (hF.ev 0 rfl) rfl (wI (by omega) (by omega) (by omega))) rfl (fun _ _ => rfl) (kM [false, true, true] rfl rfl) (by decide) ?_
      refine pxV (v := (.int .i64 (7 - ((k + 1 : Nat) : Int)))) (fun _ _ hF => opAssign rfl (hF.ev 0 rfl)) rfl (fun _ _ => rfl) (kM [false, true, true] rfl rfl) (by decide) ?_
      refine pxEnd ?_
      replace hH : HH w0 [] [E25] w := hH.only [true, false]
      exact qxRound (k + 1, A22, c23, (L ++ [(UInt8.ofNat ((n * 8) / 2 ^ (8 * (7 - k))))]), E25) ⟨hH, hO26, (by rw [hL2, List.append_assoc]; unfold be8; rw [lst_succ]), (show (L ++ [(UInt8.ofNat ((n * 8) / 2 ^ (8 * (7 - k))))]).length = n + 1 + z + (k + 1) from (by rw [List.length_append, hlen2]; show n + 1 + z + k + 1 = _; omega)), (show (k + 1) ≤ 8 from (by omega))⟩ (by omega) (slots_at [0, 2, 1] rfl)
    · refine cxExit ?_
      refine qxThenE ?_
      refine qxThenE ?_
      refine qxInE ?_
      refine qxThen ?_
      refine cxSeq ?_
      refine cxReg ?_
      refine pxV (v := (.slice A1 L.length c1)) (fun _ _ hF => opMove rfl (hF.ev 3 rfl)) rfl (fun _ _ => rfl) (kM [false, false, false, false] rfl rfl) (by decide) ?_
      refine pxV (v := (.slice A1 L.length c1)) (fun _ _ hF => opAssign rfl (hF.ev 0 rfl)) rfl (fun _ _ => rfl) (kM [false] rfl rfl) (by decide) ?_
      refine pxEnd ?_
      refine qxThen ?_
      refine cxRet ?_
      refine qxRet1 0 rfl rfl ?_
      obtain rfl : k = 8 := by omega
      subst hn
      rw [pdM_all hze] at hL2
      subst hL2
      exact ⟨_, _, rfl, hO, hH.out1 [true] rfl⟩
end Go.Proofs.YticflflbogdljaaDoor
