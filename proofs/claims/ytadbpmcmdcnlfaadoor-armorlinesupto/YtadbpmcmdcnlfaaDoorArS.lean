/- The program's sumLine. -/
import Derived.Test.YtadbpmcmdcnlfaaDoorArA
import Derived.Test.YtadbpmcmdcnlfaaDoorLbA
namespace Go.Proofs.YtadbpmcmdcnlfaaDoor
open Go Go.RowKit
set_option maxRecDepth 100000

set_option maxHeartbeats 8000000 in
theorem sumline_c (l : List UInt8) (A : Option Addr) (c : Nat) (hl : l.length ≤ 1099511627776) : Pure Tryd.prog 23 #[(.slice A l.length c)] (fun w => Vu cByte w A l.length c l) (.string (strL (sumL l))) := by
  refine pure_of (fn := Tryd.f23) Tryd.func23 rfl Tryd.ntmps23 (Nat.le_of_ble_eq_true rfl) rfl ?_
  intro w0 hH hR
  have hc24 := crc_lt l
  have hcl := hR.len
  have hcc := hR.cap
  refine cxSeq ?_
  refine cxReg ?_
  refine pxV (v := (.string (strL ([])))) (fun _ _ hF => opAssign rfl rfl) rfl (fun _ _ => rfl) (kA rfl) (by decide) ?_
  refine pxEnd ?_
  refine qxThen ?_
  refine cxSeq ?_
  refine cxReg ?_
  refine pxV (v := (.slice A l.length c)) (fun _ _ hF => opMove rfl (hF.ev 1 rfl)) rfl (fun _ _ => rfl) (kM [false, false] rfl rfl) (by decide) ?_
  refine pxM hH (fun _ hF => Does.small ((sum_c l A c (by omega) ).does) (fun w => opCall rfl Tryd.func16 rfl rfl (Evs.cons (v := (.slice A l.length c)) (hF.ev 0 rfl) Evs.nil) w)) (hH.vu hR (by decide) (Off.nil _ _)) rfl (fun _ _ => rfl) (kM [false] rfl rfl) (by decide) ?_
  clear hH
  rintro _ _ w ⟨rfl, rfl⟩ hH
  replace hH : HH w0 [] [] w := hH.unpad
  refine pxV (v := (.int .u32 (((crc l) : Nat) : Int))) (fun _ _ hF => opAssign rfl (hF.ev 0 rfl)) rfl (fun _ _ => rfl) (kM [false] rfl rfl) (by decide) ?_
  refine pxEnd ?_
  refine qxThen ?_
  refine cxSeq ?_
  refine cxReg ?_
  refine pxV (v := (.int .u32 (((crc l) : Nat) : Int))) (fun _ _ hF => opMove rfl (hF.ev 0 rfl)) rfl (fun _ _ => rfl) (kA rfl) (by decide) ?_
  refine pxV (v := (.int .u32 (((crc l / 65536) : Nat) : Int))) (fun _ _ hF => opShrU (n := 16) (z := (crc l / 65536)) rfl (hF.ev 0 rfl) rfl (leb rfl) (rfl)) rfl (fun _ _ => rfl) (kM [false, true] rfl rfl) (by decide) ?_
  refine pxV (v := (.int .u8 ((((UInt8.ofNat (crc l / 65536)).toNat) : Nat) : Int))) (fun _ _ hF => opConvU (k' := .u8) rfl rfl (by kernel_rfl) (by kernel_rfl) (hF.ev 0 rfl) (UInt8.toNat_ofNat' (n := crc l / 65536)).symm) rfl (fun _ _ => rfl) (kM [false, true] rfl rfl) (by decide) ?_
  refine pxV (v := (.int .u32 (((crc l) : Nat) : Int))) (fun _ _ hF => opMove rfl (hF.ev 1 rfl)) rfl (fun _ _ => rfl) (kA rfl) (by decide) ?_
  refine pxV (v := (.int .u32 (((crc l / 256) : Nat) : Int))) (fun _ _ hF => opShrU (n := 8) (z := (crc l / 256)) rfl (hF.ev 0 rfl) rfl (leb rfl) (rfl)) rfl (fun _ _ => rfl) (kM [false, true, true] rfl rfl) (by decide) ?_
  refine pxV (v := (.int .u8 ((((UInt8.ofNat (crc l / 256)).toNat) : Nat) : Int))) (fun _ _ hF => opConvU (k' := .u8) rfl rfl (by kernel_rfl) (by kernel_rfl) (hF.ev 0 rfl) (UInt8.toNat_ofNat' (n := crc l / 256)).symm) rfl (fun _ _ => rfl) (kM [false, true, true] rfl rfl) (by decide) ?_
  refine pxV (v := (.int .u32 (((crc l) : Nat) : Int))) (fun _ _ hF => opMove rfl (hF.ev 2 rfl)) rfl (fun _ _ => rfl) (kM [true, true, false] rfl rfl) (by decide) ?_
  refine pxV (v := (.int .u8 ((((UInt8.ofNat (crc l)).toNat) : Nat) : Int))) (fun _ _ hF => opConvU (k' := .u8) rfl rfl (by kernel_rfl) (by kernel_rfl) (hF.ev 0 rfl) (UInt8.toNat_ofNat' (n := crc l)).symm) rfl (fun _ _ => rfl) (kM [false, true, true] rfl rfl) (by decide) ?_
  refine pxM hH (fun _ hF => smLits (C := cByte) (e := 5) (z := (.int .u8 0)) (by_ := 1) [(UInt8.ofNat (crc l / 65536)), (UInt8.ofNat (crc l / 256)), (UInt8.ofNat (crc l))] rfl (by kernel_rfl) (by kernel_rfl) (EvP.cons (v := cByte.val (UInt8.ofNat (crc l / 65536))) (hF.ev 2 rfl) (EvP.cons (v := cByte.val (UInt8.ofNat (crc l / 256))) (hF.ev 1 rfl) (EvP.cons (v := cByte.val (UInt8.ofNat (crc l))) (hF.ev 0 rfl) EvP.nil))) rfl (ltb rfl) (leb rfl) rfl) trivial rfl (fun _ _ => rfl) (kM [false, false, false] rfl rfl) (by decide) ?_
  clear hH
  rintro _ _ w ⟨g1, rfl, rfl⟩ hH
  replace hH : HH w0 [] [[bl g1 5 (flat cByte [(UInt8.ofNat (crc l / 65536)), (UInt8.ofNat (crc l / 256)), (UInt8.ofNat (crc l))]).toArray]] w := hH
  refine pxM hH (fun _ hF => Does.small ((base64_c ([(UInt8.ofNat (crc l / 65536)), (UInt8.ofNat (crc l / 256)), (UInt8.ofNat (crc l))]) (some ⟨g1, 0, none⟩) 3 (leb rfl)).does) (fun w => opCall rfl Tryd.func22 rfl rfl (Evs.cons (v := (.slice (some ⟨g1, 0, none⟩) 3 3)) (hF.ev 0 rfl) Evs.nil) w)) ((Bk.lits (C := cByte) [(UInt8.ofNat (crc l / 65536)), (UInt8.ofNat (crc l / 256)), (UInt8.ofNat (crc l))] (by show 3 ≤ _; unfold maxLen; decide)).vu (n := 3) (hH.blk 0 rfl) rfl) rfl (fun _ _ => rfl) (kM [false] rfl rfl) (by decide) ?_
  clear hH
  rintro _ _ w ⟨rfl, rfl⟩ hH
  replace hH : HH w0 [] [[bl g1 5 (flat cByte [(UInt8.ofNat (crc l / 65536)), (UInt8.ofNat (crc l / 256)), (UInt8.ofNat (crc l))]).toArray]] w := hH.unpad
  refine pxV (v := (.string (strL ([61] ++ (b64 ([(UInt8.ofNat (crc l / 65536)), (UInt8.ofNat (crc l / 256)), (UInt8.ofNat (crc l))])))))) (fun _ _ hF => opAddL (l := [61]) (m := (b64 ([(UInt8.ofNat (crc l / 65536)), (UInt8.ofNat (crc l / 256)), (UInt8.ofNat (crc l))]))) (r := ([61] ++ (b64 ([(UInt8.ofNat (crc l / 65536)), (UInt8.ofNat (crc l / 256)), (UInt8.ofNat (crc l))])))) rfl rfl (hF.ev 0 rfl) (by rw [b64_len]; simp only [List.length_cons, List.length_nil]; omega) (rfl)) rfl (fun _ _ => rfl) (kM [false] rfl rfl) (by decide) ?_
  refine pxV (v := (.string (strL ([61] ++ (b64 ([(UInt8.ofNat (crc l / 65536)), (UInt8.ofNat (crc l / 256)), (UInt8.ofNat (crc l))])))))) (fun _ _ hF => opAssign rfl (hF.ev 0 rfl)) rfl (fun _ _ => rfl) (kM [false] rfl rfl) (by decide) ?_
  refine pxEnd ?_
  refine qxThen ?_
  refine cxRet ?_
  refine qxRet1 0 rfl rfl ?_
  exact ⟨rfl, hH.toBelow⟩

end Go.Proofs.YtadbpmcmdcnlfaaDoor
