/- The document's Encrypt and Decrypt, by a key. -/
import Derived.Test.YtcpfiimbobijlaaDoorRDec
import Derived.Test.YtcpfiimbobijlaaDoorRNew
import Derived.Test.YtcpfiimbobijlaaDoorRNewB
import Derived.Test.YtcpfiimbobijlaaDoorAwake
namespace Go.Proofs.YtcpfiimbobijlaaDoor
open Go Go.RowKit
set_option maxRecDepth 100000

set_option maxHeartbeats 1000000 in
theorem REncrypt_bad (A : Option Addr) (n c : Nat) (inp : Nat → UInt8) (w : World) (h1 : n ≠ 16) (h2 : n ≠ 32) :
    Calls Tryd.prog 15 #[.slice A n c, .agg (row 16 inp)] w fun e w' => e = .returned (.tuple #[.agg (row 16 fun _ => 0), .int .i64 1]) ∧ Below w.heap.size w w' := by
  go_enter Tryd.func15, Tryd.ntmps15
  go_wp2_with (first | (go_at_call 30; refine (New_no A n c _ h1 h2).mono ?_; rintro e w' ⟨rfl, hw⟩; have hw := hw.symm; subst hw))
  obtain ⟨h0, h4, h3⟩ := two_new w 23 inp (fun _ => 0) 16 16 23
  rw [zero16]
  exact ret_Row_tmp rfl rfl _ _ 16 _ _ _ rfl rfl h4 und16 size16 ⟨rfl, h3⟩

set_option maxHeartbeats 1000000 in
theorem RDecrypt_bad (A : Option Addr) (n c : Nat) (inp : Nat → UInt8) (w : World) (h1 : n ≠ 16) (h2 : n ≠ 32) :
    Calls Tryd.prog 17 #[.slice A n c, .agg (row 16 inp)] w fun e w' => e = .returned (.tuple #[.agg (row 16 fun _ => 0), .int .i64 1]) ∧ Below w.heap.size w w' := by
  go_enter Tryd.func17, Tryd.ntmps17
  go_wp2_with (first | (go_at_call 30; refine (New_no A n c _ h1 h2).mono ?_; rintro e w' ⟨rfl, hw⟩; have hw := hw.symm; subst hw))
  obtain ⟨h0, h4, h3⟩ := two_new w 23 inp (fun _ => 0) 16 16 23
  rw [zero16]
  exact ret_Row_tmp rfl rfl _ _ 16 _ _ _ rfl rfl h4 und16 size16 ⟨rfl, h3⟩

set_option maxHeartbeats 2000000 in
theorem REncrypt16 (key W inp : Nat → UInt8) (b off c : Nat) (w : World) (hkey : ∀ j, j < 16 → w.cell? ⟨b, off + j, none⟩ = some (.int .u8 ((key j).toNat : Int))) (hW : Sched boxF 4 key W) :
    Calls Tryd.prog 15 #[.slice (some ⟨b, off, none⟩) 16 c, .agg (row 16 inp)] w fun e w' => e = .returned (.tuple #[.agg (row 16 (enc boxF 10 W inp)), .int .i64 0]) ∧ Below w.heap.size w w' := by
  have hb0 : b < w.heap.size := block_lt_of_cell (hkey 0 (by omega))
  obtain ⟨X, hX⟩ : ∃ X, X = enc boxF 10 W inp := ⟨_, rfl⟩
  rw [← hX]
  have HX := Lib.hid hX
  clear hX
  go_enter Tryd.func15, Tryd.ntmps15
  go_upto_region 1 with (fail)
  rw [zero16]
  obtain ⟨h0, h4, h3⟩ := two_new w 23 inp (fun _ => 0) 16 16 23
  have hkey1 : ∀ j, j < 16 → ((w.alloc (.cells (row 16 inp) 23)).alloc (.cells (row 16 fun _ => 0) 23)).cell? ⟨b, off + j, none⟩ = some (.int .u8 ((key j).toNat : Int)) := fun j hj => (h3.cell (p := ⟨b, off + j, none⟩) hb0).trans (hkey j hj)
  clear hkey
  revert h0 h4 h3 hkey1
  generalize (w.alloc (.cells (row 16 inp) 23)).alloc (.cells (row 16 fun _ => 0) 23) = w1
  intro h0 h4 h3 hkey1
  have HK := Lib.hid hkey1
  clear hkey1
  go_wp2_with (fail)
  refine (New16 key W b off c w1 HK.out hW).mono ?_
  rintro e w2 ⟨g, rfl, hg, hci, hb2⟩
  have h0 := h0.below hb2 h0.lt
  have h4 := h4.below hb2 h4.lt
  have h3 := h3.trans (hb2.mono h3.size)
  clear hb2
  go_wp2_with (refine wpList_load_Row rfl 23 _ rfl w.heap.size rfl 23 16 inp _ h0 und16 size16 ?_)
  have hc := Cipher_enc W inp g (4 * (4 * 4 + 28)) 10 (4 + 6) w2 rfl (by omega) (by omega) (by omega) hci
  rw [← HX.out] at hc
  refine hc.mono ?_
  rintro e w3 ⟨rfl, hb2⟩
  have h4 := h4.below hb2 h4.lt
  have h3 := h3.trans (hb2.mono h3.size)
  clear hb2 hci h0 hc
  go_wp2_with (refine wpList_store_Row rfl 23 _ _ rfl (w.heap.size + 1) rfl 23 16 (fun _ => 0) X rfl h4 size16 ?_)
  exact ret_Row_tmp rfl rfl _ _ 16 _ _ (.int .i64 0) rfl rfl (h4.setRow X) und16 size16 ⟨rfl, below_setRow8 h3 (by omega) _⟩

set_option maxHeartbeats 2000000 in
theorem RDecrypt16 (key W inp : Nat → UInt8) (b off c : Nat) (w : World) (hkey : ∀ j, j < 16 → w.cell? ⟨b, off + j, none⟩ = some (.int .u8 ((key j).toNat : Int))) (hW : Sched boxF 4 key W) :
    Calls Tryd.prog 17 #[.slice (some ⟨b, off, none⟩) 16 c, .agg (row 16 inp)] w fun e w' => e = .returned (.tuple #[.agg (row 16 (dec (bk boxF 256) 10 W inp)), .int .i64 0]) ∧ Below w.heap.size w w' := by
  have hb0 : b < w.heap.size := block_lt_of_cell (hkey 0 (by omega))
  obtain ⟨X, hX⟩ : ∃ X, X = dec (bk boxF 256) 10 W inp := ⟨_, rfl⟩
  rw [← hX]
  have HX := Lib.hid hX
  clear hX
  go_enter Tryd.func17, Tryd.ntmps17
  go_upto_region 1 with (fail)
  rw [zero16]
  obtain ⟨h0, h4, h3⟩ := two_new w 23 inp (fun _ => 0) 16 16 23
  have hkey1 : ∀ j, j < 16 → ((w.alloc (.cells (row 16 inp) 23)).alloc (.cells (row 16 fun _ => 0) 23)).cell? ⟨b, off + j, none⟩ = some (.int .u8 ((key j).toNat : Int)) := fun j hj => (h3.cell (p := ⟨b, off + j, none⟩) hb0).trans (hkey j hj)
  clear hkey
  revert h0 h4 h3 hkey1
  generalize (w.alloc (.cells (row 16 inp) 23)).alloc (.cells (row 16 fun _ => 0) 23) = w1
  intro h0 h4 h3 hkey1
  have HK := Lib.hid hkey1
  clear hkey1
  go_wp2_with (fail)
  refine (New16 key W b off c w1 HK.out hW).mono ?_
  rintro e w2 ⟨g, rfl, hg, hci, hb2⟩
  have h0 := h0.below hb2 h0.lt
  have h4 := h4.below hb2 h4.lt
  have h3 := h3.trans (hb2.mono h3.size)
  clear hb2
  go_wp2_with (refine wpList_load_Row rfl 23 _ rfl w.heap.size rfl 23 16 inp _ h0 und16 size16 ?_)
  have hc := Cipher_dec W inp g (4 * (4 * 4 + 28)) 10 (4 + 6) w2 rfl (by omega) (by omega) (by omega) hci
  rw [← HX.out] at hc
  refine hc.mono ?_
  rintro e w3 ⟨rfl, hb2⟩
  have h4 := h4.below hb2 h4.lt
  have h3 := h3.trans (hb2.mono h3.size)
  clear hb2 hci h0 hc
  go_wp2_with (refine wpList_store_Row rfl 23 _ _ rfl (w.heap.size + 1) rfl 23 16 (fun _ => 0) X rfl h4 size16 ?_)
  exact ret_Row_tmp rfl rfl _ _ 16 _ _ (.int .i64 0) rfl rfl (h4.setRow X) und16 size16 ⟨rfl, below_setRow8 h3 (by omega) _⟩

set_option maxHeartbeats 2000000 in
theorem REncrypt32 (key W inp : Nat → UInt8) (b off c : Nat) (w : World) (hkey : ∀ j, j < 32 → w.cell? ⟨b, off + j, none⟩ = some (.int .u8 ((key j).toNat : Int))) (hW : Sched boxF 8 key W) :
    Calls Tryd.prog 15 #[.slice (some ⟨b, off, none⟩) 32 c, .agg (row 16 inp)] w fun e w' => e = .returned (.tuple #[.agg (row 16 (enc boxF 14 W inp)), .int .i64 0]) ∧ Below w.heap.size w w' := by
  have hb0 : b < w.heap.size := block_lt_of_cell (hkey 0 (by omega))
  obtain ⟨X, hX⟩ : ∃ X, X = enc boxF 14 W inp := ⟨_, rfl⟩
  rw [← hX]
  have HX := Lib.hid hX
  clear hX
  go_enter Tryd.func15, Tryd.ntmps15
  go_upto_region 1 with (fail)
  rw [zero16]
  obtain ⟨h0, h4, h3⟩ := two_new w 23 inp (fun _ => 0) 16 16 23
  have hkey1 : ∀ j, j < 32 → ((w.alloc (.cells (row 16 inp) 23)).alloc (.cells (row 16 fun _ => 0) 23)).cell? ⟨b, off + j, none⟩ = some (.int .u8 ((key j).toNat : Int)) := fun j hj => (h3.cell (p := ⟨b, off + j, none⟩) hb0).trans (hkey j hj)
  clear hkey
  revert h0 h4 h3 hkey1
  generalize (w.alloc (.cells (row 16 inp) 23)).alloc (.cells (row 16 fun _ => 0) 23) = w1
  intro h0 h4 h3 hkey1
  have HK := Lib.hid hkey1
  clear hkey1
  go_wp2_with (fail)
  refine (New32 key W b off c w1 HK.out hW).mono ?_
  rintro e w2 ⟨g, rfl, hg, hci, hb2⟩
  have h0 := h0.below hb2 h0.lt
  have h4 := h4.below hb2 h4.lt
  have h3 := h3.trans (hb2.mono h3.size)
  clear hb2
  go_wp2_with (refine wpList_load_Row rfl 23 _ rfl w.heap.size rfl 23 16 inp _ h0 und16 size16 ?_)
  have hc := Cipher_enc W inp g (4 * (4 * 8 + 28)) 14 (8 + 6) w2 rfl (by omega) (by omega) (by omega) hci
  rw [← HX.out] at hc
  refine hc.mono ?_
  rintro e w3 ⟨rfl, hb2⟩
  have h4 := h4.below hb2 h4.lt
  have h3 := h3.trans (hb2.mono h3.size)
  clear hb2 hci h0 hc
  go_wp2_with (refine wpList_store_Row rfl 23 _ _ rfl (w.heap.size + 1) rfl 23 16 (fun _ => 0) X rfl h4 size16 ?_)
  exact ret_Row_tmp rfl rfl _ _ 16 _ _ (.int .i64 0) rfl rfl (h4.setRow X) und16 size16 ⟨rfl, below_setRow8 h3 (by omega) _⟩

set_option maxHeartbeats 2000000 in
theorem RDecrypt32 (key W inp : Nat → UInt8) (b off c : Nat) (w : World) (hkey : ∀ j, j < 32 → w.cell? ⟨b, off + j, none⟩ = some (.int .u8 ((key j).toNat : Int))) (hW : Sched boxF 8 key W) :
    Calls Tryd.prog 17 #[.slice (some ⟨b, off, none⟩) 32 c, .agg (row 16 inp)] w fun e w' => e = .returned (.tuple #[.agg (row 16 (dec (bk boxF 256) 14 W inp)), .int .i64 0]) ∧ Below w.heap.size w w' := by
  have hb0 : b < w.heap.size := block_lt_of_cell (hkey 0 (by omega))
  obtain ⟨X, hX⟩ : ∃ X, X = dec (bk boxF 256) 14 W inp := ⟨_, rfl⟩
  rw [← hX]
  have HX := Lib.hid hX
  clear hX
  go_enter Tryd.func17, Tryd.ntmps17
  go_upto_region 1 with (fail)
  rw [zero16]
  obtain ⟨h0, h4, h3⟩ := two_new w 23 inp (fun _ => 0) 16 16 23
  have hkey1 : ∀ j, j < 32 → ((w.alloc (.cells (row 16 inp) 23)).alloc (.cells (row 16 fun _ => 0) 23)).cell? ⟨b, off + j, none⟩ = some (.int .u8 ((key j).toNat : Int)) := fun j hj => (h3.cell (p := ⟨b, off + j, none⟩) hb0).trans (hkey j hj)
  clear hkey
  revert h0 h4 h3 hkey1
  generalize (w.alloc (.cells (row 16 inp) 23)).alloc (.cells (row 16 fun _ => 0) 23) = w1
  intro h0 h4 h3 hkey1
  have HK := Lib.hid hkey1
  clear hkey1
  go_wp2_with (fail)
  refine (New32 key W b off c w1 HK.out hW).mono ?_
  rintro e w2 ⟨g, rfl, hg, hci, hb2⟩
  have h0 := h0.below hb2 h0.lt
  have h4 := h4.below hb2 h4.lt
  have h3 := h3.trans (hb2.mono h3.size)
  clear hb2
  go_wp2_with (refine wpList_load_Row rfl 23 _ rfl w.heap.size rfl 23 16 inp _ h0 und16 size16 ?_)
  have hc := Cipher_dec W inp g (4 * (4 * 8 + 28)) 14 (8 + 6) w2 rfl (by omega) (by omega) (by omega) hci
  rw [← HX.out] at hc
  refine hc.mono ?_
  rintro e w3 ⟨rfl, hb2⟩
  have h4 := h4.below hb2 h4.lt
  have h3 := h3.trans (hb2.mono h3.size)
  clear hb2 hci h0 hc
  go_wp2_with (refine wpList_store_Row rfl 23 _ _ rfl (w.heap.size + 1) rfl 23 16 (fun _ => 0) X rfl h4 size16 ?_)
  exact ret_Row_tmp rfl rfl _ _ 16 _ _ (.int .i64 0) rfl rfl (h4.setRow X) und16 size16 ⟨rfl, below_setRow8 h3 (by omega) _⟩

end Go.Proofs.YtcpfiimbobijlaaDoor
