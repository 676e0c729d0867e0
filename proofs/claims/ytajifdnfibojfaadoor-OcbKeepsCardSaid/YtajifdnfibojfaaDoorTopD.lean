/- Decrypt, as it is called from without. -/
import Derived.Test.YtajifdnfibojfaaDoorTop
namespace Go.Proofs.YtajifdnfibojfaaDoor
open Go Go.RowKit
set_option maxRecDepth 100000

set_option maxHeartbeats 1000000 in
theorem Decrypt_bad (A : Option Addr) (n c : Nat) (inp : Nat → UInt8) (w : World) (h1 : n ≠ 16) (h2 : n ≠ 32) :
    Calls Tryd.prog 37 #[.slice A n c, .agg (row 16 inp)] w fun e w' => e = .returned (.tuple #[.agg (row 16 fun _ => 0), .int .i64 1]) ∧ Below w.heap.size w w' := by
  go_enter Tryd.func37, Tryd.ntmps37
  go_wp2_with (first | (go_at_call 41; refine (isKey_no A n c _ h1 h2).mono ?_; rintro e w' ⟨rfl, rfl⟩))
  obtain ⟨h0, h4, h3⟩ := two_new w 32 inp (fun _ => 0) 16 16 32
  rw [zero16]
  exact ret_Row_tmp rfl rfl _ _ 16 _ _ _ rfl rfl h4 und16 size16 ⟨rfl, h3⟩

set_option maxRecDepth 100000 in
set_option maxHeartbeats 4000000 in
theorem Decrypt16 (s key W inp : Nat → UInt8) (b off c : Nat) (w : World) (hs : Row w 0 76 256 s) (hkey : ∀ j, j < 16 → w.cell? ⟨b, off + j, none⟩ = some (.int .u8 ((key j).toNat : Int)))
    (hW : Sched s 4 key W) : Calls Tryd.prog 37 #[.slice (some ⟨b, off, none⟩) 16 c, .agg (row 16 inp)] w fun e w' => e = .returned (.tuple #[.agg (row 16 (dec (bk s 256) 10 W inp)), .int .i64 0]) ∧ Below w.heap.size w w' := by
  have hz0 := hs.lt
  have hb := block_lt_of_cell (hkey 0 (by omega))
  simp only at hb
  go_enter Tryd.func37, Tryd.ntmps37
  go_wp2_with (first | (go_at_call 41; refine (isKey16 _ _ _).mono ?_; rintro e w' ⟨rfl, rfl⟩))
  obtain ⟨h0, h4, h3⟩ := two_new w 32 inp (fun _ => 0) 16 16 32
  rw [zero16]
  have hT : TopS w s inp ((w.alloc (.cells (row 16 inp) 32)).alloc (.cells (row 16 fun _ => 0) 32)) := ⟨hs.below h3 hz0, h0, ⟨_, h4⟩, h3⟩
  clear h0 h4 h3 hs
  revert hT
  generalize (w.alloc (.cells (row 16 inp) 32)).alloc (.cells (row 16 fun _ => 0) 32) = w1
  intro hT
  refine (boxBack_c s _ hT.1).mono ?_
  rintro e w2 ⟨rfl, hb1⟩
  have hT := hT.below hb1
  have hz2 : w.heap.size + 1 < w2.heap.size := by obtain ⟨f, hf⟩ := hT.2.2.1; exact hf.lt
  go_wp2_with (first | (refine wpList_alloc_Row rfl 76 rfl 256 zero256 ?_) | (refine wpList_store_Row rfl 76 _ _ rfl _ rfl 76 256 (fun _ => 0) _ rfl (Row.new _ _ _ _) size256 ?_))
  have hk := (Row.new w2 76 256 (fun _ => 0)).setRow (bk s 256)
  have hT : TopS w s inp ((w2.alloc (.cells (row 256 fun _ => 0) 76)).setRow w2.heap.size (row 256 (bk s 256))) := by
    obtain ⟨h1, h2, ⟨f, h3⟩, h4⟩ := hT
    exact ⟨(h1.alloc _).setRow_far (by omega) _, (h2.alloc _).setRow_far (by omega) _, ⟨f, (h3.alloc _).setRow_far (by omega) _⟩, below_setRow8 (h4.alloc h4.size _) (by omega) _⟩
  revert hT hk
  generalize (w2.alloc (.cells (row 256 fun _ => 0) 76)).setRow w2.heap.size (row 256 (bk s 256)) = w3
  generalize w2.heap.size = kb
  intro hk hT
  have hkey1 : ∀ j, j < 16 → w3.drew.cell? ⟨b, off + j, none⟩ = some (.int .u8 ((key j).toNat : Int)) := fun j hj => (hT.2.2.2.drew.cell hb).trans (hkey j hj)
  clear hkey
  refine held_begin (fun w' => TopS w s inp w' ∧ Row w' kb 76 256 (bk s 256)) mixedOrders ⟨hT.drew, hk.drew⟩ fun hT => ?_
  refine held_take 0 (some 12) rfl (.slice (some ⟨b, off, none⟩) 16 c) rfl (by kernel_rfl) (by kernel_rfl) (by kernel_rfl) rfl (fun _ _ _ h => h) (fun w' hS => by go_simp) hT ?_
  simp only [Act.put, List.setIfInBounds_toArray, List.set_cons_zero, List.set_cons_succ]
  refine held_take 2 (some 14) rfl (.agg (row 16 inp)) rfl (by kernel_rfl) (by kernel_rfl) (by kernel_rfl) rfl (fun _ _ _ h => h) (fun w' hS => exec_load_Row 32 _ rfl w.heap.size rfl 32 16 _ _ hS.1.2.1 und16 size16) hT ?_
  simp only [Act.put, List.setIfInBounds_toArray, List.set_cons_zero, List.set_cons_succ]
  refine held_call 1 (some 13) rfl 43 #[.slice (some ⟨b, off, none⟩) 16 c] rfl (by kernel_rfl) rfl (fun w' => by go_simp) ?_
  refine (roundKeys4 s key W b off c _ hT.1.1 hkey1 hW).mono ?_
  rintro e w2 ⟨g, he, hg, hrow, hb1⟩
  simp only [Nat.reduceAdd, Nat.reduceMul] at he hrow
  subst he
  have hT : TopS w s inp w2 ∧ Row w2 kb 76 256 (bk s 256) := ⟨hT.1.below hb1, hT.2.below hb1 hT.2.lt⟩
  refine ⟨_, rfl, hT, ?_⟩
  simp only [Act.put, List.setIfInBounds_toArray, List.set_cons_zero, List.set_cons_succ]
  refine held_call 3 (some 15) rfl 50 #[.slice (some ⟨g, 0, none⟩) 11 11, .pointer (some ⟨kb, 0, none⟩), .agg (row 16 inp)] rfl (by kernel_rfl) rfl (fun w' => by go_simp) ?_
  refine (decrypt_c (bk s 256) W inp g kb 9 _ (by omega) hT.2 hrow).mono ?_
  rintro e w3 ⟨rfl, hb2⟩
  have hT : TopS w s inp w3 ∧ Row w3 kb 76 256 (bk s 256) := ⟨hT.1.below hb2, hT.2.below hb2 hT.2.lt⟩
  refine ⟨_, rfl, hT, ?_⟩
  simp only [Act.put, List.setIfInBounds_toArray, List.set_cons_zero, List.set_cons_succ]
  obtain ⟨f, hf⟩ := hT.1.2.2.1
  have hne : w.heap.size + 1 ≠ kb := fun h => by
    have h1 := hT.2
    rw [← h] at h1
    unfold Row at h1 hf
    rw [hf] at h1
    injection h1 with h1
    injection h1 with _ h1
    exact absurd h1 (by decide)
  refine held_store_Row 4 rfl rfl (by kernel_rfl) rfl 32 _ _ rfl (w.heap.size + 1) rfl 32 16 f (dec (bk s 256) 10 W inp) rfl hf size16 ⟨⟨hT.1.put hz0 _, hT.2.setRow_far hne _⟩, ?_⟩
  have hr := hf.setRow (dec (bk s 256) 10 W inp)
  have hT : TopS w s inp (w3.setRow (w.heap.size + 1) (row 16 (dec (bk s 256) 10 W inp))) ∧ Row (w3.setRow (w.heap.size + 1) (row 16 (dec (bk s 256) 10 W inp))) kb 76 256 (bk s 256) := ⟨hT.1.put hz0 (dec (bk s 256) 10 W inp), hT.2.setRow_far hne _⟩
  revert hr hT
  generalize w3.setRow (w.heap.size + 1) (row 16 (dec (bk s 256) 10 W inp)) = w4
  intro hr hT
  refine held_take 5 (some 5) rfl (.int .i64 0) rfl (by kernel_rfl) (by kernel_rfl) (by kernel_rfl) rfl (fun _ _ _ h => h) (fun w' hS => by go_simp) hT ?_
  simp only [Act.put, List.setIfInBounds_toArray, List.set_cons_zero, List.set_cons_succ]
  refine held_end (by kernel_rfl) ?_
  go_wp2
  exact ret_Row_tmp rfl rfl _ _ 16 _ _ (.int .i64 0) rfl rfl hr und16 size16 ⟨rfl, hT.1.2.2.2⟩

set_option maxRecDepth 100000 in
set_option maxHeartbeats 4000000 in
theorem Decrypt32 (s key W inp : Nat → UInt8) (b off c : Nat) (w : World) (hs : Row w 0 76 256 s) (hkey : ∀ j, j < 32 → w.cell? ⟨b, off + j, none⟩ = some (.int .u8 ((key j).toNat : Int)))
    (hW : Sched s 8 key W) : Calls Tryd.prog 37 #[.slice (some ⟨b, off, none⟩) 32 c, .agg (row 16 inp)] w fun e w' => e = .returned (.tuple #[.agg (row 16 (dec (bk s 256) 14 W inp)), .int .i64 0]) ∧ Below w.heap.size w w' := by
  have hz0 := hs.lt
  have hb := block_lt_of_cell (hkey 0 (by omega))
  simp only at hb
  go_enter Tryd.func37, Tryd.ntmps37
  go_wp2_with (first | (go_at_call 41; refine (isKey32 _ _ _).mono ?_; rintro e w' ⟨rfl, rfl⟩))
  obtain ⟨h0, h4, h3⟩ := two_new w 32 inp (fun _ => 0) 16 16 32
  rw [zero16]
  have hT : TopS w s inp ((w.alloc (.cells (row 16 inp) 32)).alloc (.cells (row 16 fun _ => 0) 32)) := ⟨hs.below h3 hz0, h0, ⟨_, h4⟩, h3⟩
  clear h0 h4 h3 hs
  revert hT
  generalize (w.alloc (.cells (row 16 inp) 32)).alloc (.cells (row 16 fun _ => 0) 32) = w1
  intro hT
  refine (boxBack_c s _ hT.1).mono ?_
  rintro e w2 ⟨rfl, hb1⟩
  have hT := hT.below hb1
  have hz2 : w.heap.size + 1 < w2.heap.size := by obtain ⟨f, hf⟩ := hT.2.2.1; exact hf.lt
  go_wp2_with (first | (refine wpList_alloc_Row rfl 76 rfl 256 zero256 ?_) | (refine wpList_store_Row rfl 76 _ _ rfl _ rfl 76 256 (fun _ => 0) _ rfl (Row.new _ _ _ _) size256 ?_))
  have hk := (Row.new w2 76 256 (fun _ => 0)).setRow (bk s 256)
  have hT : TopS w s inp ((w2.alloc (.cells (row 256 fun _ => 0) 76)).setRow w2.heap.size (row 256 (bk s 256))) := by
    obtain ⟨h1, h2, ⟨f, h3⟩, h4⟩ := hT
    exact ⟨(h1.alloc _).setRow_far (by omega) _, (h2.alloc _).setRow_far (by omega) _, ⟨f, (h3.alloc _).setRow_far (by omega) _⟩, below_setRow8 (h4.alloc h4.size _) (by omega) _⟩
  revert hT hk
  generalize (w2.alloc (.cells (row 256 fun _ => 0) 76)).setRow w2.heap.size (row 256 (bk s 256)) = w3
  generalize w2.heap.size = kb
  intro hk hT
  have hkey1 : ∀ j, j < 32 → w3.drew.cell? ⟨b, off + j, none⟩ = some (.int .u8 ((key j).toNat : Int)) := fun j hj => (hT.2.2.2.drew.cell hb).trans (hkey j hj)
  clear hkey
  refine held_begin (fun w' => TopS w s inp w' ∧ Row w' kb 76 256 (bk s 256)) mixedOrders ⟨hT.drew, hk.drew⟩ fun hT => ?_
  refine held_take 0 (some 12) rfl (.slice (some ⟨b, off, none⟩) 32 c) rfl (by kernel_rfl) (by kernel_rfl) (by kernel_rfl) rfl (fun _ _ _ h => h) (fun w' hS => by go_simp) hT ?_
  simp only [Act.put, List.setIfInBounds_toArray, List.set_cons_zero, List.set_cons_succ]
  refine held_take 2 (some 14) rfl (.agg (row 16 inp)) rfl (by kernel_rfl) (by kernel_rfl) (by kernel_rfl) rfl (fun _ _ _ h => h) (fun w' hS => exec_load_Row 32 _ rfl w.heap.size rfl 32 16 _ _ hS.1.2.1 und16 size16) hT ?_
  simp only [Act.put, List.setIfInBounds_toArray, List.set_cons_zero, List.set_cons_succ]
  refine held_call 1 (some 13) rfl 43 #[.slice (some ⟨b, off, none⟩) 32 c] rfl (by kernel_rfl) rfl (fun w' => by go_simp) ?_
  refine (roundKeys8 s key W b off c _ hT.1.1 hkey1 hW).mono ?_
  rintro e w2 ⟨g, he, hg, hrow, hb1⟩
  simp only [Nat.reduceAdd, Nat.reduceMul] at he hrow
  subst he
  have hT : TopS w s inp w2 ∧ Row w2 kb 76 256 (bk s 256) := ⟨hT.1.below hb1, hT.2.below hb1 hT.2.lt⟩
  refine ⟨_, rfl, hT, ?_⟩
  simp only [Act.put, List.setIfInBounds_toArray, List.set_cons_zero, List.set_cons_succ]
  refine held_call 3 (some 15) rfl 50 #[.slice (some ⟨g, 0, none⟩) 15 15, .pointer (some ⟨kb, 0, none⟩), .agg (row 16 inp)] rfl (by kernel_rfl) rfl (fun w' => by go_simp) ?_
  refine (decrypt_c (bk s 256) W inp g kb 13 _ (by omega) hT.2 hrow).mono ?_
  rintro e w3 ⟨rfl, hb2⟩
  have hT : TopS w s inp w3 ∧ Row w3 kb 76 256 (bk s 256) := ⟨hT.1.below hb2, hT.2.below hb2 hT.2.lt⟩
  refine ⟨_, rfl, hT, ?_⟩
  simp only [Act.put, List.setIfInBounds_toArray, List.set_cons_zero, List.set_cons_succ]
  obtain ⟨f, hf⟩ := hT.1.2.2.1
  have hne : w.heap.size + 1 ≠ kb := fun h => by
    have h1 := hT.2
    rw [← h] at h1
    unfold Row at h1 hf
    rw [hf] at h1
    injection h1 with h1
    injection h1 with _ h1
    exact absurd h1 (by decide)
  refine held_store_Row 4 rfl rfl (by kernel_rfl) rfl 32 _ _ rfl (w.heap.size + 1) rfl 32 16 f (dec (bk s 256) 14 W inp) rfl hf size16 ⟨⟨hT.1.put hz0 _, hT.2.setRow_far hne _⟩, ?_⟩
  have hr := hf.setRow (dec (bk s 256) 14 W inp)
  have hT : TopS w s inp (w3.setRow (w.heap.size + 1) (row 16 (dec (bk s 256) 14 W inp))) ∧ Row (w3.setRow (w.heap.size + 1) (row 16 (dec (bk s 256) 14 W inp))) kb 76 256 (bk s 256) := ⟨hT.1.put hz0 (dec (bk s 256) 14 W inp), hT.2.setRow_far hne _⟩
  revert hr hT
  generalize w3.setRow (w.heap.size + 1) (row 16 (dec (bk s 256) 14 W inp)) = w4
  intro hr hT
  refine held_take 5 (some 5) rfl (.int .i64 0) rfl (by kernel_rfl) (by kernel_rfl) (by kernel_rfl) rfl (fun _ _ _ h => h) (fun w' hS => by go_simp) hT ?_
  simp only [Act.put, List.setIfInBounds_toArray, List.set_cons_zero, List.set_cons_succ]
  refine held_end (by kernel_rfl) ?_
  go_wp2
  exact ret_Row_tmp rfl rfl _ _ 16 _ _ (.int .i64 0) rfl rfl hr und16 size16 ⟨rfl, hT.1.2.2.2⟩

end Go.Proofs.YtajifdnfibojfaaDoor
