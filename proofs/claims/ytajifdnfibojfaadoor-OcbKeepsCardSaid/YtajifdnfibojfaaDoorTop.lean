/- Encrypt and Decrypt, as they are called from without. -/
import Derived.Test.YtajifdnfibojfaaDoorDec
import Derived.Test.YtajifdnfibojfaaDoorMore
namespace Go.Proofs.YtajifdnfibojfaaDoor
open Go Go.RowKit
set_option maxRecDepth 100000

theorem isKey16 (A : Option Addr) (c : Nat) (w : World) : Calls Tryd.prog 41 #[.slice A 16 c] w fun e w' => e = .returned (.bool true) ∧ w' = w := by
  go_enter Tryd.func41, Tryd.ntmps41
  go_wp2
  go_ret
  exact ⟨rfl, rfl⟩
theorem isKey32 (A : Option Addr) (c : Nat) (w : World) : Calls Tryd.prog 41 #[.slice A 32 c] w fun e w' => e = .returned (.bool true) ∧ w' = w := by
  go_enter Tryd.func41, Tryd.ntmps41
  go_wp2
  go_ret
  exact ⟨rfl, rfl⟩
theorem isKey_no (A : Option Addr) (n c : Nat) (w : World) (h1 : n ≠ 16) (h2 : n ≠ 32) : Calls Tryd.prog 41 #[.slice A n c] w fun e w' => e = .returned (.bool false) ∧ w' = w := by
  have h1' : ((n : Int) == 16) = false := by simpa using (show ¬ (n : Int) = 16 by omega)
  have h2' : ((n : Int) == 32) = false := by simpa using (show ¬ (n : Int) = 32 by omega)
  clear h1 h2
  go_enter Tryd.func41, Tryd.ntmps41
  go_wp2
  go_ret
  exact ⟨rfl, rfl⟩

theorem zero16b : Value.agg (#[Value.int IntKind.u8 0, Value.int IntKind.u8 0, Value.int IntKind.u8 0, Value.int IntKind.u8 0,
      Value.int IntKind.u8 0, Value.int IntKind.u8 0, Value.int IntKind.u8 0, Value.int IntKind.u8 0,
      Value.int IntKind.u8 0, Value.int IntKind.u8 0, Value.int IntKind.u8 0, Value.int IntKind.u8 0,
      Value.int IntKind.u8 0, Value.int IntKind.u8 0, Value.int IntKind.u8 0, Value.int IntKind.u8 0] : Array Value) = .agg (row 16 (fun _ => 0)) := by rfl

/-- What is kept while a block is handed on: the box, the block, the result's place, the key. -/
def TopS (w0 : World) (s inp : Nat → UInt8) (w' : World) : Prop :=
  Row w' 0 76 256 s ∧ Row w' w0.heap.size 32 16 inp ∧ (∃ f, Row w' (w0.heap.size + 1) 32 16 f) ∧ Below w0.heap.size w0 w'
theorem TopS.below {w0 w1 w2 : World} {s inp : Nat → UInt8} (h : TopS w0 s inp w1) (hb : Below w1.heap.size w1 w2) : TopS w0 s inp w2 := by
  obtain ⟨h1, h2, ⟨f, h3⟩, h4⟩ := h
  exact ⟨h1.below hb h1.lt, h2.below hb h2.lt, ⟨f, h3.below hb h3.lt⟩, h4.trans (hb.mono h4.size)⟩
theorem TopS.drew {w0 w1 : World} {s inp : Nat → UInt8} (h : TopS w0 s inp w1) : TopS w0 s inp w1.drew := by
  obtain ⟨h1, h2, ⟨f, h3⟩, h4⟩ := h
  exact ⟨h1.drew, h2.drew, ⟨f, h3.drew⟩, h4.drew⟩
theorem TopS.put {w0 w1 : World} {s inp : Nat → UInt8} (h : TopS w0 s inp w1) (hz : 0 < w0.heap.size) (f : Nat → UInt8) : TopS w0 s inp (w1.setRow (w0.heap.size + 1) (row 16 f)) := by
  obtain ⟨h1, h2, ⟨f', h3⟩, h4⟩ := h
  exact ⟨h1.setRow_far (by omega) _, h2.setRow_far (by omega) _, ⟨f, h3.setRow f⟩, below_setRow8 h4 (by omega) _⟩

set_option maxHeartbeats 1000000 in
theorem Encrypt_bad (A : Option Addr) (n c : Nat) (inp : Nat → UInt8) (w : World) (h1 : n ≠ 16) (h2 : n ≠ 32) :
    Calls Tryd.prog 28 #[.slice A n c, .agg (row 16 inp)] w fun e w' => e = .returned (.tuple #[.agg (row 16 fun _ => 0), .int .i64 1]) ∧ Below w.heap.size w w' := by
  go_enter Tryd.func28, Tryd.ntmps28
  go_wp2_with (first | (go_at_call 41; refine (isKey_no A n c _ h1 h2).mono ?_; rintro e w' ⟨rfl, rfl⟩))
  obtain ⟨h0, h4, h3⟩ := two_new w 32 inp (fun _ => 0) 16 16 32
  rw [zero16]
  exact ret_Row_tmp rfl rfl _ _ 16 _ _ _ rfl rfl h4 und16 size16 ⟨rfl, h3⟩

set_option maxHeartbeats 2000000 in
theorem Encrypt16 (s key W inp : Nat → UInt8) (b off c : Nat) (w : World) (hs : Row w 0 76 256 s) (hkey : ∀ j, j < 16 → w.cell? ⟨b, off + j, none⟩ = some (.int .u8 ((key j).toNat : Int)))
    (hW : Sched s 4 key W) : Calls Tryd.prog 28 #[.slice (some ⟨b, off, none⟩) 16 c, .agg (row 16 inp)] w fun e w' => e = .returned (.tuple #[.agg (row 16 (enc s 10 W inp)), .int .i64 0]) ∧ Below w.heap.size w w' := by
  have hz0 := hs.lt
  have hb := block_lt_of_cell (hkey 0 (by omega))
  simp only at hb
  go_enter Tryd.func28, Tryd.ntmps28
  go_wp2_with (first | (go_at_call 41; refine (isKey16 _ _ _).mono ?_; rintro e w' ⟨rfl, rfl⟩))
  obtain ⟨h0, h4, h3⟩ := two_new w 32 inp (fun _ => 0) 16 16 32
  rw [zero16]
  have hT : TopS w s inp ((w.alloc (.cells (row 16 inp) 32)).alloc (.cells (row 16 fun _ => 0) 32)) := ⟨hs.below h3 hz0, h0, ⟨_, h4⟩, h3⟩
  have hkey1 : ∀ j, j < 16 → ((w.alloc (.cells (row 16 inp) 32)).alloc (.cells (row 16 fun _ => 0) 32)).drew.cell? ⟨b, off + j, none⟩ = some (.int .u8 ((key j).toNat : Int)) := fun j hj => (h3.drew.cell hb).trans (hkey j hj)
  clear h0 h4 h3 hkey hs
  revert hT hkey1
  generalize (w.alloc (.cells (row 16 inp) 32)).alloc (.cells (row 16 fun _ => 0) 32) = w1
  intro hT hkey1
  refine held_begin (fun w' => TopS w s inp w') mixedOrders hT.drew fun hT => ?_
  refine held_take 0 (some 10) rfl (.slice (some ⟨b, off, none⟩) 16 c) rfl (by kernel_rfl) (by kernel_rfl) (by kernel_rfl) rfl (fun _ _ _ h => h) (fun w' hS => by go_simp) hT ?_
  simp only [Act.put, List.setIfInBounds_toArray, List.set_cons_zero, List.set_cons_succ]
  refine held_take 2 (some 12) rfl (.agg (row 16 inp)) rfl (by kernel_rfl) (by kernel_rfl) (by kernel_rfl) rfl (fun _ _ _ h => h) (fun w' hS => exec_load_Row 32 _ rfl w.heap.size rfl 32 16 _ _ hS.2.1 und16 size16) hT ?_
  simp only [Act.put, List.setIfInBounds_toArray, List.set_cons_zero, List.set_cons_succ]
  refine held_call 1 (some 11) rfl 43 #[.slice (some ⟨b, off, none⟩) 16 c] rfl (by kernel_rfl) rfl (fun w' => by go_simp) ?_
  refine (roundKeys4 s key W b off c _ hT.1 hkey1 hW).mono ?_
  rintro e w2 ⟨g, he, hg, hrow, hb1⟩
  simp only [Nat.reduceAdd, Nat.reduceMul] at he hrow
  subst he
  have hT := hT.below hb1
  refine ⟨_, rfl, hT, ?_⟩
  simp only [Act.put, List.setIfInBounds_toArray, List.set_cons_zero, List.set_cons_succ]
  refine held_call 3 (some 13) rfl 42 #[.slice (some ⟨g, 0, none⟩) 11 11, .agg (row 16 inp)] rfl (by kernel_rfl) rfl (fun w' => by go_simp) ?_
  refine (encrypt_c s W inp g 9 _ (by omega) hT.1 hrow).mono ?_
  rintro e w3 ⟨rfl, hb2⟩
  have hT := hT.below hb2
  refine ⟨_, rfl, hT, ?_⟩
  simp only [Act.put, List.setIfInBounds_toArray, List.set_cons_zero, List.set_cons_succ]
  obtain ⟨f, hf⟩ := hT.2.2.1
  refine held_store_Row 4 rfl rfl (by kernel_rfl) rfl 32 _ _ rfl (w.heap.size + 1) rfl 32 16 f (enc s 10 W inp) rfl hf size16 ⟨hT.put hz0 _, ?_⟩
  have hr := hf.setRow (enc s 10 W inp)
  have hT := hT.put hz0 (enc s 10 W inp)
  revert hr hT
  generalize w3.setRow (w.heap.size + 1) (row 16 (enc s 10 W inp)) = w4
  intro hr hT
  refine held_take 5 (some 5) rfl (.int .i64 0) rfl (by kernel_rfl) (by kernel_rfl) (by kernel_rfl) rfl (fun _ _ _ h => h) (fun w' hS => by go_simp) hT ?_
  simp only [Act.put, List.setIfInBounds_toArray, List.set_cons_zero, List.set_cons_succ]
  refine held_end (by kernel_rfl) ?_
  go_wp2
  exact ret_Row_tmp rfl rfl _ _ 16 _ _ (.int .i64 0) rfl rfl hr und16 size16 ⟨rfl, hT.2.2.2⟩

set_option maxHeartbeats 2000000 in
theorem Encrypt32 (s key W inp : Nat → UInt8) (b off c : Nat) (w : World) (hs : Row w 0 76 256 s) (hkey : ∀ j, j < 32 → w.cell? ⟨b, off + j, none⟩ = some (.int .u8 ((key j).toNat : Int)))
    (hW : Sched s 8 key W) : Calls Tryd.prog 28 #[.slice (some ⟨b, off, none⟩) 32 c, .agg (row 16 inp)] w fun e w' => e = .returned (.tuple #[.agg (row 16 (enc s 14 W inp)), .int .i64 0]) ∧ Below w.heap.size w w' := by
  have hz0 := hs.lt
  have hb := block_lt_of_cell (hkey 0 (by omega))
  simp only at hb
  go_enter Tryd.func28, Tryd.ntmps28
  go_wp2_with (first | (go_at_call 41; refine (isKey32 _ _ _).mono ?_; rintro e w' ⟨rfl, rfl⟩))
  obtain ⟨h0, h4, h3⟩ := two_new w 32 inp (fun _ => 0) 16 16 32
  rw [zero16]
  have hT : TopS w s inp ((w.alloc (.cells (row 16 inp) 32)).alloc (.cells (row 16 fun _ => 0) 32)) := ⟨hs.below h3 hz0, h0, ⟨_, h4⟩, h3⟩
  have hkey1 : ∀ j, j < 32 → ((w.alloc (.cells (row 16 inp) 32)).alloc (.cells (row 16 fun _ => 0) 32)).drew.cell? ⟨b, off + j, none⟩ = some (.int .u8 ((key j).toNat : Int)) := fun j hj => (h3.drew.cell hb).trans (hkey j hj)
  clear h0 h4 h3 hkey hs
  revert hT hkey1
  generalize (w.alloc (.cells (row 16 inp) 32)).alloc (.cells (row 16 fun _ => 0) 32) = w1
  intro hT hkey1
  refine held_begin (fun w' => TopS w s inp w') mixedOrders hT.drew fun hT => ?_
  refine held_take 0 (some 10) rfl (.slice (some ⟨b, off, none⟩) 32 c) rfl (by kernel_rfl) (by kernel_rfl) (by kernel_rfl) rfl (fun _ _ _ h => h) (fun w' hS => by go_simp) hT ?_
  simp only [Act.put, List.setIfInBounds_toArray, List.set_cons_zero, List.set_cons_succ]
  refine held_take 2 (some 12) rfl (.agg (row 16 inp)) rfl (by kernel_rfl) (by kernel_rfl) (by kernel_rfl) rfl (fun _ _ _ h => h) (fun w' hS => exec_load_Row 32 _ rfl w.heap.size rfl 32 16 _ _ hS.2.1 und16 size16) hT ?_
  simp only [Act.put, List.setIfInBounds_toArray, List.set_cons_zero, List.set_cons_succ]
  refine held_call 1 (some 11) rfl 43 #[.slice (some ⟨b, off, none⟩) 32 c] rfl (by kernel_rfl) rfl (fun w' => by go_simp) ?_
  refine (roundKeys8 s key W b off c _ hT.1 hkey1 hW).mono ?_
  rintro e w2 ⟨g, he, hg, hrow, hb1⟩
  simp only [Nat.reduceAdd, Nat.reduceMul] at he hrow
  subst he
  have hT := hT.below hb1
  refine ⟨_, rfl, hT, ?_⟩
  simp only [Act.put, List.setIfInBounds_toArray, List.set_cons_zero, List.set_cons_succ]
  refine held_call 3 (some 13) rfl 42 #[.slice (some ⟨g, 0, none⟩) 15 15, .agg (row 16 inp)] rfl (by kernel_rfl) rfl (fun w' => by go_simp) ?_
  refine (encrypt_c s W inp g 13 _ (by omega) hT.1 hrow).mono ?_
  rintro e w3 ⟨rfl, hb2⟩
  have hT := hT.below hb2
  refine ⟨_, rfl, hT, ?_⟩
  simp only [Act.put, List.setIfInBounds_toArray, List.set_cons_zero, List.set_cons_succ]
  obtain ⟨f, hf⟩ := hT.2.2.1
  refine held_store_Row 4 rfl rfl (by kernel_rfl) rfl 32 _ _ rfl (w.heap.size + 1) rfl 32 16 f (enc s 14 W inp) rfl hf size16 ⟨hT.put hz0 _, ?_⟩
  have hr := hf.setRow (enc s 14 W inp)
  have hT := hT.put hz0 (enc s 14 W inp)
  revert hr hT
  generalize w3.setRow (w.heap.size + 1) (row 16 (enc s 14 W inp)) = w4
  intro hr hT
  refine held_take 5 (some 5) rfl (.int .i64 0) rfl (by kernel_rfl) (by kernel_rfl) (by kernel_rfl) rfl (fun _ _ _ h => h) (fun w' hS => by go_simp) hT ?_
  simp only [Act.put, List.setIfInBounds_toArray, List.set_cons_zero, List.set_cons_succ]
  refine held_end (by kernel_rfl) ?_
  go_wp2
  exact ret_Row_tmp rfl rfl _ _ 16 _ _ (.int .i64 0) rfl rfl hr und16 size16 ⟨rfl, hT.2.2.2⟩


end Go.Proofs.YtajifdnfibojfaaDoor
