/- Keys wrapped: the small functions of package aes. -/
import Derived.Test.YtcpfiimbobijlaaDoorTop
import Derived.Test.YtcpfiimbobijlaaDoorGuard
import Derived.Test.YtcpfiimbobijlaaDoorWPure
namespace Go.Proofs.YtcpfiimbobijlaaDoor
open Go Go.RowKit
set_option maxRecDepth 100000

theorem undA : Tryd.prog.underlying 53 = some (.array 8 5) := by kernel_rfl
theorem sizeA : (Tryd.prog.info? 53).map (·.size) = some 8 := by kernel_rfl
theorem zeroA : (Tryd.prog.info? 53).bind (·.zero) = some (.agg (row 8 fun _ => 0)) := by kernel_rfl
theorem row166 : (#[Value.int IntKind.u8 166, Value.int IntKind.u8 166, Value.int IntKind.u8 166, Value.int IntKind.u8 166, Value.int IntKind.u8 166, Value.int IntKind.u8 166, Value.int IntKind.u8 166, Value.int IntKind.u8 166] : Array Value) = row 8 (fun _ => 166) := by rfl
theorem zero8 : (#[Value.int IntKind.u8 0, Value.int IntKind.u8 0, Value.int IntKind.u8 0, Value.int IntKind.u8 0, Value.int IntKind.u8 0, Value.int IntKind.u8 0, Value.int IntKind.u8 0, Value.int IntKind.u8 0] : Array Value) = row 8 (fun _ => 0) := by rfl

theorem may_yes (n : Nat) (w : World) (h1 : 16 ≤ n) (h2 : n ≤ 128) (h3 : n % 8 = 0) : Calls Tryd.prog 35 #[.int .i64 (n : Int)] w fun e w' => e = .returned (.bool true) ∧ w' = w := by
  have e1 : decide ((16 : Int) ≤ (n : Int)) = true := by simpa using (show (16 : Int) ≤ (n : Int) by omega)
  have e2 : decide ((n : Int) ≤ 128) = true := by simpa using (show (n : Int) ≤ 128 by omega)
  have e3 : ((n : Int) % 8 == 0) = true := by simpa using (show (n : Int) % 8 = 0 by omega)
  clear h1 h2 h3
  go_enter Tryd.func35, Tryd.ntmps35
  go_wp2
  go_ret
  exact ⟨rfl, rfl⟩

theorem start_c (w : World) : Calls Tryd.prog 36 #[] w fun e w' => e = .returned (.agg (row 8 fun _ => 166)) ∧ Below w.heap.size w w' := by
  go_enter Tryd.func36, Tryd.ntmps36
  go_wp2_with (first | (refine wpList_alloc_Row rfl 53 rfl 8 zeroA ?_) | (refine wpList_store_Row rfl 53 _ _ rfl _ rfl 53 8 (fun _ => 0) (fun _ => 166) rfl (Row.new _ _ _ _) sizeA ?_))
  exact ret_Row rfl rfl _ _ 8 _ _ rfl ((Row.new w 53 8 (fun _ => 0)).setRow _) undA sizeA ⟨rfl, below_setRow8 ((Below.refl _ _).alloc (Nat.le_refl _) _) (Nat.le_refl _) _⟩

theorem steps_c (A : Option Addr) (n c : Nat) (w : World) (h : n ≤ 1000) : Calls Tryd.prog 37 #[.slice A n c] w fun e w' => e = .returned (.int .i64 (6 * ((n : Int) / 8))) ∧ w' = w := by
  go_enter Tryd.func37, Tryd.ntmps37
  go_wp2
  go_ret
  exact ⟨rfl, rfl⟩

theorem new_at (w : World) (o : Obj) (t : TypeId) (n : Nat) (f : Nat → UInt8) : Row ((w.alloc o).alloc (.cells (row n f) t)) (w.heap.size + 1) t n f := by
  have h := Row.new (w.alloc o) t n f
  simpa only [World.size_alloc] using h

set_option maxRecDepth 100000 in
set_option maxHeartbeats 1000000 in
theorem counted8 (A : Nat → UInt8) (x : UInt8) (w : World) : Calls Tryd.prog 40 #[.agg (row 8 A), .int .i64 (x.toNat : Int)] w fun e w' => e = .returned (.agg (row 8 fun j => if j = 7 then xr (A 7) x else A j)) ∧ Below w.heap.size w w' := by
  have hx := lt8 x
  have hrow : (row 8 A)[7]? = some (.int .u8 ((A 7).toNat : Int)) := row_get 8 A 7 (by omega)
  obtain ⟨F, hF⟩ : ∃ F : Nat → UInt8, F = fun j => if j = 7 then xr (A 7) x else A j := ⟨_, rfl⟩
  have hset : (row 8 A).setIfInBounds 7 (.int .u8 (bits .xor .u8 ((A 7).toNat : Int) (x.toNat : Int))) = row 8 F := by
    rw [xor8, hF]
    exact row_set 8 A 7 (xr (A 7) x)
  have HS := Lib.hid hset
  rw [← hF]
  clear hF hset
  go_enter Tryd.func40, Tryd.ntmps40
  go_wp2_with (first | (refine wpList_alloc_Row rfl 53 rfl 8 zeroA ?_) | (refine wpList_load_Row rfl 53 _ rfl w.heap.size rfl 53 8 F _ (by rw [HS.out]; exact (Row.new w 53 8 F).alloc _) undA sizeA ?_) | (refine wpList_store_Row rfl 53 _ _ rfl (w.heap.size + 1) rfl 53 8 (fun _ => 0) F rfl (new_at w _ _ _ _) sizeA ?_))
  rw [HS.out]
  have hr := (new_at w (.cells (row 8 F) 53) 53 8 (fun _ => 0)).setRow F
  have hb := below_setRow8 (((Below.refl w.heap.size w).alloc (Nat.le_refl _) (.cells (row 8 F) 53)).alloc (by simp) (.cells (row 8 fun _ => 0) 53)) (k := w.heap.size + 1) (by omega) (row 8 F)
  exact ret_Row rfl rfl _ _ 8 _ _ rfl hr undA sizeA ⟨rfl, hb⟩
theorem counted_c (A : Nat → UInt8) (t : Nat) (w : World) (ht : t < 256) : Calls Tryd.prog 40 #[.agg (row 8 A), .int .i64 (t : Int)] w fun e w' => e = .returned (.agg (row 8 (countF A t))) ∧ Below w.heap.size w w' := by
  have h := counted8 A (UInt8.ofNat t) w
  rw [show (((UInt8.ofNat t).toNat : Nat) : Int) = (t : Int) by rw [UInt8.toNat_ofNat']; omega] at h
  exact h

theorem both_cpy (A D : Nat → UInt8) (i : Nat) (_ : i < 16) : cpy 8 8 (cpy 0 8 (fun _ => 0) A) D i = bothF A D i := by
  unfold cpy bothF
  by_cases h : i < 8
  · rw [if_neg (by omega), if_pos (by omega), if_pos h]; rfl
  · rw [if_pos (by omega), if_neg h]
set_option maxHeartbeats 1000000 in
theorem both_c (A D : Nat → UInt8) (g off c : Nat) (w : World) (hd : ∀ j, j < 8 → w.cell? ⟨g, off + j, none⟩ = some (.int .u8 ((D j).toNat : Int))) :
    Calls Tryd.prog 39 #[.agg (row 8 A), .slice (some ⟨g, off, none⟩) 8 c] w fun e w' => e = .returned (.agg (row 16 (bothF A D))) ∧ Below w.heap.size w w' := by
  have hg : g < w.heap.size := block_lt_of_cell (hd 0 (by omega))
  go_enter Tryd.func39, Tryd.ntmps39
  go_wp2
  rw [zero16]
  obtain ⟨h0, h1, h2, hb⟩ := three_new w 53 A (fun _ => 0) (fun _ => 0) 8 16 16 23 23
  revert h0 h1 h2 hb
  generalize ((w.alloc (.cells (row 8 A) 53)).alloc (.cells (row 16 fun _ => 0) 23)).alloc (.cells (row 16 fun _ => 0) 23) = w1
  intro h0 h1 h2 hb
  refine region_seq (fun w' => Row w' w.heap.size 53 8 A ∧ Row w' (w.heap.size + 1) 23 16 (fun _ => 0) ∧ Row w' (w.heap.size + 1 + 1) 23 16 (fun _ => 0) ∧ Below w.heap.size w w') mixedOrders (by kernel_rfl) (by simp) ⟨h0.drew, h1.drew, h2.drew, hb.drew⟩ ?_
  clear h0 h1 h2 hb
  iterate 2
    refine Seq.next ?_ (Sure.val rfl (fun w' hS => ?_)) ?_
    rotate_left 1
    · clear hS
      go_simp
      rfl
    simp only [Act.put, List.setIfInBounds_toArray, List.set_cons_zero, List.set_cons_succ]
  refine Seq.copy_Row rfl _ _ 22 22 rfl 5 undB size8 (w.heap.size + 1 + 1) 0 16 16 ⟨w.heap.size, 0, none⟩ 8 8 rfl rfl 23 16 (fun _ => 0) (fun w' hS => hS.2.2.1) 8 A (by decide) (fun w' hS j hj => by rw [Addr.add_mid, Nat.zero_add]; exact hS.1.cell j hj) (by omega) fun w' hS => ?_
  have h1 := hS.2.1.setRow_far (k := w.heap.size + 1 + 1) (by omega) (row 16 (cpy 0 8 (fun _ => 0) A))
  have h2 := hS.2.2.1.setRow (cpy 0 8 (fun _ => 0) A)
  have hb := below_setRow8 hS.2.2.2 (k := w.heap.size + 1 + 1) (by omega) (row 16 (cpy 0 8 (fun _ => 0) A))
  clear hS
  revert h1 h2 hb
  generalize w'.setRow (w.heap.size + 1 + 1) (row 16 (cpy 0 8 (fun _ => 0) A)) = w2
  intro h1 h2 hb
  simp only [Act.put, List.setIfInBounds_toArray, List.set_cons_zero, List.set_cons_succ]
  go_wp2_with (first | (refine wpList_copy_Row rfl _ _ 22 22 rfl 5 undB size8 (w.heap.size + 1 + 1) 8 8 8 ⟨g, off, none⟩ 8 c rfl rfl 23 16 _ h2 8 D (by decide) (fun j hj => by rw [Addr.add_mid]; exact (hb.cell (p := ⟨g, off + j, none⟩) hg).trans (hd j hj)) (by omega) ?_) | (refine wpList_load_Row rfl 23 _ rfl (w.heap.size + 1 + 1) rfl 23 16 _ _ (h2.setRow _) und16 size16 ?_) | (refine wpList_store_Row rfl 23 _ _ rfl (w.heap.size + 1) rfl 23 16 (fun _ => 0) _ rfl (h1.setRow_far (by omega) _) size16 ?_))
  have h3 := (h1.setRow_far (k := w.heap.size + 1 + 1) (by omega) (row 16 (cpy 8 8 (cpy 0 8 (fun _ => 0) A) D))).setRow (cpy 8 8 (cpy 0 8 (fun _ => 0) A) D)
  have hb3 := below_setRow8 (below_setRow8 hb (k := w.heap.size + 1 + 1) (by omega) (row 16 (cpy 8 8 (cpy 0 8 (fun _ => 0) A) D))) (k := w.heap.size + 1) (by omega) (row 16 (cpy 8 8 (cpy 0 8 (fun _ => 0) A) D))
  refine ret_Row rfl rfl _ _ 16 _ _ rfl h3 und16 size16 ⟨?_, hb3⟩
  rw [row_congr (both_cpy A D)]

theorem partOf_c (g o m c t at_ : Nat) (w : World) (ht : 1 ≤ t) (ht2 : t ≤ 1000) (hm : m ≤ 1000) (hm8 : 8 ≤ m) (hmc : m ≤ c) (_ : c ≤ 1000) (hat : (t - 1) * 8 % m = at_) (h8 : at_ + 8 ≤ m) :
    Calls Tryd.prog 38 #[.int .i64 (t : Int), .slice (some ⟨g, o, none⟩) m c] w fun e w' => e = .returned (.slice (some ⟨g, o + at_, none⟩) 8 (c - at_)) ∧ w' = w := by
  have h1 : ((t : Int) - 1) * 8 % (m : Int) = (at_ : Int) := by
    rw [← hat, show ((t : Int) - 1) * 8 = (((t - 1) * 8 : Nat) : Int) by omega, ← Int.natCast_emod]
  have hX0 : 0 ≤ ((t : Int) - 1) * 8 % (m : Int) := by rw [h1]; omega
  have hX1 : ((t : Int) - 1) * 8 % (m : Int) + 8 ≤ (m : Int) := by rw [h1]; omega
  have H1 := Lib.hid h1
  have H2 := Lib.hid hat
  clear h1 hat
  go_enter Tryd.func38, Tryd.ntmps38
  go_wp2
  go_ret
  refine ⟨?_, rfl⟩
  show Ending.returned (Value.slice (some ⟨g, o + (t - 1) * 8 % m, none⟩) ((t - 1) * 8 % m + 8 - (t - 1) * 8 % m) (c - (t - 1) * 8 % m)) = _
  rw [H2.out, Nat.add_sub_cancel_left]
end Go.Proofs.YtcpfiimbobijlaaDoor
