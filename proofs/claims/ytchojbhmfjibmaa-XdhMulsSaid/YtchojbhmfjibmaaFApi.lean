/- The program's Add, Sub, Mul, Canonical on 32 bytes (mkfapi.py writes this text). -/
import Derived.Test.YtchojbhmfjibmaaFPut
import Derived.Test.YtchojbhmfjibmaaFTimes
namespace Go.Proofs.Ytchojbhmfjibmaa
open Go Go.RowKit
set_option maxRecDepth 100000

theorem three_newF (w : World) (t : TypeId) (f g k : Nat → UInt8) :
    Row (((w.alloc (.cells (row 32 f) t)).alloc (.cells (row 32 g) t)).alloc (.cells (row 32 k) t)) w.heap.size t 32 f ∧ Row (((w.alloc (.cells (row 32 f) t)).alloc (.cells (row 32 g) t)).alloc (.cells (row 32 k) t)) (w.heap.size + 1) t 32 g ∧
      Row (((w.alloc (.cells (row 32 f) t)).alloc (.cells (row 32 g) t)).alloc (.cells (row 32 k) t)) (w.heap.size + 1 + 1) t 32 k ∧ Below w.heap.size w (((w.alloc (.cells (row 32 f) t)).alloc (.cells (row 32 g) t)).alloc (.cells (row 32 k) t)) := by
  have h1 := Row.new (w.alloc (.cells (row 32 f) t)) t 32 g
  have h2 := Row.new ((w.alloc (.cells (row 32 f) t)).alloc (.cells (row 32 g) t)) t 32 k
  simp only [World.size_alloc] at h1 h2
  exact ⟨((Row.new w t 32 f).alloc _).alloc _, h1.alloc _, h2, (((Below.refl _ _).alloc (Nat.le_refl _) _).alloc (by simp) _).alloc (by simp; omega) _⟩

set_option maxHeartbeats 4000000 in
theorem add_c (a b : Nat → UInt8) (w : World) : Calls Try.prog 42 #[.agg (row 32 a), .agg (row 32 b)] w fun e w' => e = .returned (.agg (row 32 (byteN (fv (lv a 32 + lv b 32) % pN)))) ∧ Below w.heap.size w w' := by
  have hlt : fv (lv a 32 + lv b 32) < 2 ^ 256 := fv_lt (by have := lv_lt32 a; have := lv_lt32 b; omega)
  go_enter Try.func42, Try.ntmps42
  go_upto_region 1 with (first | (refine wpList_alloc_Row rfl 22 rfl 32 z32B ?_))
  have hz := three_newF w 22 a b (fun _ => 0)
  revert hz
  generalize ((w.alloc (.cells (row 32 a) 22)).alloc (.cells (row 32 b) 22)).alloc (.cells (row 32 fun _ => 0) 22) = w1
  rintro ⟨h1, h2, h3, h4⟩
  (try simp only [Act.put, List.setIfInBounds_toArray, List.set_cons_zero, List.set_cons_succ, World.size_alloc])
  refine region_seq (fun W' => Row W' w.heap.size 22 32 a ∧ Row W' (w.heap.size + 1) 22 32 b ∧ Row W' (w.heap.size + 1 + 1) 22 32 (fun _ => 0) ∧ Below w.heap.size w W') mixedOrders (by kernel_rfl) (by simp) ⟨h1.drew, h2.drew, h3.drew, h4.drew⟩ ?_
  clear h1 h2 h3 h4
  refine Seq.next (.agg (row 32 a)) (Sure.load_Row rfl 22 _ rfl w.heap.size rfl 22 32 _ _ (fun w' hS => hS.1) und32B size32B) ?_
  simp only [Act.put, List.setIfInBounds_toArray, List.set_cons_zero, List.set_cons_succ]
  refine Seq.next (.agg (row64 4 (words (lv a 32)))) (Sure.call (f := 47) (args := #[.agg (row 32 a)]) rfl (fun w' => by go_simp) (fun w' hS => (read_c a w').mono fun e w'' h => ⟨h.1, hS.1.below h.2 hS.1.lt, hS.2.1.below h.2 hS.2.1.lt, hS.2.2.1.below h.2 hS.2.2.1.lt, hS.2.2.2.trans (h.2.mono hS.2.2.2.size)⟩)) ?_
  simp only [Act.put, List.setIfInBounds_toArray, List.set_cons_zero, List.set_cons_succ]
  refine Seq.next (.agg (row 32 b)) (Sure.load_Row rfl 22 _ rfl (w.heap.size + 1) rfl 22 32 _ _ (fun w' hS => hS.2.1) und32B size32B) ?_
  simp only [Act.put, List.setIfInBounds_toArray, List.set_cons_zero, List.set_cons_succ]
  refine Seq.next (.agg (row64 4 (words (lv b 32)))) (Sure.call (f := 47) (args := #[.agg (row 32 b)]) rfl (fun w' => by go_simp) (fun w' hS => (read_c b w').mono fun e w'' h => ⟨h.1, hS.1.below h.2 hS.1.lt, hS.2.1.below h.2 hS.2.1.lt, hS.2.2.1.below h.2 hS.2.2.1.lt, hS.2.2.2.trans (h.2.mono hS.2.2.2.size)⟩)) ?_
  simp only [Act.put, List.setIfInBounds_toArray, List.set_cons_zero, List.set_cons_succ]
  refine Seq.next (.agg (row64 4 (words (fv (lv a 32 + lv b 32))))) (Sure.call (f := 50) (args := #[(.agg (row64 4 (words (lv a 32)))), (.agg (row64 4 (words (lv b 32))))]) rfl (fun w' => by go_simp) (fun w' hS => (plus_c (lv a 32) (lv b 32) (lv_lt32 a) (lv_lt32 b) w').mono fun e w'' h => ⟨h.1, hS.1.below h.2 hS.1.lt, hS.2.1.below h.2 hS.2.1.lt, hS.2.2.1.below h.2 hS.2.2.1.lt, hS.2.2.2.trans (h.2.mono hS.2.2.2.size)⟩)) ?_
  simp only [Act.put, List.setIfInBounds_toArray, List.set_cons_zero, List.set_cons_succ]
  refine Seq.next (.agg (row 32 (byteN (fv (lv a 32 + lv b 32) % pN)))) (Sure.call (f := 45) (args := #[(.agg (row64 4 (words (fv (lv a 32 + lv b 32)))))]) rfl (fun w' => by go_simp) (fun w' hS => (bytesOf_c (fv (lv a 32 + lv b 32)) hlt w').mono fun e w'' h => ⟨h.1, hS.1.below h.2 hS.1.lt, hS.2.1.below h.2 hS.2.1.lt, hS.2.2.1.below h.2 hS.2.2.1.lt, hS.2.2.2.trans (h.2.mono hS.2.2.2.size)⟩)) ?_
  simp only [Act.put, List.setIfInBounds_toArray, List.set_cons_zero, List.set_cons_succ]
  refine Seq.store_Row rfl 22 _ _ rfl (w.heap.size + 1 + 1) rfl 22 32 (fun _ => 0) (byteN (fv (lv a 32 + lv b 32) % pN)) rfl (fun w' hS => hS.2.2.1) size32B (fun w' hS => ?_)
  have hr := hS.2.2.1.setRow (byteN (fv (lv a 32 + lv b 32) % pN))
  have hb := below_setRow8 hS.2.2.2 (k := w.heap.size + 1 + 1) (by omega) (row 32 (byteN (fv (lv a 32 + lv b 32) % pN)))
  clear hS
  revert hr hb
  generalize w'.setRow (w.heap.size + 1 + 1) (row 32 (byteN (fv (lv a 32 + lv b 32) % pN))) = w4
  intro hr hb
  simp only [Act.put]
  go_wp2
  exact ret_Row rfl rfl _ _ 32 _ _ rfl hr und32B size32B ⟨rfl, hb⟩

set_option maxHeartbeats 4000000 in
theorem sub_c (a b : Nat → UInt8) (w : World) : Calls Try.prog 43 #[.agg (row 32 a), .agg (row 32 b)] w fun e w' => e = .returned (.agg (row 32 (byteN (mi (lv a 32) (lv b 32) % pN)))) ∧ Below w.heap.size w w' := by
  have hlt : mi (lv a 32) (lv b 32) < 2 ^ 256 := (mi_facts _ _ (lv_lt32 a) (lv_lt32 b)).2.1
  go_enter Try.func43, Try.ntmps43
  go_upto_region 1 with (first | (refine wpList_alloc_Row rfl 22 rfl 32 z32B ?_))
  have hz := three_newF w 22 a b (fun _ => 0)
  revert hz
  generalize ((w.alloc (.cells (row 32 a) 22)).alloc (.cells (row 32 b) 22)).alloc (.cells (row 32 fun _ => 0) 22) = w1
  rintro ⟨h1, h2, h3, h4⟩
  (try simp only [Act.put, List.setIfInBounds_toArray, List.set_cons_zero, List.set_cons_succ, World.size_alloc])
  refine region_seq (fun W' => Row W' w.heap.size 22 32 a ∧ Row W' (w.heap.size + 1) 22 32 b ∧ Row W' (w.heap.size + 1 + 1) 22 32 (fun _ => 0) ∧ Below w.heap.size w W') mixedOrders (by kernel_rfl) (by simp) ⟨h1.drew, h2.drew, h3.drew, h4.drew⟩ ?_
  clear h1 h2 h3 h4
  refine Seq.next (.agg (row 32 a)) (Sure.load_Row rfl 22 _ rfl w.heap.size rfl 22 32 _ _ (fun w' hS => hS.1) und32B size32B) ?_
  simp only [Act.put, List.setIfInBounds_toArray, List.set_cons_zero, List.set_cons_succ]
  refine Seq.next (.agg (row64 4 (words (lv a 32)))) (Sure.call (f := 47) (args := #[.agg (row 32 a)]) rfl (fun w' => by go_simp) (fun w' hS => (read_c a w').mono fun e w'' h => ⟨h.1, hS.1.below h.2 hS.1.lt, hS.2.1.below h.2 hS.2.1.lt, hS.2.2.1.below h.2 hS.2.2.1.lt, hS.2.2.2.trans (h.2.mono hS.2.2.2.size)⟩)) ?_
  simp only [Act.put, List.setIfInBounds_toArray, List.set_cons_zero, List.set_cons_succ]
  refine Seq.next (.agg (row 32 b)) (Sure.load_Row rfl 22 _ rfl (w.heap.size + 1) rfl 22 32 _ _ (fun w' hS => hS.2.1) und32B size32B) ?_
  simp only [Act.put, List.setIfInBounds_toArray, List.set_cons_zero, List.set_cons_succ]
  refine Seq.next (.agg (row64 4 (words (lv b 32)))) (Sure.call (f := 47) (args := #[.agg (row 32 b)]) rfl (fun w' => by go_simp) (fun w' hS => (read_c b w').mono fun e w'' h => ⟨h.1, hS.1.below h.2 hS.1.lt, hS.2.1.below h.2 hS.2.1.lt, hS.2.2.1.below h.2 hS.2.2.1.lt, hS.2.2.2.trans (h.2.mono hS.2.2.2.size)⟩)) ?_
  simp only [Act.put, List.setIfInBounds_toArray, List.set_cons_zero, List.set_cons_succ]
  refine Seq.next (.agg (row64 4 (words (mi (lv a 32) (lv b 32))))) (Sure.call (f := 51) (args := #[(.agg (row64 4 (words (lv a 32)))), (.agg (row64 4 (words (lv b 32))))]) rfl (fun w' => by go_simp) (fun w' hS => (minus_c (lv a 32) (lv b 32) (lv_lt32 a) (lv_lt32 b) w').mono fun e w'' h => ⟨h.1, hS.1.below h.2 hS.1.lt, hS.2.1.below h.2 hS.2.1.lt, hS.2.2.1.below h.2 hS.2.2.1.lt, hS.2.2.2.trans (h.2.mono hS.2.2.2.size)⟩)) ?_
  simp only [Act.put, List.setIfInBounds_toArray, List.set_cons_zero, List.set_cons_succ]
  refine Seq.next (.agg (row 32 (byteN (mi (lv a 32) (lv b 32) % pN)))) (Sure.call (f := 45) (args := #[(.agg (row64 4 (words (mi (lv a 32) (lv b 32)))))]) rfl (fun w' => by go_simp) (fun w' hS => (bytesOf_c (mi (lv a 32) (lv b 32)) hlt w').mono fun e w'' h => ⟨h.1, hS.1.below h.2 hS.1.lt, hS.2.1.below h.2 hS.2.1.lt, hS.2.2.1.below h.2 hS.2.2.1.lt, hS.2.2.2.trans (h.2.mono hS.2.2.2.size)⟩)) ?_
  simp only [Act.put, List.setIfInBounds_toArray, List.set_cons_zero, List.set_cons_succ]
  refine Seq.store_Row rfl 22 _ _ rfl (w.heap.size + 1 + 1) rfl 22 32 (fun _ => 0) (byteN (mi (lv a 32) (lv b 32) % pN)) rfl (fun w' hS => hS.2.2.1) size32B (fun w' hS => ?_)
  have hr := hS.2.2.1.setRow (byteN (mi (lv a 32) (lv b 32) % pN))
  have hb := below_setRow8 hS.2.2.2 (k := w.heap.size + 1 + 1) (by omega) (row 32 (byteN (mi (lv a 32) (lv b 32) % pN)))
  clear hS
  revert hr hb
  generalize w'.setRow (w.heap.size + 1 + 1) (row 32 (byteN (mi (lv a 32) (lv b 32) % pN))) = w4
  intro hr hb
  simp only [Act.put]
  go_wp2
  exact ret_Row rfl rfl _ _ 32 _ _ rfl hr und32B size32B ⟨rfl, hb⟩

set_option maxHeartbeats 4000000 in
theorem mul_c (a b : Nat → UInt8) (w : World) : Calls Try.prog 33 #[.agg (row 32 a), .agg (row 32 b)] w fun e w' => e = .returned (.agg (row 32 (byteN (tm (lv a 32) (lv b 32) % pN)))) ∧ Below w.heap.size w w' := by
  have hlt : tm (lv a 32) (lv b 32) < 2 ^ 256 := tm_lt (lv_lt32 a) (lv_lt32 b)
  go_enter Try.func33, Try.ntmps33
  go_upto_region 1 with (first | (refine wpList_alloc_Row rfl 22 rfl 32 z32B ?_))
  have hz := three_newF w 22 a b (fun _ => 0)
  revert hz
  generalize ((w.alloc (.cells (row 32 a) 22)).alloc (.cells (row 32 b) 22)).alloc (.cells (row 32 fun _ => 0) 22) = w1
  rintro ⟨h1, h2, h3, h4⟩
  (try simp only [Act.put, List.setIfInBounds_toArray, List.set_cons_zero, List.set_cons_succ, World.size_alloc])
  refine region_seq (fun W' => Row W' w.heap.size 22 32 a ∧ Row W' (w.heap.size + 1) 22 32 b ∧ Row W' (w.heap.size + 1 + 1) 22 32 (fun _ => 0) ∧ Below w.heap.size w W') mixedOrders (by kernel_rfl) (by simp) ⟨h1.drew, h2.drew, h3.drew, h4.drew⟩ ?_
  clear h1 h2 h3 h4
  refine Seq.next (.agg (row 32 a)) (Sure.load_Row rfl 22 _ rfl w.heap.size rfl 22 32 _ _ (fun w' hS => hS.1) und32B size32B) ?_
  simp only [Act.put, List.setIfInBounds_toArray, List.set_cons_zero, List.set_cons_succ]
  refine Seq.next (.agg (row64 4 (words (lv a 32)))) (Sure.call (f := 47) (args := #[.agg (row 32 a)]) rfl (fun w' => by go_simp) (fun w' hS => (read_c a w').mono fun e w'' h => ⟨h.1, hS.1.below h.2 hS.1.lt, hS.2.1.below h.2 hS.2.1.lt, hS.2.2.1.below h.2 hS.2.2.1.lt, hS.2.2.2.trans (h.2.mono hS.2.2.2.size)⟩)) ?_
  simp only [Act.put, List.setIfInBounds_toArray, List.set_cons_zero, List.set_cons_succ]
  refine Seq.next (.agg (row 32 b)) (Sure.load_Row rfl 22 _ rfl (w.heap.size + 1) rfl 22 32 _ _ (fun w' hS => hS.2.1) und32B size32B) ?_
  simp only [Act.put, List.setIfInBounds_toArray, List.set_cons_zero, List.set_cons_succ]
  refine Seq.next (.agg (row64 4 (words (lv b 32)))) (Sure.call (f := 47) (args := #[.agg (row 32 b)]) rfl (fun w' => by go_simp) (fun w' hS => (read_c b w').mono fun e w'' h => ⟨h.1, hS.1.below h.2 hS.1.lt, hS.2.1.below h.2 hS.2.1.lt, hS.2.2.1.below h.2 hS.2.2.1.lt, hS.2.2.2.trans (h.2.mono hS.2.2.2.size)⟩)) ?_
  simp only [Act.put, List.setIfInBounds_toArray, List.set_cons_zero, List.set_cons_succ]
  refine Seq.next (.agg (row64 4 (words (tm (lv a 32) (lv b 32))))) (Sure.call (f := 46) (args := #[(.agg (row64 4 (words (lv a 32)))), (.agg (row64 4 (words (lv b 32))))]) rfl (fun w' => by go_simp) (fun w' hS => (times_c (lv a 32) (lv b 32) (lv_lt32 a) (lv_lt32 b) w').mono fun e w'' h => ⟨h.1, hS.1.below h.2 hS.1.lt, hS.2.1.below h.2 hS.2.1.lt, hS.2.2.1.below h.2 hS.2.2.1.lt, hS.2.2.2.trans (h.2.mono hS.2.2.2.size)⟩)) ?_
  simp only [Act.put, List.setIfInBounds_toArray, List.set_cons_zero, List.set_cons_succ]
  refine Seq.next (.agg (row 32 (byteN (tm (lv a 32) (lv b 32) % pN)))) (Sure.call (f := 45) (args := #[(.agg (row64 4 (words (tm (lv a 32) (lv b 32)))))]) rfl (fun w' => by go_simp) (fun w' hS => (bytesOf_c (tm (lv a 32) (lv b 32)) hlt w').mono fun e w'' h => ⟨h.1, hS.1.below h.2 hS.1.lt, hS.2.1.below h.2 hS.2.1.lt, hS.2.2.1.below h.2 hS.2.2.1.lt, hS.2.2.2.trans (h.2.mono hS.2.2.2.size)⟩)) ?_
  simp only [Act.put, List.setIfInBounds_toArray, List.set_cons_zero, List.set_cons_succ]
  refine Seq.store_Row rfl 22 _ _ rfl (w.heap.size + 1 + 1) rfl 22 32 (fun _ => 0) (byteN (tm (lv a 32) (lv b 32) % pN)) rfl (fun w' hS => hS.2.2.1) size32B (fun w' hS => ?_)
  have hr := hS.2.2.1.setRow (byteN (tm (lv a 32) (lv b 32) % pN))
  have hb := below_setRow8 hS.2.2.2 (k := w.heap.size + 1 + 1) (by omega) (row 32 (byteN (tm (lv a 32) (lv b 32) % pN)))
  clear hS
  revert hr hb
  generalize w'.setRow (w.heap.size + 1 + 1) (row 32 (byteN (tm (lv a 32) (lv b 32) % pN))) = w4
  intro hr hb
  simp only [Act.put]
  go_wp2
  exact ret_Row rfl rfl _ _ 32 _ _ rfl hr und32B size32B ⟨rfl, hb⟩
end Go.Proofs.Ytchojbhmfjibmaa
