/- The document's Add, Sub, Mul, Canonical on 32 bytes (mkrapi.py writes this text). -/
import Derived.Test.YtchojbhmfjibmaaRFrom
namespace Go.Proofs.Ytchojbhmfjibmaa
open Go Go.RowKit
set_option maxRecDepth 100000

theorem three_newB (w : World) (t : TypeId) (f g k : Nat → UInt8) :
    Row (((w.alloc (.cells (row 32 f) t)).alloc (.cells (row 32 g) t)).alloc (.cells (row 32 k) t)) w.heap.size t 32 f ∧ Row (((w.alloc (.cells (row 32 f) t)).alloc (.cells (row 32 g) t)).alloc (.cells (row 32 k) t)) (w.heap.size + 1) t 32 g ∧
      Row (((w.alloc (.cells (row 32 f) t)).alloc (.cells (row 32 g) t)).alloc (.cells (row 32 k) t)) (w.heap.size + 1 + 1) t 32 k ∧ Below w.heap.size w (((w.alloc (.cells (row 32 f) t)).alloc (.cells (row 32 g) t)).alloc (.cells (row 32 k) t)) := by
  have h1 := Row.new (w.alloc (.cells (row 32 f) t)) t 32 g
  have h2 := Row.new ((w.alloc (.cells (row 32 f) t)).alloc (.cells (row 32 g) t)) t 32 k
  simp only [World.size_alloc] at h1 h2
  exact ⟨((Row.new w t 32 f).alloc _).alloc _, h1.alloc _, h2, (((Below.refl _ _).alloc (Nat.le_refl _) _).alloc (by simp) _).alloc (by simp; omega) _⟩

set_option maxHeartbeats 4000000 in
theorem radd_c (a b : Nat → UInt8) (w : World) : Calls Try.prog 15 #[.agg (row 32 a), .agg (row 32 b)] w fun e w' => e = .returned (.agg (row 32 (byteN (fv (lv a 32 + lv b 32) % pN)))) ∧ Below w.heap.size w w' := by
  have hlt : fv (lv a 32 + lv b 32) < 2 ^ 256 := fv_lt (by have := lv_lt32 a; have := lv_lt32 b; omega)
  go_enter Try.func15, Try.ntmps15
  go_upto_region 1 with (first | (refine wpList_alloc_Row rfl 22 rfl 32 z32B ?_))
  have hz := three_newB w 22 a b (fun _ => 0)
  revert hz
  generalize ((w.alloc (.cells (row 32 a) 22)).alloc (.cells (row 32 b) 22)).alloc (.cells (row 32 fun _ => 0) 22) = w1
  rintro ⟨h1, h2, h3, h4⟩
  (try simp only [Act.put, List.setIfInBounds_toArray, List.set_cons_zero, List.set_cons_succ, World.size_alloc])
  refine region_seq (fun W' => Row W' w.heap.size 22 32 a ∧ Row W' (w.heap.size + 1) 22 32 b ∧ Row W' (w.heap.size + 1 + 1) 22 32 (fun _ => 0) ∧ Below w.heap.size w W') mixedOrders (by kernel_rfl) (by simp) ⟨h1.drew, h2.drew, h3.drew, h4.drew⟩ ?_
  clear h1 h2 h3 h4
  refine Seq.next (.agg (row 32 a)) (Sure.load_Row rfl 22 _ rfl w.heap.size rfl 22 32 _ _ (fun w' hS => hS.1) und32B size32B) ?_
  simp only [Act.put, List.setIfInBounds_toArray, List.set_cons_zero, List.set_cons_succ]
  refine Seq.next (.agg (row64 4 (words (lv a 32)))) (Sure.call (f := 21) (args := #[.agg (row 32 a)]) rfl (fun w' => by go_simp) (fun w' hS => (rfrom_c a w').mono fun e w'' h => ⟨h.1, hS.1.below h.2 hS.1.lt, hS.2.1.below h.2 hS.2.1.lt, hS.2.2.1.below h.2 hS.2.2.1.lt, hS.2.2.2.trans (h.2.mono hS.2.2.2.size)⟩)) ?_
  simp only [Act.put, List.setIfInBounds_toArray, List.set_cons_zero, List.set_cons_succ]
  refine Seq.next (.agg (row 32 b)) (Sure.load_Row rfl 22 _ rfl (w.heap.size + 1) rfl 22 32 _ _ (fun w' hS => hS.2.1) und32B size32B) ?_
  simp only [Act.put, List.setIfInBounds_toArray, List.set_cons_zero, List.set_cons_succ]
  refine Seq.next (.agg (row64 4 (words (lv b 32)))) (Sure.call (f := 21) (args := #[.agg (row 32 b)]) rfl (fun w' => by go_simp) (fun w' hS => (rfrom_c b w').mono fun e w'' h => ⟨h.1, hS.1.below h.2 hS.1.lt, hS.2.1.below h.2 hS.2.1.lt, hS.2.2.1.below h.2 hS.2.2.1.lt, hS.2.2.2.trans (h.2.mono hS.2.2.2.size)⟩)) ?_
  simp only [Act.put, List.setIfInBounds_toArray, List.set_cons_zero, List.set_cons_succ]
  refine Seq.next (.agg (row64 4 (words (fv (lv a 32 + lv b 32))))) (Sure.call (f := 23) (args := #[(.agg (row64 4 (words (lv a 32)))), (.agg (row64 4 (words (lv b 32))))]) rfl (fun w' => by go_simp) (fun w' hS => (rplus_c (lv a 32) (lv b 32) (lv_lt32 a) (lv_lt32 b) w').mono fun e w'' h => ⟨h.1, hS.1.below h.2 hS.1.lt, hS.2.1.below h.2 hS.2.1.lt, hS.2.2.1.below h.2 hS.2.2.1.lt, hS.2.2.2.trans (h.2.mono hS.2.2.2.size)⟩)) ?_
  simp only [Act.put, List.setIfInBounds_toArray, List.set_cons_zero, List.set_cons_succ]
  refine Seq.next (.agg (row 32 (byteN (fv (lv a 32 + lv b 32) % pN)))) (Sure.call (f := 26) (args := #[(.agg (row64 4 (words (fv (lv a 32 + lv b 32)))))]) rfl (fun w' => by go_simp) (fun w' hS => (rbytes_c (fv (lv a 32 + lv b 32)) hlt w').mono fun e w'' h => ⟨h.1, hS.1.below h.2 hS.1.lt, hS.2.1.below h.2 hS.2.1.lt, hS.2.2.1.below h.2 hS.2.2.1.lt, hS.2.2.2.trans (h.2.mono hS.2.2.2.size)⟩)) ?_
  simp only [Act.put, List.setIfInBounds_toArray, List.set_cons_zero, List.set_cons_succ]
  refine Seq.store_Row rfl 22 _ _ rfl (w.heap.size + 1 + 1) rfl 22 32 (fun _ => 0) (byteN (fv (lv a 32 + lv b 32) % pN)) rfl (fun w' hS => hS.2.2.1) size32B (fun w' hS => ?_)
  have hr := hS.2.2.1.setRow (byteN (fv (lv a 32 + lv b 32) % pN))
  have hb := below_setRow8 hS.2.2.2 (k := w.heap.size + 1 + 1) (by omega) (row 32 (byteN (fv (lv a 32 + lv b 32) % pN)))
  clear hS
  revert hr hb
  generalize w'.setRow (w.heap.size + 1 + 1) (row 32 (byteN (fv (lv a 32 + lv b 32) % pN))) = w4
  intro hr hb
  simp only [Act.put]
  go_wp2
  exact ret_Row rfl rfl _ _ 32 _ _ rfl hr und32B size32B ⟨rfl, hb⟩

set_option maxHeartbeats 4000000 in
theorem rsub_c (a b : Nat → UInt8) (w : World) : Calls Try.prog 17 #[.agg (row 32 a), .agg (row 32 b)] w fun e w' => e = .returned (.agg (row 32 (byteN (fv (lv a 32 + (pN - lv b 32 % pN)) % pN)))) ∧ Below w.heap.size w w' := by
  have hlt : fv (lv a 32 + (pN - lv b 32 % pN)) < 2 ^ 256 := fv_lt (by have := lv_lt32 a; have : pN < 2 ^ 256 := (by decide); omega)
  go_enter Try.func17, Try.ntmps17
  go_upto_region 1 with (first | (refine wpList_alloc_Row rfl 22 rfl 32 z32B ?_))
  have hz := three_newB w 22 a b (fun _ => 0)
  revert hz
  generalize ((w.alloc (.cells (row 32 a) 22)).alloc (.cells (row 32 b) 22)).alloc (.cells (row 32 fun _ => 0) 22) = w1
  rintro ⟨h1, h2, h3, h4⟩
  (try simp only [Act.put, List.setIfInBounds_toArray, List.set_cons_zero, List.set_cons_succ, World.size_alloc])
  refine region_seq (fun W' => Row W' w.heap.size 22 32 a ∧ Row W' (w.heap.size + 1) 22 32 b ∧ Row W' (w.heap.size + 1 + 1) 22 32 (fun _ => 0) ∧ Below w.heap.size w W') mixedOrders (by kernel_rfl) (by simp) ⟨h1.drew, h2.drew, h3.drew, h4.drew⟩ ?_
  clear h1 h2 h3 h4
  refine Seq.next (.agg (row 32 a)) (Sure.load_Row rfl 22 _ rfl w.heap.size rfl 22 32 _ _ (fun w' hS => hS.1) und32B size32B) ?_
  simp only [Act.put, List.setIfInBounds_toArray, List.set_cons_zero, List.set_cons_succ]
  refine Seq.next (.agg (row64 4 (words (lv a 32)))) (Sure.call (f := 21) (args := #[.agg (row 32 a)]) rfl (fun w' => by go_simp) (fun w' hS => (rfrom_c a w').mono fun e w'' h => ⟨h.1, hS.1.below h.2 hS.1.lt, hS.2.1.below h.2 hS.2.1.lt, hS.2.2.1.below h.2 hS.2.2.1.lt, hS.2.2.2.trans (h.2.mono hS.2.2.2.size)⟩)) ?_
  simp only [Act.put, List.setIfInBounds_toArray, List.set_cons_zero, List.set_cons_succ]
  refine Seq.next (.agg (row 32 b)) (Sure.load_Row rfl 22 _ rfl (w.heap.size + 1) rfl 22 32 _ _ (fun w' hS => hS.2.1) und32B size32B) ?_
  simp only [Act.put, List.setIfInBounds_toArray, List.set_cons_zero, List.set_cons_succ]
  refine Seq.next (.agg (row64 4 (words (lv b 32)))) (Sure.call (f := 21) (args := #[.agg (row 32 b)]) rfl (fun w' => by go_simp) (fun w' hS => (rfrom_c b w').mono fun e w'' h => ⟨h.1, hS.1.below h.2 hS.1.lt, hS.2.1.below h.2 hS.2.1.lt, hS.2.2.1.below h.2 hS.2.2.1.lt, hS.2.2.2.trans (h.2.mono hS.2.2.2.size)⟩)) ?_
  simp only [Act.put, List.setIfInBounds_toArray, List.set_cons_zero, List.set_cons_succ]
  refine Seq.next (.agg (row64 4 (words (fv (lv a 32 + (pN - lv b 32 % pN)))))) (Sure.call (f := 24) (args := #[(.agg (row64 4 (words (lv a 32)))), (.agg (row64 4 (words (lv b 32))))]) rfl (fun w' => by go_simp) (fun w' hS => (rminus_c (lv a 32) (lv b 32) (lv_lt32 a) (lv_lt32 b) w').mono fun e w'' h => ⟨h.1, hS.1.below h.2 hS.1.lt, hS.2.1.below h.2 hS.2.1.lt, hS.2.2.1.below h.2 hS.2.2.1.lt, hS.2.2.2.trans (h.2.mono hS.2.2.2.size)⟩)) ?_
  simp only [Act.put, List.setIfInBounds_toArray, List.set_cons_zero, List.set_cons_succ]
  refine Seq.next (.agg (row 32 (byteN (fv (lv a 32 + (pN - lv b 32 % pN)) % pN)))) (Sure.call (f := 26) (args := #[(.agg (row64 4 (words (fv (lv a 32 + (pN - lv b 32 % pN))))))]) rfl (fun w' => by go_simp) (fun w' hS => (rbytes_c (fv (lv a 32 + (pN - lv b 32 % pN))) hlt w').mono fun e w'' h => ⟨h.1, hS.1.below h.2 hS.1.lt, hS.2.1.below h.2 hS.2.1.lt, hS.2.2.1.below h.2 hS.2.2.1.lt, hS.2.2.2.trans (h.2.mono hS.2.2.2.size)⟩)) ?_
  simp only [Act.put, List.setIfInBounds_toArray, List.set_cons_zero, List.set_cons_succ]
  refine Seq.store_Row rfl 22 _ _ rfl (w.heap.size + 1 + 1) rfl 22 32 (fun _ => 0) (byteN (fv (lv a 32 + (pN - lv b 32 % pN)) % pN)) rfl (fun w' hS => hS.2.2.1) size32B (fun w' hS => ?_)
  have hr := hS.2.2.1.setRow (byteN (fv (lv a 32 + (pN - lv b 32 % pN)) % pN))
  have hb := below_setRow8 hS.2.2.2 (k := w.heap.size + 1 + 1) (by omega) (row 32 (byteN (fv (lv a 32 + (pN - lv b 32 % pN)) % pN)))
  clear hS
  revert hr hb
  generalize w'.setRow (w.heap.size + 1 + 1) (row 32 (byteN (fv (lv a 32 + (pN - lv b 32 % pN)) % pN))) = w4
  intro hr hb
  simp only [Act.put]
  go_wp2
  exact ret_Row rfl rfl _ _ 32 _ _ rfl hr und32B size32B ⟨rfl, hb⟩

set_option maxHeartbeats 4000000 in
theorem rcanon_c (a : Nat → UInt8) (w : World) : Calls Try.prog 16 #[.agg (row 32 a)] w fun e w' => e = .returned (.bool (decide (lv a 32 < pN))) ∧ Below w.heap.size w w' := by
  go_enter Try.func16, Try.ntmps16
  have h1 := Row.new w 22 32 a
  have h2 : Below w.heap.size w (w.alloc (.cells (row 32 a) 22)) := (Below.refl _ _).alloc (Nat.le_refl _) _
  have hf := fun W => rfrom_c a W
  have hp := fun W => rp_c W
  have hb := fun W => rbelow_c (lv a 32) pN (lv_lt32 a) (by decide) W
  go_wp2_with (first | (refine wpList_load_Row rfl 22 _ rfl w.heap.size rfl 22 32 _ _ h1 und32B size32B ?_) | (go_at_call 21; refine (hf _).mono ?_; rintro e w5 ⟨rfl, hw5⟩; have h2 := h2.trans (hw5.mono h2.size)) | (go_at_call 29; refine (hp _).mono ?_; rintro e w6 ⟨rfl, hw6⟩; have h2 := h2.trans (hw6.mono h2.size)) | (go_at_call 28; refine (hb _).mono ?_; rintro e w7 ⟨rfl, hw7⟩; have h2 := h2.trans (hw7.mono h2.size)))
  go_ret
  exact ⟨rfl, h2⟩
end Go.Proofs.Ytchojbhmfjibmaa
