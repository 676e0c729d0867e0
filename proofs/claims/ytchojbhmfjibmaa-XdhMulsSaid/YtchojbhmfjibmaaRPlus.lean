/- The document's sums and differences of four words (mkrplus.py writes this text). -/
import Derived.Test.YtchojbhmfjibmaaRFold
import Derived.Test.YtchojbhmfjibmaaRegP
namespace Go.Proofs.Ytchojbhmfjibmaa
open Go Go.RowKit
set_option maxRecDepth 100000

theorem four_new (w : World) (t : TypeId) (f g k l : Nat → UInt64) :
    Row64 ((((w.alloc (.cells (row64 4 f) t)).alloc (.cells (row64 4 g) t)).alloc (.cells (row64 4 k) t)).alloc (.cells (row64 4 l) t)) w.heap.size t 4 f ∧
    Row64 ((((w.alloc (.cells (row64 4 f) t)).alloc (.cells (row64 4 g) t)).alloc (.cells (row64 4 k) t)).alloc (.cells (row64 4 l) t)) (w.heap.size + 1) t 4 g ∧
    Row64 ((((w.alloc (.cells (row64 4 f) t)).alloc (.cells (row64 4 g) t)).alloc (.cells (row64 4 k) t)).alloc (.cells (row64 4 l) t)) (w.heap.size + 1 + 1) t 4 k ∧
    Row64 ((((w.alloc (.cells (row64 4 f) t)).alloc (.cells (row64 4 g) t)).alloc (.cells (row64 4 k) t)).alloc (.cells (row64 4 l) t)) (w.heap.size + 1 + 1 + 1) t 4 l ∧
    Below w.heap.size w ((((w.alloc (.cells (row64 4 f) t)).alloc (.cells (row64 4 g) t)).alloc (.cells (row64 4 k) t)).alloc (.cells (row64 4 l) t)) := by
  have h1 := Row64.new (w.alloc (.cells (row64 4 f) t)) t 4 g
  have h2 := Row64.new ((w.alloc (.cells (row64 4 f) t)).alloc (.cells (row64 4 g) t)) t 4 k
  have h3 := Row64.new (((w.alloc (.cells (row64 4 f) t)).alloc (.cells (row64 4 g) t)).alloc (.cells (row64 4 k) t)) t 4 l
  simp only [World.size_alloc] at h1 h2 h3
  exact ⟨(((Row64.new w t 4 f).alloc _).alloc _).alloc _, (h1.alloc _).alloc _, h2.alloc _, h3, ((((Below.refl _ _).alloc (Nat.le_refl _) _).alloc (by simp) _).alloc (by simp; omega) _).alloc (by simp; omega) _⟩

set_option maxHeartbeats 4000000 in
theorem rplus_c (a b : Nat) (ha : a < 2 ^ 256) (hb : b < 2 ^ 256) (w : World) : Calls Try.prog 23 #[.agg (row64 4 (words a)), .agg (row64 4 (words b))] w fun e w' => e = .returned (.agg (row64 4 (words (fv (a + b))))) ∧ Below w.heap.size w w' := by
  go_enter Try.func23, Try.ntmps23
  go_wp2
  rw [zero4]
  have hz : Row64 ((((w.alloc (.cells (row64 4 (words a)) 36)).alloc (.cells (row64 4 (words b)) 36)).alloc (.cells (row64 4 fun _ => 0) 36)).alloc (.cells (row64 4 fun _ => 0) 36)) w.heap.size 36 4 (words a) ∧ Row64 ((((w.alloc (.cells (row64 4 (words a)) 36)).alloc (.cells (row64 4 (words b)) 36)).alloc (.cells (row64 4 fun _ => 0) 36)).alloc (.cells (row64 4 fun _ => 0) 36)) (w.heap.size + 1) 36 4 (words b) ∧ Row64 ((((w.alloc (.cells (row64 4 (words a)) 36)).alloc (.cells (row64 4 (words b)) 36)).alloc (.cells (row64 4 fun _ => 0) 36)).alloc (.cells (row64 4 fun _ => 0) 36)) (w.heap.size + 1 + 1) 36 4 (fun _ => 0) ∧ Row64 ((((w.alloc (.cells (row64 4 (words a)) 36)).alloc (.cells (row64 4 (words b)) 36)).alloc (.cells (row64 4 fun _ => 0) 36)).alloc (.cells (row64 4 fun _ => 0) 36)) (w.heap.size + 1 + 1 + 1) 36 4 (fun _ => 0) ∧ Below w.heap.size w ((((w.alloc (.cells (row64 4 (words a)) 36)).alloc (.cells (row64 4 (words b)) 36)).alloc (.cells (row64 4 fun _ => 0) 36)).alloc (.cells (row64 4 fun _ => 0) 36)) := four_new w 36 _ _ _ _
  revert hz
  generalize (((w.alloc (.cells (row64 4 (words a)) 36)).alloc (.cells (row64 4 (words b)) 36)).alloc (.cells (row64 4 fun _ => 0) 36)).alloc (.cells (row64 4 fun _ => 0) 36) = w1
  intro hz
  go_loopw [6, 7, 8] (fun c_ _ i_ wr => ∃ m : Nat, m ≤ 4 ∧ i_ = .int .i64 m ∧ c_ = .int .u64 (cry a b m : Int) ∧ Row64 wr w.heap.size 36 4 (words a) ∧ Row64 wr (w.heap.size + 1) 36 4 (words b) ∧ Row64 wr (w.heap.size + 1 + 1) 36 4 (fun _ => 0) ∧ Row64 wr (w.heap.size + 1 + 1 + 1) 36 4 (upto64 m (words (a + b)) fun _ => 0) ∧ Below w.heap.size w wr) (fun c_ _ i_ _ => 4 - (intOf i_).toNat)
  case atStart =>
    obtain ⟨h1, h2, h3, h4, h5⟩ := hz
    exact ⟨0, by omega, rfl, by rw [cry_zero]; rfl, h1, h2, h3, by rw [upto64_zero]; exact h4, h5⟩
  case round =>
    clear hz
    obtain ⟨m, hm, rfl, rfl, h1, h2, h3, h4, h5⟩ := hrel
    by_cases hm4 : m < 4
    · have i1 : (m : Int) < 4 := by omega
      go_wp2
      refine region_chain (fun k π W' => Row64 W' w.heap.size 36 4 (words a) ∧ Row64 W' (w.heap.size + 1) 36 4 (words b) ∧ Row64 W' (w.heap.size + 1 + 1) 36 4 (fun _ => 0) ∧ (k < 1 → Row64 W' (w.heap.size + 1 + 1 + 1) 36 4 (upto64 m (words (a + b)) fun _ => 0)) ∧ (1 ≤ k → Row64 W' (w.heap.size + 1 + 1 + 1) 36 4 (upto64 (m + 1) (words (a + b)) fun _ => 0)) ∧ Below w.heap.size w W') (fun i => i == 13) mixedOrders (by kernel_rfl) (by kernel_rfl) (by simp)
        ⟨h1.drew, h2.drew, h3.drew, fun _ => h4.drew, fun h => by omega, h5.drew⟩ ?_
      clear h1 h2 h3 h4 h5
      refine SeqP.next ?_ (fun π q => Sure.val rfl (fun w' hS => ?_)) ?_
      rotate_left 1
      · clear hS
        go_simp
        rfl
      simp only [Act.put, List.setIfInBounds_toArray, List.set_cons_zero, List.set_cons_succ]
      refine SeqP.next ?_ (fun π q => Sure.val rfl (fun w' hS => ?_)) ?_
      rotate_left 1
      · clear hS
        go_simp
        rfl
      simp only [Act.put, List.setIfInBounds_toArray, List.set_cons_zero, List.set_cons_succ]
      refine SeqP.next ?_ (fun π q => Sure.val rfl (fun w' hS => ?_)) ?_
      rotate_left 1
      · have bm : (m : Int) < 4 := by omega
        clear hS
        go_simp
        rfl
      simp only [Act.put, List.setIfInBounds_toArray, List.set_cons_zero, List.set_cons_succ]
      refine SeqP.next ?_ (fun π q => Sure.val rfl (fun w' hS => ?_)) ?_
      rotate_left 1
      · have c := hS.1.cellW m hm4
        clear hS
        go_simp
        rfl
      simp only [Act.put, List.setIfInBounds_toArray, List.set_cons_zero, List.set_cons_succ]
      refine SeqP.next ?_ (fun π q => Sure.val rfl (fun w' hS => ?_)) ?_
      rotate_left 1
      · clear hS
        go_simp
        rfl
      simp only [Act.put, List.setIfInBounds_toArray, List.set_cons_zero, List.set_cons_succ]
      refine SeqP.next ?_ (fun π q => Sure.val rfl (fun w' hS => ?_)) ?_
      rotate_left 1
      · have bm : (m : Int) < 4 := by omega
        clear hS
        go_simp
        rfl
      simp only [Act.put, List.setIfInBounds_toArray, List.set_cons_zero, List.set_cons_succ]
      refine SeqP.next ?_ (fun π q => Sure.val rfl (fun w' hS => ?_)) ?_
      rotate_left 1
      · have c := hS.2.1.cellW m hm4
        clear hS
        go_simp
        rfl
      simp only [Act.put, List.setIfInBounds_toArray, List.set_cons_zero, List.set_cons_succ]
      refine SeqP.next ?_ (fun π q => Sure.val rfl (fun w' hS => ?_)) ?_
      rotate_left 1
      · clear hS
        go_simp
        rfl
      simp only [Act.put, List.setIfInBounds_toArray, List.set_cons_zero, List.set_cons_succ]
      refine SeqP.next (.tuple #[.int .u64 (wd (a + b) m : Int), .int .u64 (cry a b (m + 1) : Int)]) (fun π q => Sure.val rfl (fun w' hS => ?_)) ?_
      · clear hS
        go_simp
        simp only [add64_w]
      simp only [Act.put, List.setIfInBounds_toArray, List.set_cons_zero, List.set_cons_succ]
      refine SeqP.next ?_ (fun π q => Sure.val rfl (fun w' hS => ?_)) ?_
      rotate_left 1
      · clear hS
        go_simp
        rfl
      simp only [Act.put, List.setIfInBounds_toArray, List.set_cons_zero, List.set_cons_succ]
      refine SeqP.next ?_ (fun π q => Sure.val rfl (fun w' hS => ?_)) ?_
      rotate_left 1
      · clear hS
        go_simp
        rfl
      simp only [Act.put, List.setIfInBounds_toArray, List.set_cons_zero, List.set_cons_succ]
      refine SeqP.next ?_ (fun π q => Sure.val rfl (fun w' hS => ?_)) ?_
      rotate_left 1
      · clear hS
        go_simp
        rfl
      simp only [Act.put, List.setIfInBounds_toArray, List.set_cons_zero, List.set_cons_succ]
      refine SeqP.next ?_ (fun π q => Sure.val rfl (fun w' hS => ?_)) ?_
      rotate_left 1
      · have bm : (m : Int) < 4 := by omega
        clear hS
        go_simp
        rfl
      simp only [Act.put, List.setIfInBounds_toArray, List.set_cons_zero, List.set_cons_succ]
      refine SeqP.store rfl (fun π => rfl) (fun π w' hS => ⟨w'.setCell ⟨w.heap.size + 1 + 1 + 1, m, none⟩ (.int .u64 (wd (a + b) m : Int)), ?_, ?_⟩) ?_
      · have c := (hS.2.2.2.1 (by omega)).cell m hm4
        have c3 := (hS.2.2.2.1 (by omega)).frozen m
        clear hS
        go_simp
      · obtain ⟨h1, h2, h3, h4, _, h6⟩ := hS
        have h := (h4 (by omega)).setW m (a + b) m
        rw [upto64_succ] at h
        exact ⟨h1.far (by first | (simp; done) | (simp; omega)) _, h2.far (by first | (simp; done) | (simp; omega)) _, h3.far (by first | (simp; done) | (simp; omega)) _, fun h => by omega, fun _ => h, h6.setCell (by first | (simp; done) | (simp; omega)) _⟩
      simp only [Act.put]
      refine SeqP.last (fun π => rfl) fun π w' hS => ?_
      obtain ⟨h1, h2, h3, _, h4, h5⟩ := hS
      have h4 := h4 (by omega)
      go_simp
      go_wp2
      go_roundw
      case rel => exact ⟨m + 1, by omega, by go_num, rfl, h1, h2, h3, h4, h5⟩
      case measure => simp [intOf]; omega
    · obtain rfl : m = 4 := by omega
      rw [show ((4 : Nat) : Int) = 4 from rfl]
      have h4 := h4.congr (f' := words (a + b)) fun j hj => upto64_all _ _ _ hj
      have h4 := h4
      have hcr : cry a b 4 = (a + b) / 2 ^ 256 := cry_top a b 4 ha hb
      have hfin : (a + b) % 2 ^ 256 + 2 ^ 256 * cry a b 4 = a + b := by rw [hcr]; omega
      have hc2 : cry a b 4 < 2 ^ 64 := by have := cry_le a b 4; omega
      have h4 := h4.congr (f' := words ((a + b) % 2 ^ 256)) fun i hi => (words_mod (a + b) 4 i hi).symm
      have hf := fun W => rfold_c ((a + b) % 2 ^ 256) (cry a b 4) (Nat.mod_lt _ (by decide)) hc2 W
      rw [hfin] at hf
      clear hfin hcr hc2
      generalize cry a b 4 = c at *
      go_wp2_with (first | (refine wpList_load_Row64 rfl 36 _ rfl (w.heap.size + 1 + 1 + 1) rfl 36 4 _ _ h4 undNum sizeNum ?_) | (go_at_call 36; refine (hf _).mono ?_; rintro e w5 ⟨rfl, hw5⟩; have h3 := h3.below hw5 h3.lt) | (refine wpList_store_Row64 rfl 36 _ _ rfl (w.heap.size + 1 + 1) rfl 36 4 _ _ rfl h3 sizeNum ?_))
      exact ret_Row64 rfl rfl _ _ 4 _ _ rfl (h3.setRow _) undNum sizeNum ⟨rfl, below_setRow8 (h5.trans (hw5.mono h5.size)) (by omega) _⟩

set_option maxHeartbeats 4000000 in
theorem rless_c (a b : Nat) (hba : b ≤ a) (w : World) : Calls Try.prog 37 #[.agg (row64 4 (words a)), .agg (row64 4 (words b))] w fun e w' => e = .returned (.agg (row64 4 (words (a - b)))) ∧ Below w.heap.size w w' := by
  go_enter Try.func37, Try.ntmps37
  go_wp2
  rw [zero4]
  have hz : Row64 ((((w.alloc (.cells (row64 4 (words a)) 36)).alloc (.cells (row64 4 (words b)) 36)).alloc (.cells (row64 4 fun _ => 0) 36)).alloc (.cells (row64 4 fun _ => 0) 36)) w.heap.size 36 4 (words a) ∧ Row64 ((((w.alloc (.cells (row64 4 (words a)) 36)).alloc (.cells (row64 4 (words b)) 36)).alloc (.cells (row64 4 fun _ => 0) 36)).alloc (.cells (row64 4 fun _ => 0) 36)) (w.heap.size + 1) 36 4 (words b) ∧ Row64 ((((w.alloc (.cells (row64 4 (words a)) 36)).alloc (.cells (row64 4 (words b)) 36)).alloc (.cells (row64 4 fun _ => 0) 36)).alloc (.cells (row64 4 fun _ => 0) 36)) (w.heap.size + 1 + 1) 36 4 (fun _ => 0) ∧ Row64 ((((w.alloc (.cells (row64 4 (words a)) 36)).alloc (.cells (row64 4 (words b)) 36)).alloc (.cells (row64 4 fun _ => 0) 36)).alloc (.cells (row64 4 fun _ => 0) 36)) (w.heap.size + 1 + 1 + 1) 36 4 (fun _ => 0) ∧ Below w.heap.size w ((((w.alloc (.cells (row64 4 (words a)) 36)).alloc (.cells (row64 4 (words b)) 36)).alloc (.cells (row64 4 fun _ => 0) 36)).alloc (.cells (row64 4 fun _ => 0) 36)) := four_new w 36 _ _ _ _
  revert hz
  generalize (((w.alloc (.cells (row64 4 (words a)) 36)).alloc (.cells (row64 4 (words b)) 36)).alloc (.cells (row64 4 fun _ => 0) 36)).alloc (.cells (row64 4 fun _ => 0) 36) = w1
  intro hz
  go_loopw [6, 7, 8] (fun c_ _ i_ wr => ∃ m : Nat, m ≤ 4 ∧ i_ = .int .i64 m ∧ c_ = .int .u64 (brw a b m : Int) ∧ Row64 wr w.heap.size 36 4 (words a) ∧ Row64 wr (w.heap.size + 1) 36 4 (words b) ∧ Row64 wr (w.heap.size + 1 + 1) 36 4 (fun _ => 0) ∧ Row64 wr (w.heap.size + 1 + 1 + 1) 36 4 (upto64 m (words (a - b)) fun _ => 0) ∧ Below w.heap.size w wr) (fun c_ _ i_ _ => 4 - (intOf i_).toNat)
  case atStart =>
    obtain ⟨h1, h2, h3, h4, h5⟩ := hz
    exact ⟨0, by omega, rfl, by rw [brw_zero]; rfl, h1, h2, h3, by rw [upto64_zero]; exact h4, h5⟩
  case round =>
    clear hz
    obtain ⟨m, hm, rfl, rfl, h1, h2, h3, h4, h5⟩ := hrel
    by_cases hm4 : m < 4
    · have i1 : (m : Int) < 4 := by omega
      go_wp2
      refine region_chain (fun k π W' => Row64 W' w.heap.size 36 4 (words a) ∧ Row64 W' (w.heap.size + 1) 36 4 (words b) ∧ Row64 W' (w.heap.size + 1 + 1) 36 4 (fun _ => 0) ∧ (k < 1 → Row64 W' (w.heap.size + 1 + 1 + 1) 36 4 (upto64 m (words (a - b)) fun _ => 0)) ∧ (1 ≤ k → Row64 W' (w.heap.size + 1 + 1 + 1) 36 4 (upto64 (m + 1) (words (a - b)) fun _ => 0)) ∧ Below w.heap.size w W') (fun i => i == 13) mixedOrders (by kernel_rfl) (by kernel_rfl) (by simp)
        ⟨h1.drew, h2.drew, h3.drew, fun _ => h4.drew, fun h => by omega, h5.drew⟩ ?_
      clear h1 h2 h3 h4 h5
      refine SeqP.next ?_ (fun π q => Sure.val rfl (fun w' hS => ?_)) ?_
      rotate_left 1
      · clear hS
        go_simp
        rfl
      simp only [Act.put, List.setIfInBounds_toArray, List.set_cons_zero, List.set_cons_succ]
      refine SeqP.next ?_ (fun π q => Sure.val rfl (fun w' hS => ?_)) ?_
      rotate_left 1
      · clear hS
        go_simp
        rfl
      simp only [Act.put, List.setIfInBounds_toArray, List.set_cons_zero, List.set_cons_succ]
      refine SeqP.next ?_ (fun π q => Sure.val rfl (fun w' hS => ?_)) ?_
      rotate_left 1
      · have bm : (m : Int) < 4 := by omega
        clear hS
        go_simp
        rfl
      simp only [Act.put, List.setIfInBounds_toArray, List.set_cons_zero, List.set_cons_succ]
      refine SeqP.next ?_ (fun π q => Sure.val rfl (fun w' hS => ?_)) ?_
      rotate_left 1
      · have c := hS.1.cellW m hm4
        clear hS
        go_simp
        rfl
      simp only [Act.put, List.setIfInBounds_toArray, List.set_cons_zero, List.set_cons_succ]
      refine SeqP.next ?_ (fun π q => Sure.val rfl (fun w' hS => ?_)) ?_
      rotate_left 1
      · clear hS
        go_simp
        rfl
      simp only [Act.put, List.setIfInBounds_toArray, List.set_cons_zero, List.set_cons_succ]
      refine SeqP.next ?_ (fun π q => Sure.val rfl (fun w' hS => ?_)) ?_
      rotate_left 1
      · have bm : (m : Int) < 4 := by omega
        clear hS
        go_simp
        rfl
      simp only [Act.put, List.setIfInBounds_toArray, List.set_cons_zero, List.set_cons_succ]
      refine SeqP.next ?_ (fun π q => Sure.val rfl (fun w' hS => ?_)) ?_
      rotate_left 1
      · have c := hS.2.1.cellW m hm4
        clear hS
        go_simp
        rfl
      simp only [Act.put, List.setIfInBounds_toArray, List.set_cons_zero, List.set_cons_succ]
      refine SeqP.next ?_ (fun π q => Sure.val rfl (fun w' hS => ?_)) ?_
      rotate_left 1
      · clear hS
        go_simp
        rfl
      simp only [Act.put, List.setIfInBounds_toArray, List.set_cons_zero, List.set_cons_succ]
      refine SeqP.next (.tuple #[.int .u64 (wd (a - b) m : Int), .int .u64 (brw a b (m + 1) : Int)]) (fun π q => Sure.val rfl (fun w' hS => ?_)) ?_
      · clear hS
        go_simp
        simp only [sub64_w _ _ _ hba]
      simp only [Act.put, List.setIfInBounds_toArray, List.set_cons_zero, List.set_cons_succ]
      refine SeqP.next ?_ (fun π q => Sure.val rfl (fun w' hS => ?_)) ?_
      rotate_left 1
      · clear hS
        go_simp
        rfl
      simp only [Act.put, List.setIfInBounds_toArray, List.set_cons_zero, List.set_cons_succ]
      refine SeqP.next ?_ (fun π q => Sure.val rfl (fun w' hS => ?_)) ?_
      rotate_left 1
      · clear hS
        go_simp
        rfl
      simp only [Act.put, List.setIfInBounds_toArray, List.set_cons_zero, List.set_cons_succ]
      refine SeqP.next ?_ (fun π q => Sure.val rfl (fun w' hS => ?_)) ?_
      rotate_left 1
      · clear hS
        go_simp
        rfl
      simp only [Act.put, List.setIfInBounds_toArray, List.set_cons_zero, List.set_cons_succ]
      refine SeqP.next ?_ (fun π q => Sure.val rfl (fun w' hS => ?_)) ?_
      rotate_left 1
      · have bm : (m : Int) < 4 := by omega
        clear hS
        go_simp
        rfl
      simp only [Act.put, List.setIfInBounds_toArray, List.set_cons_zero, List.set_cons_succ]
      refine SeqP.store rfl (fun π => rfl) (fun π w' hS => ⟨w'.setCell ⟨w.heap.size + 1 + 1 + 1, m, none⟩ (.int .u64 (wd (a - b) m : Int)), ?_, ?_⟩) ?_
      · have c := (hS.2.2.2.1 (by omega)).cell m hm4
        have c3 := (hS.2.2.2.1 (by omega)).frozen m
        clear hS
        go_simp
      · obtain ⟨h1, h2, h3, h4, _, h6⟩ := hS
        have h := (h4 (by omega)).setW m (a - b) m
        rw [upto64_succ] at h
        exact ⟨h1.far (by first | (simp; done) | (simp; omega)) _, h2.far (by first | (simp; done) | (simp; omega)) _, h3.far (by first | (simp; done) | (simp; omega)) _, fun h => by omega, fun _ => h, h6.setCell (by first | (simp; done) | (simp; omega)) _⟩
      simp only [Act.put]
      refine SeqP.last (fun π => rfl) fun π w' hS => ?_
      obtain ⟨h1, h2, h3, _, h4, h5⟩ := hS
      have h4 := h4 (by omega)
      go_simp
      go_wp2
      go_roundw
      case rel => exact ⟨m + 1, by omega, by go_num, rfl, h1, h2, h3, h4, h5⟩
      case measure => simp [intOf]; omega
    · obtain rfl : m = 4 := by omega
      rw [show ((4 : Nat) : Int) = 4 from rfl]
      have h4 := h4.congr (f' := words (a - b)) fun j hj => upto64_all _ _ _ hj
      go_wp2_with (first | (refine wpList_load_Row64 rfl 36 _ rfl (w.heap.size + 1 + 1 + 1) rfl 36 4 _ _ h4 undNum sizeNum ?_) | (refine wpList_store_Row64 rfl 36 _ _ rfl (w.heap.size + 1 + 1) rfl 36 4 _ _ rfl h3 sizeNum ?_))
      exact ret_Row64 rfl rfl _ _ 4 _ _ rfl (h3.setRow _) undNum sizeNum ⟨rfl, below_setRow8 h5 (by omega) _⟩
end Go.Proofs.Ytchojbhmfjibmaa
