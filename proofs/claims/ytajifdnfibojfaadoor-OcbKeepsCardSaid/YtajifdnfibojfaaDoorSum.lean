/- ocb's sum: the exclusive or of a text's parts. -/
import Derived.Test.YtajifdnfibojfaaDoorLoop
namespace Go.Proofs.YtajifdnfibojfaaDoor
open Go Go.RowKit Go.Shelf
set_option maxRecDepth 100000
attribute [local go_sem] Oper.semAt_some

set_option maxHeartbeats 2000000 in
theorem sum_c (A : Option Addr) (n c : Nat) (f : Nat → UInt8) (w : World) (hb : Bts w A n c f) (hc : n ≤ 140737488355328) :
    Calls Tryd.prog 29 #[.slice A n c] w fun e w' => e = .returned (.agg (row 16 (sumTo n f (List.range ((n + 15) / 16))))) ∧ Below w.heap.size w w' := by
  have hA : ∃ b off, 0 < n → A = some ⟨b, off, none⟩ ∧ ∀ j, j < n → w.cell? ⟨b, off + j, none⟩ = some (.int .u8 ((f j).toNat : Int)) := by
    by_cases h : 0 < n
    · obtain ⟨b, off, h1, h2⟩ := hb.1 h
      exact ⟨b, off, fun _ => ⟨h1, h2⟩⟩
    · exact ⟨0, 0, fun h' => absurd h' h⟩
  obtain ⟨b, off, hA⟩ := hA
  have hnc := hb.2.2
  have HA := Lib.hid hA
  clear hb hA
  have hcl : ∀ W', Below w.heap.size w W' → 0 < n → ∀ j, j < n → W'.cell? ⟨b, off + j, none⟩ = some (.int .u8 ((f j).toNat : Int)) := fun W' h h0 j hj => by
    have hj' := (HA.out h0).2 j hj
    exact (h.cell (p := ⟨b, off + j, none⟩) (block_lt_of_cell hj')).trans hj'
  refine (callsIn_wide (n := 3)).1 ?_
  refine callsIn_of_wp_marks Tryd.func29 rfl trivial ?_ rfl
  simp only [Tryd.ntmps29, List.size_toArray, List.length_cons, List.length_nil, Nat.reduceAdd, Nat.reduceSub, Array.replicate_succ, Array.replicate_zero, List.push_toArray, List.append_toArray, List.nil_append, List.cons_append]
  refine wpIn_wide.2 ?_
  go_wp2_with (first | (go_at_call 25; refine (chunk_c _ _ _ _).mono ?_; rintro e w' ⟨rfl, hw⟩; have hw := hw.symm; subst hw))
  rw [zero16]
  have hz := (((Row.new w 32 16 (fun _ => 0)).alloc (.cells (row 16 fun _ => 0) 32)).alloc (.cells #[.slice A n c] 22)).alloc (.cells #[.int .i64 16] 3)
  have hs := ((Row.new (w.alloc (.cells (row 16 fun _ => 0) 32)) 32 16 (fun _ => 0)).alloc (.cells #[.slice A n c] 22)).alloc (.cells #[.int .i64 16] 3)
  have h1 := (Blk.new ((w.alloc (.cells (row 16 fun _ => 0) 32)).alloc (.cells (row 16 fun _ => 0) 32)) 22 #[.slice A n c]).alloc (.cells #[.int .i64 16] 3)
  have h2 := Blk.new (((w.alloc (.cells (row 16 fun _ => 0) 32)).alloc (.cells (row 16 fun _ => 0) 32)).alloc (.cells #[.slice A n c] 22)) 3 #[.int .i64 16]
  have hbel : Below w.heap.size w ((((w.alloc (.cells (row 16 fun _ => 0) 32)).alloc (.cells (row 16 fun _ => 0) 32)).alloc (.cells #[.slice A n c] 22)).alloc (.cells #[.int .i64 16] 3)) := ((((Below.refl _ _).alloc (Nat.le_refl _) _).alloc (by simp) _).alloc (by simp; omega) _).alloc (by simp; omega) _
  simp only [World.size_alloc] at hs h1 h2
  revert hz hs h1 h2 hbel
  generalize (((w.alloc (.cells (row 16 fun _ => 0) 32)).alloc (.cells (row 16 fun _ => 0) 32)).alloc (.cells #[.slice A n c] 22)).alloc (.cells #[.int .i64 16] 3) = w1
  intro hz hbel hs h1 h2
  have hw1 : w.heap.size + 1 + 1 + 1 < w1.heap.size := h2.lt
  refine (wpIn_wide (n := 3)).1 ?_
  refine wpIn_rangeFunc_ownG (α := Parts n) rfl (by omega) (gf := 39) (lb := #[.pointer (some ⟨w.heap.size + 1 + 1, 0, none⟩), .pointer (some ⟨w.heap.size + 1 + 1 + 1, 0, none⟩)]) rfl trivial (enters_of Tryd.func39 (by kernel_rfl) rfl)
    (chunk_stops 2 (w.heap.size + 1 + 1) b off n c A w1 (by omega) (fun h => (HA.out h).1) hnc hc h1 h2) (fun h k => h.trans k)
    (fun W l o o' hl _ _ _ => ⟨World.putObj_heap_other (by omega), World.putObj_heap_other (by omega)⟩) (Below.refl _ _) (fun _ => rfl)
    (fun pre W => (Row W w.heap.size 32 16 (fun _ => 0) ∧ Row W (w.heap.size + 1) 32 16 (sumTo n f (pre.map (·.1))) ∧ w1.heap.size ≤ W.heap.size) ∧ Below w.heap.size w W)
    (fun _ _ _ => False)
    (OwnFrom.and (Own.from (fun s A B row hs hg hr => ⟨hs.1.kept hg hr, hs.2.1.kept hg hr, Nat.le_trans hs.2.2 hg.size⟩) _) (ownFrom_below (Nat.le_refl _) (by omega)))
    (fun _ _ _ _ _ hs _ _ => hs)
    ⟨⟨hz, hs, Nat.le_refl _⟩, hbel⟩
    (fun x => { tmps := #[.slice A n c, undef, .pointer (some ⟨w.heap.size, 0, none⟩), .pointer (some ⟨w.heap.size + 1, 0, none⟩), partV b off n x.1, .slice A n c, .func (.func 39) #[] #[.pointer (some ⟨w.heap.size + 1 + 1, 0, none⟩), .pointer (some ⟨w.heap.size + 1 + 1 + 1, 0, none⟩)], partV b off n x.1, undef, undef, undef, undef, undef], defers := [] }) ?assign ?body ?done ?stop
  case assign =>
    intro l x W K hK
    gi_wp2
    exact hK
  case body =>
    rintro l pre x W ⟨⟨hz, hs, hle⟩, hB⟩ hlen
    have hsd : Side w1.heap.size (w.heap.size + 1 + 1) W W := Side.refl (by omega)
    refine wpIn_block ?_
    obtain ⟨S0, hS0⟩ : ∃ S0, S0 = sumTo n f (pre.map (·.1)) := ⟨_, rfl⟩
    rw [← hS0] at hs
    obtain ⟨X, hX⟩ : ∃ X, X = partB n f x.1 := ⟨_, rfl⟩
    obtain ⟨Y, hY⟩ : ∃ Y, Y = added S0 X := ⟨_, rfl⟩
    have hX2 : sumTo n f ((pre ++ [x]).map (·.1)) = Y := by rw [List.map_append, hY, hS0, hX]; exact sumTo_snoc _ _ _ _
    have HX := Lib.hid hX
    have HY := Lib.hid hY
    have HX2 := Lib.hid hX2
    clear hX hY hX2 hS0
    refine region_seq_in (fun W' => (Row W' w.heap.size 32 16 (fun _ => 0) ∧ Row W' (w.heap.size + 1) 32 16 S0) ∧ Below w.heap.size w W' ∧ Side w1.heap.size (w.heap.size + 1 + 1) W W') mixedOrders (by kernel_rfl) (by kernel_rfl) (by simp) ⟨⟨hz.drew, hs.drew⟩, hB.drew, hsd.drew⟩ ?_
    clear hz hs hB hsd
    refine Seq.next (.agg (row 16 S0)) (Sure.load_Row rfl 32 _ rfl (w.heap.size + 1) rfl 32 16 _ _ (fun w' hS => hS.1.2) und16 size16) ?_
    simp only [Act.put, List.setIfInBounds_toArray, List.set_cons_zero, List.set_cons_succ]
    refine Seq.next ?_ (Sure.val rfl (fun w' hS => ?_)) ?_
    rotate_left 1
    · clear hS
      go_simp
      rfl
    simp only [Act.put, List.setIfInBounds_toArray, List.set_cons_zero, List.set_cons_succ]
    refine Seq.next (.agg (row 16 X)) (Sure.call (f := 44) (args := #[partV b off n x.1]) rfl (fun w' => by go_simp) (fun w' hS => (opadded_part b off n x.1 f w' x.2 (hcl w' hS.2.1 (by have := x.2; omega))).mono fun e w'' h => ⟨by rw [HX.out]; exact h.1, ⟨hS.1.1.below h.2 hS.1.1.lt, hS.1.2.below h.2 hS.1.2.lt⟩, hS.2.1.trans (h.2.mono hS.2.1.size), hS.2.2.below h.2⟩)) ?_
    simp only [Act.put, List.setIfInBounds_toArray, List.set_cons_zero, List.set_cons_succ]
    refine Seq.next (.agg (row 16 Y)) (Sure.call (f := 27) (args := #[.agg (row 16 S0), .agg (row 16 X)]) rfl (fun w' => by go_simp) (fun w' hS => (xored_c S0 X w').mono fun e w'' h => ⟨by rw [HY.out]; exact h.1, ⟨hS.1.1.below h.2 hS.1.1.lt, hS.1.2.below h.2 hS.1.2.lt⟩, hS.2.1.trans (h.2.mono hS.2.1.size), hS.2.2.below h.2⟩)) ?_
    simp only [Act.put, List.setIfInBounds_toArray, List.set_cons_zero, List.set_cons_succ]
    refine Seq.store_Row rfl 32 _ _ rfl (w.heap.size + 1) rfl 32 16 S0 Y rfl (fun w' hS => hS.1.2) size16 fun w' hS => ?_
    have hsd := hS.2.2.setRow hS.1.2 (by omega) (by omega) (row 16 Y)
    exact ⟨hsd.1, hsd.2.1, ⟨hS.1.1.setRow_far (by omega) _, by rw [HX2.out]; exact hS.1.2.setRow _, Nat.le_trans hle hsd.1.size⟩, below_setRow8 hS.2.1 (by omega) _⟩
  case done =>
    rintro D ys W hD hys ⟨⟨hz, hs, hle⟩, hB⟩ hK
    rw [hys] at hs
    (try simp only [Exit.then, Exit.inBlock])
    go_wp2_with (first | (refine wpList_load_Row rfl 32 _ rfl (w.heap.size + 1) rfl 32 16 _ _ hs und16 size16 ?_) | (refine wpList_store_Row rfl 32 _ _ rfl w.heap.size rfl 32 16 _ _ rfl hz size16 ?_))
    have hD0 : D ≠ w.heap.size := by omega
    have hz2 := (hz.setRow (sumTo n f (List.range ((n + 15) / 16)))).kept (grownBy_putObj' _ D (.deferred none)) (fun r e => by cases e; exact ⟨_, (setRow_other _ _ _ _ hD0).trans hK, rfl⟩)
    refine ⟨by simp, .inl ⟨_, _, rfl, run_takeDeferred ((setRow_other _ _ _ _ hD0).trans hK), ?_⟩⟩
    exact ⟨_, results_cell_row rfl _ _ w.heap.size _ _ (0, 0) _ rfl hz2 und16 rfl (by rw [size16, row_size]), rfl, (below_setRow8 hB (Nat.le_refl _) _).trans (belowK_b (w := w) (Nat.le_refl _) _ D _ _ (by omega) ((setRow_other _ _ _ _ hD0).trans hK) rfl rfl)⟩
  case stop =>
    rintro D c' pre W _ _ h _
    exact h.elim
end Go.Proofs.YtajifdnfibojfaaDoor
