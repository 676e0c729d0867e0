/- The program's putWord and bytesOf: words to bytes (mkfput.py writes this text). -/
import Derived.Test.YtchojbhmfjibmaaFCanon
import Derived.Test.YtchojbhmfjibmaaFBytes
import Derived.Test.YtchojbhmfjibmaaByt
namespace Go.Proofs.Ytchojbhmfjibmaa
open Go Go.RowKit
set_option maxRecDepth 100000

/-- A byte of a word, as the walk tells it. -/
theorem put_byte (V i k : Nat) (hk : k < 8) : (wd V i : Int) / ((2 ^ (8 * k) : Nat) : Int) % 256 = ((byteN V (8 * i + k)).toNat : Int) := by
  rw [byteN_nat, ← byte_of_word, show (8 * i + k) / 8 = i by omega, show (8 * i + k) % 8 = k by omega]
  omega
/-- Word i of V laid over f. -/
def putW (V i : Nat) (f : Nat → UInt8) : Nat → UInt8 := fun j => if 8 * i ≤ j ∧ j < 8 * i + 8 then byteN V j else f j

set_option maxHeartbeats 8000000 in
theorem putWord_c (V i g c : Nat) (f : Nat → UInt8) (w : World) (hi : i < 4) (hr : Row w g 22 32 f) : Calls Try.prog 53 #[.slice (some ⟨g, 8 * i, none⟩) 8 c, .int .u64 (wd V i : Int)] w fun e w' =>
    e = .returned (.tuple #[]) ∧ Row w' g 22 32 (putW V i f) ∧ Beside g w w' := by
  have e0 : (wd V i : Int) % 256 = ((byteN V (8 * i)).toNat : Int) := by have h := put_byte V i 0 (by omega); simpa using h
  have e1 : (wd V i : Int) / 256 % 256 = ((byteN V (8 * i + 1)).toNat : Int) := by have h := put_byte V i 1 (by omega); simpa using h
  have e2 : (wd V i : Int) / 65536 % 256 = ((byteN V (8 * i + 2)).toNat : Int) := by have h := put_byte V i 2 (by omega); simpa using h
  have e3 : (wd V i : Int) / 16777216 % 256 = ((byteN V (8 * i + 3)).toNat : Int) := by have h := put_byte V i 3 (by omega); simpa using h
  have e4 : (wd V i : Int) / 4294967296 % 256 = ((byteN V (8 * i + 4)).toNat : Int) := by have h := put_byte V i 4 (by omega); simpa using h
  have e5 : (wd V i : Int) / 1099511627776 % 256 = ((byteN V (8 * i + 5)).toNat : Int) := by have h := put_byte V i 5 (by omega); simpa using h
  have e6 : (wd V i : Int) / 281474976710656 % 256 = ((byteN V (8 * i + 6)).toNat : Int) := by have h := put_byte V i 6 (by omega); simpa using h
  have e7 : (wd V i : Int) / 72057594037927936 % 256 = ((byteN V (8 * i + 7)).toNat : Int) := by have h := put_byte V i 7 (by omega); simpa using h
  have c0 := hr.cell (8 * i) (by omega)
  have d0 := hr.frozen (8 * i)
  have c1 := hr.cell (8 * i + 1) (by omega)
  have d1 := hr.frozen (8 * i + 1)
  have c2 := hr.cell (8 * i + 2) (by omega)
  have d2 := hr.frozen (8 * i + 2)
  have c3 := hr.cell (8 * i + 3) (by omega)
  have d3 := hr.frozen (8 * i + 3)
  have c4 := hr.cell (8 * i + 4) (by omega)
  have d4 := hr.frozen (8 * i + 4)
  have c5 := hr.cell (8 * i + 5) (by omega)
  have d5 := hr.frozen (8 * i + 5)
  have c6 := hr.cell (8 * i + 6) (by omega)
  have d6 := hr.frozen (8 * i + 6)
  have c7 := hr.cell (8 * i + 7) (by omega)
  have d7 := hr.frozen (8 * i + 7)
  have hs := ((((((((hr.set_ (8 * i) (byteN V (8 * i))).set_ (8 * i + 1) (byteN V (8 * i + 1))).set_ (8 * i + 2) (byteN V (8 * i + 2))).set_ (8 * i + 3) (byteN V (8 * i + 3))).set_ (8 * i + 4) (byteN V (8 * i + 4))).set_ (8 * i + 5) (byteN V (8 * i + 5))).set_ (8 * i + 6) (byteN V (8 * i + 6))).set_ (8 * i + 7) (byteN V (8 * i + 7)))
  have hs := hs.congr (f' := putW V i f) fun j hj => by
    unfold putW
    by_cases h : 8 * i ≤ j ∧ j < 8 * i + 8
    · obtain ⟨k, rfl⟩ : ∃ k, j = 8 * i + k := ⟨j - 8 * i, by omega⟩
      have : k = 0 ∨ k = 1 ∨ k = 2 ∨ k = 3 ∨ k = 4 ∨ k = 5 ∨ k = 6 ∨ k = 7 := by omega
      rw [if_pos h]
      rcases this with rfl | rfl | rfl | rfl | rfl | rfl | rfl | rfl <;> simp
    · rw [if_neg h]
      rw [if_neg (by omega), if_neg (by omega), if_neg (by omega), if_neg (by omega), if_neg (by omega), if_neg (by omega), if_neg (by omega), if_neg (by omega)]
  have hbe := (((((((((Beside.refl g w).setCell (8 * i) (.int .u8 ((byteN V (8 * i)).toNat : Int))).setCell (8 * i + 1) (.int .u8 ((byteN V (8 * i + 1)).toNat : Int))).setCell (8 * i + 2) (.int .u8 ((byteN V (8 * i + 2)).toNat : Int))).setCell (8 * i + 3) (.int .u8 ((byteN V (8 * i + 3)).toNat : Int))).setCell (8 * i + 4) (.int .u8 ((byteN V (8 * i + 4)).toNat : Int))).setCell (8 * i + 5) (.int .u8 ((byteN V (8 * i + 5)).toNat : Int))).setCell (8 * i + 6) (.int .u8 ((byteN V (8 * i + 6)).toNat : Int))).setCell (8 * i + 7) (.int .u8 ((byteN V (8 * i + 7)).toNat : Int)))
  have HS := Lib.hid hs
  have HB := Lib.hid hbe
  clear hs hbe
  go_enter Try.func53, Try.ntmps53
  go_wp2
  exact bodyPost_end (results_none rfl _ _ _) rfl ⟨rfl, HS.out, HB.out⟩

theorem putWord_o (o V i g c : Nat) (f : Nat → UInt8) (w : World) (hi : i < 4) (ho : o = 8 * i) (hr : Row w g 22 32 f) : Calls Try.prog 53 #[.slice (some ⟨g, o, none⟩) 8 c, .int .u64 (wd V i : Int)] w fun e w' =>
    e = .returned (.tuple #[]) ∧ Row w' g 22 32 (putW V i f) ∧ Beside g w w' := by
  subst ho
  exact putWord_c V i g c f w hi hr
theorem put_all (V : Nat) (f : Nat → UInt8) (j : Nat) (hj : j < 32) : putW V 3 (putW V 2 (putW V 1 (putW V 0 f))) j = byteN V j := by
  unfold putW
  by_cases h3 : 8 * 3 ≤ j ∧ j < 8 * 3 + 8
  · rw [if_pos h3]
  · rw [if_neg h3]
    by_cases h2 : 8 * 2 ≤ j ∧ j < 8 * 2 + 8
    · rw [if_pos h2]
    · rw [if_neg h2]
      by_cases h1 : 8 * 1 ≤ j ∧ j < 8 * 1 + 8
      · rw [if_pos h1]
      · rw [if_neg h1, if_pos (by omega)]

set_option maxHeartbeats 8000000 in
theorem bytesOf_c (n : Nat) (hn : n < 2 ^ 256) (w : World) : Calls Try.prog 45 #[.agg (row64 4 (words n))] w fun e w' => e = .returned (.agg (row 32 (byteN (n % pN)))) ∧ Below w.heap.size w w' := by
  have hc := fun W => canonical_c n hn W
  generalize n % pN = P at *
  go_enter Try.func45, Try.ntmps45
  go_upto_region 1 with (first | (refine wpList_alloc_Row rfl 22 rfl 32 z32B ?_))
  have hz1 := (Row64.new w 59 4 (words n)).alloc (.cells (row 32 fun _ => 0) 22)
  have hz2 := Row.new (w.alloc (.cells (row64 4 (words n)) 59)) 22 32 fun _ => 0
  have hb0 : Below w.heap.size w ((w.alloc (.cells (row64 4 (words n)) 59)).alloc (.cells (row 32 fun _ => 0) 22)) := ((Below.refl _ _).alloc (Nat.le_refl _) _).alloc (by simp) _
  simp only [World.size_alloc] at hz2
  have hall := And.intro hz1 (And.intro hz2 hb0)
  clear hz1 hz2 hb0
  revert hall
  generalize (w.alloc (.cells (row64 4 (words n)) 59)).alloc (.cells (row 32 fun _ => 0) 22) = w1
  rintro ⟨h1, h2, h3⟩
  go_upto_region 2 with (first | (refine wpList_load_Blk rfl 59 _ rfl w.heap.size rfl 59 _ h1 isRowNb (sizeNbR _) ?_) | (go_at_call 52; refine (hc _).mono ?_; rintro e w5 ⟨rfl, hw5⟩; have h1 := h1.below hw5 h1.lt; have h2 := h2.below hw5 h2.lt; have h3 := h3.trans (hw5.mono h3.size)) | (refine wpList_store_Row64 rfl 59 _ _ rfl w.heap.size rfl 59 4 _ _ rfl h1 sizeNb ?_))
  clear hc
  have h1 := h1.setRow (words P)
  have h2 := h2.setRow_far (k := w.heap.size) (by omega) (row64 4 (words P))
  have h3 := below_setRow8 h3 (k := w.heap.size) (by omega) (row64 4 (words P))
  (try simp only [Act.put])
  revert h1 h2 h3
  generalize w5.setRow w.heap.size (row64 4 (words P)) = w6
  intro h1 h2 h3
  go_upto_region 3 with (first | (refine wpList_alloc_Row rfl 22 rfl 32 z32B ?_))
  have hg : w.heap.size + 1 < w6.heap.size := h2.lt
  have h4 := Row.new w6 22 32 fun _ => 0
  have h1 := h1.alloc (.cells (row 32 fun _ => 0) 22)
  have h2 := h2.alloc (.cells (row 32 fun _ => 0) 22)
  have h3 := h3.alloc h3.size (.cells (row 32 fun _ => 0) 22)
  have hall := And.intro h1 (And.intro h2 (And.intro h3 h4))
  clear h1 h2 h3 h4
  revert hall hg
  generalize w6.alloc (.cells (row 32 fun _ => 0) 22) = w7
  generalize w6.heap.size = g
  rintro hg ⟨h1, h2, h3, h4⟩
  (try simp only [Act.put])
  refine region_seq (fun W' => Row64 W' w.heap.size 59 4 (words P) ∧ Row W' (w.heap.size + 1) 22 32 (fun _ => 0) ∧ Below w.heap.size w W' ∧ Row W' g 22 32 (fun _ => 0)) mixedOrders (by kernel_rfl) (by simp) ⟨h1.drew, h2.drew, h3.drew, h4.drew⟩ ?_
  clear h1 h2 h3 h4
  refine Seq.next ?_ (Sure.val rfl (fun w' hS => ?_)) ?_
  rotate_left 1
  · clear hS
    go_simp
    rfl
  simp only [Act.put, List.setIfInBounds_toArray, List.set_cons_zero, List.set_cons_succ]
  refine Seq.next ?_ (Sure.val rfl (fun w' hS => ?_)) ?_
  rotate_left 1
  · clear hS
    go_simp
    rfl
  simp only [Act.put, List.setIfInBounds_toArray, List.set_cons_zero, List.set_cons_succ]
  refine Seq.next ?_ (Sure.val rfl (fun w' hS => ?_)) ?_
  rotate_left 1
  · have c := hS.1.cellW 0 (by omega)
    clear hS
    go_simp
    rfl
  simp only [Act.put, List.setIfInBounds_toArray, List.set_cons_zero, List.set_cons_succ]
  refine Seq.call_last (some 9) rfl rfl 53 #[.slice (some ⟨g, 0, none⟩) 8 32, .int .u64 (wd P 0 : Int)] (fun w' => by go_simp) fun w' hS => (putWord_o 0 P 0 g 32 (fun _ => 0) w' (by omega) (by omega) hS.2.2.2).mono ?_
  rintro e w8 ⟨rfl, h4, hbe⟩
  obtain ⟨h1, h2, h3, _⟩ := hS
  have h1 : Row64 w8 w.heap.size 59 4 (words P) := (hbe.2 _ h1.lt (by omega)).trans h1
  have h2 : Row w8 (w.heap.size + 1) 22 32 (fun _ => 0) := (hbe.2 _ h2.lt (by omega)).trans h2
  have h3 := h3.trans (hbe.1.mono (by omega))
  clear hbe
  refine ⟨_, rfl, ?_⟩
  simp only [Act.put, List.setIfInBounds_toArray, List.set_cons_zero, List.set_cons_succ]
  go_wp2_with (fail)
  refine region_seq (fun W' => Row64 W' w.heap.size 59 4 (words P) ∧ Row W' (w.heap.size + 1) 22 32 (fun _ => 0) ∧ Below w.heap.size w W' ∧ Row W' g 22 32 (putW P 0 (fun _ => 0))) mixedOrders (by kernel_rfl) (by simp) ⟨h1.drew, h2.drew, h3.drew, h4.drew⟩ ?_
  clear h1 h2 h3 h4
  refine Seq.next ?_ (Sure.val rfl (fun w' hS => ?_)) ?_
  rotate_left 1
  · clear hS
    go_simp
    rfl
  simp only [Act.put, List.setIfInBounds_toArray, List.set_cons_zero, List.set_cons_succ]
  refine Seq.next ?_ (Sure.val rfl (fun w' hS => ?_)) ?_
  rotate_left 1
  · clear hS
    go_simp
    rfl
  simp only [Act.put, List.setIfInBounds_toArray, List.set_cons_zero, List.set_cons_succ]
  refine Seq.next ?_ (Sure.val rfl (fun w' hS => ?_)) ?_
  rotate_left 1
  · have c := hS.1.cellW 1 (by omega)
    clear hS
    go_simp
    rfl
  simp only [Act.put, List.setIfInBounds_toArray, List.set_cons_zero, List.set_cons_succ]
  refine Seq.call_last (some 13) rfl rfl 53 #[.slice (some ⟨g, 8, none⟩) 8 24, .int .u64 (wd P 1 : Int)] (fun w' => by go_simp) fun w' hS => (putWord_o 8 P 1 g 24 (putW P 0 (fun _ => 0)) w' (by omega) (by omega) hS.2.2.2).mono ?_
  rintro e w8 ⟨rfl, h4, hbe⟩
  obtain ⟨h1, h2, h3, _⟩ := hS
  have h1 : Row64 w8 w.heap.size 59 4 (words P) := (hbe.2 _ h1.lt (by omega)).trans h1
  have h2 : Row w8 (w.heap.size + 1) 22 32 (fun _ => 0) := (hbe.2 _ h2.lt (by omega)).trans h2
  have h3 := h3.trans (hbe.1.mono (by omega))
  clear hbe
  refine ⟨_, rfl, ?_⟩
  simp only [Act.put, List.setIfInBounds_toArray, List.set_cons_zero, List.set_cons_succ]
  go_wp2_with (fail)
  refine region_seq (fun W' => Row64 W' w.heap.size 59 4 (words P) ∧ Row W' (w.heap.size + 1) 22 32 (fun _ => 0) ∧ Below w.heap.size w W' ∧ Row W' g 22 32 (putW P 1 (putW P 0 (fun _ => 0)))) mixedOrders (by kernel_rfl) (by simp) ⟨h1.drew, h2.drew, h3.drew, h4.drew⟩ ?_
  clear h1 h2 h3 h4
  refine Seq.next ?_ (Sure.val rfl (fun w' hS => ?_)) ?_
  rotate_left 1
  · clear hS
    go_simp
    rfl
  simp only [Act.put, List.setIfInBounds_toArray, List.set_cons_zero, List.set_cons_succ]
  refine Seq.next ?_ (Sure.val rfl (fun w' hS => ?_)) ?_
  rotate_left 1
  · clear hS
    go_simp
    rfl
  simp only [Act.put, List.setIfInBounds_toArray, List.set_cons_zero, List.set_cons_succ]
  refine Seq.next ?_ (Sure.val rfl (fun w' hS => ?_)) ?_
  rotate_left 1
  · have c := hS.1.cellW 2 (by omega)
    clear hS
    go_simp
    rfl
  simp only [Act.put, List.setIfInBounds_toArray, List.set_cons_zero, List.set_cons_succ]
  refine Seq.call_last (some 17) rfl rfl 53 #[.slice (some ⟨g, 16, none⟩) 8 16, .int .u64 (wd P 2 : Int)] (fun w' => by go_simp) fun w' hS => (putWord_o 16 P 2 g 16 (putW P 1 (putW P 0 (fun _ => 0))) w' (by omega) (by omega) hS.2.2.2).mono ?_
  rintro e w8 ⟨rfl, h4, hbe⟩
  obtain ⟨h1, h2, h3, _⟩ := hS
  have h1 : Row64 w8 w.heap.size 59 4 (words P) := (hbe.2 _ h1.lt (by omega)).trans h1
  have h2 : Row w8 (w.heap.size + 1) 22 32 (fun _ => 0) := (hbe.2 _ h2.lt (by omega)).trans h2
  have h3 := h3.trans (hbe.1.mono (by omega))
  clear hbe
  refine ⟨_, rfl, ?_⟩
  simp only [Act.put, List.setIfInBounds_toArray, List.set_cons_zero, List.set_cons_succ]
  go_wp2_with (fail)
  refine region_seq (fun W' => Row64 W' w.heap.size 59 4 (words P) ∧ Row W' (w.heap.size + 1) 22 32 (fun _ => 0) ∧ Below w.heap.size w W' ∧ Row W' g 22 32 (putW P 2 (putW P 1 (putW P 0 (fun _ => 0))))) mixedOrders (by kernel_rfl) (by simp) ⟨h1.drew, h2.drew, h3.drew, h4.drew⟩ ?_
  clear h1 h2 h3 h4
  refine Seq.next ?_ (Sure.val rfl (fun w' hS => ?_)) ?_
  rotate_left 1
  · clear hS
    go_simp
    rfl
  simp only [Act.put, List.setIfInBounds_toArray, List.set_cons_zero, List.set_cons_succ]
  refine Seq.next ?_ (Sure.val rfl (fun w' hS => ?_)) ?_
  rotate_left 1
  · clear hS
    go_simp
    rfl
  simp only [Act.put, List.setIfInBounds_toArray, List.set_cons_zero, List.set_cons_succ]
  refine Seq.next ?_ (Sure.val rfl (fun w' hS => ?_)) ?_
  rotate_left 1
  · have c := hS.1.cellW 3 (by omega)
    clear hS
    go_simp
    rfl
  simp only [Act.put, List.setIfInBounds_toArray, List.set_cons_zero, List.set_cons_succ]
  refine Seq.call_last (some 21) rfl rfl 53 #[.slice (some ⟨g, 24, none⟩) 8 8, .int .u64 (wd P 3 : Int)] (fun w' => by go_simp) fun w' hS => (putWord_o 24 P 3 g 8 (putW P 2 (putW P 1 (putW P 0 (fun _ => 0)))) w' (by omega) (by omega) hS.2.2.2).mono ?_
  rintro e w8 ⟨rfl, h4, hbe⟩
  obtain ⟨h1, h2, h3, _⟩ := hS
  have h1 : Row64 w8 w.heap.size 59 4 (words P) := (hbe.2 _ h1.lt (by omega)).trans h1
  have h2 : Row w8 (w.heap.size + 1) 22 32 (fun _ => 0) := (hbe.2 _ h2.lt (by omega)).trans h2
  have h3 := h3.trans (hbe.1.mono (by omega))
  clear hbe
  refine ⟨_, rfl, ?_⟩
  simp only [Act.put, List.setIfInBounds_toArray, List.set_cons_zero, List.set_cons_succ]
  have h4 := h4.congr (f' := byteN P) fun j hj => put_all P _ j hj
  go_wp2_with (first | (refine wpList_load_Row rfl 22 _ rfl g rfl 22 32 _ _ h4 und32B size32B ?_) | (refine wpList_store_Row rfl 22 _ _ rfl (w.heap.size + 1) rfl 22 32 _ _ rfl h2 size32B ?_))
  exact ret_Row rfl rfl _ _ 32 _ _ rfl (h2.setRow _) und32B size32B ⟨rfl, below_setRow8 h3 (by omega) _⟩
end Go.Proofs.Ytchojbhmfjibmaa
