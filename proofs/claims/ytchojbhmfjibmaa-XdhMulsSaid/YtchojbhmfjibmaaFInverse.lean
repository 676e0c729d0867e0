/- The program's inverse: the power p - 2 (mkfinverse.py writes this text). -/
import Derived.Test.YtchojbhmfjibmaaFOnes
namespace Go.Proofs.Ytchojbhmfjibmaa
open Go Go.RowKit
set_option maxRecDepth 100000

def i3 (n : Nat) : Nat := tm (rs n 1) n
def i11 (n : Nat) : Nat := tm (rs n 3) (i3 n)
theorem i3_lt {n : Nat} (h : n < 2 ^ 256) : i3 n < 2 ^ 256 := tm_lt (rs_lt h 1) h
theorem i11_lt {n : Nat} (h : n < 2 ^ 256) : i11 n < 2 ^ 256 := tm_lt (rs_lt h 3) (i3_lt h)
def iv (n : Nat) : Nat := tm (rs (o250 n) 5) (i11 n)
theorem iv_lt {n : Nat} (h : n < 2 ^ 256) : iv n < 2 ^ 256 := tm_lt (rs_lt (o250_lt h) 5) (i11_lt h)

set_option maxHeartbeats 16000000 in
theorem inverse_c (n : Nat) (hn : n < 2 ^ 256) (w : World) : Calls Try.prog 48 #[(.agg (row64 4 (words n)))] w fun e w' =>
    e = .returned (.agg (row64 4 (words (iv n)))) ∧ Below w.heap.size w w' := by
  have p0 : ∀ W, Calls Try.prog 57 #[(.agg (row64 4 (words n))), .int .i64 1] W fun e w' => e = .returned (.agg (row64 4 (words (rs n 1)))) ∧ Below W.heap.size W w' := fun W => raise_c n 1 hn (by omega) W
  have q0 : ∀ W, Calls Try.prog 46 #[(.agg (row64 4 (words (rs n 1)))), (.agg (row64 4 (words n)))] W fun e w' => e = .returned (.agg (row64 4 (words (i3 n)))) ∧ Below W.heap.size W w' := fun W => times_c (rs n 1) n (rs_lt hn 1) hn W
  have p1 : ∀ W, Calls Try.prog 57 #[(.agg (row64 4 (words n))), .int .i64 3] W fun e w' => e = .returned (.agg (row64 4 (words (rs n 3)))) ∧ Below W.heap.size W w' := fun W => raise_c n 3 hn (by omega) W
  have q1 : ∀ W, Calls Try.prog 46 #[(.agg (row64 4 (words (rs n 3)))), (.agg (row64 4 (words (i3 n))))] W fun e w' => e = .returned (.agg (row64 4 (words (i11 n)))) ∧ Below W.heap.size W w' := fun W => times_c (rs n 3) (i3 n) (rs_lt hn 3) (i3_lt hn) W
  have po : ∀ W, Calls Try.prog 58 #[(.agg (row64 4 (words n)))] W fun e w' => e = .returned (.agg (row64 4 (words (o250 n)))) ∧ Below W.heap.size W w' := fun W => ones_c n hn W
  have pr : ∀ W, Calls Try.prog 57 #[(.agg (row64 4 (words (o250 n)))), .int .i64 5] W fun e w' => e = .returned (.agg (row64 4 (words (rs (o250 n) 5)))) ∧ Below W.heap.size W w' := fun W => raise_c (o250 n) 5 (o250_lt hn) (by omega) W
  have pt : ∀ W, Calls Try.prog 46 #[(.agg (row64 4 (words (rs (o250 n) 5)))), (.agg (row64 4 (words (i11 n))))] W fun e w' => e = .returned (.agg (row64 4 (words (iv n)))) ∧ Below W.heap.size W w' := fun W => times_c (rs (o250 n) 5) (i11 n) (rs_lt (o250_lt hn) 5) (i11_lt hn) W
  generalize iv n = vz at *
  generalize rs (o250 n) 5 = vy at *
  generalize o250 n = vx at *
  generalize rs n 3 = u1 at *
  generalize rs n 1 = u0 at *
  generalize i11 n = v1 at *
  generalize i3 n = v0 at *
  go_enter Try.func48, Try.ntmps48
  go_upto_region 1 with (fail)
  rw [zeroNb]
  have h1 := (Row64.new w 59 4 (words n)).alloc (.cells (row64 4 fun _ => 0) 59)
  have h2 := Row64.new (w.alloc (.cells (row64 4 (words n)) 59)) 59 4 fun _ => 0
  have hb : Below w.heap.size w ((w.alloc (.cells (row64 4 (words n)) 59)).alloc (.cells (row64 4 fun _ => 0) 59)) := ((Below.refl _ _).alloc (Nat.le_refl _) _).alloc (by simp) _
  simp only [World.size_alloc] at h2
  have hall := And.intro h1 (And.intro h2 hb)
  clear h1 h2 hb
  revert hall
  generalize (w.alloc (.cells (row64 4 (words n)) 59)).alloc (.cells (row64 4 fun _ => 0) 59) = w0
  rintro ⟨ha, hr, hb⟩
  have Lha := ha.lt
  have Lhr := hr.lt
  refine region_made (SN (fun W' => Row64 W' w.heap.size 59 4 (words n) ∧ Row64 W' (w.heap.size + 1) 59 4 (fun _ => 0) ∧ Below w.heap.size w W' ∧ w0.heap.size ≤ W'.heap.size) fun g w' => Blk w' g 59 (row64 4 fun _ => 0) ∧ w0.heap.size ≤ g) mixedOrders (by kernel_rfl) (by simp) ⟨⟨ha.drew, hr.drew, hb.drew, Nat.le_refl _⟩, fun _ h => by cases h⟩ ?_
  clear ha hr hb
  refine SeqG.next (.agg (row64 4 (words n))) (fun g og => Sure.load_W4 rfl 59 _ rfl w.heap.size rfl 59 _ (fun w' hS => hS.1.1) isRowNb (isSh _)) ?_
  simp only [Act.put, List.setIfInBounds_toArray, List.set_cons_zero, List.set_cons_succ]
  refine SeqG.next (.agg (row64 4 (words u0))) (fun g og => SureN.call (f := 57) (args := #[(.agg (row64 4 (words n))), .int .i64 1]) rfl (fun w' => by go_simp) (fun w' hS => (p0 w').mono fun e w'' h => ⟨h.1, h.2, hS.1.below h.2 hS.1.lt, hS.2.1.below h.2 hS.2.1.lt, hS.2.2.1.trans (h.2.mono hS.2.2.1.size), Nat.le_trans hS.2.2.2 h.2.size⟩)) ?_
  simp only [Act.put, List.setIfInBounds_toArray, List.set_cons_zero, List.set_cons_succ]
  refine SeqG.next (.agg (row64 4 (words n))) (fun g og => Sure.load_W4 rfl 59 _ rfl w.heap.size rfl 59 _ (fun w' hS => hS.1.1) isRowNb (isSh _)) ?_
  simp only [Act.put, List.setIfInBounds_toArray, List.set_cons_zero, List.set_cons_succ]
  refine SeqG.next (.agg (row64 4 (words v0))) (fun g og => SureN.call (f := 46) (args := #[(.agg (row64 4 (words u0))), (.agg (row64 4 (words n)))]) rfl (fun w' => by go_simp) (fun w' hS => (q0 w').mono fun e w'' h => ⟨h.1, h.2, hS.1.below h.2 hS.1.lt, hS.2.1.below h.2 hS.2.1.lt, hS.2.2.1.trans (h.2.mono hS.2.2.1.size), Nat.le_trans hS.2.2.2 h.2.size⟩)) ?_
  simp only [Act.put, List.setIfInBounds_toArray, List.set_cons_zero, List.set_cons_succ]
  refine SeqG.make (fun g => MakesN.blk rfl 59 rfl (row64 4 fun _ => 0) zNb3 w0.heap.size (fun w' hS => hS.2.2.2) (fun w' hS => ⟨hS.1.alloc _, hS.2.1.alloc _, hS.2.2.1.alloc hS.2.2.1.size _, Nat.le_trans hS.2.2.2 (by simp)⟩)) ?_
  simp only [Act.put, List.setIfInBounds_toArray, List.set_cons_zero, List.set_cons_succ]
  refine SeqG.store_N (fun _ => rfl) 59 _ _ rfl (fun _ => rfl) 59 (row64 4 fun _ => 0) (row64 4 (words v0)) (fun _ => rfl) (fun g w' hS => (hS.2 g rfl).1) (isSh _) (by rw [row64_size, row64_size]) (row64_one 4 _) fun g0 w' hS => ?_
  have hgl := (hS.2 g0 rfl).2
  have hnew : Row64 w' g0 59 4 (fun _ => 0) := (hS.2 g0 rfl).1
  have hwB : w.heap.size ≤ g0 := by omega
  have hall := And.intro (hnew.setRow (words v0)) (show Row64 (w'.setRow g0 (row64 4 (words v0))) w.heap.size 59 4 (words n) ∧ Row64 (w'.setRow g0 (row64 4 (words v0))) (w.heap.size + 1) 59 4 (fun _ => 0) ∧ Below w.heap.size w (w'.setRow g0 (row64 4 (words v0))) from ⟨hS.1.1.setRow_far (by omega) _, hS.1.2.1.setRow_far (by omega) _, below_setRow8 hS.1.2.2.1 hwB _⟩)
  clear hS hnew hgl hwB Lha Lhr
  simp only [Act.put]
  revert hall
  generalize w'.setRow g0 (row64 4 (words v0)) = w1
  rintro ⟨hv0, ha, hr, hb⟩
  go_wp2_with (fail)
  have Lha := ha.lt
  have Lhr := hr.lt
  have Lhv0 := hv0.lt
  refine region_made (SN (fun W' => Row64 W' w.heap.size 59 4 (words n) ∧ Row64 W' (w.heap.size + 1) 59 4 (fun _ => 0) ∧ Row64 W' g0 59 4 (words v0) ∧ Below w.heap.size w W' ∧ w1.heap.size ≤ W'.heap.size) fun g w' => Blk w' g 59 (row64 4 fun _ => 0) ∧ w1.heap.size ≤ g) mixedOrders (by kernel_rfl) (by simp) ⟨⟨ha.drew, hr.drew, hv0.drew, hb.drew, Nat.le_refl _⟩, fun _ h => by cases h⟩ ?_
  clear ha hr hv0 hb
  refine SeqG.next (.agg (row64 4 (words n))) (fun g og => Sure.load_W4 rfl 59 _ rfl w.heap.size rfl 59 _ (fun w' hS => hS.1.1) isRowNb (isSh _)) ?_
  simp only [Act.put, List.setIfInBounds_toArray, List.set_cons_zero, List.set_cons_succ]
  refine SeqG.next (.agg (row64 4 (words u1))) (fun g og => SureN.call (f := 57) (args := #[(.agg (row64 4 (words n))), .int .i64 3]) rfl (fun w' => by go_simp) (fun w' hS => (p1 w').mono fun e w'' h => ⟨h.1, h.2, hS.1.below h.2 hS.1.lt, hS.2.1.below h.2 hS.2.1.lt, hS.2.2.1.below h.2 hS.2.2.1.lt, hS.2.2.2.1.trans (h.2.mono hS.2.2.2.1.size), Nat.le_trans hS.2.2.2.2 h.2.size⟩)) ?_
  simp only [Act.put, List.setIfInBounds_toArray, List.set_cons_zero, List.set_cons_succ]
  refine SeqG.next (.agg (row64 4 (words v0))) (fun g og => Sure.load_W4 rfl 59 _ rfl g0 rfl 59 _ (fun w' hS => hS.1.2.2.1) isRowNb (isSh _)) ?_
  simp only [Act.put, List.setIfInBounds_toArray, List.set_cons_zero, List.set_cons_succ]
  refine SeqG.next (.agg (row64 4 (words v1))) (fun g og => SureN.call (f := 46) (args := #[(.agg (row64 4 (words u1))), (.agg (row64 4 (words v0)))]) rfl (fun w' => by go_simp) (fun w' hS => (q1 w').mono fun e w'' h => ⟨h.1, h.2, hS.1.below h.2 hS.1.lt, hS.2.1.below h.2 hS.2.1.lt, hS.2.2.1.below h.2 hS.2.2.1.lt, hS.2.2.2.1.trans (h.2.mono hS.2.2.2.1.size), Nat.le_trans hS.2.2.2.2 h.2.size⟩)) ?_
  simp only [Act.put, List.setIfInBounds_toArray, List.set_cons_zero, List.set_cons_succ]
  refine SeqG.make (fun g => MakesN.blk rfl 59 rfl (row64 4 fun _ => 0) zNb3 w1.heap.size (fun w' hS => hS.2.2.2.2) (fun w' hS => ⟨hS.1.alloc _, hS.2.1.alloc _, hS.2.2.1.alloc _, hS.2.2.2.1.alloc hS.2.2.2.1.size _, Nat.le_trans hS.2.2.2.2 (by simp)⟩)) ?_
  simp only [Act.put, List.setIfInBounds_toArray, List.set_cons_zero, List.set_cons_succ]
  refine SeqG.store_N (fun _ => rfl) 59 _ _ rfl (fun _ => rfl) 59 (row64 4 fun _ => 0) (row64 4 (words v1)) (fun _ => rfl) (fun g w' hS => (hS.2 g rfl).1) (isSh _) (by rw [row64_size, row64_size]) (row64_one 4 _) fun g1 w' hS => ?_
  have hgl := (hS.2 g1 rfl).2
  have hnew : Row64 w' g1 59 4 (fun _ => 0) := (hS.2 g1 rfl).1
  have hwB : w.heap.size ≤ g1 := by omega
  have hall := And.intro (hnew.setRow (words v1)) (show Row64 (w'.setRow g1 (row64 4 (words v1))) w.heap.size 59 4 (words n) ∧ Row64 (w'.setRow g1 (row64 4 (words v1))) (w.heap.size + 1) 59 4 (fun _ => 0) ∧ Row64 (w'.setRow g1 (row64 4 (words v1))) g0 59 4 (words v0) ∧ Below w.heap.size w (w'.setRow g1 (row64 4 (words v1))) from ⟨hS.1.1.setRow_far (by omega) _, hS.1.2.1.setRow_far (by omega) _, hS.1.2.2.1.setRow_far (by omega) _, below_setRow8 hS.1.2.2.2.1 hwB _⟩)
  clear hS hnew hgl hwB Lha Lhr Lhv0
  simp only [Act.put]
  revert hall
  generalize w'.setRow g1 (row64 4 (words v1)) = w2
  rintro ⟨hv1, ha, hr, hv0, hb⟩
  go_wp2_with (fail)
  refine region_seq (fun W' => Row64 W' w.heap.size 59 4 (words n) ∧ Row64 W' (w.heap.size + 1) 59 4 (fun _ => 0) ∧ Row64 W' g0 59 4 (words v0) ∧ Row64 W' g1 59 4 (words v1) ∧ Below w.heap.size w W' ∧ w2.heap.size ≤ W'.heap.size) mixedOrders (by kernel_rfl) (by simp) ⟨ha.drew, hr.drew, hv0.drew, hv1.drew, hb.drew, Nat.le_refl _⟩ ?_
  clear ha hr hv0 hv1 hb
  refine Seq.next (.agg (row64 4 (words n))) (Sure.load_W4 rfl 59 _ rfl w.heap.size rfl 59 _ (fun w' hS => hS.1) isRowNb (isSh _)) ?_
  simp only [Act.put, List.setIfInBounds_toArray, List.set_cons_zero, List.set_cons_succ]
  refine Seq.next (.agg (row64 4 (words vx))) (Sure.call (f := 58) (args := #[(.agg (row64 4 (words n)))]) rfl (fun w' => by go_simp) (fun w' hS => (po w').mono fun e w'' h => ⟨h.1, hS.1.below h.2 hS.1.lt, hS.2.1.below h.2 hS.2.1.lt, hS.2.2.1.below h.2 hS.2.2.1.lt, hS.2.2.2.1.below h.2 hS.2.2.2.1.lt, hS.2.2.2.2.1.trans (h.2.mono hS.2.2.2.2.1.size), Nat.le_trans hS.2.2.2.2.2 h.2.size⟩)) ?_
  simp only [Act.put, List.setIfInBounds_toArray, List.set_cons_zero, List.set_cons_succ]
  refine Seq.next (.agg (row64 4 (words vy))) (Sure.call (f := 57) (args := #[(.agg (row64 4 (words vx))), .int .i64 5]) rfl (fun w' => by go_simp) (fun w' hS => (pr w').mono fun e w'' h => ⟨h.1, hS.1.below h.2 hS.1.lt, hS.2.1.below h.2 hS.2.1.lt, hS.2.2.1.below h.2 hS.2.2.1.lt, hS.2.2.2.1.below h.2 hS.2.2.2.1.lt, hS.2.2.2.2.1.trans (h.2.mono hS.2.2.2.2.1.size), Nat.le_trans hS.2.2.2.2.2 h.2.size⟩)) ?_
  simp only [Act.put, List.setIfInBounds_toArray, List.set_cons_zero, List.set_cons_succ]
  refine Seq.next (.agg (row64 4 (words v1))) (Sure.load_W4 rfl 59 _ rfl g1 rfl 59 _ (fun w' hS => hS.2.2.2.1) isRowNb (isSh _)) ?_
  simp only [Act.put, List.setIfInBounds_toArray, List.set_cons_zero, List.set_cons_succ]
  refine Seq.next (.agg (row64 4 (words vz))) (Sure.call (f := 46) (args := #[(.agg (row64 4 (words vy))), (.agg (row64 4 (words v1)))]) rfl (fun w' => by go_simp) (fun w' hS => (pt w').mono fun e w'' h => ⟨h.1, hS.1.below h.2 hS.1.lt, hS.2.1.below h.2 hS.2.1.lt, hS.2.2.1.below h.2 hS.2.2.1.lt, hS.2.2.2.1.below h.2 hS.2.2.2.1.lt, hS.2.2.2.2.1.trans (h.2.mono hS.2.2.2.2.1.size), Nat.le_trans hS.2.2.2.2.2 h.2.size⟩)) ?_
  simp only [Act.put, List.setIfInBounds_toArray, List.set_cons_zero, List.set_cons_succ]
  refine Seq.store_Row64 rfl 59 _ _ rfl (w.heap.size + 1) rfl 59 4 (fun _ => 0) (words vz) rfl (fun w' hS => hS.2.1) sizeNb (fun w' hS => ?_)
  have hr := hS.2.1.setRow (words vz)
  have hb := below_setRow8 hS.2.2.2.2.1 (k := w.heap.size + 1) (by omega) (row64 4 (words vz))
  clear hS
  simp only [Act.put]
  revert hr hb
  generalize w'.setRow (w.heap.size + 1) (row64 4 (words vz)) = we
  intro hr hb
  go_wp2
  exact ret_W4 rfl rfl (w.heap.size + 1) 59 _ rfl hr isRowNb (sizeNbR _) ⟨rfl, hb⟩
end Go.Proofs.Ytchojbhmfjibmaa
