/- The program's ones: the power 2^250 - 1, by squarings (mkfones.py writes this text). -/
import Derived.Test.YtchojbhmfjibmaaFInv
import Derived.Test.YtchojbhmfjibmaaSN
namespace Go.Proofs.Ytchojbhmfjibmaa
open Go Go.RowKit
set_option maxRecDepth 100000

theorem zNb3 : (Try.prog.info? 59).bind (·.zero) = some (.agg (row64 4 fun _ => 0)) := by kernel_rfl
theorem isSh (f : Nat → UInt64) : (Try.prog.info? 59).map (·.size) = some (row64 4 f).size := sizeNbR f
def o2 (n : Nat) : Nat := tm (rs n 1) n
def o4 (n : Nat) : Nat := tm (rs (o2 n) 2) (o2 n)
def o5 (n : Nat) : Nat := tm (rs (o4 n) 1) n
def o10 (n : Nat) : Nat := tm (rs (o5 n) 5) (o5 n)
def o20 (n : Nat) : Nat := tm (rs (o10 n) 10) (o10 n)
def o40 (n : Nat) : Nat := tm (rs (o20 n) 20) (o20 n)
def o50 (n : Nat) : Nat := tm (rs (o40 n) 10) (o10 n)
def o100 (n : Nat) : Nat := tm (rs (o50 n) 50) (o50 n)
def o200 (n : Nat) : Nat := tm (rs (o100 n) 100) (o100 n)
def o250 (n : Nat) : Nat := tm (rs (o200 n) 50) (o50 n)
theorem o2_lt {n : Nat} (h : n < 2 ^ 256) : o2 n < 2 ^ 256 := tm_lt (rs_lt h 1) h
theorem o4_lt {n : Nat} (h : n < 2 ^ 256) : o4 n < 2 ^ 256 := tm_lt (rs_lt (o2_lt h) 2) (o2_lt h)
theorem o5_lt {n : Nat} (h : n < 2 ^ 256) : o5 n < 2 ^ 256 := tm_lt (rs_lt (o4_lt h) 1) h
theorem o10_lt {n : Nat} (h : n < 2 ^ 256) : o10 n < 2 ^ 256 := tm_lt (rs_lt (o5_lt h) 5) (o5_lt h)
theorem o20_lt {n : Nat} (h : n < 2 ^ 256) : o20 n < 2 ^ 256 := tm_lt (rs_lt (o10_lt h) 10) (o10_lt h)
theorem o40_lt {n : Nat} (h : n < 2 ^ 256) : o40 n < 2 ^ 256 := tm_lt (rs_lt (o20_lt h) 20) (o20_lt h)
theorem o50_lt {n : Nat} (h : n < 2 ^ 256) : o50 n < 2 ^ 256 := tm_lt (rs_lt (o40_lt h) 10) (o10_lt h)
theorem o100_lt {n : Nat} (h : n < 2 ^ 256) : o100 n < 2 ^ 256 := tm_lt (rs_lt (o50_lt h) 50) (o50_lt h)
theorem o200_lt {n : Nat} (h : n < 2 ^ 256) : o200 n < 2 ^ 256 := tm_lt (rs_lt (o100_lt h) 100) (o100_lt h)
theorem o250_lt {n : Nat} (h : n < 2 ^ 256) : o250 n < 2 ^ 256 := tm_lt (rs_lt (o200_lt h) 50) (o50_lt h)

set_option maxHeartbeats 16000000 in
theorem ones_c (n : Nat) (hn : n < 2 ^ 256) (w : World) : Calls Try.prog 58 #[(.agg (row64 4 (words n)))] w fun e w' =>
    e = .returned (.agg (row64 4 (words (o250 n)))) ∧ Below w.heap.size w w' := by
  have p0 : ∀ W, Calls Try.prog 57 #[(.agg (row64 4 (words n))), .int .i64 1] W fun e w' => e = .returned (.agg (row64 4 (words (rs n 1)))) ∧ Below W.heap.size W w' := fun W => raise_c n 1 hn (by omega) W
  have q0 : ∀ W, Calls Try.prog 46 #[(.agg (row64 4 (words (rs n 1)))), (.agg (row64 4 (words n)))] W fun e w' => e = .returned (.agg (row64 4 (words (o2 n)))) ∧ Below W.heap.size W w' := fun W => times_c (rs n 1) n (rs_lt hn 1) hn W
  have p1 : ∀ W, Calls Try.prog 57 #[(.agg (row64 4 (words (o2 n)))), .int .i64 2] W fun e w' => e = .returned (.agg (row64 4 (words (rs (o2 n) 2)))) ∧ Below W.heap.size W w' := fun W => raise_c (o2 n) 2 (o2_lt hn) (by omega) W
  have q1 : ∀ W, Calls Try.prog 46 #[(.agg (row64 4 (words (rs (o2 n) 2)))), (.agg (row64 4 (words (o2 n))))] W fun e w' => e = .returned (.agg (row64 4 (words (o4 n)))) ∧ Below W.heap.size W w' := fun W => times_c (rs (o2 n) 2) (o2 n) (rs_lt (o2_lt hn) 2) (o2_lt hn) W
  have p2 : ∀ W, Calls Try.prog 57 #[(.agg (row64 4 (words (o4 n)))), .int .i64 1] W fun e w' => e = .returned (.agg (row64 4 (words (rs (o4 n) 1)))) ∧ Below W.heap.size W w' := fun W => raise_c (o4 n) 1 (o4_lt hn) (by omega) W
  have q2 : ∀ W, Calls Try.prog 46 #[(.agg (row64 4 (words (rs (o4 n) 1)))), (.agg (row64 4 (words n)))] W fun e w' => e = .returned (.agg (row64 4 (words (o5 n)))) ∧ Below W.heap.size W w' := fun W => times_c (rs (o4 n) 1) n (rs_lt (o4_lt hn) 1) hn W
  have p3 : ∀ W, Calls Try.prog 57 #[(.agg (row64 4 (words (o5 n)))), .int .i64 5] W fun e w' => e = .returned (.agg (row64 4 (words (rs (o5 n) 5)))) ∧ Below W.heap.size W w' := fun W => raise_c (o5 n) 5 (o5_lt hn) (by omega) W
  have q3 : ∀ W, Calls Try.prog 46 #[(.agg (row64 4 (words (rs (o5 n) 5)))), (.agg (row64 4 (words (o5 n))))] W fun e w' => e = .returned (.agg (row64 4 (words (o10 n)))) ∧ Below W.heap.size W w' := fun W => times_c (rs (o5 n) 5) (o5 n) (rs_lt (o5_lt hn) 5) (o5_lt hn) W
  have p4 : ∀ W, Calls Try.prog 57 #[(.agg (row64 4 (words (o10 n)))), .int .i64 10] W fun e w' => e = .returned (.agg (row64 4 (words (rs (o10 n) 10)))) ∧ Below W.heap.size W w' := fun W => raise_c (o10 n) 10 (o10_lt hn) (by omega) W
  have q4 : ∀ W, Calls Try.prog 46 #[(.agg (row64 4 (words (rs (o10 n) 10)))), (.agg (row64 4 (words (o10 n))))] W fun e w' => e = .returned (.agg (row64 4 (words (o20 n)))) ∧ Below W.heap.size W w' := fun W => times_c (rs (o10 n) 10) (o10 n) (rs_lt (o10_lt hn) 10) (o10_lt hn) W
  have p5 : ∀ W, Calls Try.prog 57 #[(.agg (row64 4 (words (o20 n)))), .int .i64 20] W fun e w' => e = .returned (.agg (row64 4 (words (rs (o20 n) 20)))) ∧ Below W.heap.size W w' := fun W => raise_c (o20 n) 20 (o20_lt hn) (by omega) W
  have q5 : ∀ W, Calls Try.prog 46 #[(.agg (row64 4 (words (rs (o20 n) 20)))), (.agg (row64 4 (words (o20 n))))] W fun e w' => e = .returned (.agg (row64 4 (words (o40 n)))) ∧ Below W.heap.size W w' := fun W => times_c (rs (o20 n) 20) (o20 n) (rs_lt (o20_lt hn) 20) (o20_lt hn) W
  have p6 : ∀ W, Calls Try.prog 57 #[(.agg (row64 4 (words (o40 n)))), .int .i64 10] W fun e w' => e = .returned (.agg (row64 4 (words (rs (o40 n) 10)))) ∧ Below W.heap.size W w' := fun W => raise_c (o40 n) 10 (o40_lt hn) (by omega) W
  have q6 : ∀ W, Calls Try.prog 46 #[(.agg (row64 4 (words (rs (o40 n) 10)))), (.agg (row64 4 (words (o10 n))))] W fun e w' => e = .returned (.agg (row64 4 (words (o50 n)))) ∧ Below W.heap.size W w' := fun W => times_c (rs (o40 n) 10) (o10 n) (rs_lt (o40_lt hn) 10) (o10_lt hn) W
  have p7 : ∀ W, Calls Try.prog 57 #[(.agg (row64 4 (words (o50 n)))), .int .i64 50] W fun e w' => e = .returned (.agg (row64 4 (words (rs (o50 n) 50)))) ∧ Below W.heap.size W w' := fun W => raise_c (o50 n) 50 (o50_lt hn) (by omega) W
  have q7 : ∀ W, Calls Try.prog 46 #[(.agg (row64 4 (words (rs (o50 n) 50)))), (.agg (row64 4 (words (o50 n))))] W fun e w' => e = .returned (.agg (row64 4 (words (o100 n)))) ∧ Below W.heap.size W w' := fun W => times_c (rs (o50 n) 50) (o50 n) (rs_lt (o50_lt hn) 50) (o50_lt hn) W
  have p8 : ∀ W, Calls Try.prog 57 #[(.agg (row64 4 (words (o100 n)))), .int .i64 100] W fun e w' => e = .returned (.agg (row64 4 (words (rs (o100 n) 100)))) ∧ Below W.heap.size W w' := fun W => raise_c (o100 n) 100 (o100_lt hn) (by omega) W
  have q8 : ∀ W, Calls Try.prog 46 #[(.agg (row64 4 (words (rs (o100 n) 100)))), (.agg (row64 4 (words (o100 n))))] W fun e w' => e = .returned (.agg (row64 4 (words (o200 n)))) ∧ Below W.heap.size W w' := fun W => times_c (rs (o100 n) 100) (o100 n) (rs_lt (o100_lt hn) 100) (o100_lt hn) W
  have p9 : ∀ W, Calls Try.prog 57 #[(.agg (row64 4 (words (o200 n)))), .int .i64 50] W fun e w' => e = .returned (.agg (row64 4 (words (rs (o200 n) 50)))) ∧ Below W.heap.size W w' := fun W => raise_c (o200 n) 50 (o200_lt hn) (by omega) W
  have q9 : ∀ W, Calls Try.prog 46 #[(.agg (row64 4 (words (rs (o200 n) 50)))), (.agg (row64 4 (words (o50 n))))] W fun e w' => e = .returned (.agg (row64 4 (words (o250 n)))) ∧ Below W.heap.size W w' := fun W => times_c (rs (o200 n) 50) (o50 n) (rs_lt (o200_lt hn) 50) (o50_lt hn) W
  generalize rs (o200 n) 50 = u9 at *
  generalize rs (o100 n) 100 = u8 at *
  generalize rs (o50 n) 50 = u7 at *
  generalize rs (o40 n) 10 = u6 at *
  generalize rs (o20 n) 20 = u5 at *
  generalize rs (o10 n) 10 = u4 at *
  generalize rs (o5 n) 5 = u3 at *
  generalize rs (o4 n) 1 = u2 at *
  generalize rs (o2 n) 2 = u1 at *
  generalize rs n 1 = u0 at *
  generalize o250 n = v9 at *
  generalize o200 n = v8 at *
  generalize o100 n = v7 at *
  generalize o50 n = v6 at *
  generalize o40 n = v5 at *
  generalize o20 n = v4 at *
  generalize o10 n = v3 at *
  generalize o5 n = v2 at *
  generalize o4 n = v1 at *
  generalize o2 n = v0 at *
  go_enter Try.func58, Try.ntmps58
  go_upto_region 1 with (fail)
  rw [zeroNb]
  have h1 := (Row64.new w 59 4 (words n)).alloc (.cells (row64 4 fun _ => 0) 59)
  have h2 := Row64.new (w.alloc (.cells (row64 4 (words n)) 59)) 59 4 fun _ => 0
  have hb : Below w.heap.size w ((w.alloc (.cells (row64 4 (words n)) 59)).alloc (.cells (row64 4 fun _ => 0) 59)) := ((Below.refl _ _).alloc (Nat.le_refl _) _).alloc (by simp) _
  simp only [World.size_alloc] at h2
  have hall := And.intro h1 (And.intro h2 hb)
  clear h1 h2 hb
  revert hall
  generalize (w.alloc (.cells (row64 4 (words n)) 59)).alloc (.cells (row64 4 fun _ => 0) 59) = w0
  rintro ⟨ha, hr, hb⟩
  have Lha := ha.lt
  have Lhr := hr.lt
  refine region_made (SN (fun W' => Row64 W' w.heap.size 59 4 (words n) ∧ Row64 W' (w.heap.size + 1) 59 4 (fun _ => 0) ∧ Below w.heap.size w W' ∧ w0.heap.size ≤ W'.heap.size) fun g w' => Blk w' g 59 (row64 4 fun _ => 0) ∧ w0.heap.size ≤ g) mixedOrders (by kernel_rfl) (by simp) ⟨⟨ha.drew, hr.drew, hb.drew, Nat.le_refl _⟩, fun _ h => by cases h⟩ ?_
  clear ha hr hb
  refine SeqG.next (.agg (row64 4 (words n))) (fun g og => Sure.load_W4 rfl 59 _ rfl w.heap.size rfl 59 _ (fun w' hS => hS.1.1) isRowNb (isSh _)) ?_
  simp only [Act.put, List.setIfInBounds_toArray, List.set_cons_zero, List.set_cons_succ]
  refine SeqG.next (.agg (row64 4 (words u0))) (fun g og => SureN.call (f := 57) (args := #[(.agg (row64 4 (words n))), .int .i64 1]) rfl (fun w' => by go_simp) (fun w' hS => (p0 w').mono fun e w'' h => ⟨h.1, h.2, hS.1.below h.2 hS.1.lt, hS.2.1.below h.2 hS.2.1.lt, hS.2.2.1.trans (h.2.mono hS.2.2.1.size), Nat.le_trans hS.2.2.2 h.2.size⟩)) ?_
  simp only [Act.put, List.setIfInBounds_toArray, List.set_cons_zero, List.set_cons_succ]
  refine SeqG.next (.agg (row64 4 (words n))) (fun g og => Sure.load_W4 rfl 59 _ rfl w.heap.size rfl 59 _ (fun w' hS => hS.1.1) isRowNb (isSh _)) ?_
  simp only [Act.put, List.setIfInBounds_toArray, List.set_cons_zero, List.set_cons_succ]
  refine SeqG.next (.agg (row64 4 (words v0))) (fun g og => SureN.call (f := 46) (args := #[(.agg (row64 4 (words u0))), (.agg (row64 4 (words n)))]) rfl (fun w' => by go_simp) (fun w' hS => (q0 w').mono fun e w'' h => ⟨h.1, h.2, hS.1.below h.2 hS.1.lt, hS.2.1.below h.2 hS.2.1.lt, hS.2.2.1.trans (h.2.mono hS.2.2.1.size), Nat.le_trans hS.2.2.2 h.2.size⟩)) ?_
  simp only [Act.put, List.setIfInBounds_toArray, List.set_cons_zero, List.set_cons_succ]
  refine SeqG.make (fun g => MakesN.blk rfl 59 rfl (row64 4 fun _ => 0) zNb3 w0.heap.size (fun w' hS => hS.2.2.2) (fun w' hS => ⟨hS.1.alloc _, hS.2.1.alloc _, hS.2.2.1.alloc hS.2.2.1.size _, Nat.le_trans hS.2.2.2 (by simp)⟩)) ?_
  simp only [Act.put, List.setIfInBounds_toArray, List.set_cons_zero, List.set_cons_succ]
  refine SeqG.store_N (fun _ => rfl) 59 _ _ rfl (fun _ => rfl) 59 (row64 4 fun _ => 0) (row64 4 (words v0)) (fun _ => rfl) (fun g w' hS => (hS.2 g rfl).1) (isSh _) (by rw [row64_size, row64_size]) (row64_one 4 _) fun g0 w' hS => ?_
  have hgl := (hS.2 g0 rfl).2
  have hnew : Row64 w' g0 59 4 (fun _ => 0) := (hS.2 g0 rfl).1
  have hwB : w.heap.size ≤ g0 := by omega
  have hall := And.intro (hnew.setRow (words v0)) (show Row64 (w'.setRow g0 (row64 4 (words v0))) w.heap.size 59 4 (words n) ∧ Row64 (w'.setRow g0 (row64 4 (words v0))) (w.heap.size + 1) 59 4 (fun _ => 0) ∧ Below w.heap.size w (w'.setRow g0 (row64 4 (words v0))) from ⟨hS.1.1.setRow_far (by omega) _, hS.1.2.1.setRow_far (by omega) _, below_setRow8 hS.1.2.2.1 hwB _⟩)
  clear hS hnew hgl hwB Lha Lhr
  simp only [Act.put]
  revert hall
  generalize w'.setRow g0 (row64 4 (words v0)) = w1
  rintro ⟨hv0, ha, hr, hb⟩
  go_wp2_with (fail)
  have Lha := ha.lt
  have Lhr := hr.lt
  have Lhv0 := hv0.lt
  refine region_made (SN (fun W' => Row64 W' w.heap.size 59 4 (words n) ∧ Row64 W' (w.heap.size + 1) 59 4 (fun _ => 0) ∧ Row64 W' g0 59 4 (words v0) ∧ Below w.heap.size w W' ∧ w1.heap.size ≤ W'.heap.size) fun g w' => Blk w' g 59 (row64 4 fun _ => 0) ∧ w1.heap.size ≤ g) mixedOrders (by kernel_rfl) (by simp) ⟨⟨ha.drew, hr.drew, hv0.drew, hb.drew, Nat.le_refl _⟩, fun _ h => by cases h⟩ ?_
  clear ha hr hv0 hb
  refine SeqG.next (.agg (row64 4 (words v0))) (fun g og => Sure.load_W4 rfl 59 _ rfl g0 rfl 59 _ (fun w' hS => hS.1.2.2.1) isRowNb (isSh _)) ?_
  simp only [Act.put, List.setIfInBounds_toArray, List.set_cons_zero, List.set_cons_succ]
  refine SeqG.next (.agg (row64 4 (words u1))) (fun g og => SureN.call (f := 57) (args := #[(.agg (row64 4 (words v0))), .int .i64 2]) rfl (fun w' => by go_simp) (fun w' hS => (p1 w').mono fun e w'' h => ⟨h.1, h.2, hS.1.below h.2 hS.1.lt, hS.2.1.below h.2 hS.2.1.lt, hS.2.2.1.below h.2 hS.2.2.1.lt, hS.2.2.2.1.trans (h.2.mono hS.2.2.2.1.size), Nat.le_trans hS.2.2.2.2 h.2.size⟩)) ?_
  simp only [Act.put, List.setIfInBounds_toArray, List.set_cons_zero, List.set_cons_succ]
  refine SeqG.next (.agg (row64 4 (words v0))) (fun g og => Sure.load_W4 rfl 59 _ rfl g0 rfl 59 _ (fun w' hS => hS.1.2.2.1) isRowNb (isSh _)) ?_
  simp only [Act.put, List.setIfInBounds_toArray, List.set_cons_zero, List.set_cons_succ]
  refine SeqG.next (.agg (row64 4 (words v1))) (fun g og => SureN.call (f := 46) (args := #[(.agg (row64 4 (words u1))), (.agg (row64 4 (words v0)))]) rfl (fun w' => by go_simp) (fun w' hS => (q1 w').mono fun e w'' h => ⟨h.1, h.2, hS.1.below h.2 hS.1.lt, hS.2.1.below h.2 hS.2.1.lt, hS.2.2.1.below h.2 hS.2.2.1.lt, hS.2.2.2.1.trans (h.2.mono hS.2.2.2.1.size), Nat.le_trans hS.2.2.2.2 h.2.size⟩)) ?_
  simp only [Act.put, List.setIfInBounds_toArray, List.set_cons_zero, List.set_cons_succ]
  refine SeqG.make (fun g => MakesN.blk rfl 59 rfl (row64 4 fun _ => 0) zNb3 w1.heap.size (fun w' hS => hS.2.2.2.2) (fun w' hS => ⟨hS.1.alloc _, hS.2.1.alloc _, hS.2.2.1.alloc _, hS.2.2.2.1.alloc hS.2.2.2.1.size _, Nat.le_trans hS.2.2.2.2 (by simp)⟩)) ?_
  simp only [Act.put, List.setIfInBounds_toArray, List.set_cons_zero, List.set_cons_succ]
  refine SeqG.store_N (fun _ => rfl) 59 _ _ rfl (fun _ => rfl) 59 (row64 4 fun _ => 0) (row64 4 (words v1)) (fun _ => rfl) (fun g w' hS => (hS.2 g rfl).1) (isSh _) (by rw [row64_size, row64_size]) (row64_one 4 _) fun g1 w' hS => ?_
  have hgl := (hS.2 g1 rfl).2
  have hnew : Row64 w' g1 59 4 (fun _ => 0) := (hS.2 g1 rfl).1
  have hwB : w.heap.size ≤ g1 := by omega
  have hall := And.intro (hnew.setRow (words v1)) (show Row64 (w'.setRow g1 (row64 4 (words v1))) w.heap.size 59 4 (words n) ∧ Row64 (w'.setRow g1 (row64 4 (words v1))) (w.heap.size + 1) 59 4 (fun _ => 0) ∧ Row64 (w'.setRow g1 (row64 4 (words v1))) g0 59 4 (words v0) ∧ Below w.heap.size w (w'.setRow g1 (row64 4 (words v1))) from ⟨hS.1.1.setRow_far (by omega) _, hS.1.2.1.setRow_far (by omega) _, hS.1.2.2.1.setRow_far (by omega) _, below_setRow8 hS.1.2.2.2.1 hwB _⟩)
  clear hS hnew hgl hwB Lha Lhr Lhv0
  simp only [Act.put]
  revert hall
  generalize w'.setRow g1 (row64 4 (words v1)) = w2
  rintro ⟨hv1, ha, hr, hv0, hb⟩
  go_wp2_with (fail)
  have Lha := ha.lt
  have Lhr := hr.lt
  have Lhv0 := hv0.lt
  have Lhv1 := hv1.lt
  refine region_made (SN (fun W' => Row64 W' w.heap.size 59 4 (words n) ∧ Row64 W' (w.heap.size + 1) 59 4 (fun _ => 0) ∧ Row64 W' g0 59 4 (words v0) ∧ Row64 W' g1 59 4 (words v1) ∧ Below w.heap.size w W' ∧ w2.heap.size ≤ W'.heap.size) fun g w' => Blk w' g 59 (row64 4 fun _ => 0) ∧ w2.heap.size ≤ g) mixedOrders (by kernel_rfl) (by simp) ⟨⟨ha.drew, hr.drew, hv0.drew, hv1.drew, hb.drew, Nat.le_refl _⟩, fun _ h => by cases h⟩ ?_
  clear ha hr hv0 hv1 hb
  refine SeqG.next (.agg (row64 4 (words v1))) (fun g og => Sure.load_W4 rfl 59 _ rfl g1 rfl 59 _ (fun w' hS => hS.1.2.2.2.1) isRowNb (isSh _)) ?_
  simp only [Act.put, List.setIfInBounds_toArray, List.set_cons_zero, List.set_cons_succ]
  refine SeqG.next (.agg (row64 4 (words u2))) (fun g og => SureN.call (f := 57) (args := #[(.agg (row64 4 (words v1))), .int .i64 1]) rfl (fun w' => by go_simp) (fun w' hS => (p2 w').mono fun e w'' h => ⟨h.1, h.2, hS.1.below h.2 hS.1.lt, hS.2.1.below h.2 hS.2.1.lt, hS.2.2.1.below h.2 hS.2.2.1.lt, hS.2.2.2.1.below h.2 hS.2.2.2.1.lt, hS.2.2.2.2.1.trans (h.2.mono hS.2.2.2.2.1.size), Nat.le_trans hS.2.2.2.2.2 h.2.size⟩)) ?_
  simp only [Act.put, List.setIfInBounds_toArray, List.set_cons_zero, List.set_cons_succ]
  refine SeqG.next (.agg (row64 4 (words n))) (fun g og => Sure.load_W4 rfl 59 _ rfl w.heap.size rfl 59 _ (fun w' hS => hS.1.1) isRowNb (isSh _)) ?_
  simp only [Act.put, List.setIfInBounds_toArray, List.set_cons_zero, List.set_cons_succ]
  refine SeqG.next (.agg (row64 4 (words v2))) (fun g og => SureN.call (f := 46) (args := #[(.agg (row64 4 (words u2))), (.agg (row64 4 (words n)))]) rfl (fun w' => by go_simp) (fun w' hS => (q2 w').mono fun e w'' h => ⟨h.1, h.2, hS.1.below h.2 hS.1.lt, hS.2.1.below h.2 hS.2.1.lt, hS.2.2.1.below h.2 hS.2.2.1.lt, hS.2.2.2.1.below h.2 hS.2.2.2.1.lt, hS.2.2.2.2.1.trans (h.2.mono hS.2.2.2.2.1.size), Nat.le_trans hS.2.2.2.2.2 h.2.size⟩)) ?_
  simp only [Act.put, List.setIfInBounds_toArray, List.set_cons_zero, List.set_cons_succ]
  refine SeqG.make (fun g => MakesN.blk rfl 59 rfl (row64 4 fun _ => 0) zNb3 w2.heap.size (fun w' hS => hS.2.2.2.2.2) (fun w' hS => ⟨hS.1.alloc _, hS.2.1.alloc _, hS.2.2.1.alloc _, hS.2.2.2.1.alloc _, hS.2.2.2.2.1.alloc hS.2.2.2.2.1.size _, Nat.le_trans hS.2.2.2.2.2 (by simp)⟩)) ?_
  simp only [Act.put, List.setIfInBounds_toArray, List.set_cons_zero, List.set_cons_succ]
  refine SeqG.store_N (fun _ => rfl) 59 _ _ rfl (fun _ => rfl) 59 (row64 4 fun _ => 0) (row64 4 (words v2)) (fun _ => rfl) (fun g w' hS => (hS.2 g rfl).1) (isSh _) (by rw [row64_size, row64_size]) (row64_one 4 _) fun g2 w' hS => ?_
  have hgl := (hS.2 g2 rfl).2
  have hnew : Row64 w' g2 59 4 (fun _ => 0) := (hS.2 g2 rfl).1
  have hwB : w.heap.size ≤ g2 := by omega
  have hall := And.intro (hnew.setRow (words v2)) (show Row64 (w'.setRow g2 (row64 4 (words v2))) w.heap.size 59 4 (words n) ∧ Row64 (w'.setRow g2 (row64 4 (words v2))) (w.heap.size + 1) 59 4 (fun _ => 0) ∧ Row64 (w'.setRow g2 (row64 4 (words v2))) g0 59 4 (words v0) ∧ Row64 (w'.setRow g2 (row64 4 (words v2))) g1 59 4 (words v1) ∧ Below w.heap.size w (w'.setRow g2 (row64 4 (words v2))) from ⟨hS.1.1.setRow_far (by omega) _, hS.1.2.1.setRow_far (by omega) _, hS.1.2.2.1.setRow_far (by omega) _, hS.1.2.2.2.1.setRow_far (by omega) _, below_setRow8 hS.1.2.2.2.2.1 hwB _⟩)
  clear hS hnew hgl hwB Lha Lhr Lhv0 Lhv1
  simp only [Act.put]
  revert hall
  generalize w'.setRow g2 (row64 4 (words v2)) = w3
  rintro ⟨hv2, ha, hr, hv0, hv1, hb⟩
  go_wp2_with (fail)
  have Lha := ha.lt
  have Lhr := hr.lt
  have Lhv0 := hv0.lt
  have Lhv1 := hv1.lt
  have Lhv2 := hv2.lt
  refine region_made (SN (fun W' => Row64 W' w.heap.size 59 4 (words n) ∧ Row64 W' (w.heap.size + 1) 59 4 (fun _ => 0) ∧ Row64 W' g0 59 4 (words v0) ∧ Row64 W' g1 59 4 (words v1) ∧ Row64 W' g2 59 4 (words v2) ∧ Below w.heap.size w W' ∧ w3.heap.size ≤ W'.heap.size) fun g w' => Blk w' g 59 (row64 4 fun _ => 0) ∧ w3.heap.size ≤ g) mixedOrders (by kernel_rfl) (by simp) ⟨⟨ha.drew, hr.drew, hv0.drew, hv1.drew, hv2.drew, hb.drew, Nat.le_refl _⟩, fun _ h => by cases h⟩ ?_
  clear ha hr hv0 hv1 hv2 hb
  refine SeqG.next (.agg (row64 4 (words v2))) (fun g og => Sure.load_W4 rfl 59 _ rfl g2 rfl 59 _ (fun w' hS => hS.1.2.2.2.2.1) isRowNb (isSh _)) ?_
  simp only [Act.put, List.setIfInBounds_toArray, List.set_cons_zero, List.set_cons_succ]
  refine SeqG.next (.agg (row64 4 (words u3))) (fun g og => SureN.call (f := 57) (args := #[(.agg (row64 4 (words v2))), .int .i64 5]) rfl (fun w' => by go_simp) (fun w' hS => (p3 w').mono fun e w'' h => ⟨h.1, h.2, hS.1.below h.2 hS.1.lt, hS.2.1.below h.2 hS.2.1.lt, hS.2.2.1.below h.2 hS.2.2.1.lt, hS.2.2.2.1.below h.2 hS.2.2.2.1.lt, hS.2.2.2.2.1.below h.2 hS.2.2.2.2.1.lt, hS.2.2.2.2.2.1.trans (h.2.mono hS.2.2.2.2.2.1.size), Nat.le_trans hS.2.2.2.2.2.2 h.2.size⟩)) ?_
  simp only [Act.put, List.setIfInBounds_toArray, List.set_cons_zero, List.set_cons_succ]
  refine SeqG.next (.agg (row64 4 (words v2))) (fun g og => Sure.load_W4 rfl 59 _ rfl g2 rfl 59 _ (fun w' hS => hS.1.2.2.2.2.1) isRowNb (isSh _)) ?_
  simp only [Act.put, List.setIfInBounds_toArray, List.set_cons_zero, List.set_cons_succ]
  refine SeqG.next (.agg (row64 4 (words v3))) (fun g og => SureN.call (f := 46) (args := #[(.agg (row64 4 (words u3))), (.agg (row64 4 (words v2)))]) rfl (fun w' => by go_simp) (fun w' hS => (q3 w').mono fun e w'' h => ⟨h.1, h.2, hS.1.below h.2 hS.1.lt, hS.2.1.below h.2 hS.2.1.lt, hS.2.2.1.below h.2 hS.2.2.1.lt, hS.2.2.2.1.below h.2 hS.2.2.2.1.lt, hS.2.2.2.2.1.below h.2 hS.2.2.2.2.1.lt, hS.2.2.2.2.2.1.trans (h.2.mono hS.2.2.2.2.2.1.size), Nat.le_trans hS.2.2.2.2.2.2 h.2.size⟩)) ?_
  simp only [Act.put, List.setIfInBounds_toArray, List.set_cons_zero, List.set_cons_succ]
  refine SeqG.make (fun g => MakesN.blk rfl 59 rfl (row64 4 fun _ => 0) zNb3 w3.heap.size (fun w' hS => hS.2.2.2.2.2.2) (fun w' hS => ⟨hS.1.alloc _, hS.2.1.alloc _, hS.2.2.1.alloc _, hS.2.2.2.1.alloc _, hS.2.2.2.2.1.alloc _, hS.2.2.2.2.2.1.alloc hS.2.2.2.2.2.1.size _, Nat.le_trans hS.2.2.2.2.2.2 (by simp)⟩)) ?_
  simp only [Act.put, List.setIfInBounds_toArray, List.set_cons_zero, List.set_cons_succ]
  refine SeqG.store_N (fun _ => rfl) 59 _ _ rfl (fun _ => rfl) 59 (row64 4 fun _ => 0) (row64 4 (words v3)) (fun _ => rfl) (fun g w' hS => (hS.2 g rfl).1) (isSh _) (by rw [row64_size, row64_size]) (row64_one 4 _) fun g3 w' hS => ?_
  have hgl := (hS.2 g3 rfl).2
  have hnew : Row64 w' g3 59 4 (fun _ => 0) := (hS.2 g3 rfl).1
  have hwB : w.heap.size ≤ g3 := by omega
  have hall := And.intro (hnew.setRow (words v3)) (show Row64 (w'.setRow g3 (row64 4 (words v3))) w.heap.size 59 4 (words n) ∧ Row64 (w'.setRow g3 (row64 4 (words v3))) (w.heap.size + 1) 59 4 (fun _ => 0) ∧ Row64 (w'.setRow g3 (row64 4 (words v3))) g0 59 4 (words v0) ∧ Row64 (w'.setRow g3 (row64 4 (words v3))) g1 59 4 (words v1) ∧ Row64 (w'.setRow g3 (row64 4 (words v3))) g2 59 4 (words v2) ∧ Below w.heap.size w (w'.setRow g3 (row64 4 (words v3))) from ⟨hS.1.1.setRow_far (by omega) _, hS.1.2.1.setRow_far (by omega) _, hS.1.2.2.1.setRow_far (by omega) _, hS.1.2.2.2.1.setRow_far (by omega) _, hS.1.2.2.2.2.1.setRow_far (by omega) _, below_setRow8 hS.1.2.2.2.2.2.1 hwB _⟩)
  clear hS hnew hgl hwB Lha Lhr Lhv0 Lhv1 Lhv2
  simp only [Act.put]
  revert hall
  generalize w'.setRow g3 (row64 4 (words v3)) = w4
  rintro ⟨hv3, ha, hr, hv0, hv1, hv2, hb⟩
  go_wp2_with (fail)
  have Lha := ha.lt
  have Lhr := hr.lt
  have Lhv0 := hv0.lt
  have Lhv1 := hv1.lt
  have Lhv2 := hv2.lt
  have Lhv3 := hv3.lt
  refine region_made (SN (fun W' => Row64 W' w.heap.size 59 4 (words n) ∧ Row64 W' (w.heap.size + 1) 59 4 (fun _ => 0) ∧ Row64 W' g0 59 4 (words v0) ∧ Row64 W' g1 59 4 (words v1) ∧ Row64 W' g2 59 4 (words v2) ∧ Row64 W' g3 59 4 (words v3) ∧ Below w.heap.size w W' ∧ w4.heap.size ≤ W'.heap.size) fun g w' => Blk w' g 59 (row64 4 fun _ => 0) ∧ w4.heap.size ≤ g) mixedOrders (by kernel_rfl) (by simp) ⟨⟨ha.drew, hr.drew, hv0.drew, hv1.drew, hv2.drew, hv3.drew, hb.drew, Nat.le_refl _⟩, fun _ h => by cases h⟩ ?_
  clear ha hr hv0 hv1 hv2 hv3 hb
  refine SeqG.next (.agg (row64 4 (words v3))) (fun g og => Sure.load_W4 rfl 59 _ rfl g3 rfl 59 _ (fun w' hS => hS.1.2.2.2.2.2.1) isRowNb (isSh _)) ?_
  simp only [Act.put, List.setIfInBounds_toArray, List.set_cons_zero, List.set_cons_succ]
  refine SeqG.next (.agg (row64 4 (words u4))) (fun g og => SureN.call (f := 57) (args := #[(.agg (row64 4 (words v3))), .int .i64 10]) rfl (fun w' => by go_simp) (fun w' hS => (p4 w').mono fun e w'' h => ⟨h.1, h.2, hS.1.below h.2 hS.1.lt, hS.2.1.below h.2 hS.2.1.lt, hS.2.2.1.below h.2 hS.2.2.1.lt, hS.2.2.2.1.below h.2 hS.2.2.2.1.lt, hS.2.2.2.2.1.below h.2 hS.2.2.2.2.1.lt, hS.2.2.2.2.2.1.below h.2 hS.2.2.2.2.2.1.lt, hS.2.2.2.2.2.2.1.trans (h.2.mono hS.2.2.2.2.2.2.1.size), Nat.le_trans hS.2.2.2.2.2.2.2 h.2.size⟩)) ?_
  simp only [Act.put, List.setIfInBounds_toArray, List.set_cons_zero, List.set_cons_succ]
  refine SeqG.next (.agg (row64 4 (words v3))) (fun g og => Sure.load_W4 rfl 59 _ rfl g3 rfl 59 _ (fun w' hS => hS.1.2.2.2.2.2.1) isRowNb (isSh _)) ?_
  simp only [Act.put, List.setIfInBounds_toArray, List.set_cons_zero, List.set_cons_succ]
  refine SeqG.next (.agg (row64 4 (words v4))) (fun g og => SureN.call (f := 46) (args := #[(.agg (row64 4 (words u4))), (.agg (row64 4 (words v3)))]) rfl (fun w' => by go_simp) (fun w' hS => (q4 w').mono fun e w'' h => ⟨h.1, h.2, hS.1.below h.2 hS.1.lt, hS.2.1.below h.2 hS.2.1.lt, hS.2.2.1.below h.2 hS.2.2.1.lt, hS.2.2.2.1.below h.2 hS.2.2.2.1.lt, hS.2.2.2.2.1.below h.2 hS.2.2.2.2.1.lt, hS.2.2.2.2.2.1.below h.2 hS.2.2.2.2.2.1.lt, hS.2.2.2.2.2.2.1.trans (h.2.mono hS.2.2.2.2.2.2.1.size), Nat.le_trans hS.2.2.2.2.2.2.2 h.2.size⟩)) ?_
  simp only [Act.put, List.setIfInBounds_toArray, List.set_cons_zero, List.set_cons_succ]
  refine SeqG.make (fun g => MakesN.blk rfl 59 rfl (row64 4 fun _ => 0) zNb3 w4.heap.size (fun w' hS => hS.2.2.2.2.2.2.2) (fun w' hS => ⟨hS.1.alloc _, hS.2.1.alloc _, hS.2.2.1.alloc _, hS.2.2.2.1.alloc _, hS.2.2.2.2.1.alloc _, hS.2.2.2.2.2.1.alloc _, hS.2.2.2.2.2.2.1.alloc hS.2.2.2.2.2.2.1.size _, Nat.le_trans hS.2.2.2.2.2.2.2 (by simp)⟩)) ?_
  simp only [Act.put, List.setIfInBounds_toArray, List.set_cons_zero, List.set_cons_succ]
  refine SeqG.store_N (fun _ => rfl) 59 _ _ rfl (fun _ => rfl) 59 (row64 4 fun _ => 0) (row64 4 (words v4)) (fun _ => rfl) (fun g w' hS => (hS.2 g rfl).1) (isSh _) (by rw [row64_size, row64_size]) (row64_one 4 _) fun g4 w' hS => ?_
  have hgl := (hS.2 g4 rfl).2
  have hnew : Row64 w' g4 59 4 (fun _ => 0) := (hS.2 g4 rfl).1
  have hwB : w.heap.size ≤ g4 := by omega
  have hall := And.intro (hnew.setRow (words v4)) (show Row64 (w'.setRow g4 (row64 4 (words v4))) w.heap.size 59 4 (words n) ∧ Row64 (w'.setRow g4 (row64 4 (words v4))) (w.heap.size + 1) 59 4 (fun _ => 0) ∧ Row64 (w'.setRow g4 (row64 4 (words v4))) g0 59 4 (words v0) ∧ Row64 (w'.setRow g4 (row64 4 (words v4))) g1 59 4 (words v1) ∧ Row64 (w'.setRow g4 (row64 4 (words v4))) g2 59 4 (words v2) ∧ Row64 (w'.setRow g4 (row64 4 (words v4))) g3 59 4 (words v3) ∧ Below w.heap.size w (w'.setRow g4 (row64 4 (words v4))) from ⟨hS.1.1.setRow_far (by omega) _, hS.1.2.1.setRow_far (by omega) _, hS.1.2.2.1.setRow_far (by omega) _, hS.1.2.2.2.1.setRow_far (by omega) _, hS.1.2.2.2.2.1.setRow_far (by omega) _, hS.1.2.2.2.2.2.1.setRow_far (by omega) _, below_setRow8 hS.1.2.2.2.2.2.2.1 hwB _⟩)
  clear hS hnew hgl hwB Lha Lhr Lhv0 Lhv1 Lhv2 Lhv3
  simp only [Act.put]
  revert hall
  generalize w'.setRow g4 (row64 4 (words v4)) = w5
  rintro ⟨hv4, ha, hr, hv0, hv1, hv2, hv3, hb⟩
  go_wp2_with (fail)
  have Lha := ha.lt
  have Lhr := hr.lt
  have Lhv0 := hv0.lt
  have Lhv1 := hv1.lt
  have Lhv2 := hv2.lt
  have Lhv3 := hv3.lt
  have Lhv4 := hv4.lt
  refine region_made (SN (fun W' => Row64 W' w.heap.size 59 4 (words n) ∧ Row64 W' (w.heap.size + 1) 59 4 (fun _ => 0) ∧ Row64 W' g0 59 4 (words v0) ∧ Row64 W' g1 59 4 (words v1) ∧ Row64 W' g2 59 4 (words v2) ∧ Row64 W' g3 59 4 (words v3) ∧ Row64 W' g4 59 4 (words v4) ∧ Below w.heap.size w W' ∧ w5.heap.size ≤ W'.heap.size) fun g w' => Blk w' g 59 (row64 4 fun _ => 0) ∧ w5.heap.size ≤ g) mixedOrders (by kernel_rfl) (by simp) ⟨⟨ha.drew, hr.drew, hv0.drew, hv1.drew, hv2.drew, hv3.drew, hv4.drew, hb.drew, Nat.le_refl _⟩, fun _ h => by cases h⟩ ?_
  clear ha hr hv0 hv1 hv2 hv3 hv4 hb
  refine SeqG.next (.agg (row64 4 (words v4))) (fun g og => Sure.load_W4 rfl 59 _ rfl g4 rfl 59 _ (fun w' hS => hS.1.2.2.2.2.2.2.1) isRowNb (isSh _)) ?_
  simp only [Act.put, List.setIfInBounds_toArray, List.set_cons_zero, List.set_cons_succ]
  refine SeqG.next (.agg (row64 4 (words u5))) (fun g og => SureN.call (f := 57) (args := #[(.agg (row64 4 (words v4))), .int .i64 20]) rfl (fun w' => by go_simp) (fun w' hS => (p5 w').mono fun e w'' h => ⟨h.1, h.2, hS.1.below h.2 hS.1.lt, hS.2.1.below h.2 hS.2.1.lt, hS.2.2.1.below h.2 hS.2.2.1.lt, hS.2.2.2.1.below h.2 hS.2.2.2.1.lt, hS.2.2.2.2.1.below h.2 hS.2.2.2.2.1.lt, hS.2.2.2.2.2.1.below h.2 hS.2.2.2.2.2.1.lt, hS.2.2.2.2.2.2.1.below h.2 hS.2.2.2.2.2.2.1.lt, hS.2.2.2.2.2.2.2.1.trans (h.2.mono hS.2.2.2.2.2.2.2.1.size), Nat.le_trans hS.2.2.2.2.2.2.2.2 h.2.size⟩)) ?_
  simp only [Act.put, List.setIfInBounds_toArray, List.set_cons_zero, List.set_cons_succ]
  refine SeqG.next (.agg (row64 4 (words v4))) (fun g og => Sure.load_W4 rfl 59 _ rfl g4 rfl 59 _ (fun w' hS => hS.1.2.2.2.2.2.2.1) isRowNb (isSh _)) ?_
  simp only [Act.put, List.setIfInBounds_toArray, List.set_cons_zero, List.set_cons_succ]
  refine SeqG.next (.agg (row64 4 (words v5))) (fun g og => SureN.call (f := 46) (args := #[(.agg (row64 4 (words u5))), (.agg (row64 4 (words v4)))]) rfl (fun w' => by go_simp) (fun w' hS => (q5 w').mono fun e w'' h => ⟨h.1, h.2, hS.1.below h.2 hS.1.lt, hS.2.1.below h.2 hS.2.1.lt, hS.2.2.1.below h.2 hS.2.2.1.lt, hS.2.2.2.1.below h.2 hS.2.2.2.1.lt, hS.2.2.2.2.1.below h.2 hS.2.2.2.2.1.lt, hS.2.2.2.2.2.1.below h.2 hS.2.2.2.2.2.1.lt, hS.2.2.2.2.2.2.1.below h.2 hS.2.2.2.2.2.2.1.lt, hS.2.2.2.2.2.2.2.1.trans (h.2.mono hS.2.2.2.2.2.2.2.1.size), Nat.le_trans hS.2.2.2.2.2.2.2.2 h.2.size⟩)) ?_
  simp only [Act.put, List.setIfInBounds_toArray, List.set_cons_zero, List.set_cons_succ]
  refine SeqG.make (fun g => MakesN.blk rfl 59 rfl (row64 4 fun _ => 0) zNb3 w5.heap.size (fun w' hS => hS.2.2.2.2.2.2.2.2) (fun w' hS => ⟨hS.1.alloc _, hS.2.1.alloc _, hS.2.2.1.alloc _, hS.2.2.2.1.alloc _, hS.2.2.2.2.1.alloc _, hS.2.2.2.2.2.1.alloc _, hS.2.2.2.2.2.2.1.alloc _, hS.2.2.2.2.2.2.2.1.alloc hS.2.2.2.2.2.2.2.1.size _, Nat.le_trans hS.2.2.2.2.2.2.2.2 (by simp)⟩)) ?_
  simp only [Act.put, List.setIfInBounds_toArray, List.set_cons_zero, List.set_cons_succ]
  refine SeqG.store_N (fun _ => rfl) 59 _ _ rfl (fun _ => rfl) 59 (row64 4 fun _ => 0) (row64 4 (words v5)) (fun _ => rfl) (fun g w' hS => (hS.2 g rfl).1) (isSh _) (by rw [row64_size, row64_size]) (row64_one 4 _) fun g5 w' hS => ?_
  have hgl := (hS.2 g5 rfl).2
  have hnew : Row64 w' g5 59 4 (fun _ => 0) := (hS.2 g5 rfl).1
  have hwB : w.heap.size ≤ g5 := by omega
  have hall := And.intro (hnew.setRow (words v5)) (show Row64 (w'.setRow g5 (row64 4 (words v5))) w.heap.size 59 4 (words n) ∧ Row64 (w'.setRow g5 (row64 4 (words v5))) (w.heap.size + 1) 59 4 (fun _ => 0) ∧ Row64 (w'.setRow g5 (row64 4 (words v5))) g0 59 4 (words v0) ∧ Row64 (w'.setRow g5 (row64 4 (words v5))) g1 59 4 (words v1) ∧ Row64 (w'.setRow g5 (row64 4 (words v5))) g2 59 4 (words v2) ∧ Row64 (w'.setRow g5 (row64 4 (words v5))) g3 59 4 (words v3) ∧ Row64 (w'.setRow g5 (row64 4 (words v5))) g4 59 4 (words v4) ∧ Below w.heap.size w (w'.setRow g5 (row64 4 (words v5))) from ⟨hS.1.1.setRow_far (by omega) _, hS.1.2.1.setRow_far (by omega) _, hS.1.2.2.1.setRow_far (by omega) _, hS.1.2.2.2.1.setRow_far (by omega) _, hS.1.2.2.2.2.1.setRow_far (by omega) _, hS.1.2.2.2.2.2.1.setRow_far (by omega) _, hS.1.2.2.2.2.2.2.1.setRow_far (by omega) _, below_setRow8 hS.1.2.2.2.2.2.2.2.1 hwB _⟩)
  clear hS hnew hgl hwB Lha Lhr Lhv0 Lhv1 Lhv2 Lhv3 Lhv4
  simp only [Act.put]
  revert hall
  generalize w'.setRow g5 (row64 4 (words v5)) = w6
  rintro ⟨hv5, ha, hr, hv0, hv1, hv2, hv3, hv4, hb⟩
  go_wp2_with (fail)
  have Lha := ha.lt
  have Lhr := hr.lt
  have Lhv0 := hv0.lt
  have Lhv1 := hv1.lt
  have Lhv2 := hv2.lt
  have Lhv3 := hv3.lt
  have Lhv4 := hv4.lt
  have Lhv5 := hv5.lt
  refine region_made (SN (fun W' => Row64 W' w.heap.size 59 4 (words n) ∧ Row64 W' (w.heap.size + 1) 59 4 (fun _ => 0) ∧ Row64 W' g0 59 4 (words v0) ∧ Row64 W' g1 59 4 (words v1) ∧ Row64 W' g2 59 4 (words v2) ∧ Row64 W' g3 59 4 (words v3) ∧ Row64 W' g4 59 4 (words v4) ∧ Row64 W' g5 59 4 (words v5) ∧ Below w.heap.size w W' ∧ w6.heap.size ≤ W'.heap.size) fun g w' => Blk w' g 59 (row64 4 fun _ => 0) ∧ w6.heap.size ≤ g) mixedOrders (by kernel_rfl) (by simp) ⟨⟨ha.drew, hr.drew, hv0.drew, hv1.drew, hv2.drew, hv3.drew, hv4.drew, hv5.drew, hb.drew, Nat.le_refl _⟩, fun _ h => by cases h⟩ ?_
  clear ha hr hv0 hv1 hv2 hv3 hv4 hv5 hb
  refine SeqG.next (.agg (row64 4 (words v5))) (fun g og => Sure.load_W4 rfl 59 _ rfl g5 rfl 59 _ (fun w' hS => hS.1.2.2.2.2.2.2.2.1) isRowNb (isSh _)) ?_
  simp only [Act.put, List.setIfInBounds_toArray, List.set_cons_zero, List.set_cons_succ]
  refine SeqG.next (.agg (row64 4 (words u6))) (fun g og => SureN.call (f := 57) (args := #[(.agg (row64 4 (words v5))), .int .i64 10]) rfl (fun w' => by go_simp) (fun w' hS => (p6 w').mono fun e w'' h => ⟨h.1, h.2, hS.1.below h.2 hS.1.lt, hS.2.1.below h.2 hS.2.1.lt, hS.2.2.1.below h.2 hS.2.2.1.lt, hS.2.2.2.1.below h.2 hS.2.2.2.1.lt, hS.2.2.2.2.1.below h.2 hS.2.2.2.2.1.lt, hS.2.2.2.2.2.1.below h.2 hS.2.2.2.2.2.1.lt, hS.2.2.2.2.2.2.1.below h.2 hS.2.2.2.2.2.2.1.lt, hS.2.2.2.2.2.2.2.1.below h.2 hS.2.2.2.2.2.2.2.1.lt, hS.2.2.2.2.2.2.2.2.1.trans (h.2.mono hS.2.2.2.2.2.2.2.2.1.size), Nat.le_trans hS.2.2.2.2.2.2.2.2.2 h.2.size⟩)) ?_
  simp only [Act.put, List.setIfInBounds_toArray, List.set_cons_zero, List.set_cons_succ]
  refine SeqG.next (.agg (row64 4 (words v3))) (fun g og => Sure.load_W4 rfl 59 _ rfl g3 rfl 59 _ (fun w' hS => hS.1.2.2.2.2.2.1) isRowNb (isSh _)) ?_
  simp only [Act.put, List.setIfInBounds_toArray, List.set_cons_zero, List.set_cons_succ]
  refine SeqG.next (.agg (row64 4 (words v6))) (fun g og => SureN.call (f := 46) (args := #[(.agg (row64 4 (words u6))), (.agg (row64 4 (words v3)))]) rfl (fun w' => by go_simp) (fun w' hS => (q6 w').mono fun e w'' h => ⟨h.1, h.2, hS.1.below h.2 hS.1.lt, hS.2.1.below h.2 hS.2.1.lt, hS.2.2.1.below h.2 hS.2.2.1.lt, hS.2.2.2.1.below h.2 hS.2.2.2.1.lt, hS.2.2.2.2.1.below h.2 hS.2.2.2.2.1.lt, hS.2.2.2.2.2.1.below h.2 hS.2.2.2.2.2.1.lt, hS.2.2.2.2.2.2.1.below h.2 hS.2.2.2.2.2.2.1.lt, hS.2.2.2.2.2.2.2.1.below h.2 hS.2.2.2.2.2.2.2.1.lt, hS.2.2.2.2.2.2.2.2.1.trans (h.2.mono hS.2.2.2.2.2.2.2.2.1.size), Nat.le_trans hS.2.2.2.2.2.2.2.2.2 h.2.size⟩)) ?_
  simp only [Act.put, List.setIfInBounds_toArray, List.set_cons_zero, List.set_cons_succ]
  refine SeqG.make (fun g => MakesN.blk rfl 59 rfl (row64 4 fun _ => 0) zNb3 w6.heap.size (fun w' hS => hS.2.2.2.2.2.2.2.2.2) (fun w' hS => ⟨hS.1.alloc _, hS.2.1.alloc _, hS.2.2.1.alloc _, hS.2.2.2.1.alloc _, hS.2.2.2.2.1.alloc _, hS.2.2.2.2.2.1.alloc _, hS.2.2.2.2.2.2.1.alloc _, hS.2.2.2.2.2.2.2.1.alloc _, hS.2.2.2.2.2.2.2.2.1.alloc hS.2.2.2.2.2.2.2.2.1.size _, Nat.le_trans hS.2.2.2.2.2.2.2.2.2 (by simp)⟩)) ?_
  simp only [Act.put, List.setIfInBounds_toArray, List.set_cons_zero, List.set_cons_succ]
  refine SeqG.store_N (fun _ => rfl) 59 _ _ rfl (fun _ => rfl) 59 (row64 4 fun _ => 0) (row64 4 (words v6)) (fun _ => rfl) (fun g w' hS => (hS.2 g rfl).1) (isSh _) (by rw [row64_size, row64_size]) (row64_one 4 _) fun g6 w' hS => ?_
  have hgl := (hS.2 g6 rfl).2
  have hnew : Row64 w' g6 59 4 (fun _ => 0) := (hS.2 g6 rfl).1
  have hwB : w.heap.size ≤ g6 := by omega
  have hall := And.intro (hnew.setRow (words v6)) (show Row64 (w'.setRow g6 (row64 4 (words v6))) w.heap.size 59 4 (words n) ∧ Row64 (w'.setRow g6 (row64 4 (words v6))) (w.heap.size + 1) 59 4 (fun _ => 0) ∧ Row64 (w'.setRow g6 (row64 4 (words v6))) g0 59 4 (words v0) ∧ Row64 (w'.setRow g6 (row64 4 (words v6))) g1 59 4 (words v1) ∧ Row64 (w'.setRow g6 (row64 4 (words v6))) g2 59 4 (words v2) ∧ Row64 (w'.setRow g6 (row64 4 (words v6))) g3 59 4 (words v3) ∧ Row64 (w'.setRow g6 (row64 4 (words v6))) g4 59 4 (words v4) ∧ Row64 (w'.setRow g6 (row64 4 (words v6))) g5 59 4 (words v5) ∧ Below w.heap.size w (w'.setRow g6 (row64 4 (words v6))) from ⟨hS.1.1.setRow_far (by omega) _, hS.1.2.1.setRow_far (by omega) _, hS.1.2.2.1.setRow_far (by omega) _, hS.1.2.2.2.1.setRow_far (by omega) _, hS.1.2.2.2.2.1.setRow_far (by omega) _, hS.1.2.2.2.2.2.1.setRow_far (by omega) _, hS.1.2.2.2.2.2.2.1.setRow_far (by omega) _, hS.1.2.2.2.2.2.2.2.1.setRow_far (by omega) _, below_setRow8 hS.1.2.2.2.2.2.2.2.2.1 hwB _⟩)
  clear hS hnew hgl hwB Lha Lhr Lhv0 Lhv1 Lhv2 Lhv3 Lhv4 Lhv5
  simp only [Act.put]
  revert hall
  generalize w'.setRow g6 (row64 4 (words v6)) = w7
  rintro ⟨hv6, ha, hr, hv0, hv1, hv2, hv3, hv4, hv5, hb⟩
  go_wp2_with (fail)
  have Lha := ha.lt
  have Lhr := hr.lt
  have Lhv0 := hv0.lt
  have Lhv1 := hv1.lt
  have Lhv2 := hv2.lt
  have Lhv3 := hv3.lt
  have Lhv4 := hv4.lt
  have Lhv5 := hv5.lt
  have Lhv6 := hv6.lt
  refine region_made (SN (fun W' => Row64 W' w.heap.size 59 4 (words n) ∧ Row64 W' (w.heap.size + 1) 59 4 (fun _ => 0) ∧ Row64 W' g0 59 4 (words v0) ∧ Row64 W' g1 59 4 (words v1) ∧ Row64 W' g2 59 4 (words v2) ∧ Row64 W' g3 59 4 (words v3) ∧ Row64 W' g4 59 4 (words v4) ∧ Row64 W' g5 59 4 (words v5) ∧ Row64 W' g6 59 4 (words v6) ∧ Below w.heap.size w W' ∧ w7.heap.size ≤ W'.heap.size) fun g w' => Blk w' g 59 (row64 4 fun _ => 0) ∧ w7.heap.size ≤ g) mixedOrders (by kernel_rfl) (by simp) ⟨⟨ha.drew, hr.drew, hv0.drew, hv1.drew, hv2.drew, hv3.drew, hv4.drew, hv5.drew, hv6.drew, hb.drew, Nat.le_refl _⟩, fun _ h => by cases h⟩ ?_
  clear ha hr hv0 hv1 hv2 hv3 hv4 hv5 hv6 hb
  refine SeqG.next (.agg (row64 4 (words v6))) (fun g og => Sure.load_W4 rfl 59 _ rfl g6 rfl 59 _ (fun w' hS => hS.1.2.2.2.2.2.2.2.2.1) isRowNb (isSh _)) ?_
  simp only [Act.put, List.setIfInBounds_toArray, List.set_cons_zero, List.set_cons_succ]
  refine SeqG.next (.agg (row64 4 (words u7))) (fun g og => SureN.call (f := 57) (args := #[(.agg (row64 4 (words v6))), .int .i64 50]) rfl (fun w' => by go_simp) (fun w' hS => (p7 w').mono fun e w'' h => ⟨h.1, h.2, hS.1.below h.2 hS.1.lt, hS.2.1.below h.2 hS.2.1.lt, hS.2.2.1.below h.2 hS.2.2.1.lt, hS.2.2.2.1.below h.2 hS.2.2.2.1.lt, hS.2.2.2.2.1.below h.2 hS.2.2.2.2.1.lt, hS.2.2.2.2.2.1.below h.2 hS.2.2.2.2.2.1.lt, hS.2.2.2.2.2.2.1.below h.2 hS.2.2.2.2.2.2.1.lt, hS.2.2.2.2.2.2.2.1.below h.2 hS.2.2.2.2.2.2.2.1.lt, hS.2.2.2.2.2.2.2.2.1.below h.2 hS.2.2.2.2.2.2.2.2.1.lt, hS.2.2.2.2.2.2.2.2.2.1.trans (h.2.mono hS.2.2.2.2.2.2.2.2.2.1.size), Nat.le_trans hS.2.2.2.2.2.2.2.2.2.2 h.2.size⟩)) ?_
  simp only [Act.put, List.setIfInBounds_toArray, List.set_cons_zero, List.set_cons_succ]
  refine SeqG.next (.agg (row64 4 (words v6))) (fun g og => Sure.load_W4 rfl 59 _ rfl g6 rfl 59 _ (fun w' hS => hS.1.2.2.2.2.2.2.2.2.1) isRowNb (isSh _)) ?_
  simp only [Act.put, List.setIfInBounds_toArray, List.set_cons_zero, List.set_cons_succ]
  refine SeqG.next (.agg (row64 4 (words v7))) (fun g og => SureN.call (f := 46) (args := #[(.agg (row64 4 (words u7))), (.agg (row64 4 (words v6)))]) rfl (fun w' => by go_simp) (fun w' hS => (q7 w').mono fun e w'' h => ⟨h.1, h.2, hS.1.below h.2 hS.1.lt, hS.2.1.below h.2 hS.2.1.lt, hS.2.2.1.below h.2 hS.2.2.1.lt, hS.2.2.2.1.below h.2 hS.2.2.2.1.lt, hS.2.2.2.2.1.below h.2 hS.2.2.2.2.1.lt, hS.2.2.2.2.2.1.below h.2 hS.2.2.2.2.2.1.lt, hS.2.2.2.2.2.2.1.below h.2 hS.2.2.2.2.2.2.1.lt, hS.2.2.2.2.2.2.2.1.below h.2 hS.2.2.2.2.2.2.2.1.lt, hS.2.2.2.2.2.2.2.2.1.below h.2 hS.2.2.2.2.2.2.2.2.1.lt, hS.2.2.2.2.2.2.2.2.2.1.trans (h.2.mono hS.2.2.2.2.2.2.2.2.2.1.size), Nat.le_trans hS.2.2.2.2.2.2.2.2.2.2 h.2.size⟩)) ?_
  simp only [Act.put, List.setIfInBounds_toArray, List.set_cons_zero, List.set_cons_succ]
  refine SeqG.make (fun g => MakesN.blk rfl 59 rfl (row64 4 fun _ => 0) zNb3 w7.heap.size (fun w' hS => hS.2.2.2.2.2.2.2.2.2.2) (fun w' hS => ⟨hS.1.alloc _, hS.2.1.alloc _, hS.2.2.1.alloc _, hS.2.2.2.1.alloc _, hS.2.2.2.2.1.alloc _, hS.2.2.2.2.2.1.alloc _, hS.2.2.2.2.2.2.1.alloc _, hS.2.2.2.2.2.2.2.1.alloc _, hS.2.2.2.2.2.2.2.2.1.alloc _, hS.2.2.2.2.2.2.2.2.2.1.alloc hS.2.2.2.2.2.2.2.2.2.1.size _, Nat.le_trans hS.2.2.2.2.2.2.2.2.2.2 (by simp)⟩)) ?_
  simp only [Act.put, List.setIfInBounds_toArray, List.set_cons_zero, List.set_cons_succ]
  refine SeqG.store_N (fun _ => rfl) 59 _ _ rfl (fun _ => rfl) 59 (row64 4 fun _ => 0) (row64 4 (words v7)) (fun _ => rfl) (fun g w' hS => (hS.2 g rfl).1) (isSh _) (by rw [row64_size, row64_size]) (row64_one 4 _) fun g7 w' hS => ?_
  have hgl := (hS.2 g7 rfl).2
  have hnew : Row64 w' g7 59 4 (fun _ => 0) := (hS.2 g7 rfl).1
  have hwB : w.heap.size ≤ g7 := by omega
  have hall := And.intro (hnew.setRow (words v7)) (show Row64 (w'.setRow g7 (row64 4 (words v7))) w.heap.size 59 4 (words n) ∧ Row64 (w'.setRow g7 (row64 4 (words v7))) (w.heap.size + 1) 59 4 (fun _ => 0) ∧ Row64 (w'.setRow g7 (row64 4 (words v7))) g0 59 4 (words v0) ∧ Row64 (w'.setRow g7 (row64 4 (words v7))) g1 59 4 (words v1) ∧ Row64 (w'.setRow g7 (row64 4 (words v7))) g2 59 4 (words v2) ∧ Row64 (w'.setRow g7 (row64 4 (words v7))) g3 59 4 (words v3) ∧ Row64 (w'.setRow g7 (row64 4 (words v7))) g4 59 4 (words v4) ∧ Row64 (w'.setRow g7 (row64 4 (words v7))) g5 59 4 (words v5) ∧ Row64 (w'.setRow g7 (row64 4 (words v7))) g6 59 4 (words v6) ∧ Below w.heap.size w (w'.setRow g7 (row64 4 (words v7))) from ⟨hS.1.1.setRow_far (by omega) _, hS.1.2.1.setRow_far (by omega) _, hS.1.2.2.1.setRow_far (by omega) _, hS.1.2.2.2.1.setRow_far (by omega) _, hS.1.2.2.2.2.1.setRow_far (by omega) _, hS.1.2.2.2.2.2.1.setRow_far (by omega) _, hS.1.2.2.2.2.2.2.1.setRow_far (by omega) _, hS.1.2.2.2.2.2.2.2.1.setRow_far (by omega) _, hS.1.2.2.2.2.2.2.2.2.1.setRow_far (by omega) _, below_setRow8 hS.1.2.2.2.2.2.2.2.2.2.1 hwB _⟩)
  clear hS hnew hgl hwB Lha Lhr Lhv0 Lhv1 Lhv2 Lhv3 Lhv4 Lhv5 Lhv6
  simp only [Act.put]
  revert hall
  generalize w'.setRow g7 (row64 4 (words v7)) = w8
  rintro ⟨hv7, ha, hr, hv0, hv1, hv2, hv3, hv4, hv5, hv6, hb⟩
  go_wp2_with (fail)
  have Lha := ha.lt
  have Lhr := hr.lt
  have Lhv0 := hv0.lt
  have Lhv1 := hv1.lt
  have Lhv2 := hv2.lt
  have Lhv3 := hv3.lt
  have Lhv4 := hv4.lt
  have Lhv5 := hv5.lt
  have Lhv6 := hv6.lt
  have Lhv7 := hv7.lt
  refine region_made (SN (fun W' => Row64 W' w.heap.size 59 4 (words n) ∧ Row64 W' (w.heap.size + 1) 59 4 (fun _ => 0) ∧ Row64 W' g0 59 4 (words v0) ∧ Row64 W' g1 59 4 (words v1) ∧ Row64 W' g2 59 4 (words v2) ∧ Row64 W' g3 59 4 (words v3) ∧ Row64 W' g4 59 4 (words v4) ∧ Row64 W' g5 59 4 (words v5) ∧ Row64 W' g6 59 4 (words v6) ∧ Row64 W' g7 59 4 (words v7) ∧ Below w.heap.size w W' ∧ w8.heap.size ≤ W'.heap.size) fun g w' => Blk w' g 59 (row64 4 fun _ => 0) ∧ w8.heap.size ≤ g) mixedOrders (by kernel_rfl) (by simp) ⟨⟨ha.drew, hr.drew, hv0.drew, hv1.drew, hv2.drew, hv3.drew, hv4.drew, hv5.drew, hv6.drew, hv7.drew, hb.drew, Nat.le_refl _⟩, fun _ h => by cases h⟩ ?_
  clear ha hr hv0 hv1 hv2 hv3 hv4 hv5 hv6 hv7 hb
  refine SeqG.next (.agg (row64 4 (words v7))) (fun g og => Sure.load_W4 rfl 59 _ rfl g7 rfl 59 _ (fun w' hS => hS.1.2.2.2.2.2.2.2.2.2.1) isRowNb (isSh _)) ?_
  simp only [Act.put, List.setIfInBounds_toArray, List.set_cons_zero, List.set_cons_succ]
  refine SeqG.next (.agg (row64 4 (words u8))) (fun g og => SureN.call (f := 57) (args := #[(.agg (row64 4 (words v7))), .int .i64 100]) rfl (fun w' => by go_simp) (fun w' hS => (p8 w').mono fun e w'' h => ⟨h.1, h.2, hS.1.below h.2 hS.1.lt, hS.2.1.below h.2 hS.2.1.lt, hS.2.2.1.below h.2 hS.2.2.1.lt, hS.2.2.2.1.below h.2 hS.2.2.2.1.lt, hS.2.2.2.2.1.below h.2 hS.2.2.2.2.1.lt, hS.2.2.2.2.2.1.below h.2 hS.2.2.2.2.2.1.lt, hS.2.2.2.2.2.2.1.below h.2 hS.2.2.2.2.2.2.1.lt, hS.2.2.2.2.2.2.2.1.below h.2 hS.2.2.2.2.2.2.2.1.lt, hS.2.2.2.2.2.2.2.2.1.below h.2 hS.2.2.2.2.2.2.2.2.1.lt, hS.2.2.2.2.2.2.2.2.2.1.below h.2 hS.2.2.2.2.2.2.2.2.2.1.lt, hS.2.2.2.2.2.2.2.2.2.2.1.trans (h.2.mono hS.2.2.2.2.2.2.2.2.2.2.1.size), Nat.le_trans hS.2.2.2.2.2.2.2.2.2.2.2 h.2.size⟩)) ?_
  simp only [Act.put, List.setIfInBounds_toArray, List.set_cons_zero, List.set_cons_succ]
  refine SeqG.next (.agg (row64 4 (words v7))) (fun g og => Sure.load_W4 rfl 59 _ rfl g7 rfl 59 _ (fun w' hS => hS.1.2.2.2.2.2.2.2.2.2.1) isRowNb (isSh _)) ?_
  simp only [Act.put, List.setIfInBounds_toArray, List.set_cons_zero, List.set_cons_succ]
  refine SeqG.next (.agg (row64 4 (words v8))) (fun g og => SureN.call (f := 46) (args := #[(.agg (row64 4 (words u8))), (.agg (row64 4 (words v7)))]) rfl (fun w' => by go_simp) (fun w' hS => (q8 w').mono fun e w'' h => ⟨h.1, h.2, hS.1.below h.2 hS.1.lt, hS.2.1.below h.2 hS.2.1.lt, hS.2.2.1.below h.2 hS.2.2.1.lt, hS.2.2.2.1.below h.2 hS.2.2.2.1.lt, hS.2.2.2.2.1.below h.2 hS.2.2.2.2.1.lt, hS.2.2.2.2.2.1.below h.2 hS.2.2.2.2.2.1.lt, hS.2.2.2.2.2.2.1.below h.2 hS.2.2.2.2.2.2.1.lt, hS.2.2.2.2.2.2.2.1.below h.2 hS.2.2.2.2.2.2.2.1.lt, hS.2.2.2.2.2.2.2.2.1.below h.2 hS.2.2.2.2.2.2.2.2.1.lt, hS.2.2.2.2.2.2.2.2.2.1.below h.2 hS.2.2.2.2.2.2.2.2.2.1.lt, hS.2.2.2.2.2.2.2.2.2.2.1.trans (h.2.mono hS.2.2.2.2.2.2.2.2.2.2.1.size), Nat.le_trans hS.2.2.2.2.2.2.2.2.2.2.2 h.2.size⟩)) ?_
  simp only [Act.put, List.setIfInBounds_toArray, List.set_cons_zero, List.set_cons_succ]
  refine SeqG.make (fun g => MakesN.blk rfl 59 rfl (row64 4 fun _ => 0) zNb3 w8.heap.size (fun w' hS => hS.2.2.2.2.2.2.2.2.2.2.2) (fun w' hS => ⟨hS.1.alloc _, hS.2.1.alloc _, hS.2.2.1.alloc _, hS.2.2.2.1.alloc _, hS.2.2.2.2.1.alloc _, hS.2.2.2.2.2.1.alloc _, hS.2.2.2.2.2.2.1.alloc _, hS.2.2.2.2.2.2.2.1.alloc _, hS.2.2.2.2.2.2.2.2.1.alloc _, hS.2.2.2.2.2.2.2.2.2.1.alloc _, hS.2.2.2.2.2.2.2.2.2.2.1.alloc hS.2.2.2.2.2.2.2.2.2.2.1.size _, Nat.le_trans hS.2.2.2.2.2.2.2.2.2.2.2 (by simp)⟩)) ?_
  simp only [Act.put, List.setIfInBounds_toArray, List.set_cons_zero, List.set_cons_succ]
  refine SeqG.store_N (fun _ => rfl) 59 _ _ rfl (fun _ => rfl) 59 (row64 4 fun _ => 0) (row64 4 (words v8)) (fun _ => rfl) (fun g w' hS => (hS.2 g rfl).1) (isSh _) (by rw [row64_size, row64_size]) (row64_one 4 _) fun g8 w' hS => ?_
  have hgl := (hS.2 g8 rfl).2
  have hnew : Row64 w' g8 59 4 (fun _ => 0) := (hS.2 g8 rfl).1
  have hwB : w.heap.size ≤ g8 := by omega
  have hall := And.intro (hnew.setRow (words v8)) (show Row64 (w'.setRow g8 (row64 4 (words v8))) w.heap.size 59 4 (words n) ∧ Row64 (w'.setRow g8 (row64 4 (words v8))) (w.heap.size + 1) 59 4 (fun _ => 0) ∧ Row64 (w'.setRow g8 (row64 4 (words v8))) g0 59 4 (words v0) ∧ Row64 (w'.setRow g8 (row64 4 (words v8))) g1 59 4 (words v1) ∧ Row64 (w'.setRow g8 (row64 4 (words v8))) g2 59 4 (words v2) ∧ Row64 (w'.setRow g8 (row64 4 (words v8))) g3 59 4 (words v3) ∧ Row64 (w'.setRow g8 (row64 4 (words v8))) g4 59 4 (words v4) ∧ Row64 (w'.setRow g8 (row64 4 (words v8))) g5 59 4 (words v5) ∧ Row64 (w'.setRow g8 (row64 4 (words v8))) g6 59 4 (words v6) ∧ Row64 (w'.setRow g8 (row64 4 (words v8))) g7 59 4 (words v7) ∧ Below w.heap.size w (w'.setRow g8 (row64 4 (words v8))) from ⟨hS.1.1.setRow_far (by omega) _, hS.1.2.1.setRow_far (by omega) _, hS.1.2.2.1.setRow_far (by omega) _, hS.1.2.2.2.1.setRow_far (by omega) _, hS.1.2.2.2.2.1.setRow_far (by omega) _, hS.1.2.2.2.2.2.1.setRow_far (by omega) _, hS.1.2.2.2.2.2.2.1.setRow_far (by omega) _, hS.1.2.2.2.2.2.2.2.1.setRow_far (by omega) _, hS.1.2.2.2.2.2.2.2.2.1.setRow_far (by omega) _, hS.1.2.2.2.2.2.2.2.2.2.1.setRow_far (by omega) _, below_setRow8 hS.1.2.2.2.2.2.2.2.2.2.2.1 hwB _⟩)
  clear hS hnew hgl hwB Lha Lhr Lhv0 Lhv1 Lhv2 Lhv3 Lhv4 Lhv5 Lhv6 Lhv7
  simp only [Act.put]
  revert hall
  generalize w'.setRow g8 (row64 4 (words v8)) = w9
  rintro ⟨hv8, ha, hr, hv0, hv1, hv2, hv3, hv4, hv5, hv6, hv7, hb⟩
  go_wp2_with (fail)
  have Lha := ha.lt
  have Lhr := hr.lt
  have Lhv0 := hv0.lt
  have Lhv1 := hv1.lt
  have Lhv2 := hv2.lt
  have Lhv3 := hv3.lt
  have Lhv4 := hv4.lt
  have Lhv5 := hv5.lt
  have Lhv6 := hv6.lt
  have Lhv7 := hv7.lt
  have Lhv8 := hv8.lt
  refine region_seq (fun W' => Row64 W' w.heap.size 59 4 (words n) ∧ Row64 W' (w.heap.size + 1) 59 4 (fun _ => 0) ∧ Row64 W' g0 59 4 (words v0) ∧ Row64 W' g1 59 4 (words v1) ∧ Row64 W' g2 59 4 (words v2) ∧ Row64 W' g3 59 4 (words v3) ∧ Row64 W' g4 59 4 (words v4) ∧ Row64 W' g5 59 4 (words v5) ∧ Row64 W' g6 59 4 (words v6) ∧ Row64 W' g7 59 4 (words v7) ∧ Row64 W' g8 59 4 (words v8) ∧ Below w.heap.size w W' ∧ w9.heap.size ≤ W'.heap.size) mixedOrders (by kernel_rfl) (by simp) ⟨ha.drew, hr.drew, hv0.drew, hv1.drew, hv2.drew, hv3.drew, hv4.drew, hv5.drew, hv6.drew, hv7.drew, hv8.drew, hb.drew, Nat.le_refl _⟩ ?_
  clear ha hr hv0 hv1 hv2 hv3 hv4 hv5 hv6 hv7 hv8 hb
  refine Seq.next (.agg (row64 4 (words v8))) (Sure.load_W4 rfl 59 _ rfl g8 rfl 59 _ (fun w' hS => hS.2.2.2.2.2.2.2.2.2.2.1) isRowNb (isSh _)) ?_
  simp only [Act.put, List.setIfInBounds_toArray, List.set_cons_zero, List.set_cons_succ]
  refine Seq.next (.agg (row64 4 (words u9))) (Sure.call (f := 57) (args := #[(.agg (row64 4 (words v8))), .int .i64 50]) rfl (fun w' => by go_simp) (fun w' hS => (p9 w').mono fun e w'' h => ⟨h.1, hS.1.below h.2 hS.1.lt, hS.2.1.below h.2 hS.2.1.lt, hS.2.2.1.below h.2 hS.2.2.1.lt, hS.2.2.2.1.below h.2 hS.2.2.2.1.lt, hS.2.2.2.2.1.below h.2 hS.2.2.2.2.1.lt, hS.2.2.2.2.2.1.below h.2 hS.2.2.2.2.2.1.lt, hS.2.2.2.2.2.2.1.below h.2 hS.2.2.2.2.2.2.1.lt, hS.2.2.2.2.2.2.2.1.below h.2 hS.2.2.2.2.2.2.2.1.lt, hS.2.2.2.2.2.2.2.2.1.below h.2 hS.2.2.2.2.2.2.2.2.1.lt, hS.2.2.2.2.2.2.2.2.2.1.below h.2 hS.2.2.2.2.2.2.2.2.2.1.lt, hS.2.2.2.2.2.2.2.2.2.2.1.below h.2 hS.2.2.2.2.2.2.2.2.2.2.1.lt, hS.2.2.2.2.2.2.2.2.2.2.2.1.trans (h.2.mono hS.2.2.2.2.2.2.2.2.2.2.2.1.size), Nat.le_trans hS.2.2.2.2.2.2.2.2.2.2.2.2 h.2.size⟩)) ?_
  simp only [Act.put, List.setIfInBounds_toArray, List.set_cons_zero, List.set_cons_succ]
  refine Seq.next (.agg (row64 4 (words v6))) (Sure.load_W4 rfl 59 _ rfl g6 rfl 59 _ (fun w' hS => hS.2.2.2.2.2.2.2.2.1) isRowNb (isSh _)) ?_
  simp only [Act.put, List.setIfInBounds_toArray, List.set_cons_zero, List.set_cons_succ]
  refine Seq.next (.agg (row64 4 (words v9))) (Sure.call (f := 46) (args := #[(.agg (row64 4 (words u9))), (.agg (row64 4 (words v6)))]) rfl (fun w' => by go_simp) (fun w' hS => (q9 w').mono fun e w'' h => ⟨h.1, hS.1.below h.2 hS.1.lt, hS.2.1.below h.2 hS.2.1.lt, hS.2.2.1.below h.2 hS.2.2.1.lt, hS.2.2.2.1.below h.2 hS.2.2.2.1.lt, hS.2.2.2.2.1.below h.2 hS.2.2.2.2.1.lt, hS.2.2.2.2.2.1.below h.2 hS.2.2.2.2.2.1.lt, hS.2.2.2.2.2.2.1.below h.2 hS.2.2.2.2.2.2.1.lt, hS.2.2.2.2.2.2.2.1.below h.2 hS.2.2.2.2.2.2.2.1.lt, hS.2.2.2.2.2.2.2.2.1.below h.2 hS.2.2.2.2.2.2.2.2.1.lt, hS.2.2.2.2.2.2.2.2.2.1.below h.2 hS.2.2.2.2.2.2.2.2.2.1.lt, hS.2.2.2.2.2.2.2.2.2.2.1.below h.2 hS.2.2.2.2.2.2.2.2.2.2.1.lt, hS.2.2.2.2.2.2.2.2.2.2.2.1.trans (h.2.mono hS.2.2.2.2.2.2.2.2.2.2.2.1.size), Nat.le_trans hS.2.2.2.2.2.2.2.2.2.2.2.2 h.2.size⟩)) ?_
  simp only [Act.put, List.setIfInBounds_toArray, List.set_cons_zero, List.set_cons_succ]
  refine Seq.store_Row64 rfl 59 _ _ rfl (w.heap.size + 1) rfl 59 4 (fun _ => 0) (words v9) rfl (fun w' hS => hS.2.1) sizeNb (fun w' hS => ?_)
  have hr := hS.2.1.setRow (words v9)
  have hb := below_setRow8 hS.2.2.2.2.2.2.2.2.2.2.2.1 (k := w.heap.size + 1) (by omega) (row64 4 (words v9))
  clear hS
  simp only [Act.put]
  revert hr hb
  generalize w'.setRow (w.heap.size + 1) (row64 4 (words v9)) = we
  intro hr hb
  go_wp2
  exact ret_W4 rfl rfl (w.heap.size + 1) 59 _ rfl hr isRowNb (sizeNbR _) ⟨rfl, hb⟩
end Go.Proofs.Ytchojbhmfjibmaa
