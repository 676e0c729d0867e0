/- The program's times: four rows, the upper half by 38, and what is over folded (mkftimes.py writes this text). -/
import Derived.Test.YtchojbhmfjibmaaFRow
namespace Go.Proofs.Ytchojbhmfjibmaa
open Go Go.RowKit
set_option maxRecDepth 100000

theorem five_new (w : World) (t : TypeId) (f g k l m : Nat → UInt64) :
    Row64 (((((w.alloc (.cells (row64 4 f) t)).alloc (.cells (row64 4 g) t)).alloc (.cells (row64 4 k) t)).alloc (.cells (row64 4 l) t)).alloc (.cells (row64 4 m) t)) w.heap.size t 4 f ∧
    Row64 (((((w.alloc (.cells (row64 4 f) t)).alloc (.cells (row64 4 g) t)).alloc (.cells (row64 4 k) t)).alloc (.cells (row64 4 l) t)).alloc (.cells (row64 4 m) t)) (w.heap.size + 1) t 4 g ∧
    Row64 (((((w.alloc (.cells (row64 4 f) t)).alloc (.cells (row64 4 g) t)).alloc (.cells (row64 4 k) t)).alloc (.cells (row64 4 l) t)).alloc (.cells (row64 4 m) t)) (w.heap.size + 1 + 1) t 4 k ∧
    Row64 (((((w.alloc (.cells (row64 4 f) t)).alloc (.cells (row64 4 g) t)).alloc (.cells (row64 4 k) t)).alloc (.cells (row64 4 l) t)).alloc (.cells (row64 4 m) t)) (w.heap.size + 1 + 1 + 1) t 4 l ∧
    Row64 (((((w.alloc (.cells (row64 4 f) t)).alloc (.cells (row64 4 g) t)).alloc (.cells (row64 4 k) t)).alloc (.cells (row64 4 l) t)).alloc (.cells (row64 4 m) t)) (w.heap.size + 1 + 1 + 1 + 1) t 4 m ∧
    Below w.heap.size w (((((w.alloc (.cells (row64 4 f) t)).alloc (.cells (row64 4 g) t)).alloc (.cells (row64 4 k) t)).alloc (.cells (row64 4 l) t)).alloc (.cells (row64 4 m) t)) := by
  obtain ⟨h1, h2, h3, h4, h5⟩ := four_new w t f g k l
  have h := Row64.new ((((w.alloc (.cells (row64 4 f) t)).alloc (.cells (row64 4 g) t)).alloc (.cells (row64 4 k) t)).alloc (.cells (row64 4 l) t)) t 4 m
  simp only [World.size_alloc] at h
  exact ⟨h1.alloc _, h2.alloc _, h3.alloc _, h4.alloc _, h, h5.alloc (by simp; omega) _⟩
theorem f1_top {L : Nat} (h : L < 2 ^ 256 * 2 ^ 256) : f1 L / 2 ^ 256 ≤ 38 := by
  unfold f1
  have h2 : L / 2 ^ 256 < 2 ^ 256 := by omega
  have h3 : L % 2 ^ 256 < 2 ^ 256 := Nat.mod_lt _ (by decide)
  omega
theorem fourWn (L : Nat) : (#[Value.int IntKind.u64 (wd L 0 : Int), Value.int IntKind.u64 (wd L 1 : Int), Value.int IntKind.u64 (wd L 2 : Int), Value.int IntKind.u64 (wd L 3 : Int)] : Array Value) = row64 4 (words L) := by
  show _ = #[by64 (words L 0), by64 (words L 1), by64 (words L 2), by64 (words L 3)]
  unfold by64
  rw [words_int, words_int, words_int, words_int]
theorem zNb : (Try.prog.info? 59).bind (·.zero) = some (.agg (row64 4 fun _ => 0)) := by kernel_rfl
theorem words_zero : words 0 = fun _ => 0 := by
  funext i; unfold words wd; simp
/-- What each row is, and what it leaves. -/
theorem row_stage (a b i : Nat) (hb : b < 2 ^ 256) (w : World) : Calls Try.prog 54 #[.agg (row64 4 (words (a % 2 ^ (64 * i) * b / 2 ^ (64 * i)))), .int .u64 (wd a i : Int), .agg (row64 4 (words b))] w fun e w' =>
    e = .returned (.tuple #[.int .u64 (wd (a * b) i : Int), .agg (row64 4 (words (a % 2 ^ (64 * (i + 1)) * b / 2 ^ (64 * (i + 1)))))]) ∧ Below w.heap.size w w' := by
  have h := row_c (a % 2 ^ (64 * i) * b / 2 ^ (64 * i)) (wd a i) b (row_high_lt a b i hb) (wd_lt a i) hb w
  rw [Nat.add_comm (wd a i * b), row_next, row_low, row_high] at h
  exact h

set_option maxHeartbeats 16000000 in
theorem times_c (a b : Nat) (ha : a < 2 ^ 256) (hbb : b < 2 ^ 256) (w : World) : Calls Try.prog 46 #[.agg (row64 4 (words a)), .agg (row64 4 (words b))] w fun e w' =>
    e = .returned (.agg (row64 4 (words (tm a b)))) ∧ Below w.heap.size w w' := by
  have hL := prod_lt ha hbb
  have r0 := row_stage a b 0 hbb
  have r1 := row_stage a b 1 hbb
  have r2 := row_stage a b 2 hbb
  have r3 := row_stage a b 3 hbb
  have z0 : a % 2 ^ (64 * 0) * b / 2 ^ (64 * 0) = 0 := by simp [Nat.mod_one]
  have z4 : a % 2 ^ (64 * (3 + 1)) * b / 2 ^ (64 * (3 + 1)) = a * b / 2 ^ 256 := by rw [show 64 * (3 + 1) = 256 from rfl, Nat.mod_eq_of_lt ha]
  rw [z0] at r0
  rw [z4] at r3
  have hH : a * b / 2 ^ 256 < 2 ^ 256 := by omega
  have r4 := row_c ((a * b) % 2 ^ 256) 38 (a * b / 2 ^ 256) (Nat.mod_lt _ (by decide)) (by decide) hH
  rw [show 38 * (a * b / 2 ^ 256) + a * b % 2 ^ 256 = f1 (a * b) by unfold f1; omega] at r4
  rw [show ((38 : Nat) : Int) = 38 from rfl] at r4
  have hf1 := f1_prod hL
  have hf2 := f1_top hL
  have hT : tm a b = fv (f1 (a * b)) := rfl
  have HT := Lib.hid hT
  clear z0 z4 hT hL
  generalize a * b = L at *
  generalize L / 2 ^ 256 = H4 at *
  generalize hV : f1 L = V at *
  have rf := fold_c (V % 2 ^ 256) (V / 2 ^ 256) (Nat.mod_lt _ (by decide)) (by omega)
  rw [show V % 2 ^ 256 + 2 ^ 256 * (V / 2 ^ 256) = V by omega] at rf
  have v4 : wd (V / 18446744073709551616) 3 = V / 2 ^ 256 := by rw [wd_shift]; unfold wd; omega
  have v1 : wd (V / 18446744073709551616) 0 = wd V 1 := wd_shift V 0
  have v2 : wd (V / 18446744073709551616) 1 = wd V 2 := wd_shift V 1
  have v3 : wd (V / 18446744073709551616) 2 = wd V 3 := wd_shift V 2
  have hfw := fourWn V
  rw [show row64 4 (words V) = row64 4 (words (V % 2 ^ 256)) from row64_congr fun i hi => (words_mod V 4 i hi).symm] at hfw
  generalize V % 2 ^ 256 = Vl at *
  generalize V / 2 ^ 256 = Vh at *
  clear hV hf1 hf2
  generalize a % 2 ^ (64 * (0 + 1)) * b / 2 ^ (64 * (0 + 1)) = H1 at *
  generalize a % 2 ^ (64 * (1 + 1)) * b / 2 ^ (64 * (1 + 1)) = H2 at *
  generalize a % 2 ^ (64 * (2 + 1)) * b / 2 ^ (64 * (2 + 1)) = H3 at *
  have VH := Lib.hid (And.intro v1 (And.intro v2 (And.intro v3 (And.intro v4 hfw))))
  clear v1 v2 v3 v4 hfw
  have RH := Lib.hid (And.intro r1 (And.intro r2 (And.intro r3 (And.intro r4 rf))))
  clear r1 r2 r3 r4 rf
  generalize hV64 : V / 18446744073709551616 = V64 at *
  clear hV64
  go_enter Try.func46, Try.ntmps46
  go_upto_region 2 with (fail)
  rw [zeroNb]
  have hall := five_new w 59 (words a) (words b) (fun _ => 0) (fun _ => 0) (fun _ => 0)
  revert hall
  generalize ((((w.alloc (.cells (row64 4 (words a)) 59)).alloc (.cells (row64 4 (words b)) 59)).alloc (.cells (row64 4 fun _ => 0) 59)).alloc (.cells (row64 4 fun _ => 0) 59)).alloc (.cells (row64 4 fun _ => 0) 59) = w0
  rintro ⟨ha, hb, hr, hl, hh, hB⟩
  have hh := hh.congr (f' := words 0) fun i _ => by rw [words_zero]
  have c0 := ha.cellW 0 (by omega)
  clear c0
  have c0 := ha.cellW 0 (by omega)
  have rr := r0
  go_upto_region 3 with (first | (refine wpList_load_Blk rfl 59 _ rfl (w.heap.size + 1 + 1 + 1 + 1) rfl 59 _ hh isRowNb (sizeNbR _) ?_) | (refine wpList_load_Blk rfl 59 _ rfl (w.heap.size + 1) rfl 59 _ hb isRowNb (sizeNbR _) ?_) | (go_at_call 54; refine (rr _).mono ?_; rintro e w5 ⟨rfl, hw5⟩; have ha := ha.below hw5 ha.lt; have hb := hb.below hw5 hb.lt; have hr := hr.below hw5 hr.lt; have hl := hl.below hw5 hl.lt; have hh := hh.below hw5 hh.lt; have hB := hB.trans (hw5.mono hB.size); have cl := hl.cell 0 (by omega); have dl := hl.frozen 0) | (refine wpList_store_Row64 rfl 59 _ _ rfl (w.heap.size + 1 + 1 + 1 + 1) rfl 59 4 _ _ rfl (hh.far (by first | (simp; done) | (simp; omega)) _) sizeNb ?_))
  have hall := And.intro ((ha.far (p := ⟨(w.heap.size + 1 + 1 + 1), 0, none⟩) (by first | (simp; done) | (simp; omega)) (.int .u64 (wd L 0 : Int))).setRow_far (k := (w.heap.size + 1 + 1 + 1 + 1)) (by omega) (row64 4 (words H1))) (And.intro ((hb.far (p := ⟨(w.heap.size + 1 + 1 + 1), 0, none⟩) (by first | (simp; done) | (simp; omega)) (.int .u64 (wd L 0 : Int))).setRow_far (k := (w.heap.size + 1 + 1 + 1 + 1)) (by omega) (row64 4 (words H1))) (And.intro ((hr.far (p := ⟨(w.heap.size + 1 + 1 + 1), 0, none⟩) (by first | (simp; done) | (simp; omega)) (.int .u64 (wd L 0 : Int))).setRow_far (k := (w.heap.size + 1 + 1 + 1 + 1)) (by omega) (row64 4 (words H1))) (And.intro ((hl.setW 0 L 0).setRow_far (k := (w.heap.size + 1 + 1 + 1 + 1)) (by omega) (row64 4 (words H1))) (And.intro ((hh.far (p := ⟨(w.heap.size + 1 + 1 + 1), 0, none⟩) (by first | (simp; done) | (simp; omega)) (.int .u64 (wd L 0 : Int))).setRow (words H1)) (below_setRow8 (hB.setCell (p := ⟨(w.heap.size + 1 + 1 + 1), 0, none⟩) (by first | (simp; done) | (simp; omega)) (.int .u64 (wd L 0 : Int))) (k := (w.heap.size + 1 + 1 + 1 + 1)) (by omega) (row64 4 (words H1)))))))
  clear ha hb hr hl hh hB cl dl rr
  (try simp only [Act.put])
  revert hall
  generalize (w5.setCell ⟨(w.heap.size + 1 + 1 + 1), 0, none⟩ (.int .u64 (wd L 0 : Int))).setRow (w.heap.size + 1 + 1 + 1 + 1) (row64 4 (words H1)) = w1
  rintro ⟨ha, hb, hr, hl, hh, hB⟩
  clear c0
  have c0 := ha.cellW 1 (by omega)
  have rr := RH.out.1
  go_upto_region 4 with (first | (refine wpList_load_Blk rfl 59 _ rfl (w.heap.size + 1 + 1 + 1 + 1) rfl 59 _ hh isRowNb (sizeNbR _) ?_) | (refine wpList_load_Blk rfl 59 _ rfl (w.heap.size + 1) rfl 59 _ hb isRowNb (sizeNbR _) ?_) | (go_at_call 54; refine (rr _).mono ?_; rintro e w5 ⟨rfl, hw5⟩; have ha := ha.below hw5 ha.lt; have hb := hb.below hw5 hb.lt; have hr := hr.below hw5 hr.lt; have hl := hl.below hw5 hl.lt; have hh := hh.below hw5 hh.lt; have hB := hB.trans (hw5.mono hB.size); have cl := hl.cell 1 (by omega); have dl := hl.frozen 1) | (refine wpList_store_Row64 rfl 59 _ _ rfl (w.heap.size + 1 + 1 + 1 + 1) rfl 59 4 _ _ rfl (hh.far (by first | (simp; done) | (simp; omega)) _) sizeNb ?_))
  have hall := And.intro ((ha.far (p := ⟨(w.heap.size + 1 + 1 + 1), 1, none⟩) (by first | (simp; done) | (simp; omega)) (.int .u64 (wd L 1 : Int))).setRow_far (k := (w.heap.size + 1 + 1 + 1 + 1)) (by omega) (row64 4 (words H2))) (And.intro ((hb.far (p := ⟨(w.heap.size + 1 + 1 + 1), 1, none⟩) (by first | (simp; done) | (simp; omega)) (.int .u64 (wd L 1 : Int))).setRow_far (k := (w.heap.size + 1 + 1 + 1 + 1)) (by omega) (row64 4 (words H2))) (And.intro ((hr.far (p := ⟨(w.heap.size + 1 + 1 + 1), 1, none⟩) (by first | (simp; done) | (simp; omega)) (.int .u64 (wd L 1 : Int))).setRow_far (k := (w.heap.size + 1 + 1 + 1 + 1)) (by omega) (row64 4 (words H2))) (And.intro ((hl.setW 1 L 1).setRow_far (k := (w.heap.size + 1 + 1 + 1 + 1)) (by omega) (row64 4 (words H2))) (And.intro ((hh.far (p := ⟨(w.heap.size + 1 + 1 + 1), 1, none⟩) (by first | (simp; done) | (simp; omega)) (.int .u64 (wd L 1 : Int))).setRow (words H2)) (below_setRow8 (hB.setCell (p := ⟨(w.heap.size + 1 + 1 + 1), 1, none⟩) (by first | (simp; done) | (simp; omega)) (.int .u64 (wd L 1 : Int))) (k := (w.heap.size + 1 + 1 + 1 + 1)) (by omega) (row64 4 (words H2)))))))
  clear ha hb hr hl hh hB cl dl rr
  (try simp only [Act.put])
  revert hall
  generalize (w5.setCell ⟨(w.heap.size + 1 + 1 + 1), 1, none⟩ (.int .u64 (wd L 1 : Int))).setRow (w.heap.size + 1 + 1 + 1 + 1) (row64 4 (words H2)) = w2
  rintro ⟨ha, hb, hr, hl, hh, hB⟩
  clear c0
  have c0 := ha.cellW 2 (by omega)
  have rr := RH.out.2.1
  go_upto_region 5 with (first | (refine wpList_load_Blk rfl 59 _ rfl (w.heap.size + 1 + 1 + 1 + 1) rfl 59 _ hh isRowNb (sizeNbR _) ?_) | (refine wpList_load_Blk rfl 59 _ rfl (w.heap.size + 1) rfl 59 _ hb isRowNb (sizeNbR _) ?_) | (go_at_call 54; refine (rr _).mono ?_; rintro e w5 ⟨rfl, hw5⟩; have ha := ha.below hw5 ha.lt; have hb := hb.below hw5 hb.lt; have hr := hr.below hw5 hr.lt; have hl := hl.below hw5 hl.lt; have hh := hh.below hw5 hh.lt; have hB := hB.trans (hw5.mono hB.size); have cl := hl.cell 2 (by omega); have dl := hl.frozen 2) | (refine wpList_store_Row64 rfl 59 _ _ rfl (w.heap.size + 1 + 1 + 1 + 1) rfl 59 4 _ _ rfl (hh.far (by first | (simp; done) | (simp; omega)) _) sizeNb ?_))
  have hall := And.intro ((ha.far (p := ⟨(w.heap.size + 1 + 1 + 1), 2, none⟩) (by first | (simp; done) | (simp; omega)) (.int .u64 (wd L 2 : Int))).setRow_far (k := (w.heap.size + 1 + 1 + 1 + 1)) (by omega) (row64 4 (words H3))) (And.intro ((hb.far (p := ⟨(w.heap.size + 1 + 1 + 1), 2, none⟩) (by first | (simp; done) | (simp; omega)) (.int .u64 (wd L 2 : Int))).setRow_far (k := (w.heap.size + 1 + 1 + 1 + 1)) (by omega) (row64 4 (words H3))) (And.intro ((hr.far (p := ⟨(w.heap.size + 1 + 1 + 1), 2, none⟩) (by first | (simp; done) | (simp; omega)) (.int .u64 (wd L 2 : Int))).setRow_far (k := (w.heap.size + 1 + 1 + 1 + 1)) (by omega) (row64 4 (words H3))) (And.intro ((hl.setW 2 L 2).setRow_far (k := (w.heap.size + 1 + 1 + 1 + 1)) (by omega) (row64 4 (words H3))) (And.intro ((hh.far (p := ⟨(w.heap.size + 1 + 1 + 1), 2, none⟩) (by first | (simp; done) | (simp; omega)) (.int .u64 (wd L 2 : Int))).setRow (words H3)) (below_setRow8 (hB.setCell (p := ⟨(w.heap.size + 1 + 1 + 1), 2, none⟩) (by first | (simp; done) | (simp; omega)) (.int .u64 (wd L 2 : Int))) (k := (w.heap.size + 1 + 1 + 1 + 1)) (by omega) (row64 4 (words H3)))))))
  clear ha hb hr hl hh hB cl dl rr
  (try simp only [Act.put])
  revert hall
  generalize (w5.setCell ⟨(w.heap.size + 1 + 1 + 1), 2, none⟩ (.int .u64 (wd L 2 : Int))).setRow (w.heap.size + 1 + 1 + 1 + 1) (row64 4 (words H3)) = w3
  rintro ⟨ha, hb, hr, hl, hh, hB⟩
  clear c0
  have c0 := ha.cellW 3 (by omega)
  have rr := RH.out.2.2.1
  go_upto_region 6 with (first | (refine wpList_load_Blk rfl 59 _ rfl (w.heap.size + 1 + 1 + 1 + 1) rfl 59 _ hh isRowNb (sizeNbR _) ?_) | (refine wpList_load_Blk rfl 59 _ rfl (w.heap.size + 1) rfl 59 _ hb isRowNb (sizeNbR _) ?_) | (go_at_call 54; refine (rr _).mono ?_; rintro e w5 ⟨rfl, hw5⟩; have ha := ha.below hw5 ha.lt; have hb := hb.below hw5 hb.lt; have hr := hr.below hw5 hr.lt; have hl := hl.below hw5 hl.lt; have hh := hh.below hw5 hh.lt; have hB := hB.trans (hw5.mono hB.size); have cl := hl.cell 3 (by omega); have dl := hl.frozen 3) | (refine wpList_store_Row64 rfl 59 _ _ rfl (w.heap.size + 1 + 1 + 1 + 1) rfl 59 4 _ _ rfl (hh.far (by first | (simp; done) | (simp; omega)) _) sizeNb ?_))
  have hall := And.intro ((ha.far (p := ⟨(w.heap.size + 1 + 1 + 1), 3, none⟩) (by first | (simp; done) | (simp; omega)) (.int .u64 (wd L 3 : Int))).setRow_far (k := (w.heap.size + 1 + 1 + 1 + 1)) (by omega) (row64 4 (words H4))) (And.intro ((hb.far (p := ⟨(w.heap.size + 1 + 1 + 1), 3, none⟩) (by first | (simp; done) | (simp; omega)) (.int .u64 (wd L 3 : Int))).setRow_far (k := (w.heap.size + 1 + 1 + 1 + 1)) (by omega) (row64 4 (words H4))) (And.intro ((hr.far (p := ⟨(w.heap.size + 1 + 1 + 1), 3, none⟩) (by first | (simp; done) | (simp; omega)) (.int .u64 (wd L 3 : Int))).setRow_far (k := (w.heap.size + 1 + 1 + 1 + 1)) (by omega) (row64 4 (words H4))) (And.intro ((hl.setW 3 L 3).setRow_far (k := (w.heap.size + 1 + 1 + 1 + 1)) (by omega) (row64 4 (words H4))) (And.intro ((hh.far (p := ⟨(w.heap.size + 1 + 1 + 1), 3, none⟩) (by first | (simp; done) | (simp; omega)) (.int .u64 (wd L 3 : Int))).setRow (words H4)) (below_setRow8 (hB.setCell (p := ⟨(w.heap.size + 1 + 1 + 1), 3, none⟩) (by first | (simp; done) | (simp; omega)) (.int .u64 (wd L 3 : Int))) (k := (w.heap.size + 1 + 1 + 1 + 1)) (by omega) (row64 4 (words H4)))))))
  clear ha hb hr hl hh hB cl dl rr
  (try simp only [Act.put])
  revert hall
  generalize (w5.setCell ⟨(w.heap.size + 1 + 1 + 1), 3, none⟩ (.int .u64 (wd L 3 : Int))).setRow (w.heap.size + 1 + 1 + 1 + 1) (row64 4 (words H4)) = w4
  rintro ⟨ha, hb, hr, hl, hh, hB⟩
  have hl := hl.congr (f' := words (L % 2 ^ 256)) fun i hi => by
    rw [show (2 : Nat) ^ 256 = 2 ^ (64 * 4) from rfl, words_mod _ 4 i hi]
    have : i = 0 ∨ i = 1 ∨ i = 2 ∨ i = 3 := by omega
    rcases this with rfl | rfl | rfl | rfl <;> rfl
  clear ha hb c0
  generalize L % 2 ^ 256 = Ll at *
  have rr := RH.out.2.2.2.1
  go_upto_region 7 with (first | (refine wpList_load_Blk rfl 59 _ rfl (w.heap.size + 1 + 1 + 1) rfl 59 _ hl isRowNb (sizeNbR _) ?_) | (refine wpList_load_Blk rfl 59 _ rfl (w.heap.size + 1 + 1 + 1 + 1) rfl 59 _ hh isRowNb (sizeNbR _) ?_) | (go_at_call 54; refine (rr _).mono ?_; rintro e w6 ⟨rfl, hw6⟩; have hgl := (hr.below hw6 hr.lt).lt; have hr := (hr.below hw6 hr.lt).alloc (.cells (row64 4 fun _ => 0) 59); have hB := hB.trans (hw6.mono hB.size); have hB' := hB.alloc hB.size (.cells (row64 4 fun _ => 0) 59); have hnew := Row64.new w6 59 4 fun _ => 0) | (refine wpList_alloc_Row64 rfl 59 rfl 4 zNb ?_) | (refine wpList_store_Row64 rfl 59 _ _ rfl w6.heap.size rfl 59 4 _ _ rfl hnew sizeNb ?_))
  have hwB : w.heap.size ≤ w6.heap.size := by omega
  have hall := And.intro (hr.setRow_far (k := w6.heap.size) (by omega) (row64 4 (words V64))) (And.intro (hnew.setRow (words V64)) (below_setRow8 hB' (k := w6.heap.size) hwB (row64 4 (words V64))))
  clear hr hl hh hB hB' hnew rr hwB
  (try simp only [Act.put])
  revert hall hgl
  generalize (w6.alloc (.cells (row64 4 fun _ => 0) 59)).setRow w6.heap.size (row64 4 (words V64)) = w7
  generalize w6.heap.size = g
  rintro hgl ⟨hr, hn, hB⟩
  obtain ⟨v1, v2, v3, v4, hfw⟩ := VH.out
  have k0 := hn.cellW 0 (by omega)
  have k1 := hn.cellW 1 (by omega)
  have k2 := hn.cellW 2 (by omega)
  have k3 := hn.cellW 3 (by omega)
  rw [v1] at k0
  rw [v2] at k1
  rw [v3] at k2
  rw [v4] at k3
  clear v1 v2 v3 v4
  have rr := RH.out.2.2.2.2
  go_wp2_with (first | (go_at_call 55; refine (rr _).mono ?_; rintro e w8 ⟨rfl, hw8⟩; have hr := hr.below hw8 hr.lt; have hB := hB.trans (hw8.mono hB.size)) | (refine wpList_store_Row64 rfl 59 _ _ rfl (w.heap.size + 1 + 1) rfl 59 4 _ _ rfl hr sizeNb ?_))
  exact ret_W4 rfl rfl (w.heap.size + 1 + 1) 59 _ rfl (hr.setRow _) isRowNb (sizeNbR _) ⟨by rw [HT.out], below_setRow8 hB (by omega) _⟩
end Go.Proofs.Ytchojbhmfjibmaa
