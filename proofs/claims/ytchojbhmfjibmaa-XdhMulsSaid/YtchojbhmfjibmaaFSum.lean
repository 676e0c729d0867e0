/- The program's fold, plus, minus (mkfword.py writes this text). -/
import Derived.Test.YtchojbhmfjibmaaFWord
namespace Go.Proofs.Ytchojbhmfjibmaa
open Go Go.RowKit
set_option maxRecDepth 100000

theorem three_newN (w : World) (t : TypeId) (f g k : Nat → UInt64) :
    Row64 (((w.alloc (.cells (row64 4 f) t)).alloc (.cells (row64 4 g) t)).alloc (.cells (row64 4 k) t)) w.heap.size t 4 f ∧ Row64 (((w.alloc (.cells (row64 4 f) t)).alloc (.cells (row64 4 g) t)).alloc (.cells (row64 4 k) t)) (w.heap.size + 1) t 4 g ∧
      Row64 (((w.alloc (.cells (row64 4 f) t)).alloc (.cells (row64 4 g) t)).alloc (.cells (row64 4 k) t)) (w.heap.size + 1 + 1) t 4 k ∧ Below w.heap.size w (((w.alloc (.cells (row64 4 f) t)).alloc (.cells (row64 4 g) t)).alloc (.cells (row64 4 k) t)) := by
  have h1 := Row64.new (w.alloc (.cells (row64 4 f) t)) t 4 g
  have h2 := Row64.new ((w.alloc (.cells (row64 4 f) t)).alloc (.cells (row64 4 g) t)) t 4 k
  simp only [World.size_alloc] at h1 h2
  exact ⟨((Row64.new w t 4 f).alloc _).alloc _, h1.alloc _, h2, (((Below.refl _ _).alloc (Nat.le_refl _) _).alloc (by simp) _).alloc (by simp; omega) _⟩
/-- A little added to the lowest word, or taken from it, changes it alone. -/
theorem wd_low_add (x y : Nat) (h : wd x 0 + y < 18446744073709551616) : wd (x + y) 0 = wd x 0 + y ∧ ∀ i, 0 < i → wd (x + y) i = wd x i := by
  unfold wd at *
  refine ⟨by omega, fun i hi => ?_⟩
  have e : 2 ^ (64 * i) = 18446744073709551616 * 2 ^ (64 * (i - 1)) := by
    rw [show (18446744073709551616 : Nat) = 2 ^ 64 from rfl, ← Nat.pow_add]; congr 1; omega
  rw [e, ← Nat.div_div_eq_div_mul, ← Nat.div_div_eq_div_mul, show (x + y) / 18446744073709551616 = x / 18446744073709551616 by omega]
theorem wd_low_sub (x y : Nat) (h : y ≤ wd x 0) : wd (x - y) 0 = wd x 0 - y ∧ ∀ i, 0 < i → wd (x - y) i = wd x i := by
  unfold wd at *
  refine ⟨by omega, fun i hi => ?_⟩
  have e : 2 ^ (64 * i) = 18446744073709551616 * 2 ^ (64 * (i - 1)) := by
    rw [show (18446744073709551616 : Nat) = 2 ^ 64 from rfl, ← Nat.pow_add]; congr 1; omega
  rw [e, ← Nat.div_div_eq_div_mul, ← Nat.div_div_eq_div_mul, show (x - y) / 18446744073709551616 = x / 18446744073709551616 by omega]
theorem fv_two (n t : Nat) (hn : n < 2 ^ 256) (ht : 38 * t + 38 < 18446744073709551616) :
    (n + 38 * t) % 2 ^ 256 + 38 * ((n + 38 * t) / 2 ^ 256) = fv (n + 2 ^ 256 * t) ∧ wd ((n + 38 * t) % 2 ^ 256) 0 + 38 * ((n + 38 * t) / 2 ^ 256) < 18446744073709551616 ∧ 38 * ((n + 38 * t) / 2 ^ 256) ≤ 38 := by
  have e1 : f1 (n + 2 ^ 256 * t) = n + 38 * t := by unfold f1; omega
  refine ⟨?_, ?_, by omega⟩
  · unfold fv
    rw [e1]
    rfl
  · unfold wd
    omega

set_option maxHeartbeats 4000000 in
theorem fold_c (n k : Nat) (hn : n < 2 ^ 256) (hk : 38 * k + 38 < 18446744073709551616) (w : World) : Calls Try.prog 55 #[.agg (row64 4 (words n)), .int .u64 (k : Int)] w fun e w' =>
    e = .returned (.agg (row64 4 (words (fv (n + 2 ^ 256 * k))))) ∧ Below w.heap.size w w' := by
  obtain ⟨t1, t2, t3⟩ := fv_two n k hn hk
  have e1 : IntKind.u64.wrap (38 * (k : Int)) = ((38 * k : Nat) : Int) := by rw [IntKind.wrap_u64]; omega
  have hp := fun W => plusWord_c n (38 * k) hn (by omega) W
  obtain ⟨r1, r2⟩ := wd_low_add _ _ t2
  rw [t1] at r1 r2
  generalize fv (n + 2 ^ 256 * k) = V at *
  generalize hu : (n + 38 * k) % 2 ^ 256 = u at *
  generalize hc : (n + 38 * k) / 2 ^ 256 = c at *
  have e2 : IntKind.u64.wrap (38 * (c : Int)) = ((38 * c : Nat) : Int) := by rw [IntKind.wrap_u64]; omega
  have e3 : IntKind.u64.wrap ((wd u 0 : Int) + ((38 * c : Nat) : Int)) = (wd V 0 : Int) := by rw [IntKind.wrap_u64]; omega
  generalize 38 * k = kk at *
  generalize 38 * c = cc at *
  clear hu hc t1 t2 t3 r1
  go_enter Try.func55, Try.ntmps55
  go_upto_region 1 with (fail)
  rw [zeroNb]
  have h1 := (Row64.new w 59 4 (words n)).alloc (.cells (row64 4 fun _ => 0) 59)
  have h2 := Row64.new (w.alloc (.cells (row64 4 (words n)) 59)) 59 4 fun _ => 0
  have hb : Below w.heap.size w ((w.alloc (.cells (row64 4 (words n)) 59)).alloc (.cells (row64 4 fun _ => 0) 59)) := ((Below.refl _ _).alloc (Nat.le_refl _) _).alloc (by simp) _
  simp only [World.size_alloc] at h2
  have hall := And.intro h1 (And.intro h2 hb)
  clear h1 h2 hb
  revert hall
  generalize (w.alloc (.cells (row64 4 (words n)) 59)).alloc (.cells (row64 4 fun _ => 0) 59) = w1
  rintro ⟨h1, h2, hb⟩
  go_upto_region 2 with (first | (refine wpList_load_Blk rfl 59 _ rfl w.heap.size rfl 59 _ h1 isRowNb (sizeNbR _) ?_) | (go_at_call 60; refine (hp _).mono ?_; rintro e w5 ⟨rfl, hw5⟩; have h1 := h1.below hw5 h1.lt; have h2 := h2.below hw5 h2.lt; have hb := hb.trans (hw5.mono hb.size)) | (refine wpList_store_Row64 rfl 59 _ _ rfl w.heap.size rfl 59 4 _ _ rfl h1 sizeNb ?_))
  have h1 := h1.setRow (words u)
  have h2 := h2.setRow_far (k := w.heap.size) (by omega) (row64 4 (words u))
  have hb := below_setRow8 hb (k := w.heap.size) (by omega) (row64 4 (words u))
  (try simp only [Act.put, List.setIfInBounds_toArray, List.set_cons_zero, List.set_cons_succ])
  revert h1 h2 hb
  generalize w5.setRow w.heap.size (row64 4 (words u)) = w6
  intro h1 h2 hb
  have c0 := h1.cellW 0 (by omega)
  have d0 := h1.frozen 0
  go_upto_region 3 with (fail)
  have h1' := (h1.setW 0 V 0).congr (f' := words V) fun i _ => by
    by_cases hi : i = 0
    · subst hi; simp
    · simp only [hi, if_false]
      unfold words; rw [r2 i (by omega)]
  have h2' := h2.far (p := ⟨w.heap.size, 0, none⟩) (by first | (simp; done) | (simp; omega)) (.int .u64 (wd V 0 : Int))
  have hb' := hb.setCell (p := ⟨w.heap.size, 0, none⟩) (by simp) (.int .u64 (wd V 0 : Int))
  clear h1 h2 hb c0 d0
  revert h1' h2' hb'
  generalize w6.setCell ⟨w.heap.size, 0, none⟩ (.int .u64 (wd V 0 : Int)) = w7
  intro h1 h2 hb
  go_wp2_with (first | (refine wpList_load_Blk rfl 59 _ rfl w.heap.size rfl 59 _ h1 isRowNb (sizeNbR _) ?_) | (refine wpList_store_Row64 rfl 59 _ _ rfl (w.heap.size + 1) rfl 59 4 _ _ rfl h2 sizeNb ?_))
  exact ret_W4 rfl rfl (w.heap.size + 1) 59 _ rfl (h2.setRow _) isRowNb (sizeNbR _) ⟨rfl, below_setRow8 hb (by omega) _⟩

set_option maxHeartbeats 4000000 in
theorem plus_c (a b : Nat) (ha : a < 2 ^ 256) (hbb : b < 2 ^ 256) (w : World) : Calls Try.prog 50 #[.agg (row64 4 (words a)), .agg (row64 4 (words b))] w fun e w' =>
    e = .returned (.agg (row64 4 (words (fv (a + b))))) ∧ Below w.heap.size w w' := by
  have hcr : cry a b 4 = (a + b) / 2 ^ 256 := cry_top a b 4 ha hbb
  have hf := fun W => fold_c ((a + b) % 2 ^ 256) (cry a b 4) (Nat.mod_lt _ (by decide)) (by have := cry_le a b 4; omega) W
  rw [show (a + b) % 2 ^ 256 + 2 ^ 256 * cry a b 4 = a + b by rw [hcr]; omega] at hf
  clear hcr
  go_enter Try.func50, Try.ntmps50
  go_upto_region 2 with (fail)
  rw [zeroNb]
  have hall := three_newN w 59 (words a) (words b) (fun _ => 0)
  revert hall
  generalize ((w.alloc (.cells (row64 4 (words a)) 59)).alloc (.cells (row64 4 (words b)) 59)).alloc (.cells (row64 4 fun _ => 0) 59) = w1
  rintro ⟨h1, h3, h2, hb⟩
  have c0 := h1.cellW 0 (by omega)
  have c1 := h1.cellW 1 (by omega)
  have c2 := h1.cellW 2 (by omega)
  have c3 := h1.cellW 3 (by omega)
  have d0 := h1.frozen 0
  have d1 := h1.frozen 1
  have d2 := h1.frozen 2
  have d3 := h1.frozen 3
  have p0 := h3.cellW 0 (by omega)
  have p1 := h3.cellW 1 (by omega)
  have p2 := h3.cellW 2 (by omega)
  have p3 := h3.cellW 3 (by omega)
  have hs := h1.set4 (a + b)
  go_upto_region 6 with (first | simp only [add64_w0 a b] | simp only [add64_w a b 1] | simp only [add64_w a b 2] | simp only [add64_w a b 3])
  have h2' := ((((h2.far (p := ⟨w.heap.size, 0, none⟩) (by first | (simp; done) | (simp; omega)) (.int .u64 (wd (a + b) 0 : Int))).far (p := ⟨w.heap.size, 1, none⟩) (by first | (simp; done) | (simp; omega)) (.int .u64 (wd (a + b) 1 : Int))).far (p := ⟨w.heap.size, 2, none⟩) (by first | (simp; done) | (simp; omega)) (.int .u64 (wd (a + b) 2 : Int))).far (p := ⟨w.heap.size, 3, none⟩) (by first | (simp; done) | (simp; omega)) (.int .u64 (wd (a + b) 3 : Int)))
  have hb' := ((((hb.setCell (p := ⟨w.heap.size, 0, none⟩) (by simp) (.int .u64 (wd (a + b) 0 : Int))).setCell (p := ⟨w.heap.size, 1, none⟩) (by simp) (.int .u64 (wd (a + b) 1 : Int))).setCell (p := ⟨w.heap.size, 2, none⟩) (by simp) (.int .u64 (wd (a + b) 2 : Int))).setCell (p := ⟨w.heap.size, 3, none⟩) (by simp) (.int .u64 (wd (a + b) 3 : Int)))
  clear h1 h2 h3 hb c0 c1 c2 c3 d0 d1 d2 d3 p0 p1 p2 p3
  revert hs h2' hb'
  generalize ((((w1).setCell ⟨w.heap.size, 0, none⟩ (.int .u64 (wd (a + b) 0 : Int))).setCell ⟨w.heap.size, 1, none⟩ (.int .u64 (wd (a + b) 1 : Int))).setCell ⟨w.heap.size, 2, none⟩ (.int .u64 (wd (a + b) 2 : Int))).setCell ⟨w.heap.size, 3, none⟩ (.int .u64 (wd (a + b) 3 : Int)) = w2
  intro h1 h2 hb
  generalize (a + b) % 2 ^ 256 = z at *
  go_wp2_with (first | (refine wpList_load_Blk rfl 59 _ rfl w.heap.size rfl 59 _ h1 isRowNb (sizeNbR _) ?_) | (go_at_call 55; refine (hf _).mono ?_; rintro e w5 ⟨rfl, hw5⟩; have h2 := h2.below hw5 h2.lt; have hb := hb.trans (hw5.mono hb.size)) | (refine wpList_store_Row64 rfl 59 _ _ rfl (w.heap.size + 1 + 1) rfl 59 4 _ _ rfl h2 sizeNb ?_))
  exact ret_W4 rfl rfl (w.heap.size + 1 + 1) 59 _ rfl (h2.setRow _) isRowNb (sizeNbR _) ⟨rfl, below_setRow8 hb (by omega) _⟩

/-- What minus makes: twice 38 taken, where it borrows. -/
def mi1 (a b : Nat) : Nat := (a + 2 ^ 256 - b) % 2 ^ 256
def mi2 (a b : Nat) : Nat := (mi1 a b + 2 ^ 256 - 38 * brw a b 4) % 2 ^ 256
def mi (a b : Nat) : Nat := mi2 a b - 38 * brw (mi1 a b) (38 * brw a b 4) 4
theorem mi1_is (a b : Nat) : mi1 a b = (a + 2 ^ 256 - b) % 2 ^ 256 := by unfold mi1; rfl
theorem mi2_is (a b : Nat) : mi2 a b = (mi1 a b + 2 ^ 256 - 38 * brw a b 4) % 2 ^ 256 := by unfold mi2; rfl
theorem mi_is (a b : Nat) : mi a b = mi2 a b - 38 * brw (mi1 a b) (38 * brw a b 4) 4 := by unfold mi; rfl
theorem mi_facts (a b : Nat) (ha : a < 2 ^ 256) (hb : b < 2 ^ 256) : 38 * brw (mi1 a b) (38 * brw a b 4) 4 ≤ wd (mi2 a b) 0 ∧ mi a b < 2 ^ 256 ∧ (mi a b + b) % pN = a % pN := by
  have hk := brw_le a b 4
  have h1 : mi1 a b < 2 ^ 256 := Nat.mod_lt _ (by decide)
  have e1 : mi1 a b + b = a + 2 ^ 256 * brw a b 4 := by
    rw [brw_top a b ha hb]; unfold mi1; split <;> omega
  have hd : mi2 a b = (mi1 a b + 2 ^ 256 - 38 * brw a b 4) % 2 ^ 256 := rfl
  have hm : mi a b = mi2 a b - 38 * brw (mi1 a b) (38 * brw a b 4) 4 := rfl
  rw [brw_top (mi1 a b) (38 * brw a b 4) h1 (by omega)] at *
  have h2 : mi2 a b < 2 ^ 256 := by rw [hd]; exact Nat.mod_lt _ (by decide)
  have p256 : 2 ^ 256 = 2 * pN + 38 := by decide
  generalize pN = P at *
  generalize brw a b 4 = k at *
  generalize mi1 a b = x at *
  generalize mi2 a b = y at *
  generalize mi a b = z at *
  refine ⟨?_, ?_, ?_⟩
  · unfold wd; split <;> omega
  · split at hm <;> omega
  · have : k = 0 ∨ k = 1 := by omega
    rcases this with rfl | rfl
    · have : z + b = a := by split at hm <;> omega
      rw [this]
    · by_cases hlt : x < 38 * 1
      · rw [if_pos hlt] at hm
        have e : z + b = a + P * 4 := by omega
        rw [e, Nat.add_mul_mod_self_left]
      · rw [if_neg hlt] at hm
        have e : z + b = a + P * 2 := by omega
        rw [e, Nat.add_mul_mod_self_left]

set_option maxHeartbeats 4000000 in
theorem minus_c (a b : Nat) (ha : a < 2 ^ 256) (hbb : b < 2 ^ 256) (w : World) : Calls Try.prog 51 #[.agg (row64 4 (words a)), .agg (row64 4 (words b))] w fun e w' =>
    e = .returned (.agg (row64 4 (words (mi a b)))) ∧ Below w.heap.size w w' := by
  obtain ⟨t1, _, _⟩ := mi_facts a b ha hbb
  obtain ⟨r1, r2⟩ := wd_low_sub _ _ t1
  have hk := brw_le a b 4
  have hk2 := brw_le (mi1 a b) (38 * brw a b 4) 4
  have hbz : b ≤ 2 ^ 256 := Nat.le_of_lt hbb
  have hl := fun (hq : 38 * brw a b 4 < 18446744073709551616) W => lessWord_c (mi1 a b) (38 * brw a b 4) hq W
  rw [← mi2_is] at hl
  rw [← mi_is] at r1 r2
  have h0 := wd_lt (mi2 a b) 0
  have hm1 := mi1_is a b
  generalize mi a b = V at *
  generalize mi2 a b = u at *
  generalize brw (mi1 a b) (38 * brw a b 4) 4 = k2 at *
  generalize mi1 a b = z at *
  generalize hbk : brw a b 4 = k at *
  replace hl := hl (by omega)
  have e1 : IntKind.u64.wrap (38 * (k : Int)) = ((38 * k : Nat) : Int) := by rw [IntKind.wrap_u64]; omega
  have e2 : IntKind.u64.wrap (38 * (k2 : Int)) = ((38 * k2 : Nat) : Int) := by rw [IntKind.wrap_u64]; omega
  have e3 : IntKind.u64.wrap ((wd u 0 : Int) - ((38 * k2 : Nat) : Int)) = (wd V 0 : Int) := by rw [IntKind.wrap_u64]; omega
  have HM := Lib.hid hm1
  clear hm1
  have HB := Lib.hid hbk
  generalize 38 * k2 = kk2 at *
  generalize 38 * k = kk at *
  clear t1 r1 hk hk2 h0 hbk
  go_enter Try.func51, Try.ntmps51
  go_upto_region 2 with (fail)
  rw [zeroNb]
  have hall := three_newN w 59 (words a) (words b) (fun _ => 0)
  revert hall
  generalize ((w.alloc (.cells (row64 4 (words a)) 59)).alloc (.cells (row64 4 (words b)) 59)).alloc (.cells (row64 4 fun _ => 0) 59) = w1
  rintro ⟨h1, h3, h2, hb⟩
  have c0 := h1.cellW 0 (by omega)
  have c1 := h1.cellW 1 (by omega)
  have c2 := h1.cellW 2 (by omega)
  have c3 := h1.cellW 3 (by omega)
  have d0 := h1.frozen 0
  have d1 := h1.frozen 1
  have d2 := h1.frozen 2
  have d3 := h1.frozen 3
  have p0 := h3.cellW 0 (by omega)
  have p1 := h3.cellW 1 (by omega)
  have p2 := h3.cellW 2 (by omega)
  have p3 := h3.cellW 3 (by omega)
  have hs := h1.set4 (a + 2 ^ 256 - b)
  go_upto_region 6 with (first | simp only [sub64_g0 a b hbz] | simp only [sub64_g a b 1 hbz (by omega)] | simp only [sub64_g a b 2 hbz (by omega)] | simp only [sub64_g a b 3 hbz (by omega)])
  have h2' := ((((h2.far (p := ⟨w.heap.size, 0, none⟩) (by first | (simp; done) | (simp; omega)) (.int .u64 (wd (a + 2 ^ 256 - b) 0 : Int))).far (p := ⟨w.heap.size, 1, none⟩) (by first | (simp; done) | (simp; omega)) (.int .u64 (wd (a + 2 ^ 256 - b) 1 : Int))).far (p := ⟨w.heap.size, 2, none⟩) (by first | (simp; done) | (simp; omega)) (.int .u64 (wd (a + 2 ^ 256 - b) 2 : Int))).far (p := ⟨w.heap.size, 3, none⟩) (by first | (simp; done) | (simp; omega)) (.int .u64 (wd (a + 2 ^ 256 - b) 3 : Int)))
  have hb' := ((((hb.setCell (p := ⟨w.heap.size, 0, none⟩) (by simp) (.int .u64 (wd (a + 2 ^ 256 - b) 0 : Int))).setCell (p := ⟨w.heap.size, 1, none⟩) (by simp) (.int .u64 (wd (a + 2 ^ 256 - b) 1 : Int))).setCell (p := ⟨w.heap.size, 2, none⟩) (by simp) (.int .u64 (wd (a + 2 ^ 256 - b) 2 : Int))).setCell (p := ⟨w.heap.size, 3, none⟩) (by simp) (.int .u64 (wd (a + 2 ^ 256 - b) 3 : Int)))
  clear h1 h2 h3 hb c0 c1 c2 c3 d0 d1 d2 d3 p0 p1 p2 p3
  revert hs h2' hb'
  generalize ((((w1).setCell ⟨w.heap.size, 0, none⟩ (.int .u64 (wd (a + 2 ^ 256 - b) 0 : Int))).setCell ⟨w.heap.size, 1, none⟩ (.int .u64 (wd (a + 2 ^ 256 - b) 1 : Int))).setCell ⟨w.heap.size, 2, none⟩ (.int .u64 (wd (a + 2 ^ 256 - b) 2 : Int))).setCell ⟨w.heap.size, 3, none⟩ (.int .u64 (wd (a + 2 ^ 256 - b) 3 : Int)) = w2
  intro h1 h2 hb
  rw [← HM.out] at h1
  (try rw [HB.out])
  go_upto_region 7 with (first | (refine wpList_load_Blk rfl 59 _ rfl w.heap.size rfl 59 _ h1 isRowNb (sizeNbR _) ?_) | (go_at_call 59; refine (hl _).mono ?_; rintro e w5 ⟨rfl, hw5⟩; have h1 := h1.below hw5 h1.lt; have h2 := h2.below hw5 h2.lt; have hb := hb.trans (hw5.mono hb.size)) | (refine wpList_store_Row64 rfl 59 _ _ rfl w.heap.size rfl 59 4 _ _ rfl h1 sizeNb ?_))
  have h1 := h1.setRow (words u)
  have h2 := h2.setRow_far (k := w.heap.size) (by omega) (row64 4 (words u))
  have hb := below_setRow8 hb (k := w.heap.size) (by omega) (row64 4 (words u))
  (try simp only [Act.put, List.setIfInBounds_toArray, List.set_cons_zero, List.set_cons_succ])
  revert h1 h2 hb
  generalize w5.setRow w.heap.size (row64 4 (words u)) = w6
  intro h1 h2 hb
  have c0 := h1.cellW 0 (by omega)
  have d0 := h1.frozen 0
  go_upto_region 8 with (fail)
  have h1' := (h1.setW 0 V 0).congr (f' := words V) fun i _ => by
    by_cases hi : i = 0
    · subst hi; simp
    · simp only [hi, if_false]
      unfold words; rw [r2 i (by omega)]
  have h2' := h2.far (p := ⟨w.heap.size, 0, none⟩) (by first | (simp; done) | (simp; omega)) (.int .u64 (wd V 0 : Int))
  have hb' := hb.setCell (p := ⟨w.heap.size, 0, none⟩) (by simp) (.int .u64 (wd V 0 : Int))
  clear h1 h2 hb c0 d0
  revert h1' h2' hb'
  generalize w6.setCell ⟨w.heap.size, 0, none⟩ (.int .u64 (wd V 0 : Int)) = w7
  intro h1 h2 hb
  go_wp2_with (first | (refine wpList_load_Blk rfl 59 _ rfl w.heap.size rfl 59 _ h1 isRowNb (sizeNbR _) ?_) | (refine wpList_store_Row64 rfl 59 _ _ rfl (w.heap.size + 1 + 1) rfl 59 4 _ _ rfl h2 sizeNb ?_))
  exact ret_W4 rfl rfl (w.heap.size + 1 + 1) 59 _ rfl (h2.setRow _) isRowNb (sizeNbR _) ⟨rfl, below_setRow8 hb (by omega) _⟩
end Go.Proofs.Ytchojbhmfjibmaa
