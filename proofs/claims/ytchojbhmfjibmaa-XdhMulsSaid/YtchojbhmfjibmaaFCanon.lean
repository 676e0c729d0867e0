/- The program's canonical: a number brought below p. -/
import Derived.Test.YtchojbhmfjibmaaFSum
namespace Go.Proofs.Ytchojbhmfjibmaa
open Go Go.RowKit
set_option maxRecDepth 100000

theorem zNb' : (Try.prog.info? 59).bind (·.zero) = some (.agg (row64 4 fun _ => 0)) := by kernel_rfl
/-- The steps, as numbers. -/
theorem canon_nat (n : Nat) (hn : n < 2 ^ 256) :
    wd n 3 / 9223372036854775808 = n / 2 ^ 255 ∧ n / 2 ^ 255 ≤ 1 ∧ (n % 2 ^ 255 + 19 * (n / 2 ^ 255)) < 2 ^ 255 + 19 ∧
    ((n % 2 ^ 255 + 19 * (n / 2 ^ 255)) + 19 * ((n % 2 ^ 255 + 19 * (n / 2 ^ 255) + 19) / 2 ^ 255)) % 2 ^ 255 = n % pN := by
  have p255 : 2 ^ 255 = pN + 19 := by decide
  have h1 : wd n 3 / 9223372036854775808 = n / 2 ^ 255 := by unfold wd; omega
  have h2 : n / 2 ^ 255 ≤ 1 := by omega
  refine ⟨h1, h2, by omega, ?_⟩
  clear h1
  have hP0 : 40 < pN := by decide
  generalize pN = P at *
  generalize hq : n / 2 ^ 255 = q at *
  generalize hr : n % 2 ^ 255 = r at *
  have hr2 : r < 2 ^ 255 := by omega
  obtain ⟨m, hm⟩ : ∃ m, m = r + 19 * q := ⟨_, rfl⟩
  have hnn : n = m + P * q := by
    have : n = 2 ^ 255 * q + r := by omega
    rw [this, p255, hm, Nat.add_mul]; omega
  have hml : m < 2 ^ 255 + 19 := by omega
  rw [← hm, hnn, Nat.add_mul_mod_self_left]
  clear hnn hm hq hr hr2 h2 hn
  rw [p255] at *
  by_cases hs : m + 19 < P + 19
  · rw [Nat.div_eq_of_lt hs, Nat.mul_zero, Nat.add_zero, Nat.mod_eq_of_lt (by omega), Nat.mod_eq_of_lt (by omega)]
  · have e : (m + 19) / (P + 19) = 1 := by
      apply Nat.div_eq_of_lt_le <;> omega
    rw [e, Nat.mul_one, Nat.mod_eq_sub_mod (by omega), Nat.mod_eq_of_lt (by omega), Nat.mod_eq_sub_mod (show P ≤ m by omega), Nat.mod_eq_of_lt (by omega)]
    omega
/-- A number's upper word without its highest bit. -/
theorem top_and (n : Nat) : bits .and .u64 (wd n 3 : Int) 9223372036854775807 = ((wd n 3 % 9223372036854775808 : Nat) : Int) := by
  have h := bits_and_u64_nat (wd n 3) 9223372036854775807 (wd_lt n 3) (by decide)
  have e : wd n 3 &&& 9223372036854775807 = wd n 3 % 9223372036854775808 := Nat.and_two_pow_sub_one_eq_mod (wd n 3) 63
  rw [e] at h
  exact h
theorem low255 (n : Nat) : wd (n % 2 ^ 255) 3 = wd n 3 % 9223372036854775808 ∧ ∀ i, i < 3 → wd (n % 2 ^ 255) i = wd n i := by
  refine ⟨?_, fun i hi => ?_⟩
  · unfold wd; omega
  · have : i = 0 ∨ i = 1 ∨ i = 2 := by omega
    rcases this with rfl | rfl | rfl <;> (unfold wd; omega)

set_option maxHeartbeats 8000000 in
theorem canonical_c (n : Nat) (hn : n < 2 ^ 256) (w : World) : Calls Try.prog 52 #[.agg (row64 4 (words n))] w fun e w' =>
    e = .returned (.agg (row64 4 (words (n % pN)))) ∧ Below w.heap.size w w' := by
  obtain ⟨f1, f2, f3, f4⟩ := canon_nat n hn
  obtain ⟨g1, g2⟩ := low255 n
  have hN1 : n % 2 ^ 255 < 2 ^ 255 := Nat.mod_lt _ (by decide)
  generalize hP : n % pN = P at *
  generalize n / 2 ^ 255 = t at *
  generalize n % 2 ^ 255 = N1 at *
  obtain ⟨m, hm⟩ : ∃ m, m = N1 + 19 * t := ⟨_, rfl⟩
  rw [← hm] at f3 f4
  obtain ⟨u, hu⟩ : ∃ u, u = m + 19 := ⟨_, rfl⟩
  rw [← hu] at f4
  obtain ⟨q, hq⟩ : ∃ q, q = u / 2 ^ 255 := ⟨_, rfl⟩
  rw [← hq] at f4
  obtain ⟨z, hz⟩ : ∃ z, z = m + 19 * q := ⟨_, rfl⟩
  rw [← hz] at f4
  obtain ⟨k1, k2⟩ := low255 z
  rw [f4] at k1 k2
  have hq1 : q ≤ 1 := by omega
  have hu2 : u < 2 ^ 255 + 38 := by omega
  have e3 : wd u 3 / 9223372036854775808 = q := by
    rw [hq]
    clear f1 f2 f3 f4 g1 g2 k1 k2 hN1 hm hu hq hz hP
    unfold wd
    omega
  have p1 := fun W => plusWord_c N1 (19 * t) (by omega) (by omega) W
  rw [← hm, Nat.mod_eq_of_lt (show m < 2 ^ 256 by omega)] at p1
  have p2 := fun W => plusWord_c m 19 (by omega) (by omega) W
  rw [← hu, Nat.mod_eq_of_lt (show u < 2 ^ 256 by omega), show ((19 : Nat) : Int) = 19 from rfl] at p2
  have p3 := fun W => plusWord_c m (19 * q) (by omega) (by omega) W
  rw [← hz, Nat.mod_eq_of_lt (show z < 2 ^ 256 by omega)] at p3
  have a1 := top_and n
  rw [← g1] at a1
  have a2 := top_and z
  rw [← k1] at a2
  have e1 : (wd n 3 : Int) / 9223372036854775808 = (t : Int) := by rw [← f1]; omega
  have e2 : IntKind.u64.wrap (19 * (t : Int)) = ((19 * t : Nat) : Int) := by rw [IntKind.wrap_u64]; omega
  have e4 : (wd u 3 : Int) / 9223372036854775808 = (q : Int) := by rw [← e3]; omega
  have e5 : IntKind.u64.wrap (19 * (q : Int)) = ((19 * q : Nat) : Int) := by rw [IntKind.wrap_u64]; omega
  have LN1 := Lib.hid g2
  have LP := Lib.hid k2
  clear f1 f2 f3 f4 g1 g2 k1 k2 hN1 hq1 e3 hm hu hq hz hP
  generalize m / 2 ^ 256 = o1 at *
  generalize u / 2 ^ 256 = o2 at *
  generalize z / 2 ^ 256 = o3 at *
  generalize 19 * t = t19 at *
  generalize 19 * q = q19 at *
  go_enter Try.func52, Try.ntmps52
  go_upto_region 1 with (fail)
  rw [zeroNb]
  have h1 := (Row64.new w 59 4 (words n)).alloc (.cells (row64 4 fun _ => 0) 59)
  have h2 := Row64.new (w.alloc (.cells (row64 4 (words n)) 59)) 59 4 fun _ => 0
  have hb : Below w.heap.size w ((w.alloc (.cells (row64 4 (words n)) 59)).alloc (.cells (row64 4 fun _ => 0) 59)) := ((Below.refl _ _).alloc (Nat.le_refl _) _).alloc (by simp) _
  simp only [World.size_alloc] at h2
  have hall := And.intro h1 (And.intro h2 hb)
  clear h1 h2 hb
  revert hall
  generalize (w.alloc (.cells (row64 4 (words n)) 59)).alloc (.cells (row64 4 fun _ => 0) 59) = w1
  rintro ⟨h1, h2, hb⟩
  have c3 := h1.cellW 3 (by omega)
  have d3 := h1.frozen 3
  go_upto_region 3 with (fail)
  have h1' := (h1.setW 3 N1 3).congr (f' := words N1) fun i hi => by
    by_cases h3 : i = 3
    · subst h3; simp
    · simp only [h3, if_false]
      unfold words; rw [LN1.out i (by omega)]
  have h2' := h2.far (p := ⟨w.heap.size, 3, none⟩) (by first | (simp; done) | (simp; omega)) (.int .u64 (wd N1 3 : Int))
  have hb' := hb.setCell (p := ⟨w.heap.size, 3, none⟩) (by first | (simp; done) | (simp; omega)) (.int .u64 (wd N1 3 : Int))
  clear h1 h2 hb c3 d3
  revert h1' h2' hb'
  generalize w1.setCell ⟨w.heap.size, 3, none⟩ (.int .u64 (wd N1 3 : Int)) = w2
  intro h1 h2 hb
  go_upto_region 4 with (first | (refine wpList_load_Blk rfl 59 _ rfl w.heap.size rfl 59 _ h1 isRowNb (sizeNbR _) ?_) | (go_at_call 60; refine (p1 _).mono ?_; rintro e w3 ⟨rfl, hw3⟩; have h1 := h1.below hw3 h1.lt; have h2 := h2.below hw3 h2.lt; have hb := hb.trans (hw3.mono hb.size)) | (refine wpList_store_Row64 rfl 59 _ _ rfl w.heap.size rfl 59 4 _ _ rfl h1 sizeNb ?_))
  have hall := And.intro (h1.setRow (words m)) (And.intro (h2.setRow_far (k := w.heap.size) (by omega) (row64 4 (words m))) (below_setRow8 hb (k := w.heap.size) (by omega) (row64 4 (words m))))
  clear h1 h2 hb
  (try simp only [Act.put])
  revert hall
  generalize w3.setRow w.heap.size (row64 4 (words m)) = w4
  rintro ⟨h1, h2, hb⟩
  go_upto_region 5 with (first | (refine wpList_load_Blk rfl 59 _ rfl w.heap.size rfl 59 _ h1 isRowNb (sizeNbR _) ?_) | (go_at_call 60; refine (p2 _).mono ?_; rintro e w5 ⟨rfl, hw5⟩; have hgl := (h2.below hw5 h2.lt).lt; have hb := hb.trans (hw5.mono hb.size); have h1 := (h1.below hw5 h1.lt).alloc (.cells (row64 4 fun _ => 0) 59); have h2 := (h2.below hw5 h2.lt).alloc (.cells (row64 4 fun _ => 0) 59); have hbb := hb.alloc hb.size (.cells (row64 4 fun _ => 0) 59); have hnew := Row64.new w5 59 4 fun _ => 0) | (refine wpList_alloc_Row64 rfl 59 rfl 4 zNb' ?_) | (refine wpList_store_Row64 rfl 59 _ _ rfl w5.heap.size rfl 59 4 _ _ rfl hnew sizeNb ?_))
  have hwB : w.heap.size ≤ w5.heap.size := hb.size
  have hall := And.intro (h1.setRow_far (k := w5.heap.size) (by omega) (row64 4 (words u))) (And.intro (h2.setRow_far (k := w5.heap.size) (by omega) (row64 4 (words u))) (And.intro (hnew.setRow (words u)) (below_setRow8 hbb (k := w5.heap.size) hwB (row64 4 (words u)))))
  clear h1 h2 hb hbb hnew
  (try simp only [Act.put])
  revert hall hgl hwB
  generalize (w5.alloc (.cells (row64 4 fun _ => 0) 59)).setRow w5.heap.size (row64 4 (words u)) = w6
  generalize w5.heap.size = g
  rintro hwB hgl ⟨h1, h2, hg, hb⟩
  have cu := hg.cellW 3 (by omega)
  go_upto_region 6 with (first | (refine wpList_load_Blk rfl 59 _ rfl w.heap.size rfl 59 _ h1 isRowNb (sizeNbR _) ?_) | (go_at_call 60; refine (p3 _).mono ?_; rintro e w7 ⟨rfl, hw7⟩; have h1 := h1.below hw7 h1.lt; have h2 := h2.below hw7 h2.lt; have hb := hb.trans (hw7.mono hb.size)) | (refine wpList_store_Row64 rfl 59 _ _ rfl w.heap.size rfl 59 4 _ _ rfl h1 sizeNb ?_))
  clear cu hg
  have hall := And.intro (h1.setRow (words z)) (And.intro (h2.setRow_far (k := w.heap.size) (by omega) (row64 4 (words z))) (below_setRow8 hb (k := w.heap.size) (by omega) (row64 4 (words z))))
  clear h1 h2 hb
  (try simp only [Act.put])
  revert hall
  generalize w7.setRow w.heap.size (row64 4 (words z)) = w8
  rintro ⟨h1, h2, hb⟩
  have c3 := h1.cellW 3 (by omega)
  have d3 := h1.frozen 3
  go_upto_region 7 with (fail)
  have h1' := (h1.setW 3 P 3).congr (f' := words P) fun i hi => by
    by_cases h3 : i = 3
    · subst h3; simp
    · simp only [h3, if_false]
      unfold words; rw [LP.out i (by omega)]
  have h2' := h2.far (p := ⟨w.heap.size, 3, none⟩) (by first | (simp; done) | (simp; omega)) (.int .u64 (wd P 3 : Int))
  have hb' := hb.setCell (p := ⟨w.heap.size, 3, none⟩) (by first | (simp; done) | (simp; omega)) (.int .u64 (wd P 3 : Int))
  clear h1 h2 hb c3 d3
  revert h1' h2' hb'
  generalize w8.setCell ⟨w.heap.size, 3, none⟩ (.int .u64 (wd P 3 : Int)) = w9
  intro h1 h2 hb
  go_wp2_with (first | (refine wpList_load_Blk rfl 59 _ rfl w.heap.size rfl 59 _ h1 isRowNb (sizeNbR _) ?_) | (refine wpList_store_Row64 rfl 59 _ _ rfl (w.heap.size + 1) rfl 59 4 _ _ rfl h2 sizeNb ?_))
  exact ret_W4 rfl rfl (w.heap.size + 1) 59 _ rfl (h2.setRow _) isRowNb (sizeNbR _) ⟨rfl, below_setRow8 hb (by omega) _⟩
end Go.Proofs.Ytchojbhmfjibmaa
