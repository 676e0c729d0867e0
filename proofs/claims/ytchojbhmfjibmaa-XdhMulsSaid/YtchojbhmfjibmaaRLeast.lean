/- The document's p, below, Least, Minus, Small (mkrleast.py writes this text). -/
import Derived.Test.YtchojbhmfjibmaaRPlus
namespace Go.Proofs.Ytchojbhmfjibmaa
open Go Go.RowKit
set_option maxRecDepth 100000

theorem pNum : (#[Value.int IntKind.u64 18446744073709551597, Value.int IntKind.u64 18446744073709551615, Value.int IntKind.u64 18446744073709551615, Value.int IntKind.u64 9223372036854775807] : Array Value) = row64 4 (words pN) := by kernel_rfl
theorem smallNum (n : Nat) (h : n < 18446744073709551616) : (#[Value.int IntKind.u64 (n : Int), Value.int IntKind.u64 0, Value.int IntKind.u64 0, Value.int IntKind.u64 0] : Array Value) = row64 4 (words n) := by
  have h0 : wd n 0 = n := by unfold wd; omega
  have h1 : wd n 1 = 0 := by unfold wd; omega
  have h2 : wd n 2 = 0 := by unfold wd; omega
  have h3 : wd n 3 = 0 := by unfold wd; omega
  show _ = #[by64 (words n 0), by64 (words n 1), by64 (words n 2), by64 (words n 3)]
  unfold by64
  rw [words_int, words_int, words_int, words_int, h0, h1, h2, h3]
  rfl

set_option maxHeartbeats 1000000 in
theorem rp_c (w : World) : Calls Try.prog 29 #[] w fun e w' => e = .returned (.agg (row64 4 (words pN))) ∧ Below w.heap.size w w' := by
  go_enter Try.func29, Try.ntmps29
  go_upto_region 1 with (fail)
  rw [zero4]
  have hz := Row64.new w 36 4 fun _ => 0
  have hb : Below w.heap.size w (w.alloc (.cells (row64 4 fun _ => 0) 36)) := (Below.refl _ _).alloc (Nat.le_refl _) _
  revert hz hb
  generalize w.alloc (.cells (row64 4 fun _ => 0) 36) = w1
  intro hz hb
  go_wp2_with (first | (refine wpList_store_Row64 rfl 36 _ _ rfl w.heap.size rfl 36 4 _ (words pN) (congrArg Value.agg pNum) hz sizeNum ?_))
  exact ret_Row64 rfl rfl _ _ 4 _ _ rfl (hz.setRow _) undNum sizeNum ⟨rfl, below_setRow8 hb (by omega) _⟩

set_option maxHeartbeats 1000000 in
theorem rsmall_c (n : Nat) (hn : n < 18446744073709551616) (w : World) : Calls Try.prog 22 #[.int .u64 (n : Int)] w fun e w' => e = .returned (.agg (row64 4 (words n))) ∧ Below w.heap.size w w' := by
  go_enter Try.func22, Try.ntmps22
  go_upto_region 1 with (fail)
  rw [zero4]
  have hz := Row64.new w 36 4 fun _ => 0
  have hb : Below w.heap.size w (w.alloc (.cells (row64 4 fun _ => 0) 36)) := (Below.refl _ _).alloc (Nat.le_refl _) _
  revert hz hb
  generalize w.alloc (.cells (row64 4 fun _ => 0) 36) = w1
  intro hz hb
  go_wp2_with (first | (refine wpList_store_Row64 rfl 36 _ _ rfl w.heap.size rfl 36 4 _ (words n) (congrArg Value.agg (smallNum n hn)) hz sizeNum ?_))
  exact ret_Row64 rfl rfl _ _ 4 _ _ rfl (hz.setRow _) undNum sizeNum ⟨rfl, below_setRow8 hb (by omega) _⟩

theorem two_new64 (w : World) (t : TypeId) (f g : Nat → UInt64) :
    Row64 ((w.alloc (.cells (row64 4 f) t)).alloc (.cells (row64 4 g) t)) w.heap.size t 4 f ∧ Row64 ((w.alloc (.cells (row64 4 f) t)).alloc (.cells (row64 4 g) t)) (w.heap.size + 1) t 4 g ∧
      Below w.heap.size w ((w.alloc (.cells (row64 4 f) t)).alloc (.cells (row64 4 g) t)) := by
  have h := Row64.new (w.alloc (.cells (row64 4 f) t)) t 4 g
  simp only [World.size_alloc] at h
  exact ⟨(Row64.new w t 4 f).alloc _, h, ((Below.refl _ _).alloc (Nat.le_refl _) _).alloc (by simp) _⟩

/-- From the upper words down: what the first word that differs tells. -/
theorem up_eq {a b m : Nat} (h : a / 2 ^ (64 * (m + 1)) = b / 2 ^ (64 * (m + 1))) (hw : wd a m = wd b m) : a / 2 ^ (64 * m) = b / 2 ^ (64 * m) := by
  rw [pow64_succ, ← Nat.div_div_eq_div_mul, ← Nat.div_div_eq_div_mul] at h
  unfold wd at hw
  omega
theorem up_lt {a b m : Nat} (h : a / 2 ^ (64 * (m + 1)) = b / 2 ^ (64 * (m + 1))) (hw : wd a m ≠ wd b m) : decide (a < b) = decide (wd a m < wd b m) := by
  rw [pow64_succ, ← Nat.div_div_eq_div_mul, ← Nat.div_div_eq_div_mul] at h
  have e : a < b ↔ wd a m < wd b m := by
    unfold wd at *
    have h1 := Nat.div_add_mod a (2 ^ (64 * m))
    have h2 := Nat.div_add_mod b (2 ^ (64 * m))
    have h3 := low_lt a m
    have h4 := low_lt b m
    generalize a % 2 ^ (64 * m) = p at *
    generalize b % 2 ^ (64 * m) = q at *
    generalize 2 ^ (64 * m) = K at *
    generalize a / K = x at *
    generalize b / K = y at *
    have e1 : a < b ↔ x < y := by
      constructor
      · intro hab
        apply Classical.byContradiction
        intro hn
        have : x ≠ y := by rintro rfl; exact hw rfl
        have h5 : (y + 1) * K ≤ x * K := Nat.mul_le_mul_right K (by omega)
        rw [Nat.add_mul, Nat.one_mul, Nat.mul_comm y, Nat.mul_comm x] at h5
        omega
      · intro hxy
        have h5 : (x + 1) * K ≤ y * K := Nat.mul_le_mul_right K hxy
        rw [Nat.add_mul, Nat.one_mul, Nat.mul_comm y, Nat.mul_comm x] at h5
        omega
    rw [e1]; omega
  rw [decide_eq_decide, e]

set_option maxHeartbeats 4000000 in
theorem rbelow_c (a b : Nat) (ha : a < 2 ^ 256) (hb : b < 2 ^ 256) (w : World) : Calls Try.prog 28 #[(.agg (row64 4 (words (a)))), (.agg (row64 4 (words (b))))] w fun e w' => e = .returned (.bool (decide (a < b))) ∧ Below w.heap.size w w' := by
  go_enter Try.func28, Try.ntmps28
  go_wp2
  have hz := two_new64 w 36 (words a) (words b)
  revert hz
  generalize (w.alloc (.cells (row64 4 (words a)) 36)).alloc (.cells (row64 4 (words b)) 36) = w1
  intro hz
  go_loopw [5] (fun i_ wr => ∃ m : Nat, m ≤ 4 ∧ i_ = .int .i64 ((m : Int) - 1) ∧ a / 2 ^ (64 * m) = b / 2 ^ (64 * m) ∧ Row64 wr w.heap.size 36 4 (words a) ∧ Row64 wr (w.heap.size + 1) 36 4 (words b) ∧ Below w.heap.size w wr) (fun i_ _ => (intOf i_ + 1).toNat)
  case atStart =>
    obtain ⟨h1, h2, h3⟩ := hz
    exact ⟨4, by omega, rfl, by rw [Nat.div_eq_of_lt ha, Nat.div_eq_of_lt hb], h1, h2, h3⟩
  case round =>
    clear hz
    obtain ⟨m', hm, rfl, hu, h1, h2, h3⟩ := hrel
    rcases Nat.eq_zero_or_pos m' with hm0 | hm0
    · subst hm0
      have e : a = b := by simpa using hu
      have hd : decide (a < b) = false := by subst e; simp
      have HD := Lib.hid hd
      clear hd hu e
      go_wp2
      go_ret
      exact ⟨by rw [HD.out]; rfl, h3⟩
    · obtain ⟨m, rfl⟩ : ∃ m, m' = m + 1 := ⟨m' - 1, by omega⟩
      have hm4 : m < 4 := by omega
      have hi : (((m + 1 : Nat) : Int) - 1) = (m : Int) := by omega
      rw [hi]
      have i0 : (0 : Int) ≤ (m : Int) := by omega
      have i00 : ¬ (m : Int) < 0 := by omega
      by_cases hw : wd a m = wd b m
      · have hu2 := up_eq hu hw
        have hne : ((wd a m : Int) != (wd b m : Int)) = false := by simp [hw]
        clear hu hw
        go_wp2
        refine region_seq (fun W' => Row64 W' w.heap.size 36 4 (words a) ∧ Row64 W' (w.heap.size + 1) 36 4 (words b) ∧ Below w.heap.size w W') mixedOrders (by kernel_rfl) (by simp) ⟨h1.drew, h2.drew, h3.drew⟩ ?_
        clear h1 h2 h3
        refine Seq.next ?_ (Sure.val rfl (fun w' hS => ?_)) ?_
        rotate_left 1
        · clear hS
          go_simp
          rfl
        simp only [Act.put, List.setIfInBounds_toArray, List.set_cons_zero, List.set_cons_succ]
        refine Seq.next ?_ (Sure.val rfl (fun w' hS => ?_)) ?_
        rotate_left 1
        · have bm : (m : Int) < 4 := by omega
          clear hS
          go_simp
          rfl
        simp only [Act.put, List.setIfInBounds_toArray, List.set_cons_zero, List.set_cons_succ]
        refine Seq.next ?_ (Sure.val rfl (fun w' hS => ?_)) ?_
        rotate_left 1
        · have c := hS.1.cellW m hm4
          clear hS
          go_simp
          rfl
        simp only [Act.put, List.setIfInBounds_toArray, List.set_cons_zero, List.set_cons_succ]
        refine Seq.next ?_ (Sure.val rfl (fun w' hS => ?_)) ?_
        rotate_left 1
        · clear hS
          go_simp
          rfl
        simp only [Act.put, List.setIfInBounds_toArray, List.set_cons_zero, List.set_cons_succ]
        refine Seq.next ?_ (Sure.val rfl (fun w' hS => ?_)) ?_
        rotate_left 1
        · have bm : (m : Int) < 4 := by omega
          clear hS
          go_simp
          rfl
        simp only [Act.put, List.setIfInBounds_toArray, List.set_cons_zero, List.set_cons_succ]
        refine Seq.next ?_ (Sure.val rfl (fun w' hS => ?_)) ?_
        rotate_left 1
        · have c := hS.2.1.cellW m hm4
          clear hS
          go_simp
          rfl
        simp only [Act.put, List.setIfInBounds_toArray, List.set_cons_zero, List.set_cons_succ]
        refine Seq.last rfl fun w' hS => ?_
        obtain ⟨h1, h2, h3⟩ := hS
        go_simp
        go_wp2
        go_roundw
        case rel => exact ⟨m, by omega, by go_num, hu2, h1, h2, h3⟩
        case measure => first | (simp [intOf]; done) | (simp [intOf]; omega)
      · have hd := up_lt hu hw
        have hne : ((wd a m : Int) != (wd b m : Int)) = true := by simp; omega
        have HD := Lib.hid hd
        clear hd hu hw
        go_wp2
        refine region_seq (fun W' => Row64 W' w.heap.size 36 4 (words a) ∧ Row64 W' (w.heap.size + 1) 36 4 (words b) ∧ Below w.heap.size w W') mixedOrders (by kernel_rfl) (by simp) ⟨h1.drew, h2.drew, h3.drew⟩ ?_
        clear h1 h2 h3
        refine Seq.next ?_ (Sure.val rfl (fun w' hS => ?_)) ?_
        rotate_left 1
        · clear hS
          go_simp
          rfl
        simp only [Act.put, List.setIfInBounds_toArray, List.set_cons_zero, List.set_cons_succ]
        refine Seq.next ?_ (Sure.val rfl (fun w' hS => ?_)) ?_
        rotate_left 1
        · have bm : (m : Int) < 4 := by omega
          clear hS
          go_simp
          rfl
        simp only [Act.put, List.setIfInBounds_toArray, List.set_cons_zero, List.set_cons_succ]
        refine Seq.next ?_ (Sure.val rfl (fun w' hS => ?_)) ?_
        rotate_left 1
        · have c := hS.1.cellW m hm4
          clear hS
          go_simp
          rfl
        simp only [Act.put, List.setIfInBounds_toArray, List.set_cons_zero, List.set_cons_succ]
        refine Seq.next ?_ (Sure.val rfl (fun w' hS => ?_)) ?_
        rotate_left 1
        · clear hS
          go_simp
          rfl
        simp only [Act.put, List.setIfInBounds_toArray, List.set_cons_zero, List.set_cons_succ]
        refine Seq.next ?_ (Sure.val rfl (fun w' hS => ?_)) ?_
        rotate_left 1
        · have bm : (m : Int) < 4 := by omega
          clear hS
          go_simp
          rfl
        simp only [Act.put, List.setIfInBounds_toArray, List.set_cons_zero, List.set_cons_succ]
        refine Seq.next ?_ (Sure.val rfl (fun w' hS => ?_)) ?_
        rotate_left 1
        · have c := hS.2.1.cellW m hm4
          clear hS
          go_simp
          rfl
        simp only [Act.put, List.setIfInBounds_toArray, List.set_cons_zero, List.set_cons_succ]
        refine Seq.last rfl fun w' hS => ?_
        obtain ⟨h1, h2, h3⟩ := hS
        go_simp
        go_wp2
        refine region_seq (fun W' => Row64 W' w.heap.size 36 4 (words a) ∧ Row64 W' (w.heap.size + 1) 36 4 (words b) ∧ Below w.heap.size w W') mixedOrders (by kernel_rfl) (by simp) ⟨h1.drew, h2.drew, h3.drew⟩ ?_
        clear h1 h2 h3
        refine Seq.next ?_ (Sure.val rfl (fun w' hS => ?_)) ?_
        rotate_left 1
        · clear hS
          go_simp
          rfl
        simp only [Act.put, List.setIfInBounds_toArray, List.set_cons_zero, List.set_cons_succ]
        refine Seq.next ?_ (Sure.val rfl (fun w' hS => ?_)) ?_
        rotate_left 1
        · have bm : (m : Int) < 4 := by omega
          clear hS
          go_simp
          rfl
        simp only [Act.put, List.setIfInBounds_toArray, List.set_cons_zero, List.set_cons_succ]
        refine Seq.next ?_ (Sure.val rfl (fun w' hS => ?_)) ?_
        rotate_left 1
        · have c := hS.1.cellW m hm4
          clear hS
          go_simp
          rfl
        simp only [Act.put, List.setIfInBounds_toArray, List.set_cons_zero, List.set_cons_succ]
        refine Seq.next ?_ (Sure.val rfl (fun w' hS => ?_)) ?_
        rotate_left 1
        · clear hS
          go_simp
          rfl
        simp only [Act.put, List.setIfInBounds_toArray, List.set_cons_zero, List.set_cons_succ]
        refine Seq.next ?_ (Sure.val rfl (fun w' hS => ?_)) ?_
        rotate_left 1
        · have bm : (m : Int) < 4 := by omega
          clear hS
          go_simp
          rfl
        simp only [Act.put, List.setIfInBounds_toArray, List.set_cons_zero, List.set_cons_succ]
        refine Seq.next ?_ (Sure.val rfl (fun w' hS => ?_)) ?_
        rotate_left 1
        · have c := hS.2.1.cellW m hm4
          clear hS
          go_simp
          rfl
        simp only [Act.put, List.setIfInBounds_toArray, List.set_cons_zero, List.set_cons_succ]
        refine Seq.next (.bool (decide (wd a m < wd b m))) (Sure.val rfl (fun w' hS => ?_)) ?_
        · clear hS
          go_simp
        simp only [Act.put, List.setIfInBounds_toArray, List.set_cons_zero, List.set_cons_succ]
        refine Seq.last rfl fun w' hS => ?_
        obtain ⟨h1, h2, h3⟩ := hS
        go_simp
        go_wp2
        go_ret
        exact ⟨by rw [HD.out]; rfl, h3⟩

set_option maxHeartbeats 4000000 in
theorem rleast_c (a : Nat) (ha : a < 2 ^ 256) (w : World) : Calls Try.prog 38 #[(.agg (row64 4 (words (a))))] w fun e w' => e = .returned (.agg (row64 4 (words (a % pN)))) ∧ Below w.heap.size w w' := by
  have hp : pN < 2 ^ 256 := by decide
  go_enter Try.func38, Try.ntmps38
  go_wp2
  rw [zero4]
  have hz := two_new64 w 36 (words a) (fun _ => 0)
  revert hz
  generalize (w.alloc (.cells (row64 4 (words a)) 36)).alloc (.cells (row64 4 fun _ => 0) 36) = w1
  intro hz
  go_loopw [] (fun wr => ∃ u : Nat, u < 2 ^ 256 ∧ u % pN = a % pN ∧ Row64 wr w.heap.size 36 4 (words u) ∧ Row64 wr (w.heap.size + 1) 36 4 (fun _ => 0) ∧ Below w.heap.size w wr) (fun wr => valAt wr w.heap.size)
  case atStart =>
    obtain ⟨h1, h2, h3⟩ := hz
    exact ⟨a, ha, rfl, h1, h2, h3⟩
  case round =>
    clear hz
    obtain ⟨u, hu, hm, h1, h2, h3⟩ := hrel
    have hv := valAt_row h1 hu
    have HV := Lib.hid hv
    clear hv
    by_cases hlt : u < pN
    · have hd : decide (u < pN) = true := by simpa using hlt
      have hres := Lib.hid (show a % pN = u by rw [← hm, Nat.mod_eq_of_lt hlt])
      clear hm
      go_wp2
      refine region_seq (fun W' => Row64 W' w.heap.size 36 4 (words u) ∧ Row64 W' (w.heap.size + 1) 36 4 (fun _ => 0) ∧ Below w.heap.size w W') mixedOrders (by kernel_rfl) (by simp) ⟨h1.drew, h2.drew, h3.drew⟩ ?_
      clear h1 h2 h3
      refine Seq.next (.agg (row64 4 (words (u)))) (Sure.load_Row64 rfl 36 _ rfl w.heap.size rfl 36 4 _ _ (fun w' hS => hS.1) undNum sizeNum) ?_
      simp only [Act.put, List.setIfInBounds_toArray, List.set_cons_zero, List.set_cons_succ]
      refine Seq.next (.agg (row64 4 (words (pN)))) (Sure.call (f := 29) (args := #[]) rfl (fun w' => by go_simp) (fun w' hS => (rp_c w').mono fun e w'' h => ⟨h.1, hS.1.below h.2 hS.1.lt, hS.2.1.below h.2 hS.2.1.lt, hS.2.2.trans (h.2.mono hS.2.2.size)⟩)) ?_
      simp only [Act.put, List.setIfInBounds_toArray, List.set_cons_zero, List.set_cons_succ]
      refine Seq.next (.bool true) (Sure.call (f := 28) (args := #[(.agg (row64 4 (words (u)))), (.agg (row64 4 (words (pN))))]) rfl (fun w' => by go_simp) (fun w' hS => hd ▸ (rbelow_c u pN hu hp w').mono fun e w'' h => ⟨h.1, hS.1.below h.2 hS.1.lt, hS.2.1.below h.2 hS.2.1.lt, hS.2.2.trans (h.2.mono hS.2.2.size)⟩)) ?_
      simp only [Act.put, List.setIfInBounds_toArray, List.set_cons_zero, List.set_cons_succ]
      refine Seq.last rfl fun w' hS => ?_
      obtain ⟨h1, h2, h3⟩ := hS
      go_simp
      go_wp2_with (first | (refine wpList_load_Row64 rfl 36 _ rfl w.heap.size rfl 36 4 _ _ h1 undNum sizeNum ?_) | (refine wpList_store_Row64 rfl 36 _ _ rfl (w.heap.size + 1) rfl 36 4 _ _ rfl h2 sizeNum ?_))
      exact ret_Row64 rfl rfl _ _ 4 _ _ rfl (h2.setRow _) undNum sizeNum ⟨by rw [hres.out], below_setRow8 h3 (by omega) _⟩
    · have hd : decide (u < pN) = false := by simpa using hlt
      go_wp2
      refine region_seq (fun W' => Row64 W' w.heap.size 36 4 (words u) ∧ Row64 W' (w.heap.size + 1) 36 4 (fun _ => 0) ∧ Below w.heap.size w W') mixedOrders (by kernel_rfl) (by simp) ⟨h1.drew, h2.drew, h3.drew⟩ ?_
      clear h1 h2 h3
      refine Seq.next (.agg (row64 4 (words (u)))) (Sure.load_Row64 rfl 36 _ rfl w.heap.size rfl 36 4 _ _ (fun w' hS => hS.1) undNum sizeNum) ?_
      simp only [Act.put, List.setIfInBounds_toArray, List.set_cons_zero, List.set_cons_succ]
      refine Seq.next (.agg (row64 4 (words (pN)))) (Sure.call (f := 29) (args := #[]) rfl (fun w' => by go_simp) (fun w' hS => (rp_c w').mono fun e w'' h => ⟨h.1, hS.1.below h.2 hS.1.lt, hS.2.1.below h.2 hS.2.1.lt, hS.2.2.trans (h.2.mono hS.2.2.size)⟩)) ?_
      simp only [Act.put, List.setIfInBounds_toArray, List.set_cons_zero, List.set_cons_succ]
      refine Seq.next (.bool false) (Sure.call (f := 28) (args := #[(.agg (row64 4 (words (u)))), (.agg (row64 4 (words (pN))))]) rfl (fun w' => by go_simp) (fun w' hS => hd ▸ (rbelow_c u pN hu hp w').mono fun e w'' h => ⟨h.1, hS.1.below h.2 hS.1.lt, hS.2.1.below h.2 hS.2.1.lt, hS.2.2.trans (h.2.mono hS.2.2.size)⟩)) ?_
      simp only [Act.put, List.setIfInBounds_toArray, List.set_cons_zero, List.set_cons_succ]
      refine Seq.last rfl fun w' hS => ?_
      obtain ⟨h1, h2, h3⟩ := hS
      go_simp
      go_wp2
      refine region_seq (fun W' => Row64 W' w.heap.size 36 4 (words u) ∧ Row64 W' (w.heap.size + 1) 36 4 (fun _ => 0) ∧ Below w.heap.size w W') mixedOrders (by kernel_rfl) (by simp) ⟨h1.drew, h2.drew, h3.drew⟩ ?_
      clear h1 h2 h3
      refine Seq.next (.agg (row64 4 (words (u)))) (Sure.load_Row64 rfl 36 _ rfl w.heap.size rfl 36 4 _ _ (fun w' hS => hS.1) undNum sizeNum) ?_
      simp only [Act.put, List.setIfInBounds_toArray, List.set_cons_zero, List.set_cons_succ]
      refine Seq.next (.agg (row64 4 (words (pN)))) (Sure.call (f := 29) (args := #[]) rfl (fun w' => by go_simp) (fun w' hS => (rp_c w').mono fun e w'' h => ⟨h.1, hS.1.below h.2 hS.1.lt, hS.2.1.below h.2 hS.2.1.lt, hS.2.2.trans (h.2.mono hS.2.2.size)⟩)) ?_
      simp only [Act.put, List.setIfInBounds_toArray, List.set_cons_zero, List.set_cons_succ]
      refine Seq.next (.agg (row64 4 (words (u - pN)))) (Sure.call (f := 37) (args := #[(.agg (row64 4 (words (u)))), (.agg (row64 4 (words (pN))))]) rfl (fun w' => by go_simp) (fun w' hS => (rless_c u pN (by omega) w').mono fun e w'' h => ⟨h.1, hS.1.below h.2 hS.1.lt, hS.2.1.below h.2 hS.2.1.lt, hS.2.2.trans (h.2.mono hS.2.2.size)⟩)) ?_
      simp only [Act.put, List.setIfInBounds_toArray, List.set_cons_zero, List.set_cons_succ]
      refine Seq.store_Row64 rfl 36 _ _ rfl w.heap.size rfl 36 4 (words u) (words (u - pN)) rfl (fun w' hS => hS.1) sizeNum (fun w' hS => ?_)
      obtain ⟨h1, h2, h3⟩ := hS
      have h1' := h1.setRow (words (u - pN))
      have h2' := h2.setRow_far (k := w.heap.size) (by omega) (row64 4 (words (u - pN)))
      have h3' := below_setRow8 h3 (k := w.heap.size) (by omega) (row64 4 (words (u - pN)))
      clear h1 h2 h3
      revert h1' h2' h3'
      generalize w'.setRow w.heap.size (row64 4 (words (u - pN))) = w5
      intro h1 h2 h3
      simp only [Act.put]
      go_wp2
      go_roundw
      case rel => exact ⟨u - pN, by omega, by rw [← hm, ← Nat.mod_eq_sub_mod (by omega)], h1, h2, h3⟩
      case measure =>
        rw [valAt_row h1 (by omega), HV.out]
        have : 0 < pN := by decide
        omega

theorem three_new64 (w : World) (t : TypeId) (f g k : Nat → UInt64) :
    Row64 (((w.alloc (.cells (row64 4 f) t)).alloc (.cells (row64 4 g) t)).alloc (.cells (row64 4 k) t)) w.heap.size t 4 f ∧ Row64 (((w.alloc (.cells (row64 4 f) t)).alloc (.cells (row64 4 g) t)).alloc (.cells (row64 4 k) t)) (w.heap.size + 1) t 4 g ∧
      Row64 (((w.alloc (.cells (row64 4 f) t)).alloc (.cells (row64 4 g) t)).alloc (.cells (row64 4 k) t)) (w.heap.size + 1 + 1) t 4 k ∧ Below w.heap.size w (((w.alloc (.cells (row64 4 f) t)).alloc (.cells (row64 4 g) t)).alloc (.cells (row64 4 k) t)) := by
  obtain ⟨h1, h2, h3⟩ := two_new64 w t f g
  have h := Row64.new ((w.alloc (.cells (row64 4 f) t)).alloc (.cells (row64 4 g) t)) t 4 k
  simp only [World.size_alloc] at h
  exact ⟨h1.alloc _, h2.alloc _, h, h3.alloc (by simp; omega) _⟩

set_option maxHeartbeats 4000000 in
theorem rminus_c (a b : Nat) (ha : a < 2 ^ 256) (hb : b < 2 ^ 256) (w : World) : Calls Try.prog 24 #[(.agg (row64 4 (words (a)))), (.agg (row64 4 (words (b))))] w fun e w' => e = .returned (.agg (row64 4 (words (fv (a + (pN - b % pN)))))) ∧ Below w.heap.size w w' := by
  have hp : pN < 2 ^ 256 := by decide
  have hbp : b % pN ≤ pN := Nat.le_of_lt (Nat.mod_lt _ (by decide))
  have hd : pN - b % pN < 2 ^ 256 := by omega
  go_enter Try.func24, Try.ntmps24
  go_wp2
  rw [zero4]
  have hz := three_new64 w 36 (words a) (words b) (fun _ => 0)
  revert hz
  generalize ((w.alloc (.cells (row64 4 (words a)) 36)).alloc (.cells (row64 4 (words b)) 36)).alloc (.cells (row64 4 fun _ => 0) 36) = w1
  rintro ⟨h1, h2, h3, h4⟩
  refine region_seq (fun W' => Row64 W' w.heap.size 36 4 (words a) ∧ Row64 W' (w.heap.size + 1) 36 4 (words b) ∧ Row64 W' (w.heap.size + 1 + 1) 36 4 (fun _ => 0) ∧ Below w.heap.size w W') mixedOrders (by kernel_rfl) (by simp) ⟨h1.drew, h2.drew, h3.drew, h4.drew⟩ ?_
  clear h1 h2 h3 h4
  refine Seq.next (.agg (row64 4 (words (a)))) (Sure.load_Row64 rfl 36 _ rfl w.heap.size rfl 36 4 _ _ (fun w' hS => hS.1) undNum sizeNum) ?_
  simp only [Act.put, List.setIfInBounds_toArray, List.set_cons_zero, List.set_cons_succ]
  refine Seq.next (.agg (row64 4 (words (pN)))) (Sure.call (f := 29) (args := #[]) rfl (fun w' => by go_simp) (fun w' hS => (rp_c w').mono fun e w'' h => ⟨h.1, hS.1.below h.2 hS.1.lt, hS.2.1.below h.2 hS.2.1.lt, hS.2.2.1.below h.2 hS.2.2.1.lt, hS.2.2.2.trans (h.2.mono hS.2.2.2.size)⟩)) ?_
  simp only [Act.put, List.setIfInBounds_toArray, List.set_cons_zero, List.set_cons_succ]
  refine Seq.next (.agg (row64 4 (words (b)))) (Sure.load_Row64 rfl 36 _ rfl (w.heap.size + 1) rfl 36 4 _ _ (fun w' hS => hS.2.1) undNum sizeNum) ?_
  simp only [Act.put, List.setIfInBounds_toArray, List.set_cons_zero, List.set_cons_succ]
  refine Seq.next (.agg (row64 4 (words (b % pN)))) (Sure.call (f := 38) (args := #[(.agg (row64 4 (words (b))))]) rfl (fun w' => by go_simp) (fun w' hS => (rleast_c b hb w').mono fun e w'' h => ⟨h.1, hS.1.below h.2 hS.1.lt, hS.2.1.below h.2 hS.2.1.lt, hS.2.2.1.below h.2 hS.2.2.1.lt, hS.2.2.2.trans (h.2.mono hS.2.2.2.size)⟩)) ?_
  simp only [Act.put, List.setIfInBounds_toArray, List.set_cons_zero, List.set_cons_succ]
  refine Seq.next (.agg (row64 4 (words (pN - b % pN)))) (Sure.call (f := 37) (args := #[(.agg (row64 4 (words (pN)))), (.agg (row64 4 (words (b % pN))))]) rfl (fun w' => by go_simp) (fun w' hS => (rless_c pN (b % pN) hbp w').mono fun e w'' h => ⟨h.1, hS.1.below h.2 hS.1.lt, hS.2.1.below h.2 hS.2.1.lt, hS.2.2.1.below h.2 hS.2.2.1.lt, hS.2.2.2.trans (h.2.mono hS.2.2.2.size)⟩)) ?_
  simp only [Act.put, List.setIfInBounds_toArray, List.set_cons_zero, List.set_cons_succ]
  refine Seq.next (.agg (row64 4 (words (fv (a + (pN - b % pN)))))) (Sure.call (f := 23) (args := #[(.agg (row64 4 (words (a)))), (.agg (row64 4 (words (pN - b % pN))))]) rfl (fun w' => by go_simp) (fun w' hS => (rplus_c a (pN - b % pN) ha hd w').mono fun e w'' h => ⟨h.1, hS.1.below h.2 hS.1.lt, hS.2.1.below h.2 hS.2.1.lt, hS.2.2.1.below h.2 hS.2.2.1.lt, hS.2.2.2.trans (h.2.mono hS.2.2.2.size)⟩)) ?_
  simp only [Act.put, List.setIfInBounds_toArray, List.set_cons_zero, List.set_cons_succ]
  refine Seq.store_Row64 rfl 36 _ _ rfl (w.heap.size + 1 + 1) rfl 36 4 (fun _ => 0) (words (fv (a + (pN - b % pN)))) rfl (fun w' hS => hS.2.2.1) sizeNum (fun w' hS => ?_)
  have hr := hS.2.2.1.setRow (words (fv (a + (pN - b % pN))))
  have hb := below_setRow8 hS.2.2.2 (k := w.heap.size + 1 + 1) (by omega) (row64 4 (words (fv (a + (pN - b % pN)))))
  clear hS
  revert hr hb
  generalize w'.setRow (w.heap.size + 1 + 1) (row64 4 (words (fv (a + (pN - b % pN))))) = w4
  intro hr hb
  simp only [Act.put]
  go_wp2
  exact ret_Row64 rfl rfl _ _ 4 _ _ rfl hr undNum sizeNum ⟨rfl, hb⟩
end Go.Proofs.Ytchojbhmfjibmaa
