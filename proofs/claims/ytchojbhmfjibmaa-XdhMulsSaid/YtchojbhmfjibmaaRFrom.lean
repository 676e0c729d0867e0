/- The document's From and Bytes: 32 bytes and four words (mkrfrom.py writes this text). -/
import Derived.Test.YtchojbhmfjibmaaRLeast
import Derived.Test.YtchojbhmfjibmaaNmB
namespace Go.Proofs.Ytchojbhmfjibmaa
open Go Go.RowKit
set_option maxRecDepth 100000

theorem und32B : Try.prog.underlying 22 = some (.array 32 5) := by kernel_rfl
theorem size32B : (Try.prog.info? 22).map (·.size) = some 32 := by kernel_rfl
theorem z32B : (Try.prog.info? 22).bind (·.zero) = some (.agg (row 32 fun _ => 0)) := by kernel_rfl

set_option maxHeartbeats 4000000 in
theorem rfrom_c (b : Nat → UInt8) (w : World) : Calls Try.prog 21 #[.agg (row 32 b)] w fun e w' => e = .returned (.agg (row64 4 (words (lv b 32)))) ∧ Below w.heap.size w w' := by
  go_enter Try.func21, Try.ntmps21
  go_wp2
  rw [zero4]
  have hz : Row (((w.alloc (.cells (row 32 b) 22)).alloc (.cells (row64 4 fun _ => 0) 36)).alloc (.cells (row64 4 fun _ => 0) 36)) w.heap.size 22 32 b := ((Row.new w 22 32 b).alloc _).alloc _
  have hz1 := (Row64.new (w.alloc (.cells (row 32 b) 22)) 36 4 fun _ => 0).alloc (.cells (row64 4 fun _ => 0) 36)
  have hz2 := Row64.new ((w.alloc (.cells (row 32 b) 22)).alloc (.cells (row64 4 fun _ => 0) 36)) 36 4 fun _ => 0
  have hb0 : Below w.heap.size w (((w.alloc (.cells (row 32 b) 22)).alloc (.cells (row64 4 fun _ => 0) 36)).alloc (.cells (row64 4 fun _ => 0) 36)) := (((Below.refl _ _).alloc (Nat.le_refl _) _).alloc (by simp) _).alloc (by simp; omega) _
  simp only [World.size_alloc] at hz1 hz2
  have hall := And.intro hz (And.intro hz1 (And.intro hz2 hb0))
  clear hz hz1 hz2 hb0
  revert hall
  generalize ((w.alloc (.cells (row 32 b) 22)).alloc (.cells (row64 4 fun _ => 0) 36)).alloc (.cells (row64 4 fun _ => 0) 36) = w1
  intro hall
  go_loopw [4, 5] (fun _ i_ wr => ∃ m : Nat, m ≤ 32 ∧ i_ = .int .i64 m ∧ Row wr w.heap.size 22 32 b ∧ Row64 wr (w.heap.size + 1) 36 4 (fun _ => 0) ∧ Row64 wr (w.heap.size + 1 + 1) 36 4 (words (lv b m)) ∧ Below w.heap.size w wr) (fun _ i_ _ => 32 - (intOf i_).toNat)
  case atStart =>
    obtain ⟨h1, h2, h3, h4⟩ := hall
    exact ⟨0, by omega, rfl, h1, h2, h3.congr fun i _ => by unfold words wd; simp [lv], h4⟩
  case round =>
    clear hall
    obtain ⟨m, hm, rfl, h1, h2, h3, h4⟩ := hrel
    by_cases hm32 : m < 32
    · have i1 : (m : Int) < 32 := by omega
      obtain ⟨q, hq⟩ : ∃ q, q = m / 8 := ⟨_, rfl⟩
      obtain ⟨r, hr⟩ : ∃ r, r = m % 8 := ⟨_, rfl⟩
      obtain ⟨k, hk⟩ : ∃ k, k = 8 * r := ⟨_, rfl⟩
      have hq4n : q < 4 := by omega
      have hq4 : (q : Int) < 4 := by omega
      have hor : wd (lv b m) q ||| (b m).toNat * 2 ^ k = wd (lv b (m + 1)) q := by rw [hk, hr, hq]; exact lv_or b m
      have hfar := fun i (h : i ≠ q) => lv_word_far b m i (by rw [← hq]; exact h)
      have hlt8 := (b m).toNat_lt
      have hk56 : k < 57 := by omega
      have hsm : (b m).toNat * 2 ^ k < 18446744073709551616 := by
        have h1 : (2 : Nat) ^ k ≤ 2 ^ 56 := Nat.pow_le_pow_right (by omega) (by omega)
        have := Nat.mul_le_mul (show (b m).toNat ≤ 255 by omega) h1
        omega
      have HQ := Lib.hid (And.intro (show (m : Int).tdiv 8 = (q : Int) by rw [Int.tdiv_eq_ediv_of_nonneg (by omega)]; omega) (And.intro (show (m : Int) / 8 = (q : Int) by omega) (show IntKind.i64.wrap (q : Int) = (q : Int) by rw [IntWalk.i64_in _ (by omega)])))
      have HR := Lib.hid (And.intro (show (m : Int).tmod 8 = (r : Int) by rw [Int.tmod_eq_emod_of_nonneg (by omega)]; omega) (And.intro (show (m : Int) % 8 = (r : Int) by omega) (show IntKind.i64.wrap (r : Int) = (r : Int) by rw [IntWalk.i64_in _ (by omega)])))
      have HB := Lib.hid (show IntKind.u64.wrap ((b m).toNat : Int) = ((b m).toNat : Int) by rw [IntKind.wrap_u64]; omega)
      have HK := Lib.hid (And.intro (show IntKind.i64.wrap (8 * (r : Int)) = (k : Int) by rw [IntWalk.i64_in _ (by omega)]; omega) (And.intro (show 8 * (r : Int) = (k : Int) by omega) (show IntKind.i64.wrap (k : Int) = (k : Int) by rw [IntWalk.i64_in _ (by omega)])))
      have HK2 := Lib.hid (show IntKind.u64.wrap (k : Int) = (k : Int) by rw [IntKind.wrap_u64]; omega)
      have HS := Lib.hid hsm
      have HO := Lib.hid hor
      have HF := Lib.hid hfar
      clear hq hr hk hor hfar hlt8 hsm
      go_wp2
      refine region_seq (fun W' => Row W' w.heap.size 22 32 b ∧ Row64 W' (w.heap.size + 1) 36 4 (fun _ => 0) ∧ Row64 W' (w.heap.size + 1 + 1) 36 4 (words (lv b m)) ∧ Below w.heap.size w W') mixedOrders (by kernel_rfl) (by simp) ⟨h1.drew, h2.drew, h3.drew, h4.drew⟩ ?_
      clear h1 h2 h3 h4
      refine Seq.next ?_ (Sure.val rfl (fun w' hS => ?_)) ?_
      rotate_left 1
      · clear hS
        go_simp
        rfl
      simp only [Act.put, List.setIfInBounds_toArray, List.set_cons_zero, List.set_cons_succ]
      refine Seq.next (.int .i64 (q : Int)) (Sure.val rfl (fun w' hS => ?_)) ?_
      · have e := HQ.out
        clear hS
        go_simp
      simp only [Act.put, List.setIfInBounds_toArray, List.set_cons_zero, List.set_cons_succ]
      refine Seq.next ?_ (Sure.val rfl (fun w' hS => ?_)) ?_
      rotate_left 1
      · clear hS
        go_simp
        rfl
      simp only [Act.put, List.setIfInBounds_toArray, List.set_cons_zero, List.set_cons_succ]
      refine Seq.next (.int .i64 (q : Int)) (Sure.val rfl (fun w' hS => ?_)) ?_
      · have e := HQ.out
        clear hS
        go_simp
      simp only [Act.put, List.setIfInBounds_toArray, List.set_cons_zero, List.set_cons_succ]
      refine Seq.next ?_ (Sure.val rfl (fun w' hS => ?_)) ?_
      rotate_left 1
      · have bq := hq4
        clear hS
        go_simp
        rfl
      simp only [Act.put, List.setIfInBounds_toArray, List.set_cons_zero, List.set_cons_succ]
      refine Seq.next ?_ (Sure.val rfl (fun w' hS => ?_)) ?_
      rotate_left 1
      · have c := hS.2.2.1.cellW q hq4n
        clear hS
        go_simp
        rfl
      simp only [Act.put, List.setIfInBounds_toArray, List.set_cons_zero, List.set_cons_succ]
      refine Seq.next ?_ (Sure.val rfl (fun w' hS => ?_)) ?_
      rotate_left 1
      · clear hS
        go_simp
        rfl
      simp only [Act.put, List.setIfInBounds_toArray, List.set_cons_zero, List.set_cons_succ]
      refine Seq.next ?_ (Sure.val rfl (fun w' hS => ?_)) ?_
      rotate_left 1
      · have bm := i1
        clear hS
        go_simp
        rfl
      simp only [Act.put, List.setIfInBounds_toArray, List.set_cons_zero, List.set_cons_succ]
      refine Seq.next ?_ (Sure.val rfl (fun w' hS => ?_)) ?_
      rotate_left 1
      · have c := hS.1.cell m hm32
        clear hS
        go_simp
        rfl
      simp only [Act.put, List.setIfInBounds_toArray, List.set_cons_zero, List.set_cons_succ]
      refine Seq.next (.int .u64 ((b m).toNat : Int)) (Sure.val rfl (fun w' hS => ?_)) ?_
      · have e := HB.out
        clear hS
        go_simp
      simp only [Act.put, List.setIfInBounds_toArray, List.set_cons_zero, List.set_cons_succ]
      refine Seq.next ?_ (Sure.val rfl (fun w' hS => ?_)) ?_
      rotate_left 1
      · clear hS
        go_simp
        rfl
      simp only [Act.put, List.setIfInBounds_toArray, List.set_cons_zero, List.set_cons_succ]
      refine Seq.next (.int .i64 (r : Int)) (Sure.val rfl (fun w' hS => ?_)) ?_
      · have e := HR.out
        clear hS
        go_simp
      simp only [Act.put, List.setIfInBounds_toArray, List.set_cons_zero, List.set_cons_succ]
      refine Seq.next (.int .i64 (k : Int)) (Sure.val rfl (fun w' hS => ?_)) ?_
      · have e := HK.out
        clear hS
        go_simp
      simp only [Act.put, List.setIfInBounds_toArray, List.set_cons_zero, List.set_cons_succ]
      refine Seq.next (.int .u64 (k : Int)) (Sure.val rfl (fun w' hS => ?_)) ?_
      · have e := HK2.out
        clear hS
        go_simp
      simp only [Act.put, List.setIfInBounds_toArray, List.set_cons_zero, List.set_cons_succ]
      refine Seq.next (.int .u64 (((b m).toNat * 2 ^ k : Nat) : Int)) (Sure.val rfl (fun w' hS => ?_)) ?_
      · clear hS
        go_simp
        have e2 : (((b m).toNat : Int) * 2 ^ k) = (((b m).toNat * 2 ^ k : Nat) : Int) := by rw [Int.natCast_mul, Int.natCast_pow]; rfl
        have hs := HS.out
        rw [e2, IntKind.wrap_u64]
        omega
      simp only [Act.put, List.setIfInBounds_toArray, List.set_cons_zero, List.set_cons_succ]
      refine Seq.next (.int .u64 (wd (lv b (m + 1)) q : Int)) (Sure.val rfl (fun w' hS => ?_)) ?_
      · clear hS
        go_simp
        have e2 : (((b m).toNat : Int) * 2 ^ k) = (((b m).toNat * 2 ^ k : Nat) : Int) := by rw [Int.natCast_mul, Int.natCast_pow]; rfl
        rw [e2, u64_or_nat _ _ (wd_lt _ _) HS.out, HO.out]
      simp only [Act.put, List.setIfInBounds_toArray, List.set_cons_zero, List.set_cons_succ]
      refine Seq.next ?_ (Sure.val rfl (fun w' hS => ?_)) ?_
      rotate_left 1
      · have bq := hq4
        clear hS
        go_simp
        rfl
      simp only [Act.put, List.setIfInBounds_toArray, List.set_cons_zero, List.set_cons_succ]
      refine Seq.last rfl fun w' hS => ?_
      obtain ⟨h1, h2, h3, h4⟩ := hS
      have c := h3.cell q hq4n
      have c3 := h3.frozen q
      go_simp
      clear c c3
      have h := (h3.setW q (lv b (m + 1)) q).congr (f' := words (lv b (m + 1))) fun i hi => by
        by_cases hiq : i = q
        · subst hiq; simp
        · simp only [hiq, if_false]
          unfold words; rw [HF.out i hiq]
      have h1 := h1.far (p := ⟨w.heap.size + 1 + 1, q, none⟩) (by first | (simp; done) | (simp; omega)) (.int .u64 (wd (lv b (m + 1)) q : Int))
      have h2 := h2.far (p := ⟨w.heap.size + 1 + 1, q, none⟩) (by first | (simp; done) | (simp; omega)) (.int .u64 (wd (lv b (m + 1)) q : Int))
      have h4 := h4.setCell (p := ⟨w.heap.size + 1 + 1, q, none⟩) (by first | (simp; done) | (simp; omega)) (.int .u64 (wd (lv b (m + 1)) q : Int))
      clear h3
      revert h h1 h2 h4
      generalize w'.setCell ⟨w.heap.size + 1 + 1, q, none⟩ (.int .u64 (wd (lv b (m + 1)) q : Int)) = w5
      intro h h1 h2 h4
      go_wp2
      go_roundw
      case rel => exact ⟨m + 1, by omega, by go_num, h1, h2, h, h4⟩
      case measure => first | (simp [intOf]; done) | (simp [intOf]; omega)
    · obtain rfl : m = 32 := by omega
      rw [show ((32 : Nat) : Int) = 32 from rfl]
      go_wp2_with (first | (refine wpList_load_Row64 rfl 36 _ rfl (w.heap.size + 1 + 1) rfl 36 4 _ _ h3 undNum sizeNum ?_) | (refine wpList_store_Row64 rfl 36 _ _ rfl (w.heap.size + 1) rfl 36 4 _ _ rfl h2 sizeNum ?_))
      exact ret_Row64 rfl rfl _ _ 4 _ _ rfl (h2.setRow _) undNum sizeNum ⟨rfl, below_setRow8 h4 (by omega) _⟩

/-- A byte of a word, as the walk tells it. -/
theorem byte_int (u m q k : Nat) (hq : q = m / 8) (hk : k = 8 * (m % 8)) : ((wd u q / 2 ^ k : Nat) : Int) % 256 = ((byteN u m).toNat : Int) := by
  rw [byteN_nat, ← byte_of_word, hq, hk]; omega

set_option maxHeartbeats 4000000 in
theorem rbytes_c (a : Nat) (ha : a < 2 ^ 256) (w : World) : Calls Try.prog 26 #[(.agg (row64 4 (words (a))))] w fun e w' => e = .returned (.agg (row 32 (byteN (a % pN)))) ∧ Below w.heap.size w w' := by
  go_enter Try.func26, Try.ntmps26
  go_upto_region 1 with (first | (refine wpList_alloc_Row rfl 22 rfl 32 z32B ?_))
  have hz1 := (Row64.new w 36 4 (words a)).alloc (.cells (row 32 fun _ => 0) 22)
  have hz2 := Row.new (w.alloc (.cells (row64 4 (words a)) 36)) 22 32 fun _ => 0
  have hb0 : Below w.heap.size w ((w.alloc (.cells (row64 4 (words a)) 36)).alloc (.cells (row 32 fun _ => 0) 22)) := ((Below.refl _ _).alloc (Nat.le_refl _) _).alloc (by simp) _
  simp only [World.size_alloc] at hz2
  have hall := And.intro hz1 (And.intro hz2 hb0)
  clear hz1 hz2 hb0
  revert hall
  generalize (w.alloc (.cells (row64 4 (words a)) 36)).alloc (.cells (row 32 fun _ => 0) 22) = w1
  rintro ⟨h1, h2, h3⟩
  have hl := fun W => rleast_c a ha W
  go_upto_region 2 with (first | (refine wpList_load_Row64 rfl 36 _ rfl w.heap.size rfl 36 4 _ _ h1 undNum sizeNum ?_) | (go_at_call 38; refine (hl _).mono ?_; rintro e w5 ⟨rfl, hw5⟩; have h1 := h1.below hw5 h1.lt; have h2 := h2.below hw5 h2.lt; have h3 := h3.trans (hw5.mono h3.size)) | (refine wpList_store_Row64 rfl 36 _ _ rfl w.heap.size rfl 36 4 _ _ rfl h1 sizeNum ?_))
  clear hl
  have hu : a % pN < 2 ^ 256 := Nat.lt_of_lt_of_le (Nat.mod_lt _ (by decide)) (by decide)
  have h1 := h1.setRow (words (a % pN))
  have h2 := h2.setRow_far (k := w.heap.size) (by omega) (row64 4 (words (a % pN)))
  have h3 := below_setRow8 h3 (k := w.heap.size) (by omega) (row64 4 (words (a % pN)))
  simp only [Act.put]
  revert h1 h2 h3
  generalize w5.setRow w.heap.size (row64 4 (words (a % pN))) = w6
  generalize hue : a % pN = u at *
  have HU := Lib.hid hue
  clear hue
  intro h1 h2 h3
  go_upto_region 3 with (first | (refine wpList_alloc_Row rfl 22 rfl 32 z32B ?_))
  have hg : w.heap.size + 1 < w6.heap.size := h2.lt
  have h4 := Row.new w6 22 32 fun _ => 0
  have h1 := h1.alloc (.cells (row 32 fun _ => 0) 22)
  have h2 := h2.alloc (.cells (row 32 fun _ => 0) 22)
  have h3 := h3.alloc h3.size (.cells (row 32 fun _ => 0) 22)
  have hall := And.intro h1 (And.intro h2 (And.intro h3 h4))
  clear h1 h2 h3 h4
  revert hall hg
  generalize w6.alloc (.cells (row 32 fun _ => 0) 22) = w7
  generalize w6.heap.size = g
  intro hg hall
  simp only [Act.put]
  go_wp2
  go_loopw [4, 7] (fun _ i_ wr => ∃ m : Nat, m ≤ 32 ∧ i_ = .int .i64 m ∧ Row64 wr w.heap.size 36 4 (words u) ∧ Row wr (w.heap.size + 1) 22 32 (fun _ => 0) ∧ Below w.heap.size w wr ∧ Row wr g 22 32 (upto m (byteN u) fun _ => 0)) (fun _ i_ _ => 32 - (intOf i_).toNat)
  case atStart =>
    obtain ⟨h1, h2, h3, h4⟩ := hall
    exact ⟨0, by omega, rfl, h1, h2, h3, by rw [upto_zero]; exact h4⟩
  case round =>
    clear hall
    obtain ⟨m, hm, rfl, h1, h2, h3, h4⟩ := hrel
    by_cases hm32 : m < 32
    · have i1 : (m : Int) < 32 := by omega
      obtain ⟨q, hq⟩ : ∃ q, q = m / 8 := ⟨_, rfl⟩
      obtain ⟨r, hr⟩ : ∃ r, r = m % 8 := ⟨_, rfl⟩
      obtain ⟨k, hk⟩ : ∃ k, k = 8 * r := ⟨_, rfl⟩
      have hq4n : q < 4 := by omega
      have hq4 : (q : Int) < 4 := by omega
      have hbyte := byte_int u m q k hq (by rw [hk, hr])
      have hk56 : k < 57 := by omega
      have e1 : (m : Int) / 8 = (q : Int) := by omega
      have e2 : (m : Int) % 8 = (r : Int) := by omega
      have e3 : 8 * (r : Int) = (k : Int) := by omega
      have c1 := h1.cellW q hq4n
      have c2 := h4.cell m hm32
      have c3 := h4.frozen m
      have HB := Lib.hid hbyte
      clear hq hr hk hbyte
      have hb8 : ((wd u q / 2 ^ k : Nat) : Int) % 256 = (wd u q : Int) / 2 ^ k % 256 := by rw [Int.natCast_ediv, Int.natCast_pow]; rfl
      have HB8 := Lib.hid hb8
      clear hb8
      go_wp2
      rw [← HB8.out, HB.out]
      have h := h4.set_ m (byteN u m)
      rw [upto_succ] at h
      refine ⟨⟨m + 1, by omega, by go_num, h1.far (by first | (simp; done) | (simp; omega)) _, h2.far (by first | (simp; done) | (simp; omega)) _, h3.setCell (by first | (simp; done) | (simp; omega)) _, h⟩, ?_⟩
      first | (simp [intOf]; done) | (simp [intOf]; omega)
    · obtain rfl : m = 32 := by omega
      rw [show ((32 : Nat) : Int) = 32 from rfl]
      have h4 := h4.congr (f' := byteN u) fun j hj => upto_all _ _ _ hj
      go_wp2_with (first | (refine wpList_load_Row rfl 22 _ rfl g rfl 22 32 _ _ h4 und32B size32B ?_) | (refine wpList_store_Row rfl 22 _ _ rfl (w.heap.size + 1) rfl 22 32 _ _ rfl h2 size32B ?_))
      exact ret_Row rfl rfl _ _ 32 _ _ rfl (h2.setRow _) und32B size32B ⟨by rw [HU.out], below_setRow8 h3 (by omega) _⟩
end Go.Proofs.Ytchojbhmfjibmaa
