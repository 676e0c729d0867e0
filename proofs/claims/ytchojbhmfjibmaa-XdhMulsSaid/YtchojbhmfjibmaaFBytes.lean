/- The program's word and read: bytes to words (mkfbytes.py writes this text). -/
import Derived.Test.YtchojbhmfjibmaaFSum
import Derived.Test.YtchojbhmfjibmaaRFrom
namespace Go.Proofs.Ytchojbhmfjibmaa
open Go Go.RowKit
set_option maxRecDepth 100000

theorem wrap8 (x : UInt8) : IntKind.u64.wrap ((x.toNat : Int)) = (x.toNat : Int) := by have := x.toNat_lt; rw [IntKind.wrap_u64]; omega
/-- One byte more beside those below it. -/
theorem or_step (b : Nat → UInt8) (m : Nat) (h : m < 8) : lv b m ||| (b m).toNat * 2 ^ (8 * m) = lv b (m + 1) ∧ lv b m < 18446744073709551616 ∧ (b m).toNat * 2 ^ (8 * m) < 18446744073709551616 := by
  have h1 := lv_lt b m
  have h2 := (b m).toNat_lt
  have e : (256 : Nat) ^ m = 2 ^ (8 * m) := by rw [show (256 : Nat) = 2 ^ 8 from rfl, ← Nat.pow_mul]
  have h3 : (2 : Nat) ^ (8 * m) ≤ 2 ^ 56 := Nat.pow_le_pow_right (by omega) (by omega)
  have h4 : (b m).toNat * 2 ^ (8 * m) ≤ 255 * 2 ^ 56 := Nat.mul_le_mul (by omega) h3
  rw [e] at h1
  refine ⟨?_, by omega, by omega⟩
  have h5 := Nat.shiftLeft_add_eq_or_of_lt h1 (b m).toNat
  rw [Nat.shiftLeft_eq] at h5
  show _ = lv b m + (b m).toNat * 256 ^ m
  rw [Nat.or_comm, ← h5, e, Nat.add_comm]

set_option maxHeartbeats 8000000 in
theorem word_c (b : Nat → UInt8) (g o c : Nat) (w : World) (hc : ∀ j, j < 8 → w.cell? ⟨g, o + j, none⟩ = some (.int .u8 ((b j).toNat : Int))) : Calls Try.prog 56 #[.slice (some ⟨g, o, none⟩) 8 c] w fun e w' =>
    e = .returned (.int .u64 (lv b 8 : Int)) ∧ (∀ j, j < 8 → w'.cell? ⟨g, o + j, none⟩ = some (.int .u8 ((b j).toNat : Int))) ∧ Below w.heap.size w w' := by
  go_enter Try.func56, Try.ntmps56
  go_upto_region 1 with (fail)
  refine region_seq (fun W' => (∀ j, j < 8 → W'.cell? ⟨g, o + j, none⟩ = some (.int .u8 ((b j).toNat : Int))) ∧ Below w.heap.size w W') mixedOrders (by kernel_rfl) (by simp) ⟨hc, (Below.refl _ _).drew⟩ ?_
  clear hc
  refine Seq.next ?_ (Sure.val rfl (fun w' hS => ?_)) ?_
  rotate_left 1
  · clear hS
    go_simp
    rfl
  simp only [Act.put, List.setIfInBounds_toArray, List.set_cons_zero, List.set_cons_succ]
  refine Seq.next ?_ (Sure.val rfl (fun w' hS => ?_)) ?_
  rotate_left 1
  · clear hS
    go_simp
    rfl
  simp only [Act.put, List.setIfInBounds_toArray, List.set_cons_zero, List.set_cons_succ]
  refine Seq.next ?_ (Sure.val rfl (fun w' hS => ?_)) ?_
  rotate_left 1
  · have c := hS.1 0 (by omega)
    rw [Nat.add_zero] at c
    clear hS
    go_simp
    rfl
  simp only [Act.put, List.setIfInBounds_toArray, List.set_cons_zero, List.set_cons_succ]
  refine Seq.next (.int .u64 ((b 0).toNat : Int)) (Sure.val rfl (fun w' hS => ?_)) ?_
  · have e := wrap8 (b 0)
    clear hS
    go_simp
  simp only [Act.put, List.setIfInBounds_toArray, List.set_cons_zero, List.set_cons_succ]
  refine Seq.next ?_ (Sure.val rfl (fun w' hS => ?_)) ?_
  rotate_left 1
  · clear hS
    go_simp
    rfl
  simp only [Act.put, List.setIfInBounds_toArray, List.set_cons_zero, List.set_cons_succ]
  refine Seq.next ?_ (Sure.val rfl (fun w' hS => ?_)) ?_
  rotate_left 1
  · clear hS
    go_simp
    rfl
  simp only [Act.put, List.setIfInBounds_toArray, List.set_cons_zero, List.set_cons_succ]
  refine Seq.next ?_ (Sure.val rfl (fun w' hS => ?_)) ?_
  rotate_left 1
  · have c := hS.1 1 (by omega)
    clear hS
    go_simp
    rfl
  simp only [Act.put, List.setIfInBounds_toArray, List.set_cons_zero, List.set_cons_succ]
  refine Seq.next (.int .u64 ((b 1).toNat : Int)) (Sure.val rfl (fun w' hS => ?_)) ?_
  · have e := wrap8 (b 1)
    clear hS
    go_simp
  simp only [Act.put, List.setIfInBounds_toArray, List.set_cons_zero, List.set_cons_succ]
  refine Seq.next (.int .u64 (((b 1).toNat * 2 ^ 8 : Nat) : Int)) (Sure.val rfl (fun w' hS => ?_)) ?_
  · have hs := (b 1).toNat_lt
    clear hS
    go_simp
    rw [IntKind.wrap_u64]
    omega
  simp only [Act.put, List.setIfInBounds_toArray, List.set_cons_zero, List.set_cons_succ]
  refine Seq.next (.int .u64 (lv b 2 : Int)) (Sure.val rfl (fun w' hS => ?_)) ?_
  · have hs := Lib.hid (or_step b 1 (by omega))
    clear hS
    go_simp
    rw [show ((b 0).toNat : Int) = ((lv b 1 : Nat) : Int) by simp [lv]]
    rw [show ((b 1).toNat : Int) * 256 = (((b 1).toNat * 2 ^ (8 * 1) : Nat) : Int) by omega, u64_or_nat _ _ hs.out.2.1 hs.out.2.2, hs.out.1]
  simp only [Act.put, List.setIfInBounds_toArray, List.set_cons_zero, List.set_cons_succ]
  refine Seq.next ?_ (Sure.val rfl (fun w' hS => ?_)) ?_
  rotate_left 1
  · clear hS
    go_simp
    rfl
  simp only [Act.put, List.setIfInBounds_toArray, List.set_cons_zero, List.set_cons_succ]
  refine Seq.next ?_ (Sure.val rfl (fun w' hS => ?_)) ?_
  rotate_left 1
  · clear hS
    go_simp
    rfl
  simp only [Act.put, List.setIfInBounds_toArray, List.set_cons_zero, List.set_cons_succ]
  refine Seq.next ?_ (Sure.val rfl (fun w' hS => ?_)) ?_
  rotate_left 1
  · have c := hS.1 2 (by omega)
    clear hS
    go_simp
    rfl
  simp only [Act.put, List.setIfInBounds_toArray, List.set_cons_zero, List.set_cons_succ]
  refine Seq.next (.int .u64 ((b 2).toNat : Int)) (Sure.val rfl (fun w' hS => ?_)) ?_
  · have e := wrap8 (b 2)
    clear hS
    go_simp
  simp only [Act.put, List.setIfInBounds_toArray, List.set_cons_zero, List.set_cons_succ]
  refine Seq.next (.int .u64 (((b 2).toNat * 2 ^ 16 : Nat) : Int)) (Sure.val rfl (fun w' hS => ?_)) ?_
  · have hs := (b 2).toNat_lt
    clear hS
    go_simp
    rw [IntKind.wrap_u64]
    omega
  simp only [Act.put, List.setIfInBounds_toArray, List.set_cons_zero, List.set_cons_succ]
  refine Seq.next (.int .u64 (lv b 3 : Int)) (Sure.val rfl (fun w' hS => ?_)) ?_
  · have hs := Lib.hid (or_step b 2 (by omega))
    clear hS
    go_simp
    rw [show ((b 2).toNat : Int) * 65536 = (((b 2).toNat * 2 ^ (8 * 2) : Nat) : Int) by omega, u64_or_nat _ _ hs.out.2.1 hs.out.2.2, hs.out.1]
  simp only [Act.put, List.setIfInBounds_toArray, List.set_cons_zero, List.set_cons_succ]
  refine Seq.next ?_ (Sure.val rfl (fun w' hS => ?_)) ?_
  rotate_left 1
  · clear hS
    go_simp
    rfl
  simp only [Act.put, List.setIfInBounds_toArray, List.set_cons_zero, List.set_cons_succ]
  refine Seq.next ?_ (Sure.val rfl (fun w' hS => ?_)) ?_
  rotate_left 1
  · clear hS
    go_simp
    rfl
  simp only [Act.put, List.setIfInBounds_toArray, List.set_cons_zero, List.set_cons_succ]
  refine Seq.next ?_ (Sure.val rfl (fun w' hS => ?_)) ?_
  rotate_left 1
  · have c := hS.1 3 (by omega)
    clear hS
    go_simp
    rfl
  simp only [Act.put, List.setIfInBounds_toArray, List.set_cons_zero, List.set_cons_succ]
  refine Seq.next (.int .u64 ((b 3).toNat : Int)) (Sure.val rfl (fun w' hS => ?_)) ?_
  · have e := wrap8 (b 3)
    clear hS
    go_simp
  simp only [Act.put, List.setIfInBounds_toArray, List.set_cons_zero, List.set_cons_succ]
  refine Seq.next (.int .u64 (((b 3).toNat * 2 ^ 24 : Nat) : Int)) (Sure.val rfl (fun w' hS => ?_)) ?_
  · have hs := (b 3).toNat_lt
    clear hS
    go_simp
    rw [IntKind.wrap_u64]
    omega
  simp only [Act.put, List.setIfInBounds_toArray, List.set_cons_zero, List.set_cons_succ]
  refine Seq.next (.int .u64 (lv b 4 : Int)) (Sure.val rfl (fun w' hS => ?_)) ?_
  · have hs := Lib.hid (or_step b 3 (by omega))
    clear hS
    go_simp
    rw [show ((b 3).toNat : Int) * 16777216 = (((b 3).toNat * 2 ^ (8 * 3) : Nat) : Int) by omega, u64_or_nat _ _ hs.out.2.1 hs.out.2.2, hs.out.1]
  simp only [Act.put, List.setIfInBounds_toArray, List.set_cons_zero, List.set_cons_succ]
  refine Seq.next ?_ (Sure.val rfl (fun w' hS => ?_)) ?_
  rotate_left 1
  · clear hS
    go_simp
    rfl
  simp only [Act.put, List.setIfInBounds_toArray, List.set_cons_zero, List.set_cons_succ]
  refine Seq.next ?_ (Sure.val rfl (fun w' hS => ?_)) ?_
  rotate_left 1
  · clear hS
    go_simp
    rfl
  simp only [Act.put, List.setIfInBounds_toArray, List.set_cons_zero, List.set_cons_succ]
  refine Seq.next ?_ (Sure.val rfl (fun w' hS => ?_)) ?_
  rotate_left 1
  · have c := hS.1 4 (by omega)
    clear hS
    go_simp
    rfl
  simp only [Act.put, List.setIfInBounds_toArray, List.set_cons_zero, List.set_cons_succ]
  refine Seq.next (.int .u64 ((b 4).toNat : Int)) (Sure.val rfl (fun w' hS => ?_)) ?_
  · have e := wrap8 (b 4)
    clear hS
    go_simp
  simp only [Act.put, List.setIfInBounds_toArray, List.set_cons_zero, List.set_cons_succ]
  refine Seq.next (.int .u64 (((b 4).toNat * 2 ^ 32 : Nat) : Int)) (Sure.val rfl (fun w' hS => ?_)) ?_
  · have hs := (b 4).toNat_lt
    clear hS
    go_simp
    rw [IntKind.wrap_u64]
    omega
  simp only [Act.put, List.setIfInBounds_toArray, List.set_cons_zero, List.set_cons_succ]
  refine Seq.next (.int .u64 (lv b 5 : Int)) (Sure.val rfl (fun w' hS => ?_)) ?_
  · have hs := Lib.hid (or_step b 4 (by omega))
    clear hS
    go_simp
    rw [show ((b 4).toNat : Int) * 4294967296 = (((b 4).toNat * 2 ^ (8 * 4) : Nat) : Int) by omega, u64_or_nat _ _ hs.out.2.1 hs.out.2.2, hs.out.1]
  simp only [Act.put, List.setIfInBounds_toArray, List.set_cons_zero, List.set_cons_succ]
  refine Seq.next ?_ (Sure.val rfl (fun w' hS => ?_)) ?_
  rotate_left 1
  · clear hS
    go_simp
    rfl
  simp only [Act.put, List.setIfInBounds_toArray, List.set_cons_zero, List.set_cons_succ]
  refine Seq.next ?_ (Sure.val rfl (fun w' hS => ?_)) ?_
  rotate_left 1
  · clear hS
    go_simp
    rfl
  simp only [Act.put, List.setIfInBounds_toArray, List.set_cons_zero, List.set_cons_succ]
  refine Seq.next ?_ (Sure.val rfl (fun w' hS => ?_)) ?_
  rotate_left 1
  · have c := hS.1 5 (by omega)
    clear hS
    go_simp
    rfl
  simp only [Act.put, List.setIfInBounds_toArray, List.set_cons_zero, List.set_cons_succ]
  refine Seq.next (.int .u64 ((b 5).toNat : Int)) (Sure.val rfl (fun w' hS => ?_)) ?_
  · have e := wrap8 (b 5)
    clear hS
    go_simp
  simp only [Act.put, List.setIfInBounds_toArray, List.set_cons_zero, List.set_cons_succ]
  refine Seq.next (.int .u64 (((b 5).toNat * 2 ^ 40 : Nat) : Int)) (Sure.val rfl (fun w' hS => ?_)) ?_
  · have hs := (b 5).toNat_lt
    clear hS
    go_simp
    rw [IntKind.wrap_u64]
    omega
  simp only [Act.put, List.setIfInBounds_toArray, List.set_cons_zero, List.set_cons_succ]
  refine Seq.next (.int .u64 (lv b 6 : Int)) (Sure.val rfl (fun w' hS => ?_)) ?_
  · have hs := Lib.hid (or_step b 5 (by omega))
    clear hS
    go_simp
    rw [show ((b 5).toNat : Int) * 1099511627776 = (((b 5).toNat * 2 ^ (8 * 5) : Nat) : Int) by omega, u64_or_nat _ _ hs.out.2.1 hs.out.2.2, hs.out.1]
  simp only [Act.put, List.setIfInBounds_toArray, List.set_cons_zero, List.set_cons_succ]
  refine Seq.next ?_ (Sure.val rfl (fun w' hS => ?_)) ?_
  rotate_left 1
  · clear hS
    go_simp
    rfl
  simp only [Act.put, List.setIfInBounds_toArray, List.set_cons_zero, List.set_cons_succ]
  refine Seq.next ?_ (Sure.val rfl (fun w' hS => ?_)) ?_
  rotate_left 1
  · clear hS
    go_simp
    rfl
  simp only [Act.put, List.setIfInBounds_toArray, List.set_cons_zero, List.set_cons_succ]
  refine Seq.next ?_ (Sure.val rfl (fun w' hS => ?_)) ?_
  rotate_left 1
  · have c := hS.1 6 (by omega)
    clear hS
    go_simp
    rfl
  simp only [Act.put, List.setIfInBounds_toArray, List.set_cons_zero, List.set_cons_succ]
  refine Seq.next (.int .u64 ((b 6).toNat : Int)) (Sure.val rfl (fun w' hS => ?_)) ?_
  · have e := wrap8 (b 6)
    clear hS
    go_simp
  simp only [Act.put, List.setIfInBounds_toArray, List.set_cons_zero, List.set_cons_succ]
  refine Seq.next (.int .u64 (((b 6).toNat * 2 ^ 48 : Nat) : Int)) (Sure.val rfl (fun w' hS => ?_)) ?_
  · have hs := (b 6).toNat_lt
    clear hS
    go_simp
    rw [IntKind.wrap_u64]
    omega
  simp only [Act.put, List.setIfInBounds_toArray, List.set_cons_zero, List.set_cons_succ]
  refine Seq.next (.int .u64 (lv b 7 : Int)) (Sure.val rfl (fun w' hS => ?_)) ?_
  · have hs := Lib.hid (or_step b 6 (by omega))
    clear hS
    go_simp
    rw [show ((b 6).toNat : Int) * 281474976710656 = (((b 6).toNat * 2 ^ (8 * 6) : Nat) : Int) by omega, u64_or_nat _ _ hs.out.2.1 hs.out.2.2, hs.out.1]
  simp only [Act.put, List.setIfInBounds_toArray, List.set_cons_zero, List.set_cons_succ]
  refine Seq.next ?_ (Sure.val rfl (fun w' hS => ?_)) ?_
  rotate_left 1
  · clear hS
    go_simp
    rfl
  simp only [Act.put, List.setIfInBounds_toArray, List.set_cons_zero, List.set_cons_succ]
  refine Seq.next ?_ (Sure.val rfl (fun w' hS => ?_)) ?_
  rotate_left 1
  · clear hS
    go_simp
    rfl
  simp only [Act.put, List.setIfInBounds_toArray, List.set_cons_zero, List.set_cons_succ]
  refine Seq.next ?_ (Sure.val rfl (fun w' hS => ?_)) ?_
  rotate_left 1
  · have c := hS.1 7 (by omega)
    clear hS
    go_simp
    rfl
  simp only [Act.put, List.setIfInBounds_toArray, List.set_cons_zero, List.set_cons_succ]
  refine Seq.next (.int .u64 ((b 7).toNat : Int)) (Sure.val rfl (fun w' hS => ?_)) ?_
  · have e := wrap8 (b 7)
    clear hS
    go_simp
  simp only [Act.put, List.setIfInBounds_toArray, List.set_cons_zero, List.set_cons_succ]
  refine Seq.next (.int .u64 (((b 7).toNat * 2 ^ 56 : Nat) : Int)) (Sure.val rfl (fun w' hS => ?_)) ?_
  · have hs := (b 7).toNat_lt
    clear hS
    go_simp
    rw [IntKind.wrap_u64]
    omega
  simp only [Act.put, List.setIfInBounds_toArray, List.set_cons_zero, List.set_cons_succ]
  refine Seq.next (.int .u64 (lv b 8 : Int)) (Sure.val rfl (fun w' hS => ?_)) ?_
  · have hs := Lib.hid (or_step b 7 (by omega))
    clear hS
    go_simp
    rw [show ((b 7).toNat : Int) * 72057594037927936 = (((b 7).toNat * 2 ^ (8 * 7) : Nat) : Int) by omega, u64_or_nat _ _ hs.out.2.1 hs.out.2.2, hs.out.1]
  simp only [Act.put, List.setIfInBounds_toArray, List.set_cons_zero, List.set_cons_succ]
  refine Seq.last rfl fun w' hS => ?_
  obtain ⟨h1, h2⟩ := hS
  go_simp
  go_wp2
  go_ret
  exact ⟨rfl, h1, h2⟩

theorem fourWb (L : Nat) : (#[Value.int IntKind.u64 (wd L 0 : Int), Value.int IntKind.u64 (wd L 1 : Int), Value.int IntKind.u64 (wd L 2 : Int), Value.int IntKind.u64 (wd L 3 : Int)] : Array Value) = row64 4 (words L) := by
  show _ = #[by64 (words L 0), by64 (words L 1), by64 (words L 2), by64 (words L 3)]
  unfold by64
  rw [words_int, words_int, words_int, words_int]
theorem lv_add (b : Nat → UInt8) (m : Nat) : ∀ n, lv b (m + n) = lv b m + 256 ^ m * lv (fun j => b (m + j)) n
  | 0 => by simp [lv]
  | n + 1 => by
    show lv b (m + n) + (b (m + n)).toNat * 256 ^ (m + n) = lv b m + 256 ^ m * (lv (fun j => b (m + j)) n + (b (m + n)).toNat * 256 ^ n)
    rw [lv_add b m n, Nat.mul_add, Nat.pow_add]
    rw [show (b (m + n)).toNat * (256 ^ m * 256 ^ n) = 256 ^ m * ((b (m + n)).toNat * 256 ^ n) by ac_rfl]
    omega
theorem lv_wd (b : Nat → UInt8) (i : Nat) (hi : i < 4) : lv (fun j => b (8 * i + j)) 8 = wd (lv b 32) i := by
  have h1 := lv_add b (8 * i) (32 - 8 * i)
  rw [show 8 * i + (32 - 8 * i) = 32 by omega] at h1
  have h2 := lv_add (fun j => b (8 * i + j)) 8 (24 - 8 * i)
  rw [show 8 + (24 - 8 * i) = 32 - 8 * i by omega] at h2
  have hl := lv_lt b (8 * i)
  have hl8 := lv_lt (fun j => b (8 * i + j)) 8
  have e : 2 ^ (64 * i) = 256 ^ (8 * i) := by rw [show (256 : Nat) = 2 ^ 8 from rfl, ← Nat.pow_mul]; congr 1; omega
  unfold wd
  rw [e, h1, Nat.add_mul_div_left _ _ (Nat.pow_pos (by decide)), Nat.div_eq_of_lt hl, Nat.zero_add, h2]
  rw [show (256 : Nat) ^ 8 = 18446744073709551616 by decide] at *
  rw [Nat.add_mul_mod_self_left, Nat.mod_eq_of_lt hl8]

set_option maxHeartbeats 4000000 in
theorem read_c (b : Nat → UInt8) (w : World) : Calls Try.prog 47 #[.agg (row 32 b)] w fun e w' => e = .returned (.agg (row64 4 (words (lv b 32)))) ∧ Below w.heap.size w w' := by
  go_enter Try.func47, Try.ntmps47
  go_upto_region 1 with (fail)
  rw [zeroNb]
  have h1 := (Row.new w 22 32 b).alloc (.cells (row64 4 fun _ => 0) 59)
  have h2 := Row64.new (w.alloc (.cells (row 32 b) 22)) 59 4 fun _ => 0
  have hb : Below w.heap.size w ((w.alloc (.cells (row 32 b) 22)).alloc (.cells (row64 4 fun _ => 0) 59)) := ((Below.refl _ _).alloc (Nat.le_refl _) _).alloc (by simp) _
  simp only [World.size_alloc] at h2
  have hall := And.intro h1 (And.intro h2 hb)
  clear h1 h2 hb
  revert hall
  generalize (w.alloc (.cells (row 32 b) 22)).alloc (.cells (row64 4 fun _ => 0) 59) = w1
  rintro ⟨h1, h2, hb⟩
  refine region_seq (fun W' => Row W' w.heap.size 22 32 b ∧ Row64 W' (w.heap.size + 1) 59 4 (fun _ => 0) ∧ Below w.heap.size w W') mixedOrders (by kernel_rfl) (by simp) ⟨h1.drew, h2.drew, hb.drew⟩ ?_
  clear h1 h2 hb
  refine Seq.next ?_ (Sure.val rfl (fun w' hS => ?_)) ?_
  rotate_left 1
  · clear hS
    go_simp
    rfl
  simp only [Act.put, List.setIfInBounds_toArray, List.set_cons_zero, List.set_cons_succ]
  refine Seq.next (.int .u64 (wd (lv b 32) 0 : Int)) (Sure.call (f := 56) (args := #[.slice (some ⟨w.heap.size, 0, none⟩) 8 32]) rfl (fun w' => by go_simp) (fun w' hS => (lv_wd b 0 (by omega)) ▸ (word_c (fun j => b (8 * 0 + j)) w.heap.size 0 32 w' (fun j hj => hS.1.cell (0 + j) (by omega))).mono fun e w'' h => ⟨h.1, hS.1.below h.2.2 hS.1.lt, hS.2.1.below h.2.2 hS.2.1.lt, hS.2.2.trans (h.2.2.mono hS.2.2.size)⟩)) ?_
  simp only [Act.put, List.setIfInBounds_toArray, List.set_cons_zero, List.set_cons_succ]
  refine Seq.next ?_ (Sure.val rfl (fun w' hS => ?_)) ?_
  rotate_left 1
  · clear hS
    go_simp
    rfl
  simp only [Act.put, List.setIfInBounds_toArray, List.set_cons_zero, List.set_cons_succ]
  refine Seq.next (.int .u64 (wd (lv b 32) 1 : Int)) (Sure.call (f := 56) (args := #[.slice (some ⟨w.heap.size, 8, none⟩) 8 24]) rfl (fun w' => by go_simp) (fun w' hS => (lv_wd b 1 (by omega)) ▸ (word_c (fun j => b (8 * 1 + j)) w.heap.size 8 24 w' (fun j hj => hS.1.cell (8 + j) (by omega))).mono fun e w'' h => ⟨h.1, hS.1.below h.2.2 hS.1.lt, hS.2.1.below h.2.2 hS.2.1.lt, hS.2.2.trans (h.2.2.mono hS.2.2.size)⟩)) ?_
  simp only [Act.put, List.setIfInBounds_toArray, List.set_cons_zero, List.set_cons_succ]
  refine Seq.next ?_ (Sure.val rfl (fun w' hS => ?_)) ?_
  rotate_left 1
  · clear hS
    go_simp
    rfl
  simp only [Act.put, List.setIfInBounds_toArray, List.set_cons_zero, List.set_cons_succ]
  refine Seq.next (.int .u64 (wd (lv b 32) 2 : Int)) (Sure.call (f := 56) (args := #[.slice (some ⟨w.heap.size, 16, none⟩) 8 16]) rfl (fun w' => by go_simp) (fun w' hS => (lv_wd b 2 (by omega)) ▸ (word_c (fun j => b (8 * 2 + j)) w.heap.size 16 16 w' (fun j hj => hS.1.cell (16 + j) (by omega))).mono fun e w'' h => ⟨h.1, hS.1.below h.2.2 hS.1.lt, hS.2.1.below h.2.2 hS.2.1.lt, hS.2.2.trans (h.2.2.mono hS.2.2.size)⟩)) ?_
  simp only [Act.put, List.setIfInBounds_toArray, List.set_cons_zero, List.set_cons_succ]
  refine Seq.next ?_ (Sure.val rfl (fun w' hS => ?_)) ?_
  rotate_left 1
  · clear hS
    go_simp
    rfl
  simp only [Act.put, List.setIfInBounds_toArray, List.set_cons_zero, List.set_cons_succ]
  refine Seq.next (.int .u64 (wd (lv b 32) 3 : Int)) (Sure.call (f := 56) (args := #[.slice (some ⟨w.heap.size, 24, none⟩) 8 8]) rfl (fun w' => by go_simp) (fun w' hS => (lv_wd b 3 (by omega)) ▸ (word_c (fun j => b (8 * 3 + j)) w.heap.size 24 8 w' (fun j hj => hS.1.cell (24 + j) (by omega))).mono fun e w'' h => ⟨h.1, hS.1.below h.2.2 hS.1.lt, hS.2.1.below h.2.2 hS.2.1.lt, hS.2.2.trans (h.2.2.mono hS.2.2.size)⟩)) ?_
  simp only [Act.put, List.setIfInBounds_toArray, List.set_cons_zero, List.set_cons_succ]
  refine Seq.next (.agg (row64 4 (words (lv b 32)))) (Sure.val rfl (fun w' hS => ?_)) ?_
  · clear hS
    go_simp
    exact fourWb _
  simp only [Act.put, List.setIfInBounds_toArray, List.set_cons_zero, List.set_cons_succ]
  refine Seq.store_Row64 rfl 59 _ _ rfl (w.heap.size + 1) rfl 59 4 (fun _ => 0) (words (lv b 32)) rfl (fun w' hS => hS.2.1) sizeNb (fun w' hS => ?_)
  have hr := hS.2.1.setRow (words (lv b 32))
  have hb := below_setRow8 hS.2.2 (k := w.heap.size + 1) (by omega) (row64 4 (words (lv b 32)))
  clear hS
  revert hr hb
  generalize w'.setRow (w.heap.size + 1) (row64 4 (words (lv b 32))) = w4
  intro hr hb
  simp only [Act.put]
  go_wp2
  exact ret_W4 rfl rfl (w.heap.size + 1) 59 _ rfl hr isRowNb (sizeNbR _) ⟨rfl, hb⟩
end Go.Proofs.Ytchojbhmfjibmaa
