/- The document's AES: a product of two bytes, and the box by the polynomials. -/
import Derived.Test.YtajifdnfibojfaaDoorRPure
import Derived.Test.YtajifdnfibojfaaDoorLeaf
namespace Go.Proofs.YtajifdnfibojfaaDoor
open Go Go.RowKit
set_option maxRecDepth 100000

theorem u8n {a b : Nat} (h : a = b) : Value.int .u8 (a : Int) = .int .u8 (b : Int) := by rw [h]
theorem u8i {a b : Int} (h : a = b) : Value.int .u8 a = .int .u8 b := by rw [h]
theorem ret8 {a b : Int} (h : a = b) : Ending.returned (.int .u8 a) = .returned (.int .u8 b) := by rw [h]
theorem shr1_nat (x : UInt8) : (x >>> 1).toNat = x.toNat / 2 := by
  rw [UInt8.toNat_shiftRight]
  simp [Nat.shiftRight_eq_div_pow]
theorem and1_int (x : UInt8) : bits .and .u8 (x.toNat : Int) 1 = ((x &&& 1).toNat : Int) := by
  have h := x.toNat_lt
  have e := u8_and_nat x.toNat 1 h (by omega)
  rw [show ((1 : Nat) : Int) = 1 by rfl] at e
  rw [e, UInt8.toNat_and]
  rfl
theorem dbl_int2 (x : UInt8) : bits .xor .u8 ((x.toNat : Int) * 2 % 256) (27 * ((x.toNat : Int) / 128)) = ((dbl x).toNat : Int) := by
  rw [← dbl_int, Int.mul_comm 27]

set_option maxHeartbeats 1000000 in
theorem times_c (a b : UInt8) (w : World) : Calls Tryd.prog 46 #[.int .u8 (a.toNat : Int), .int .u8 (b.toNat : Int)] w fun e w' => e = .returned (.int .u8 ((tm a b).toNat : Int)) ∧ w' = w := by
  go_enter Tryd.func46, Tryd.ntmps46
  go_wp2
  go_loop [0, 1, 5, 7] (fun a_ b_ p_ i => ∃ k : Nat, k ≤ 8 ∧ i = .int .i64 k ∧ p_ = .int .u8 ((tmS a b k).1.toNat : Int) ∧ a_ = .int .u8 ((tmS a b k).2.1.toNat : Int) ∧ b_ = .int .u8 ((tmS a b k).2.2.toNat : Int)) (fun _ _ _ i => 8 - (intOf i).toNat)
  case atStart => exact ⟨0, by omega, rfl, rfl, rfl, rfl⟩
  case round =>
    obtain ⟨k, hk, rfl, rfl, rfl, rfl⟩ := hrel
    by_cases hlt : k < 8
    · have hs := tmS_succ a b k
      obtain ⟨p, x, y, hq⟩ : ∃ p x y, tmS a b k = (p, x, y) := ⟨_, _, _, rfl⟩
      rw [hq] at hs
      rw [hq]
      simp only at hs
      have HS := Lib.hid hs
      clear hs hq
      have h1 := lt8 x
      have h2 := lt8 y
      by_cases hb : y &&& 1 = 1
      · have hb' : (bits .and .u8 (y.toNat : Int) 1 == 1) = true := by rw [and1_int, hb]; rfl
        have HB := Lib.hid hb
        clear hb
        go_wp2
        go_round
        case rel =>
          refine ⟨k + 1, by omega, by go_num, ?_, ?_, ?_⟩
          · rw [HS.out, if_pos HB.out]; exact u8i (xor8 p x)
          · rw [HS.out]; exact u8i (dbl_int2 x)
          · rw [HS.out, shr1_nat]; exact u8i (by omega)
        case measure => simp [intOf]; omega
      · have hb' : (bits .and .u8 (y.toNat : Int) 1 == 1) = false := by
          rw [and1_int, beq_eq_false_iff_ne]
          intro h
          exact hb (UInt8.toNat_inj.1 (by have : (1 : UInt8).toNat = 1 := rfl; omega))
        have HB := Lib.hid hb
        clear hb
        go_wp2
        go_round
        case rel =>
          refine ⟨k + 1, by omega, by go_num, ?_, ?_, ?_⟩
          · rw [HS.out, if_neg HB.out]
          · rw [HS.out]; exact u8i (dbl_int2 x)
          · rw [HS.out, shr1_nat]; exact u8i (by omega)
        case measure => simp [intOf]; omega
    · obtain rfl : k = 8 := by omega
      go_wp2
      go_ret
      exact ⟨rfl, rfl⟩

theorem shr_int (c : UInt8) (r : Nat) (hr : r < 8) : (c.toNat : Int) / 2 ^ r = ((c >>> UInt8.ofNat r).toNat : Int) := by
  rw [UInt8.toNat_shiftRight, UInt8.toNat_ofNat', Nat.shiftRight_eq_div_pow, show r % 2 ^ 8 % 8 = r by omega]
  simp
theorem shl_int (c : UInt8) (r : Nat) (hr : r < 8) : (c.toNat : Int) * 2 ^ r % 256 = ((c <<< UInt8.ofNat r).toNat : Int) := by
  rw [UInt8.toNat_shiftLeft, UInt8.toNat_ofNat', Nat.shiftLeft_eq, show r % 2 ^ 8 % 8 = r by omega]
  simp
theorem or8 (x y : UInt8) : bits .or .u8 (x.toNat : Int) (y.toNat : Int) = ((x ||| y).toNat : Int) := by
  rw [u8_or_nat _ _ x.toNat_lt y.toNat_lt, UInt8.toNat_or]

set_option maxHeartbeats 2000000 in
theorem sub_c (b : UInt8) (w : World) : Calls Tryd.prog 45 #[.int .u8 (b.toNat : Int)] w fun e w' => e = .returned (.int .u8 ((subF b).toNat : Int)) ∧ w' = w := by
  go_enter Tryd.func45, Tryd.ntmps45
  go_wp2
  go_loop [3, 4, 5] (fun c_ x_ i => ∃ k : Nat, k ≤ 7 ∧ i = .int .i64 ((k : Int) + 1) ∧ c_ = .int .u8 ((sqS b k).1.toNat : Int) ∧ x_ = .int .u8 ((sqS b k).2.toNat : Int)) (fun _ _ i => 8 - (intOf i).toNat)
  case atStart => exact ⟨0, by omega, rfl, rfl, rfl⟩
  case round =>
    obtain ⟨k, hk, rfl, rfl, rfl⟩ := hrel
    by_cases hlt : k < 7
    · have hs : sqS b (k + 1) = (tm (sqS b k).1 (tm (sqS b k).2 (sqS b k).2), tm (sqS b k).2 (sqS b k).2) := rfl
      obtain ⟨p, x, hq⟩ : ∃ p x, sqS b k = (p, x) := ⟨_, _, rfl⟩
      rw [hq] at hs
      rw [hq]
      simp only at hs
      have HS := Lib.hid hs
      clear hs hq
      go_wp2_with (go_at_call 46; refine (times_c _ _ _).mono ?_; rintro e w' ⟨rfl, rfl⟩)
      go_round
      case rel =>
        refine ⟨k + 1, by omega, by go_num, ?_, ?_⟩ <;> rw [HS.out]
      case measure => simp [intOf]; omega
    · obtain rfl : k = 7 := by omega
      obtain ⟨c, hc⟩ : ∃ c, c = (sqS b 7).1 := ⟨_, rfl⟩
      have hcs : subF b = outS c 8 := by rw [hc]; rfl
      rw [← hc]
      have HC := Lib.hid hcs
      clear hc hcs
      go_wp2
      go_loop [6, 20] (fun o_ i => ∃ k : Nat, k ≤ 8 ∧ i = .int .i64 k ∧ o_ = .int .u8 ((outS c k).toNat : Int)) (fun _ i => 8 - (intOf i).toNat)
      case atStart => exact ⟨0, by omega, rfl, rfl⟩
      case round =>
        obtain ⟨k, hk, rfl, rfl⟩ := hrel
        by_cases hlt : k < 8
        · have hs : outS c (k + 1) = outS c k ||| ((bitOf c k &&& 1) <<< UInt8.ofNat k) := rfl
          have hbit : bitOf c k = xr (xr (xr (xr (xr (c >>> UInt8.ofNat k) (c >>> UInt8.ofNat ((k + 4) % 8))) (c >>> UInt8.ofNat ((k + 5) % 8))) (c >>> UInt8.ofNat ((k + 6) % 8))) (c >>> UInt8.ofNat ((k + 7) % 8))) ((0x63 : UInt8) >>> UInt8.ofNat k) := rfl
          obtain ⟨o, ho⟩ : ∃ o, o = outS c k := ⟨_, rfl⟩
          obtain ⟨r4, h4⟩ : ∃ r, r = (k + 4) % 8 := ⟨_, rfl⟩
          obtain ⟨r5, h5⟩ : ∃ r, r = (k + 5) % 8 := ⟨_, rfl⟩
          obtain ⟨r6, h6⟩ : ∃ r, r = (k + 6) % 8 := ⟨_, rfl⟩
          obtain ⟨r7, h7⟩ : ∃ r, r = (k + 7) % 8 := ⟨_, rfl⟩
          rw [← h4, ← h5, ← h6, ← h7] at hbit
          rw [← ho] at hs
          rw [← ho]
          have b4 : r4 < 8 := by omega
          have b5 : r5 < 8 := by omega
          have b6 : r6 < 8 := by omega
          have b7 : r7 < 8 := by omega
          have e4 : ((k : Int) + 4) % 8 = (r4 : Int) := by omega
          have e5 : ((k : Int) + 5) % 8 = (r5 : Int) := by omega
          have e6 : ((k : Int) + 6) % 8 = (r6 : Int) := by omega
          have e7 : ((k : Int) + 7) % 8 = (r7 : Int) := by omega
          have HS := Lib.hid hs
          have HB := Lib.hid hbit
          clear hs hbit ho h4 h5 h6 h7
          have h1 := lt8 c
          go_wp2
          go_round
          case rel =>
            refine ⟨k + 1, by omega, by go_num, ?_⟩
            rw [shr_int c k hlt, shr_int c r4 b4, shr_int c r5 b5, shr_int c r6 b6, shr_int c r7 b7, show (99 : Int) = (((0x63 : UInt8).toNat : Nat) : Int) from rfl, shr_int 0x63 k hlt]
            rw [xor8, xor8, xor8, xor8, xor8, and1_int, shl_int _ k hlt, or8, HS.out, HB.out]
          case measure => simp [intOf]; omega
        · obtain rfl : k = 8 := by omega
          go_wp2
          go_ret
          refine ⟨?_, rfl⟩
          rw [HC.out]
          rfl

section
variable (x : UInt8) (w : World)
theorem times_x2 : Calls Tryd.prog 46 #[.int .u8 (x.toNat : Int), .int .u8 2] w fun e w' => e = .returned (.int .u8 ((dbl x).toNat : Int)) ∧ w' = w := by
  have h := times_c x 2 w
  rw [tmx2] at h
  exact h
theorem times_2x : Calls Tryd.prog 46 #[.int .u8 2, .int .u8 (x.toNat : Int)] w fun e w' => e = .returned (.int .u8 ((tm 2 x).toNat : Int)) ∧ w' = w := times_c 2 x w
theorem times_3x : Calls Tryd.prog 46 #[.int .u8 3, .int .u8 (x.toNat : Int)] w fun e w' => e = .returned (.int .u8 ((tm 3 x).toNat : Int)) ∧ w' = w := times_c 3 x w
theorem times_14x : Calls Tryd.prog 46 #[.int .u8 14, .int .u8 (x.toNat : Int)] w fun e w' => e = .returned (.int .u8 ((tm 14 x).toNat : Int)) ∧ w' = w := times_c 14 x w
theorem times_11x : Calls Tryd.prog 46 #[.int .u8 11, .int .u8 (x.toNat : Int)] w fun e w' => e = .returned (.int .u8 ((tm 11 x).toNat : Int)) ∧ w' = w := times_c 11 x w
theorem times_13x : Calls Tryd.prog 46 #[.int .u8 13, .int .u8 (x.toNat : Int)] w fun e w' => e = .returned (.int .u8 ((tm 13 x).toNat : Int)) ∧ w' = w := times_c 13 x w
theorem times_9x : Calls Tryd.prog 46 #[.int .u8 9, .int .u8 (x.toNat : Int)] w fun e w' => e = .returned (.int .u8 ((tm 9 x).toNat : Int)) ∧ w' = w := times_c 9 x w
end

end Go.Proofs.YtajifdnfibojfaaDoor
