/- The program's Inv on 32 bytes, and what the inverse is modulo p (mkfinvapi.py writes this text). -/
import Derived.Test.YtchojbhmfjibmaaFInverse
import Derived.Test.YtchojbhmfjibmaaFPut
namespace Go.Proofs.Ytchojbhmfjibmaa
open Go Go.RowKit
set_option maxRecDepth 100000

/-! ### Powers modulo p -/
theorem tm_pow {n a b x y : Nat} (hx : x % pN = n ^ a % pN) (hy : y % pN = n ^ b % pN) : tm x y % pN = n ^ (a + b) % pN := by
  rw [tm_mod, Nat.mul_mod, hx, hy, ← Nat.mul_mod, ← Nat.pow_add]
theorem rs_pow {n a x : Nat} (hx : x % pN = n ^ a % pN) : ∀ k, rs x k % pN = n ^ (a * 2 ^ k) % pN
  | 0 => by rw [Nat.pow_zero, Nat.mul_one]; exact hx
  | k + 1 => by
    have h := tm_pow (rs_pow hx k) (rs_pow hx k)
    rw [show a * 2 ^ (k + 1) = a * 2 ^ k + a * 2 ^ k by rw [Nat.pow_succ, ← Nat.mul_assoc, Nat.mul_two]]
    exact h
theorem iv_pow (n : Nat) : iv n % pN = n ^ (pN - 2) % pN := by
  have h1 : n % pN = n ^ 1 % pN := by rw [Nat.pow_one]
  have h2 := tm_pow (rs_pow h1 1) h1
  have h4 := tm_pow (rs_pow h2 2) h2
  have h5 := tm_pow (rs_pow h4 1) h1
  have h10 := tm_pow (rs_pow h5 5) h5
  have h20 := tm_pow (rs_pow h10 10) h10
  have h40 := tm_pow (rs_pow h20 20) h20
  have h50 := tm_pow (rs_pow h40 10) h10
  have h100 := tm_pow (rs_pow h50 50) h50
  have h200 := tm_pow (rs_pow h100 100) h100
  have h250 := tm_pow (rs_pow h200 50) h50
  have g11 := tm_pow (rs_pow h1 3) h2
  have h := tm_pow (rs_pow h250 5) g11
  refine Eq.trans h ?_
  congr 2

set_option maxHeartbeats 4000000 in
theorem inv_c (a : Nat → UInt8) (w : World) : Calls Try.prog 34 #[.agg (row 32 a)] w fun e w' => e = .returned (.agg (row 32 (byteN (iv (lv a 32) % pN)))) ∧ Below w.heap.size w w' := by
  have hr := fun W => read_c a W
  have hi := fun W => inverse_c (lv a 32) (lv_lt32 a) W
  have hb := fun W => bytesOf_c (iv (lv a 32)) (iv_lt (lv_lt32 a)) W
  generalize byteN (iv (lv a 32) % pN) = z at *
  generalize iv (lv a 32) = y at *
  generalize lv a 32 = x at *
  go_enter Try.func34, Try.ntmps34
  go_upto_region 1 with (first | (refine wpList_alloc_Row rfl 22 rfl 32 z32B ?_))
  have h1 := (Row.new w 22 32 a).alloc (.cells (row 32 fun _ => 0) 22)
  have h2 := Row.new (w.alloc (.cells (row 32 a) 22)) 22 32 fun _ => 0
  have h3 : Below w.heap.size w ((w.alloc (.cells (row 32 a) 22)).alloc (.cells (row 32 fun _ => 0) 22)) := ((Below.refl _ _).alloc (Nat.le_refl _) _).alloc (by simp) _
  simp only [World.size_alloc] at h2
  have hall := And.intro h1 (And.intro h2 h3)
  clear h1 h2 h3
  revert hall
  generalize (w.alloc (.cells (row 32 a) 22)).alloc (.cells (row 32 fun _ => 0) 22) = w1
  rintro ⟨h1, h2, h3⟩
  go_wp2_with (first | (refine wpList_load_Row rfl 22 _ rfl w.heap.size rfl 22 32 _ _ h1 und32B size32B ?_) | (go_at_call 47; refine (hr _).mono ?_; rintro e w5 ⟨rfl, hw5⟩; have h2 := h2.below hw5 h2.lt; have h3 := h3.trans (hw5.mono h3.size)) | (go_at_call 48; refine (hi _).mono ?_; rintro e w6 ⟨rfl, hw6⟩; have h2 := h2.below hw6 h2.lt; have h3 := h3.trans (hw6.mono h3.size)) | (go_at_call 45; refine (hb _).mono ?_; rintro e w7 ⟨rfl, hw7⟩; have h2 := h2.below hw7 h2.lt; have h3 := h3.trans (hw7.mono h3.size)) | (refine wpList_store_Row rfl 22 _ _ rfl (w.heap.size + 1) rfl 22 32 _ _ rfl h2 size32B ?_))
  exact ret_Row rfl rfl _ _ 32 _ _ rfl (h2.setRow _) und32B size32B ⟨rfl, below_setRow8 h3 (by omega) _⟩
end Go.Proofs.Ytchojbhmfjibmaa
