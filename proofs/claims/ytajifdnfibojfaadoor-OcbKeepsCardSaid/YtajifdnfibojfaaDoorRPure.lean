/- The document's AES: a product of two bytes, the box by the polynomials. Mathematics, no program. -/
import Derived.Test.YtajifdnfibojfaaDoorMath
namespace Go.Proofs.YtajifdnfibojfaaDoor

/-- A product of two bytes, step by step: what is gathered, the first byte, the second. -/
def tmStep : UInt8 × UInt8 × UInt8 → UInt8 × UInt8 × UInt8
  | (p, a, b) => (if b &&& 1 = 1 then xr p a else p, dbl a, b >>> 1)
def tmS (a b : UInt8) : Nat → UInt8 × UInt8 × UInt8
  | 0 => (0, a, b)
  | k + 1 => tmStep (tmS a b k)
def tm (a b : UInt8) : UInt8 := (tmS a b 8).1
theorem tmS_succ (a b : UInt8) (k : Nat) : tmS a b (k + 1) = (if (tmS a b k).2.2 &&& 1 = 1 then xr (tmS a b k).1 (tmS a b k).2.1 else (tmS a b k).1, dbl (tmS a b k).2.1, (tmS a b k).2.2 >>> 1) := rfl
/-- The power 254: what is gathered, the last square. -/
def sqS (b : UInt8) : Nat → UInt8 × UInt8
  | 0 => (1, b)
  | k + 1 => (tm (sqS b k).1 (tm (sqS b k).2 (sqS b k).2), tm (sqS b k).2 (sqS b k).2)
def bitOf (c : UInt8) (i : Nat) : UInt8 :=
  xr (xr (xr (xr (xr (c >>> UInt8.ofNat i) (c >>> UInt8.ofNat ((i + 4) % 8))) (c >>> UInt8.ofNat ((i + 5) % 8))) (c >>> UInt8.ofNat ((i + 6) % 8))) (c >>> UInt8.ofNat ((i + 7) % 8))) ((0x63 : UInt8) >>> UInt8.ofNat i)
def outS (c : UInt8) : Nat → UInt8
  | 0 => 0
  | k + 1 => outS c k ||| ((bitOf c k &&& 1) <<< UInt8.ofNat k)
def subF (b : UInt8) : UInt8 := outS (sqS b 7).1 8

set_option maxRecDepth 100000 in
theorem tm2_ : ∀ i : Fin 256, tm 2 (UInt8.ofNat i.1) = dbl (UInt8.ofNat i.1) := by decide +kernel
set_option maxRecDepth 100000 in
theorem tm3_ : ∀ i : Fin 256, tm 3 (UInt8.ofNat i.1) = xr (UInt8.ofNat i.1) (dbl (UInt8.ofNat i.1)) := by decide +kernel
set_option maxRecDepth 100000 in
theorem tm14_ : ∀ i : Fin 256, tm 14 (UInt8.ofNat i.1) = xr (xr (dbl (UInt8.ofNat i.1)) (dbl (dbl (UInt8.ofNat i.1)))) (dbl (dbl (dbl (UInt8.ofNat i.1)))) := by decide +kernel
set_option maxRecDepth 100000 in
theorem tm11_ : ∀ i : Fin 256, tm 11 (UInt8.ofNat i.1) = xr (xr (UInt8.ofNat i.1) (dbl (UInt8.ofNat i.1))) (dbl (dbl (dbl (UInt8.ofNat i.1)))) := by decide +kernel
set_option maxRecDepth 100000 in
theorem tm13_ : ∀ i : Fin 256, tm 13 (UInt8.ofNat i.1) = xr (xr (UInt8.ofNat i.1) (dbl (dbl (UInt8.ofNat i.1)))) (dbl (dbl (dbl (UInt8.ofNat i.1)))) := by decide +kernel
set_option maxRecDepth 100000 in
theorem tm9_ : ∀ i : Fin 256, tm 9 (UInt8.ofNat i.1) = xr (UInt8.ofNat i.1) (dbl (dbl (dbl (UInt8.ofNat i.1)))) := by decide +kernel
set_option maxRecDepth 100000 in
theorem sub_box_ : ∀ i : Fin 256, subF (UInt8.ofNat i.1) = boxF i.1 := by decide +kernel
theorem every8 {p : UInt8 → Prop} (h : ∀ i : Fin 256, p (UInt8.ofNat i.1)) (x : UInt8) : p x := by
  have := h ⟨x.toNat, x.toNat_lt⟩
  rw [ofNat_toNat] at this
  exact this
theorem tm2 (x : UInt8) : tm 2 x = dbl x := every8 (p := fun x => tm 2 x = dbl x) tm2_ x
theorem tm3 (x : UInt8) : tm 3 x = xr x (dbl x) := every8 (p := fun x => tm 3 x = xr x (dbl x)) tm3_ x
theorem tm14 (x : UInt8) : tm 14 x = xr (xr (dbl x) (dbl (dbl x))) (dbl (dbl (dbl x))) := every8 (p := fun x => tm 14 x = xr (xr (dbl x) (dbl (dbl x))) (dbl (dbl (dbl x)))) tm14_ x
theorem tm11 (x : UInt8) : tm 11 x = xr (xr x (dbl x)) (dbl (dbl (dbl x))) := every8 (p := fun x => tm 11 x = xr (xr x (dbl x)) (dbl (dbl (dbl x)))) tm11_ x
theorem tm13 (x : UInt8) : tm 13 x = xr (xr x (dbl (dbl x))) (dbl (dbl (dbl x))) := every8 (p := fun x => tm 13 x = xr (xr x (dbl (dbl x))) (dbl (dbl (dbl x)))) tm13_ x
theorem tm9 (x : UInt8) : tm 9 x = xr x (dbl (dbl (dbl x))) := every8 (p := fun x => tm 9 x = xr x (dbl (dbl (dbl x)))) tm9_ x
theorem sub_box (i : Nat) (hi : i < 256) : subF (UInt8.ofNat i) = boxF i := sub_box_ ⟨i, hi⟩
theorem tmx2 (x : UInt8) : tm x 2 = dbl x := by
  show xr 0 (dbl x) = dbl x
  exact UInt8.zero_xor

/-- Columns mixed, by the document's products. -/
theorem mixed_tm (b : Nat → UInt8) (i : Nat) :
    xr (xr (xr (tm 2 (b i)) (tm 3 (b (i - i % 4 + (i + 1) % 4)))) (b (i - i % 4 + (i + 2) % 4))) (b (i - i % 4 + (i + 3) % 4)) = mixed b i := by
  obtain ⟨c, r, hr, rfl⟩ : ∃ c r, r < 4 ∧ i = 4 * c + r := ⟨i / 4, i % 4, by omega, by omega⟩
  rw [mixed_at b c r hr, tm2, tm3, show 4 * c + r - (4 * c + r) % 4 = 4 * c by omega, show (4 * c + r + 1) % 4 = (r + 1) % 4 by omega, show (4 * c + r + 2) % 4 = (r + 2) % 4 by omega, show (4 * c + r + 3) % 4 = (r + 3) % 4 by omega]
  unfold xr
  rcases (by omega : r = 0 ∨ r = 1 ∨ r = 2 ∨ r = 3) with rfl | rfl | rfl | rfl <;>
    (simp only [Nat.add_zero, Nat.reduceAdd, Nat.reduceMod, dbl_xor]
     generalize b (4 * c) = x0
     generalize b (4 * c + 1) = x1
     generalize b (4 * c + 2) = x2
     generalize b (4 * c + 3) = x3
     simp only [UInt8.xor_assoc, UInt8.xor_comm, xor_left, xr_cancel, UInt8.xor_self, UInt8.xor_zero])
/-- And unmixed. -/
theorem unmixed_tm (b : Nat → UInt8) (i : Nat) :
    xr (xr (xr (tm 14 (b i)) (tm 11 (b (i - i % 4 + (i + 1) % 4)))) (tm 13 (b (i - i % 4 + (i + 2) % 4)))) (tm 9 (b (i - i % 4 + (i + 3) % 4))) = unmixed b i := by
  obtain ⟨c, r, hr, rfl⟩ : ∃ c r, r < 4 ∧ i = 4 * c + r := ⟨i / 4, i % 4, by omega, by omega⟩
  have e0 := premixed_at b c 0 (by omega)
  have e1 := premixed_at b c 1 (by omega)
  have e2 := premixed_at b c 2 (by omega)
  have e3 := premixed_at b c 3 (by omega)
  simp only [Nat.add_zero, Nat.reduceAdd, Nat.reduceMod] at e0 e1 e2 e3
  unfold unmixed
  rw [mixed_at _ c r hr, tm14, tm11, tm13, tm9, show 4 * c + r - (4 * c + r) % 4 = 4 * c by omega, show (4 * c + r + 1) % 4 = (r + 1) % 4 by omega, show (4 * c + r + 2) % 4 = (r + 2) % 4 by omega, show (4 * c + r + 3) % 4 = (r + 3) % 4 by omega]
  unfold xr
  rcases (by omega : r = 0 ∨ r = 1 ∨ r = 2 ∨ r = 3) with rfl | rfl | rfl | rfl <;>
    (simp only [Nat.add_zero, Nat.reduceAdd, Nat.reduceMod, e0, e1, e2, e3, dbl_xor]
     generalize b (4 * c) = x0
     generalize b (4 * c + 1) = x1
     generalize b (4 * c + 2) = x2
     generalize b (4 * c + 3) = x3
     simp only [UInt8.xor_assoc, UInt8.xor_comm, xor_left, xr_cancel, UInt8.xor_self, UInt8.xor_zero])

end Go.Proofs.YtajifdnfibojfaaDoor
