/- OCB: the mathematics of its leaves. No program. -/
import Derived.Test.YtajifdnfibojfaaDoorMath
namespace Go.Proofs.YtajifdnfibojfaaDoor

/-- The double of a block. -/
def dblB (b : Nat → UInt8) : Nat → UInt8 := fun j => if j = 15 then xr (b 15 <<< 1) ((b 0 >>> 7) * 135) else b j <<< 1 ||| b (j + 1) >>> 7
/-- A part of n bytes as a block. -/
def padB (n : Nat) (f : Nat → UInt8) : Nat → UInt8 := fun j => if j < n then f j else if j = n then 128 else 0
/-- Stretch of Ktop. -/
def strB (t : Nat → UInt8) : Nat → UInt8 := fun j => if j < 16 then t j else xr (t (j - 16)) (t (j - 15))
/-- x shifted to the right, by 8 too. -/
def shr8 (x : UInt8) (r : Nat) : UInt8 := UInt8.ofNat (x.toNat / 2 ^ r)
/-- The 128 bits of Stretch from the bit bottom on. -/
def cutB (s : Nat → UInt8) (bottom : Nat) : Nat → UInt8 := fun j => (s (bottom / 8 + j) <<< UInt8.ofNat (bottom % 8)) ||| shr8 (s (bottom / 8 + j + 1)) (8 - bottom % 8)
end Go.Proofs.YtajifdnfibojfaaDoor
