/- Keys wrapped: the mathematics. No program. -/
import Derived.Test.YtcpfiimbobijlaaDoorMath
namespace Go.Proofs.YtcpfiimbobijlaaDoor

/-- A and a part, one behind the other. -/
def bothF (A D : Nat → UInt8) : Nat → UInt8 := fun j => if j < 8 then A j else D (j - 8)
/-- A with a step's number put in. -/
def countF (A : Nat → UInt8) (t : Nat) : Nat → UInt8 := fun j => if j = 7 then xr (A 7) (UInt8.ofNat t) else A j
/-- What stands behind t steps: A, and the parts, of m bytes together; e encrypts a block. -/
def wrapR (e : (Nat → UInt8) → Nat → UInt8) (m : Nat) (A P : Nat → UInt8) : Nat → (Nat → UInt8) × (Nat → UInt8)
  | 0 => (A, P)
  | t + 1 =>
    let S := wrapR e m A P t
    let B := e (bothF S.1 fun j => S.2 (t * 8 % m + j))
    (countF B (t + 1), cpy (t * 8 % m) 8 S.2 fun j => B (8 + j))
end Go.Proofs.YtcpfiimbobijlaaDoor
