/-
  No cell of these rows narrows 'for every input' (looked for: loops, veiled, ifaces, maps, wideKeys, modest, calm, conditions, laid).
  DERIVED. THE GIVEN ROWS OF THIS SEAT. 5 by the template 'for every input the law returns true; each argument reads behind the call as it read before'; 0 by the template 'total and deterministic' (their statements: YtchojbhmfjibmaaTotals.lean).
  GIVEN WITH THE SEED: the statements are not yours to turn. If you find one false, say at which input.
  Laid BY PROGRAM, IN A SANDBOX (cutbox-rows.mjs): the forced cells as the released guide's own fill.sh prints them over the translation 68bb2070df2300f7… (all of the seat's roots in one cut). By AI agents, Wed Nov 11 2026. No macro, syntax, notation, axiom, sorry.
-/
import Derived.Test.YtchojbhmfjibmaaChecked
import GoSem.Claim
import GoSem.ClaimJoined
import GoSem.ClaimMapViews
import Derived.JoinedTies
import Derived.KernelRfl
namespace Go.Proofs.Ytchojbhmfjibmaa
/- THE CELL 'sum', in the pinned program and in every row, IS THE sha256 OF THE DUMP (.gsa) THAT YtchojbhmfjibmaaProg.lean LOADS. Nothing in Lean hashes anything: it is a label: what it is worth is what the hold of that sum in a sandbox is worth. -/
noncomputable def Try.pinned : Pinned := { name := "ytchojbhmfjibmaa", sum := "68bb2070df2300f73a9dcede384710e0268c343d33c90253221038887f599fd0", checked := Try.checked }
namespace Rows
def none {H : Type} : Left H := { results := [], args := [] }

/-- 'postilionlaw08.XdhMuls': WHATEVER THE INPUT: true; the input reads as it did. -/
def xdhMulsSpec : ChangeSpec := { name := "xdhMuls", fn := fun _ => fun
  | [d1, d2] => { results := [.lit (.bool true)], args := [d1, d2] }
  | _ => none }
def xdhMulsRow : OpenClaim := { program := "ytchojbhmfjibmaa", sum := "68bb2070df2300f73a9dcede384710e0268c343d33c90253221038887f599fd0", func := "postilion/postilionlaw08.XdhMuls", spec := "xdhMuls", inPlace := ["math/bits.Add64", "math/bits.Sub64"], apart := false }
def XdhMulsSaid : Prop := xdhMulsRow.holds Try.pinned (OpenSpec.ofChange xdhMulsSpec)

/-- ITS FALSE NEIGHBOUR: 'it returns false'. Refute it at one input. -/
def xdhMulsWrong : ChangeSpec := { name := "xdhMuls", fn := fun _ => fun
  | [d1, d2] => { results := [.lit (.bool false)], args := [d1, d2] }
  | _ => none }
def XdhMulsWrongFalsely : Prop := xdhMulsRow.holds Try.pinned (OpenSpec.ofChange xdhMulsWrong)

/-- 'postilionlaw08.XdhAgree': WHATEVER THE INPUT: true; the input reads as it did. -/
def xdhAgreeSpec : ChangeSpec := { name := "xdhAgree", fn := fun _ => fun
  | [d1, d2] => { results := [.lit (.bool true)], args := [d1, d2] }
  | _ => none }
def xdhAgreeRow : OpenClaim := { program := "ytchojbhmfjibmaa", sum := "68bb2070df2300f73a9dcede384710e0268c343d33c90253221038887f599fd0", func := "postilion/postilionlaw08.XdhAgree", spec := "xdhAgree", inPlace := ["math/bits.Add64", "math/bits.Sub64"], apart := false }
def XdhAgreeSaid : Prop := xdhAgreeRow.holds Try.pinned (OpenSpec.ofChange xdhAgreeSpec)

/-- ITS FALSE NEIGHBOUR: 'it returns false'. Refute it at one input. -/
def xdhAgreeWrong : ChangeSpec := { name := "xdhAgree", fn := fun _ => fun
  | [d1, d2] => { results := [.lit (.bool false)], args := [d1, d2] }
  | _ => none }
def XdhAgreeWrongFalsely : Prop := xdhAgreeRow.holds Try.pinned (OpenSpec.ofChange xdhAgreeWrong)

/-- 'postilionlaw08.XdhThree': WHATEVER THE INPUT: true; the input reads as it did. -/
def xdhThreeSpec : ChangeSpec := { name := "xdhThree", fn := fun _ => fun
  | [d1, d2, d3] => { results := [.lit (.bool true)], args := [d1, d2, d3] }
  | _ => none }
def xdhThreeRow : OpenClaim := { program := "ytchojbhmfjibmaa", sum := "68bb2070df2300f73a9dcede384710e0268c343d33c90253221038887f599fd0", func := "postilion/postilionlaw08.XdhThree", spec := "xdhThree", inPlace := ["math/bits.Add64", "math/bits.Sub64"], apart := false }
def XdhThreeSaid : Prop := xdhThreeRow.holds Try.pinned (OpenSpec.ofChange xdhThreeSpec)

/-- ITS FALSE NEIGHBOUR: 'it returns false'. Refute it at one input. -/
def xdhThreeWrong : ChangeSpec := { name := "xdhThree", fn := fun _ => fun
  | [d1, d2, d3] => { results := [.lit (.bool false)], args := [d1, d2, d3] }
  | _ => none }
def XdhThreeWrongFalsely : Prop := xdhThreeRow.holds Try.pinned (OpenSpec.ofChange xdhThreeWrong)

/-- 'postilionlaw08.XdhBits': WHATEVER THE INPUT: true; the input reads as it did. -/
def xdhBitsSpec : ChangeSpec := { name := "xdhBits", fn := fun _ => fun
  | [d1, d2, d3, d4] => { results := [.lit (.bool true)], args := [d1, d2, d3, d4] }
  | _ => none }
def xdhBitsRow : OpenClaim := { program := "ytchojbhmfjibmaa", sum := "68bb2070df2300f73a9dcede384710e0268c343d33c90253221038887f599fd0", func := "postilion/postilionlaw08.XdhBits", spec := "xdhBits", inPlace := ["math/bits.Add64", "math/bits.Sub64"], apart := false }
def XdhBitsSaid : Prop := xdhBitsRow.holds Try.pinned (OpenSpec.ofChange xdhBitsSpec)

/-- ITS FALSE NEIGHBOUR: 'it returns false'. Refute it at one input. -/
def xdhBitsWrong : ChangeSpec := { name := "xdhBits", fn := fun _ => fun
  | [d1, d2, d3, d4] => { results := [.lit (.bool false)], args := [d1, d2, d3, d4] }
  | _ => none }
def XdhBitsWrongFalsely : Prop := xdhBitsRow.holds Try.pinned (OpenSpec.ofChange xdhBitsWrong)

/-- 'postilionlaw08.XdhSmall': WHATEVER THE INPUT: true; the input reads as it did. -/
def xdhSmallSpec : ChangeSpec := { name := "xdhSmall", fn := fun _ => fun
  | [d1, d2] => { results := [.lit (.bool true)], args := [d1, d2] }
  | _ => none }
def xdhSmallRow : OpenClaim := { program := "ytchojbhmfjibmaa", sum := "68bb2070df2300f73a9dcede384710e0268c343d33c90253221038887f599fd0", func := "postilion/postilionlaw08.XdhSmall", spec := "xdhSmall", inPlace := ["math/bits.Add64", "math/bits.Sub64"], apart := false }
def XdhSmallSaid : Prop := xdhSmallRow.holds Try.pinned (OpenSpec.ofChange xdhSmallSpec)

/-- ITS FALSE NEIGHBOUR: 'it returns false'. Refute it at one input. -/
def xdhSmallWrong : ChangeSpec := { name := "xdhSmall", fn := fun _ => fun
  | [d1, d2] => { results := [.lit (.bool false)], args := [d1, d2] }
  | _ => none }
def XdhSmallWrongFalsely : Prop := xdhSmallRow.holds Try.pinned (OpenSpec.ofChange xdhSmallWrong)

/- THE SECOND FORM. 'bulk': how many values and letters a reading holds, each counted each time it is reached (what is shared counts as often as it is met; a slice's spare places count too). A statement '..UptoSaid' is the law's where the arguments, and the package variables that the reading takes, are together of bulk at most 1048576: NARROWER than '..Said'. Prove '..Said' where nothing that the law and all that it calls make is longer than what came in: it says more and counts as full. Else prove '..UptoSaid'. A law counts once. -/
mutual
def uptoBulk {H : Type} : DataW H → Nat
  | .lit (.string bytes) => bytes.length + 1
  | .lit _ => 1
  | .nil => 1
  | .ptr d => uptoBulk d + 1
  | .slice elems spare => uptoBulkAll elems + uptoBulkAll spare + 1
  | .agg parts => uptoBulkAll parts + 1
  | .iface _ d => uptoBulk d + 1
  | .map entries => uptoBulkEntries entries + 1
  | .held _ => 1
def uptoBulkAll {H : Type} : List (DataW H) → Nat
  | [] => 0
  | d :: r => uptoBulk d + uptoBulkAll r
def uptoBulkEntries {H : Type} : List (Lit × DataW H) → Nat
  | [] => 0
  | x :: r => uptoBulkEntry x + uptoBulkEntries r
def uptoBulkEntry {H : Type} : Lit × DataW H → Nat
  | (.string bytes, d) => bytes.length + uptoBulk d + 1
  | (_, d) => uptoBulk d + 1
 end
def uptoSmall : (H : Type) → List (DataW H) → Bool := fun _ ds => decide (uptoBulkAll ds ≤ 1048576)
def OpenSpec.upto (s : _root_.Go.ChangeSpec) : _root_.Go.OpenSpec := { _root_.Go.OpenSpec.ofChange s with cond := some uptoSmall }

/-- 'postilionlaw08.XdhMuls', WHERE WHAT IT READS IS OF BULK AT MOST 1048576: true; the input reads as it did. -/
def xdhMulsUptoRow : OpenClaim := { program := "ytchojbhmfjibmaa", sum := "68bb2070df2300f73a9dcede384710e0268c343d33c90253221038887f599fd0", func := "postilion/postilionlaw08.XdhMuls", spec := "xdhMuls", inPlace := ["math/bits.Add64", "math/bits.Sub64"], apart := false, narrowed := true }
def XdhMulsUptoSaid : Prop := xdhMulsUptoRow.holds Try.pinned (OpenSpec.upto xdhMulsSpec)

/-- 'postilionlaw08.XdhAgree', WHERE WHAT IT READS IS OF BULK AT MOST 1048576: true; the input reads as it did. -/
def xdhAgreeUptoRow : OpenClaim := { program := "ytchojbhmfjibmaa", sum := "68bb2070df2300f73a9dcede384710e0268c343d33c90253221038887f599fd0", func := "postilion/postilionlaw08.XdhAgree", spec := "xdhAgree", inPlace := ["math/bits.Add64", "math/bits.Sub64"], apart := false, narrowed := true }
def XdhAgreeUptoSaid : Prop := xdhAgreeUptoRow.holds Try.pinned (OpenSpec.upto xdhAgreeSpec)

/-- 'postilionlaw08.XdhThree', WHERE WHAT IT READS IS OF BULK AT MOST 1048576: true; the input reads as it did. -/
def xdhThreeUptoRow : OpenClaim := { program := "ytchojbhmfjibmaa", sum := "68bb2070df2300f73a9dcede384710e0268c343d33c90253221038887f599fd0", func := "postilion/postilionlaw08.XdhThree", spec := "xdhThree", inPlace := ["math/bits.Add64", "math/bits.Sub64"], apart := false, narrowed := true }
def XdhThreeUptoSaid : Prop := xdhThreeUptoRow.holds Try.pinned (OpenSpec.upto xdhThreeSpec)

/-- 'postilionlaw08.XdhBits', WHERE WHAT IT READS IS OF BULK AT MOST 1048576: true; the input reads as it did. -/
def xdhBitsUptoRow : OpenClaim := { program := "ytchojbhmfjibmaa", sum := "68bb2070df2300f73a9dcede384710e0268c343d33c90253221038887f599fd0", func := "postilion/postilionlaw08.XdhBits", spec := "xdhBits", inPlace := ["math/bits.Add64", "math/bits.Sub64"], apart := false, narrowed := true }
def XdhBitsUptoSaid : Prop := xdhBitsUptoRow.holds Try.pinned (OpenSpec.upto xdhBitsSpec)

/-- 'postilionlaw08.XdhSmall', WHERE WHAT IT READS IS OF BULK AT MOST 1048576: true; the input reads as it did. -/
def xdhSmallUptoRow : OpenClaim := { program := "ytchojbhmfjibmaa", sum := "68bb2070df2300f73a9dcede384710e0268c343d33c90253221038887f599fd0", func := "postilion/postilionlaw08.XdhSmall", spec := "xdhSmall", inPlace := ["math/bits.Add64", "math/bits.Sub64"], apart := false, narrowed := true }
def XdhSmallUptoSaid : Prop := xdhSmallUptoRow.holds Try.pinned (OpenSpec.upto xdhSmallSpec)

end Rows
end Go.Proofs.Ytchojbhmfjibmaa
