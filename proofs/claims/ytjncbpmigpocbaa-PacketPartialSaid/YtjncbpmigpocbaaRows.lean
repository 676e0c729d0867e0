/-
  No cell of these rows narrows 'for every input' (looked for: loops, veiled, ifaces, maps, wideKeys, modest, calm, conditions, laid).
  DERIVED. THE GIVEN ROWS OF THIS SEAT. 5 by the template 'for every input the law returns true; each argument reads behind the call as it read before'; 0 by the template 'total and deterministic' (their statements: YtjncbpmigpocbaaTotals.lean).
  GIVEN WITH THE SEED: the statements are not yours to turn. If you find one false, say at which input.
  Laid BY PROGRAM, IN A SANDBOX (cutbox-rows.mjs): the forced cells as the released guide's own fill.sh prints them over the translation 5f4c810baf2c49de… (all of the seat's roots in one cut). By AI agents, Wed Nov 11 2026. No macro, syntax, notation, axiom, sorry.
-/
import Derived.Test.YtjncbpmigpocbaaChecked
import GoSem.Claim
import GoSem.ClaimJoined
import GoSem.ClaimMapViews
import Derived.JoinedTies
import Derived.KernelRfl
namespace Go.Proofs.Ytjncbpmigpocbaa
/- THE CELL 'sum', in the pinned program and in every row, IS THE sha256 OF THE DUMP (.gsa) THAT YtjncbpmigpocbaaProg.lean LOADS. Nothing in Lean hashes anything: it is a label: what it is worth is what the hold of that sum in a sandbox is worth. -/
noncomputable def Try.pinned : Pinned := { name := "ytjncbpmigpocbaa", sum := "5f4c810baf2c49deba313ba3589f7306d67d13ca9ea4515c6e6b99cbec807719", checked := Try.checked }
namespace Rows
def none {H : Type} : Left H := { results := [], args := [] }

/-- 'postilionlaw11.PacketWrites': WHATEVER THE INPUT: true; the input reads as it did. -/
def packetWritesSpec : ChangeSpec := { name := "packetWrites", fn := fun _ => fun
  | [d] => { results := [.lit (.bool true)], args := [d] }
  | _ => none }
def packetWritesRow : OpenClaim := { program := "ytjncbpmigpocbaa", sum := "5f4c810baf2c49deba313ba3589f7306d67d13ca9ea4515c6e6b99cbec807719", func := "postilion/postilionlaw11.PacketWrites", spec := "packetWrites", apart := false }
def PacketWritesSaid : Prop := packetWritesRow.holds Try.pinned (OpenSpec.ofChange packetWritesSpec)

/-- ITS FALSE NEIGHBOUR: 'it returns false'. Refute it at one input. -/
def packetWritesWrong : ChangeSpec := { name := "packetWrites", fn := fun _ => fun
  | [d] => { results := [.lit (.bool false)], args := [d] }
  | _ => none }
def PacketWritesWrongFalsely : Prop := packetWritesRow.holds Try.pinned (OpenSpec.ofChange packetWritesWrong)

/-- 'postilionlaw11.PacketParses': WHATEVER THE INPUT: true; the input reads as it did. -/
def packetParsesSpec : ChangeSpec := { name := "packetParses", fn := fun _ => fun
  | [d] => { results := [.lit (.bool true)], args := [d] }
  | _ => none }
def packetParsesRow : OpenClaim := { program := "ytjncbpmigpocbaa", sum := "5f4c810baf2c49deba313ba3589f7306d67d13ca9ea4515c6e6b99cbec807719", func := "postilion/postilionlaw11.PacketParses", spec := "packetParses", apart := false }
def PacketParsesSaid : Prop := packetParsesRow.holds Try.pinned (OpenSpec.ofChange packetParsesSpec)

/-- ITS FALSE NEIGHBOUR: 'it returns false'. Refute it at one input. -/
def packetParsesWrong : ChangeSpec := { name := "packetParses", fn := fun _ => fun
  | [d] => { results := [.lit (.bool false)], args := [d] }
  | _ => none }
def PacketParsesWrongFalsely : Prop := packetParsesRow.holds Try.pinned (OpenSpec.ofChange packetParsesWrong)

/-- 'postilionlaw11.PacketLengths': WHATEVER THE INPUT: true; the input reads as it did. -/
def packetLengthsSpec : ChangeSpec := { name := "packetLengths", fn := fun _ => fun
  | [d1, d2, d3] => { results := [.lit (.bool true)], args := [d1, d2, d3] }
  | _ => none }
def packetLengthsRow : OpenClaim := { program := "ytjncbpmigpocbaa", sum := "5f4c810baf2c49deba313ba3589f7306d67d13ca9ea4515c6e6b99cbec807719", func := "postilion/postilionlaw11.PacketLengths", spec := "packetLengths", apart := false }
def PacketLengthsSaid : Prop := packetLengthsRow.holds Try.pinned (OpenSpec.ofChange packetLengthsSpec)

/-- ITS FALSE NEIGHBOUR: 'it returns false'. Refute it at one input. -/
def packetLengthsWrong : ChangeSpec := { name := "packetLengths", fn := fun _ => fun
  | [d1, d2, d3] => { results := [.lit (.bool false)], args := [d1, d2, d3] }
  | _ => none }
def PacketLengthsWrongFalsely : Prop := packetLengthsRow.holds Try.pinned (OpenSpec.ofChange packetLengthsWrong)

/-- 'postilionlaw11.PacketPartial': WHATEVER THE INPUT: true; the input reads as it did. -/
def packetPartialSpec : ChangeSpec := { name := "packetPartial", fn := fun _ => fun
  | [d1, d2, d3] => { results := [.lit (.bool true)], args := [d1, d2, d3] }
  | _ => none }
def packetPartialRow : OpenClaim := { program := "ytjncbpmigpocbaa", sum := "5f4c810baf2c49deba313ba3589f7306d67d13ca9ea4515c6e6b99cbec807719", func := "postilion/postilionlaw11.PacketPartial", spec := "packetPartial", apart := false }
def PacketPartialSaid : Prop := packetPartialRow.holds Try.pinned (OpenSpec.ofChange packetPartialSpec)

/-- ITS FALSE NEIGHBOUR: 'it returns false'. Refute it at one input. -/
def packetPartialWrong : ChangeSpec := { name := "packetPartial", fn := fun _ => fun
  | [d1, d2, d3] => { results := [.lit (.bool false)], args := [d1, d2, d3] }
  | _ => none }
def PacketPartialWrongFalsely : Prop := packetPartialRow.holds Try.pinned (OpenSpec.ofChange packetPartialWrong)

/-- 'postilionlaw11.PacketJoins': WHATEVER THE INPUT: true; the input reads as it did. -/
def packetJoinsSpec : ChangeSpec := { name := "packetJoins", fn := fun _ => fun
  | [d1, d2] => { results := [.lit (.bool true)], args := [d1, d2] }
  | _ => none }
def packetJoinsRow : OpenClaim := { program := "ytjncbpmigpocbaa", sum := "5f4c810baf2c49deba313ba3589f7306d67d13ca9ea4515c6e6b99cbec807719", func := "postilion/postilionlaw11.PacketJoins", spec := "packetJoins", apart := false }
def PacketJoinsSaid : Prop := packetJoinsRow.holds Try.pinned (OpenSpec.ofChange packetJoinsSpec)

/-- ITS FALSE NEIGHBOUR: 'it returns false'. Refute it at one input. -/
def packetJoinsWrong : ChangeSpec := { name := "packetJoins", fn := fun _ => fun
  | [d1, d2] => { results := [.lit (.bool false)], args := [d1, d2] }
  | _ => none }
def PacketJoinsWrongFalsely : Prop := packetJoinsRow.holds Try.pinned (OpenSpec.ofChange packetJoinsWrong)

/- THE SECOND FORM. 'bulk': how many values and letters a reading holds, each counted each time it is reached (what is shared counts as often as it is met; a slice's spare places count too). A statement '..UptoSaid' is the law's where the arguments, and the package variables that the reading takes, are together of bulk at most 1048576: NARROWER than '..Said'. Prove '..Said' where nothing that the law and all that it calls make is longer than what came in: it says more and counts as full. Else prove '..UptoSaid'. A law counts once. -/
mutual
def uptoBulk {H : Type} : DataW H → Nat
  | .lit (.string bytes) => bytes.length + 1
  | .lit _ => 1
  | .nil => 1
  | .ptr d => uptoBulk d + 1
  | .slice elems spare => uptoBulkAll elems + uptoBulkAll spare + 1
  | .agg parts => uptoBulkAll parts + 1
  | .iface _ d => uptoBulk d + 1
  | .map entries => uptoBulkEntries entries + 1
  | .held _ => 1
def uptoBulkAll {H : Type} : List (DataW H) → Nat
  | [] => 0
  | d :: r => uptoBulk d + uptoBulkAll r
def uptoBulkEntries {H : Type} : List (Lit × DataW H) → Nat
  | [] => 0
  | x :: r => uptoBulkEntry x + uptoBulkEntries r
def uptoBulkEntry {H : Type} : Lit × DataW H → Nat
  | (.string bytes, d) => bytes.length + uptoBulk d + 1
  | (_, d) => uptoBulk d + 1
 end
def uptoSmall : (H : Type) → List (DataW H) → Bool := fun _ ds => decide (uptoBulkAll ds ≤ 1048576)
def OpenSpec.upto (s : _root_.Go.ChangeSpec) : _root_.Go.OpenSpec := { _root_.Go.OpenSpec.ofChange s with cond := some uptoSmall }

/-- 'postilionlaw11.PacketWrites', WHERE WHAT IT READS IS OF BULK AT MOST 1048576: true; the input reads as it did. -/
def packetWritesUptoRow : OpenClaim := { program := "ytjncbpmigpocbaa", sum := "5f4c810baf2c49deba313ba3589f7306d67d13ca9ea4515c6e6b99cbec807719", func := "postilion/postilionlaw11.PacketWrites", spec := "packetWrites", apart := false, narrowed := true }
def PacketWritesUptoSaid : Prop := packetWritesUptoRow.holds Try.pinned (OpenSpec.upto packetWritesSpec)

/-- 'postilionlaw11.PacketParses', WHERE WHAT IT READS IS OF BULK AT MOST 1048576: true; the input reads as it did. -/
def packetParsesUptoRow : OpenClaim := { program := "ytjncbpmigpocbaa", sum := "5f4c810baf2c49deba313ba3589f7306d67d13ca9ea4515c6e6b99cbec807719", func := "postilion/postilionlaw11.PacketParses", spec := "packetParses", apart := false, narrowed := true }
def PacketParsesUptoSaid : Prop := packetParsesUptoRow.holds Try.pinned (OpenSpec.upto packetParsesSpec)

/-- 'postilionlaw11.PacketLengths', WHERE WHAT IT READS IS OF BULK AT MOST 1048576: true; the input reads as it did. -/
def packetLengthsUptoRow : OpenClaim := { program := "ytjncbpmigpocbaa", sum := "5f4c810baf2c49deba313ba3589f7306d67d13ca9ea4515c6e6b99cbec807719", func := "postilion/postilionlaw11.PacketLengths", spec := "packetLengths", apart := false, narrowed := true }
def PacketLengthsUptoSaid : Prop := packetLengthsUptoRow.holds Try.pinned (OpenSpec.upto packetLengthsSpec)

/-- 'postilionlaw11.PacketPartial', WHERE WHAT IT READS IS OF BULK AT MOST 1048576: true; the input reads as it did. -/
def packetPartialUptoRow : OpenClaim := { program := "ytjncbpmigpocbaa", sum := "5f4c810baf2c49deba313ba3589f7306d67d13ca9ea4515c6e6b99cbec807719", func := "postilion/postilionlaw11.PacketPartial", spec := "packetPartial", apart := false, narrowed := true }
def PacketPartialUptoSaid : Prop := packetPartialUptoRow.holds Try.pinned (OpenSpec.upto packetPartialSpec)

/-- 'postilionlaw11.PacketJoins', WHERE WHAT IT READS IS OF BULK AT MOST 1048576: true; the input reads as it did. -/
def packetJoinsUptoRow : OpenClaim := { program := "ytjncbpmigpocbaa", sum := "5f4c810baf2c49deba313ba3589f7306d67d13ca9ea4515c6e6b99cbec807719", func := "postilion/postilionlaw11.PacketJoins", spec := "packetJoins", apart := false, narrowed := true }
def PacketJoinsUptoSaid : Prop := packetJoinsUptoRow.holds Try.pinned (OpenSpec.upto packetJoinsSpec)

end Rows
end Go.Proofs.Ytjncbpmigpocbaa
