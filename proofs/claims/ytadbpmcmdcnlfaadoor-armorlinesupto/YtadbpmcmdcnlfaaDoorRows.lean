/-
  NARROWER THAN 'FOR EVERY INPUT', by the rows' own cells (each row's printed sentence says how): ArmorEncodes: laid · ArmorDecodes: laid · ArmorLines: laid · ArmorTurned: laid.
  DERIVED. THE GIVEN ROWS OF THIS SEAT. 4 by the template 'for every input the law returns true; each argument reads behind the call as it read before'; 0 by the template 'total and deterministic' (their statements: YtadbpmcmdcnlfaaDoorTotals.lean).
  GIVEN WITH THE SEED: the statements are not yours to turn. If you find one false, say at which input.
  Laid BY PROGRAM, IN A SANDBOX (cutbox-rows.mjs): the forced cells as the released guide's own fill.sh prints them over the translation e96270998756bdfc… (all of the seat's roots in one cut). By AI agents, Wed Nov 11 2026. No macro, syntax, notation, axiom, sorry.
-/
import Derived.Test.YtadbpmcmdcnlfaaDoorChecked
import GoSem.PinnedTables
import GoSem.Claim
import GoSem.ClaimJoined
import GoSem.ClaimMapViews
import Derived.JoinedTies
import Derived.KernelRfl
namespace Go.Proofs.YtadbpmcmdcnlfaaDoor
/- THE CELL 'sum', in the pinned program and in every row, IS THE sha256 OF THE DUMP (.gsa) THAT YtadbpmcmdcnlfaaDoorProg.lean LOADS. Nothing in Lean hashes anything: it is a label: what it is worth is what the hold of that sum in a sandbox is worth. -/
noncomputable def Tryd.pinned : Pinned := { name := "ytadbpmcmdcnlfaadoor", sum := "e96270998756bdfcf94605a364207777144a7605d09c81d227eb000374a36815", checked := Tryd.checked }
namespace Rows
def none {H : Type} : Left H := { results := [], args := [] }

/- WHAT THE LISTED PACKAGE-LEVEL VARIABLES READ AS WHEN THE CALL BEGINS. Each datum BY PROGRAM (the guide's laid-datum.mjs) off the statement by which the dump's own 'gosem.cut.vars' lays the variable. In a bare row this is a premise. The card (YtadbpmcmdcnlfaaDoorCards.lean) ties it to the program's text. -/
def laid_unicode_utf8_acceptRanges {H : Type} : DataW H := .agg [.agg [.lit (.int .u8 128), .lit (.int .u8 191)], .agg [.lit (.int .u8 160), .lit (.int .u8 191)], .agg [.lit (.int .u8 128), .lit (.int .u8 159)], .agg [.lit (.int .u8 144), .lit (.int .u8 191)], .agg [.lit (.int .u8 128), .lit (.int .u8 143)], .agg [.lit (.int .u8 0), .lit (.int .u8 0)], .agg [.lit (.int .u8 0), .lit (.int .u8 0)], .agg [.lit (.int .u8 0), .lit (.int .u8 0)], .agg [.lit (.int .u8 0), .lit (.int .u8 0)], .agg [.lit (.int .u8 0), .lit (.int .u8 0)], .agg [.lit (.int .u8 0), .lit (.int .u8 0)], .agg [.lit (.int .u8 0), .lit (.int .u8 0)], .agg [.lit (.int .u8 0), .lit (.int .u8 0)], .agg [.lit (.int .u8 0), .lit (.int .u8 0)], .agg [.lit (.int .u8 0), .lit (.int .u8 0)], .agg [.lit (.int .u8 0), .lit (.int .u8 0)]]
/-- One of Go's own tables, pinned by name: the form's constant. -/
def laid_unicode_utf8_first : DataW Unit := Go.Pinned.utf8First

/-- 'postilionlaw12.ArmorEncodes': WHATEVER THE INPUT: true; the input reads as it did. -/
def armorEncodesSpec : ChangeSpec := { name := "armorEncodes", fn := fun _ => fun
  | [d1, d2, d3] => { results := [.lit (.bool true)], args := [d1, d2, d3] }
  | _ => none }
def armorEncodesRow : OpenClaim := { program := "ytadbpmcmdcnlfaadoor", sum := "e96270998756bdfcf94605a364207777144a7605d09c81d227eb000374a36815", func := "postilion/postilionlaw12.ArmorEncodes", spec := "armorEncodes", inPlace := ["internal/bytealg.IndexByteString", "internal/abi.NoEscape", "internal/bytealg.MakeNoZero", "internal/bytealg.IndexString"], unfollowed := true, recurses := true, named := ["internal/bytealg.MaxLen", "unicode/utf8.first", "unicode/utf8.acceptRanges"], apart := false, laid := [("unicode/utf8.acceptRanges", laid_unicode_utf8_acceptRanges), ("unicode/utf8.first", laid_unicode_utf8_first)] }
def ArmorEncodesSaid : Prop := armorEncodesRow.holds Tryd.pinned (OpenSpec.ofChange armorEncodesSpec)

/-- ITS FALSE NEIGHBOUR: 'it returns false'. Refute it at one input. -/
def armorEncodesWrong : ChangeSpec := { name := "armorEncodes", fn := fun _ => fun
  | [d1, d2, d3] => { results := [.lit (.bool false)], args := [d1, d2, d3] }
  | _ => none }
def ArmorEncodesWrongFalsely : Prop := armorEncodesRow.holds Tryd.pinned (OpenSpec.ofChange armorEncodesWrong)

/-- 'postilionlaw12.ArmorDecodes': WHATEVER THE INPUT: true; the input reads as it did. -/
def armorDecodesSpec : ChangeSpec := { name := "armorDecodes", fn := fun _ => fun
  | [d] => { results := [.lit (.bool true)], args := [d] }
  | _ => none }
def armorDecodesRow : OpenClaim := { program := "ytadbpmcmdcnlfaadoor", sum := "e96270998756bdfcf94605a364207777144a7605d09c81d227eb000374a36815", func := "postilion/postilionlaw12.ArmorDecodes", spec := "armorDecodes", inPlace := ["internal/bytealg.IndexByteString", "internal/bytealg.IndexString", "internal/abi.NoEscape", "internal/bytealg.MakeNoZero"], unfollowed := true, recurses := true, named := ["internal/bytealg.MaxLen", "unicode/utf8.first", "unicode/utf8.acceptRanges"], apart := false, laid := [("unicode/utf8.acceptRanges", laid_unicode_utf8_acceptRanges), ("unicode/utf8.first", laid_unicode_utf8_first)] }
def ArmorDecodesSaid : Prop := armorDecodesRow.holds Tryd.pinned (OpenSpec.ofChange armorDecodesSpec)

/-- ITS FALSE NEIGHBOUR: 'it returns false'. Refute it at one input. -/
def armorDecodesWrong : ChangeSpec := { name := "armorDecodes", fn := fun _ => fun
  | [d] => { results := [.lit (.bool false)], args := [d] }
  | _ => none }
def ArmorDecodesWrongFalsely : Prop := armorDecodesRow.holds Tryd.pinned (OpenSpec.ofChange armorDecodesWrong)

/-- 'postilionlaw12.ArmorLines': WHATEVER THE INPUT: true; the input reads as it did. -/
def armorLinesSpec : ChangeSpec := { name := "armorLines", fn := fun _ => fun
  | [d1, d2, d3, d4, d5, d6] => { results := [.lit (.bool true)], args := [d1, d2, d3, d4, d5, d6] }
  | _ => none }
def armorLinesRow : OpenClaim := { program := "ytadbpmcmdcnlfaadoor", sum := "e96270998756bdfcf94605a364207777144a7605d09c81d227eb000374a36815", func := "postilion/postilionlaw12.ArmorLines", spec := "armorLines", inPlace := ["internal/bytealg.IndexByteString", "internal/bytealg.IndexString", "internal/abi.NoEscape", "internal/bytealg.MakeNoZero"], named := ["internal/bytealg.MaxLen", "unicode/utf8.first", "unicode/utf8.acceptRanges"], apart := false, laid := [("unicode/utf8.acceptRanges", laid_unicode_utf8_acceptRanges), ("unicode/utf8.first", laid_unicode_utf8_first)] }
def ArmorLinesSaid : Prop := armorLinesRow.holds Tryd.pinned (OpenSpec.ofChange armorLinesSpec)

/-- ITS FALSE NEIGHBOUR: 'it returns false'. Refute it at one input. -/
def armorLinesWrong : ChangeSpec := { name := "armorLines", fn := fun _ => fun
  | [d1, d2, d3, d4, d5, d6] => { results := [.lit (.bool false)], args := [d1, d2, d3, d4, d5, d6] }
  | _ => none }
def ArmorLinesWrongFalsely : Prop := armorLinesRow.holds Tryd.pinned (OpenSpec.ofChange armorLinesWrong)

/-- 'postilionlaw12.ArmorTurned': WHATEVER THE INPUT: true; the input reads as it did. -/
def armorTurnedSpec : ChangeSpec := { name := "armorTurned", fn := fun _ => fun
  | [d1, d2, d3, d4] => { results := [.lit (.bool true)], args := [d1, d2, d3, d4] }
  | _ => none }
def armorTurnedRow : OpenClaim := { program := "ytadbpmcmdcnlfaadoor", sum := "e96270998756bdfcf94605a364207777144a7605d09c81d227eb000374a36815", func := "postilion/postilionlaw12.ArmorTurned", spec := "armorTurned", inPlace := ["internal/bytealg.IndexByteString", "internal/abi.NoEscape", "internal/bytealg.MakeNoZero", "internal/bytealg.IndexString"], unfollowed := true, recurses := true, named := ["internal/bytealg.MaxLen", "unicode/utf8.first", "unicode/utf8.acceptRanges"], apart := false, laid := [("unicode/utf8.acceptRanges", laid_unicode_utf8_acceptRanges), ("unicode/utf8.first", laid_unicode_utf8_first)] }
def ArmorTurnedSaid : Prop := armorTurnedRow.holds Tryd.pinned (OpenSpec.ofChange armorTurnedSpec)

/-- ITS FALSE NEIGHBOUR: 'it returns false'. Refute it at one input. -/
def armorTurnedWrong : ChangeSpec := { name := "armorTurned", fn := fun _ => fun
  | [d1, d2, d3, d4] => { results := [.lit (.bool false)], args := [d1, d2, d3, d4] }
  | _ => none }
def ArmorTurnedWrongFalsely : Prop := armorTurnedRow.holds Tryd.pinned (OpenSpec.ofChange armorTurnedWrong)

/- THE SECOND FORM. 'bulk': how many values and letters a reading holds, each counted each time it is reached (what is shared counts as often as it is met; a slice's spare places count too). A statement '..UptoSaid' is the law's where the arguments, and the package variables that the reading takes, are together of bulk at most 1048576: NARROWER than '..Said'. Prove '..Said' where nothing that the law and all that it calls make is longer than what came in: it says more and counts as full. Else prove '..UptoSaid'. A law counts once. -/
mutual
def uptoBulk {H : Type} : DataW H → Nat
  | .lit (.string bytes) => bytes.length + 1
  | .lit _ => 1
  | .nil => 1
  | .ptr d => uptoBulk d + 1
  | .slice elems spare => uptoBulkAll elems + uptoBulkAll spare + 1
  | .agg parts => uptoBulkAll parts + 1
  | .iface _ d => uptoBulk d + 1
  | .map entries => uptoBulkEntries entries + 1
  | .held _ => 1
def uptoBulkAll {H : Type} : List (DataW H) → Nat
  | [] => 0
  | d :: r => uptoBulk d + uptoBulkAll r
def uptoBulkEntries {H : Type} : List (Lit × DataW H) → Nat
  | [] => 0
  | x :: r => uptoBulkEntry x + uptoBulkEntries r
def uptoBulkEntry {H : Type} : Lit × DataW H → Nat
  | (.string bytes, d) => bytes.length + uptoBulk d + 1
  | (_, d) => uptoBulk d + 1
 end
def uptoSmall : (H : Type) → List (DataW H) → Bool := fun _ ds => decide (uptoBulkAll ds ≤ 1048576)
def OpenSpec.upto (s : _root_.Go.ChangeSpec) : _root_.Go.OpenSpec := { _root_.Go.OpenSpec.ofChange s with cond := some uptoSmall }

/-- 'postilionlaw12.ArmorEncodes', WHERE WHAT IT READS IS OF BULK AT MOST 1048576: true; the input reads as it did. -/
def armorEncodesUptoRow : OpenClaim := { program := "ytadbpmcmdcnlfaadoor", sum := "e96270998756bdfcf94605a364207777144a7605d09c81d227eb000374a36815", func := "postilion/postilionlaw12.ArmorEncodes", spec := "armorEncodes", inPlace := ["internal/bytealg.IndexByteString", "internal/abi.NoEscape", "internal/bytealg.MakeNoZero", "internal/bytealg.IndexString"], unfollowed := true, recurses := true, named := ["internal/bytealg.MaxLen", "unicode/utf8.first", "unicode/utf8.acceptRanges"], apart := false, laid := [("unicode/utf8.acceptRanges", laid_unicode_utf8_acceptRanges), ("unicode/utf8.first", laid_unicode_utf8_first)], narrowed := true }
def ArmorEncodesUptoSaid : Prop := armorEncodesUptoRow.holds Tryd.pinned (OpenSpec.upto armorEncodesSpec)

/-- 'postilionlaw12.ArmorDecodes', WHERE WHAT IT READS IS OF BULK AT MOST 1048576: true; the input reads as it did. -/
def armorDecodesUptoRow : OpenClaim := { program := "ytadbpmcmdcnlfaadoor", sum := "e96270998756bdfcf94605a364207777144a7605d09c81d227eb000374a36815", func := "postilion/postilionlaw12.ArmorDecodes", spec := "armorDecodes", inPlace := ["internal/bytealg.IndexByteString", "internal/bytealg.IndexString", "internal/abi.NoEscape", "internal/bytealg.MakeNoZero"], unfollowed := true, recurses := true, named := ["internal/bytealg.MaxLen", "unicode/utf8.first", "unicode/utf8.acceptRanges"], apart := false, laid := [("unicode/utf8.acceptRanges", laid_unicode_utf8_acceptRanges), ("unicode/utf8.first", laid_unicode_utf8_first)], narrowed := true }
def ArmorDecodesUptoSaid : Prop := armorDecodesUptoRow.holds Tryd.pinned (OpenSpec.upto armorDecodesSpec)

/-- 'postilionlaw12.ArmorLines', WHERE WHAT IT READS IS OF BULK AT MOST 1048576: true; the input reads as it did. -/
def armorLinesUptoRow : OpenClaim := { program := "ytadbpmcmdcnlfaadoor", sum := "e96270998756bdfcf94605a364207777144a7605d09c81d227eb000374a36815", func := "postilion/postilionlaw12.ArmorLines", spec := "armorLines", inPlace := ["internal/bytealg.IndexByteString", "internal/bytealg.IndexString", "internal/abi.NoEscape", "internal/bytealg.MakeNoZero"], named := ["internal/bytealg.MaxLen", "unicode/utf8.first", "unicode/utf8.acceptRanges"], apart := false, laid := [("unicode/utf8.acceptRanges", laid_unicode_utf8_acceptRanges), ("unicode/utf8.first", laid_unicode_utf8_first)], narrowed := true }
def ArmorLinesUptoSaid : Prop := armorLinesUptoRow.holds Tryd.pinned (OpenSpec.upto armorLinesSpec)

/-- 'postilionlaw12.ArmorTurned', WHERE WHAT IT READS IS OF BULK AT MOST 1048576: true; the input reads as it did. -/
def armorTurnedUptoRow : OpenClaim := { program := "ytadbpmcmdcnlfaadoor", sum := "e96270998756bdfcf94605a364207777144a7605d09c81d227eb000374a36815", func := "postilion/postilionlaw12.ArmorTurned", spec := "armorTurned", inPlace := ["internal/bytealg.IndexByteString", "internal/abi.NoEscape", "internal/bytealg.MakeNoZero", "internal/bytealg.IndexString"], unfollowed := true, recurses := true, named := ["internal/bytealg.MaxLen", "unicode/utf8.first", "unicode/utf8.acceptRanges"], apart := false, laid := [("unicode/utf8.acceptRanges", laid_unicode_utf8_acceptRanges), ("unicode/utf8.first", laid_unicode_utf8_first)], narrowed := true }
def ArmorTurnedUptoSaid : Prop := armorTurnedUptoRow.holds Tryd.pinned (OpenSpec.upto armorTurnedSpec)

end Rows
end Go.Proofs.YtadbpmcmdcnlfaaDoor
