/-
  NARROWER THAN 'FOR EVERY INPUT', by the rows' own cells (each row's printed sentence says how): S2kDerives: laid · S2kSalted: laid · S2kCounts: laid.
  DERIVED. THE GIVEN ROWS OF THIS SEAT. 3 by the template 'for every input the law returns true; each argument reads behind the call as it read before'; 0 by the template 'total and deterministic' (their statements: YticflflbogdljaaDoorTotals.lean).
  GIVEN WITH THE SEED: the statements are not yours to turn. If you find one false, say at which input.
  Laid BY PROGRAM, IN A SANDBOX (cutbox-rows.mjs): the forced cells as the released guide's own fill.sh prints them over the translation a2d9feac1094c8e4… (all of the seat's roots in one cut). By AI agents, Wed Nov 11 2026. No macro, syntax, notation, axiom, sorry.
-/
import Derived.Test.YticflflbogdljaaDoorChecked
import GoSem.Claim
import GoSem.ClaimJoined
import GoSem.ClaimMapViews
import Derived.JoinedTies
import Derived.KernelRfl
namespace Go.Proofs.YticflflbogdljaaDoor
/- THE CELL 'sum', in the pinned program and in every row, IS THE sha256 OF THE DUMP (.gsa) THAT YticflflbogdljaaDoorProg.lean LOADS. Nothing in Lean hashes anything: it is a label: what it is worth is what the hold of that sum in a sandbox is worth. -/
noncomputable def Tryd.pinned : Pinned := { name := "yticflflbogdljaadoor", sum := "a2d9feac1094c8e41d5251ace33de0a1bf25cc6b0141360c91f0b10f809639d2", checked := Tryd.checked }
namespace Rows
def none {H : Type} : Left H := { results := [], args := [] }

/- WHAT THE LISTED PACKAGE-LEVEL VARIABLES READ AS WHEN THE CALL BEGINS. Each datum BY PROGRAM (the guide's laid-datum.mjs) off the statement by which the dump's own 'gosem.cut.vars' lays the variable. In a bare row this is a premise. The card (YticflflbogdljaaDoorCards.lean) ties it to the program's text. -/
def laid_postilion_sha2_start256 {H : Type} : DataW H := .agg [.lit (.int .u32 1779033703), .lit (.int .u32 3144134277), .lit (.int .u32 1013904242), .lit (.int .u32 2773480762), .lit (.int .u32 1359893119), .lit (.int .u32 2600822924), .lit (.int .u32 528734635), .lit (.int .u32 1541459225)]
def laid_postilion_sha2_rounds256 {H : Type} : DataW H := .agg [.lit (.int .u32 1116352408), .lit (.int .u32 1899447441), .lit (.int .u32 3049323471), .lit (.int .u32 3921009573), .lit (.int .u32 961987163), .lit (.int .u32 1508970993), .lit (.int .u32 2453635748), .lit (.int .u32 2870763221), .lit (.int .u32 3624381080), .lit (.int .u32 310598401), .lit (.int .u32 607225278), .lit (.int .u32 1426881987), .lit (.int .u32 1925078388), .lit (.int .u32 2162078206), .lit (.int .u32 2614888103), .lit (.int .u32 3248222580), .lit (.int .u32 3835390401), .lit (.int .u32 4022224774), .lit (.int .u32 264347078), .lit (.int .u32 604807628), .lit (.int .u32 770255983), .lit (.int .u32 1249150122), .lit (.int .u32 1555081692), .lit (.int .u32 1996064986), .lit (.int .u32 2554220882), .lit (.int .u32 2821834349), .lit (.int .u32 2952996808), .lit (.int .u32 3210313671), .lit (.int .u32 3336571891), .lit (.int .u32 3584528711), .lit (.int .u32 113926993), .lit (.int .u32 338241895), .lit (.int .u32 666307205), .lit (.int .u32 773529912), .lit (.int .u32 1294757372), .lit (.int .u32 1396182291), .lit (.int .u32 1695183700), .lit (.int .u32 1986661051), .lit (.int .u32 2177026350), .lit (.int .u32 2456956037), .lit (.int .u32 2730485921), .lit (.int .u32 2820302411), .lit (.int .u32 3259730800), .lit (.int .u32 3345764771), .lit (.int .u32 3516065817), .lit (.int .u32 3600352804), .lit (.int .u32 4094571909), .lit (.int .u32 275423344), .lit (.int .u32 430227734), .lit (.int .u32 506948616), .lit (.int .u32 659060556), .lit (.int .u32 883997877), .lit (.int .u32 958139571), .lit (.int .u32 1322822218), .lit (.int .u32 1537002063), .lit (.int .u32 1747873779), .lit (.int .u32 1955562222), .lit (.int .u32 2024104815), .lit (.int .u32 2227730452), .lit (.int .u32 2361852424), .lit (.int .u32 2428436474), .lit (.int .u32 2756734187), .lit (.int .u32 3204031479), .lit (.int .u32 3329325298)]

/-- 'postilionlaw13.S2kDerives': WHATEVER THE INPUT: true; the input reads as it did. -/
def s2kDerivesSpec : ChangeSpec := { name := "s2kDerives", fn := fun _ => fun
  | [d1, d2, d3] => { results := [.lit (.bool true)], args := [d1, d2, d3] }
  | _ => none }
def s2kDerivesRow : OpenClaim := { program := "yticflflbogdljaadoor", sum := "a2d9feac1094c8e41d5251ace33de0a1bf25cc6b0141360c91f0b10f809639d2", func := "postilion/postilionlaw13.S2kDerives", spec := "s2kDerives", named := ["postilion/sha2.start256", "postilion/sha2.rounds256"], apart := false, laid := [("postilion/sha2.start256", laid_postilion_sha2_start256), ("postilion/sha2.rounds256", laid_postilion_sha2_rounds256)] }
def S2kDerivesSaid : Prop := s2kDerivesRow.holds Tryd.pinned (OpenSpec.ofChange s2kDerivesSpec)

/-- ITS FALSE NEIGHBOUR: 'it returns false'. Refute it at one input. -/
def s2kDerivesWrong : ChangeSpec := { name := "s2kDerives", fn := fun _ => fun
  | [d1, d2, d3] => { results := [.lit (.bool false)], args := [d1, d2, d3] }
  | _ => none }
def S2kDerivesWrongFalsely : Prop := s2kDerivesRow.holds Tryd.pinned (OpenSpec.ofChange s2kDerivesWrong)

/-- 'postilionlaw13.S2kSalted': WHATEVER THE INPUT: true; the input reads as it did. -/
def s2kSaltedSpec : ChangeSpec := { name := "s2kSalted", fn := fun _ => fun
  | [d1, d2, d3, d4, d5, d6] => { results := [.lit (.bool true)], args := [d1, d2, d3, d4, d5, d6] }
  | _ => none }
def s2kSaltedRow : OpenClaim := { program := "yticflflbogdljaadoor", sum := "a2d9feac1094c8e41d5251ace33de0a1bf25cc6b0141360c91f0b10f809639d2", func := "postilion/postilionlaw13.S2kSalted", spec := "s2kSalted", named := ["postilion/sha2.start256", "postilion/sha2.rounds256"], apart := false, laid := [("postilion/sha2.start256", laid_postilion_sha2_start256), ("postilion/sha2.rounds256", laid_postilion_sha2_rounds256)] }
def S2kSaltedSaid : Prop := s2kSaltedRow.holds Tryd.pinned (OpenSpec.ofChange s2kSaltedSpec)

/-- ITS FALSE NEIGHBOUR: 'it returns false'. Refute it at one input. -/
def s2kSaltedWrong : ChangeSpec := { name := "s2kSalted", fn := fun _ => fun
  | [d1, d2, d3, d4, d5, d6] => { results := [.lit (.bool false)], args := [d1, d2, d3, d4, d5, d6] }
  | _ => none }
def S2kSaltedWrongFalsely : Prop := s2kSaltedRow.holds Tryd.pinned (OpenSpec.ofChange s2kSaltedWrong)

/-- 'postilionlaw13.S2kCounts': WHATEVER THE INPUT: true; the input reads as it did. -/
def s2kCountsSpec : ChangeSpec := { name := "s2kCounts", fn := fun _ => fun
  | [d] => { results := [.lit (.bool true)], args := [d] }
  | _ => none }
def s2kCountsRow : OpenClaim := { program := "yticflflbogdljaadoor", sum := "a2d9feac1094c8e41d5251ace33de0a1bf25cc6b0141360c91f0b10f809639d2", func := "postilion/postilionlaw13.S2kCounts", spec := "s2kCounts", named := ["postilion/sha2.start256", "postilion/sha2.rounds256"], apart := false, laid := [("postilion/sha2.start256", laid_postilion_sha2_start256), ("postilion/sha2.rounds256", laid_postilion_sha2_rounds256)] }
def S2kCountsSaid : Prop := s2kCountsRow.holds Tryd.pinned (OpenSpec.ofChange s2kCountsSpec)

/-- ITS FALSE NEIGHBOUR: 'it returns false'. Refute it at one input. -/
def s2kCountsWrong : ChangeSpec := { name := "s2kCounts", fn := fun _ => fun
  | [d] => { results := [.lit (.bool false)], args := [d] }
  | _ => none }
def S2kCountsWrongFalsely : Prop := s2kCountsRow.holds Tryd.pinned (OpenSpec.ofChange s2kCountsWrong)

/- THE SECOND FORM. 'bulk': how many values and letters a reading holds, each counted each time it is reached (what is shared counts as often as it is met; a slice's spare places count too). A statement '..UptoSaid' is the law's where the arguments, and the package variables that the reading takes, are together of bulk at most 1048576: NARROWER than '..Said'. Prove '..Said' where nothing that the law and all that it calls make is longer than what came in: it says more and counts as full. Else prove '..UptoSaid'. A law counts once. -/
mutual
def uptoBulk {H : Type} : DataW H → Nat
  | .lit (.string bytes) => bytes.length + 1
  | .lit _ => 1
  | .nil => 1
  | .ptr d => uptoBulk d + 1
  | .slice elems spare => uptoBulkAll elems + uptoBulkAll spare + 1
  | .agg parts => uptoBulkAll parts + 1
  | .iface _ d => uptoBulk d + 1
  | .map entries => uptoBulkEntries entries + 1
  | .held _ => 1
def uptoBulkAll {H : Type} : List (DataW H) → Nat
  | [] => 0
  | d :: r => uptoBulk d + uptoBulkAll r
def uptoBulkEntries {H : Type} : List (Lit × DataW H) → Nat
  | [] => 0
  | x :: r => uptoBulkEntry x + uptoBulkEntries r
def uptoBulkEntry {H : Type} : Lit × DataW H → Nat
  | (.string bytes, d) => bytes.length + uptoBulk d + 1
  | (_, d) => uptoBulk d + 1
 end
def uptoSmall : (H : Type) → List (DataW H) → Bool := fun _ ds => decide (uptoBulkAll ds ≤ 1048576)
def OpenSpec.upto (s : _root_.Go.ChangeSpec) : _root_.Go.OpenSpec := { _root_.Go.OpenSpec.ofChange s with cond := some uptoSmall }

/-- 'postilionlaw13.S2kDerives', WHERE WHAT IT READS IS OF BULK AT MOST 1048576: true; the input reads as it did. -/
def s2kDerivesUptoRow : OpenClaim := { program := "yticflflbogdljaadoor", sum := "a2d9feac1094c8e41d5251ace33de0a1bf25cc6b0141360c91f0b10f809639d2", func := "postilion/postilionlaw13.S2kDerives", spec := "s2kDerives", named := ["postilion/sha2.start256", "postilion/sha2.rounds256"], apart := false, laid := [("postilion/sha2.start256", laid_postilion_sha2_start256), ("postilion/sha2.rounds256", laid_postilion_sha2_rounds256)], narrowed := true }
def S2kDerivesUptoSaid : Prop := s2kDerivesUptoRow.holds Tryd.pinned (OpenSpec.upto s2kDerivesSpec)

/-- 'postilionlaw13.S2kSalted', WHERE WHAT IT READS IS OF BULK AT MOST 1048576: true; the input reads as it did. -/
def s2kSaltedUptoRow : OpenClaim := { program := "yticflflbogdljaadoor", sum := "a2d9feac1094c8e41d5251ace33de0a1bf25cc6b0141360c91f0b10f809639d2", func := "postilion/postilionlaw13.S2kSalted", spec := "s2kSalted", named := ["postilion/sha2.start256", "postilion/sha2.rounds256"], apart := false, laid := [("postilion/sha2.start256", laid_postilion_sha2_start256), ("postilion/sha2.rounds256", laid_postilion_sha2_rounds256)], narrowed := true }
def S2kSaltedUptoSaid : Prop := s2kSaltedUptoRow.holds Tryd.pinned (OpenSpec.upto s2kSaltedSpec)

/-- 'postilionlaw13.S2kCounts', WHERE WHAT IT READS IS OF BULK AT MOST 1048576: true; the input reads as it did. -/
def s2kCountsUptoRow : OpenClaim := { program := "yticflflbogdljaadoor", sum := "a2d9feac1094c8e41d5251ace33de0a1bf25cc6b0141360c91f0b10f809639d2", func := "postilion/postilionlaw13.S2kCounts", spec := "s2kCounts", named := ["postilion/sha2.start256", "postilion/sha2.rounds256"], apart := false, laid := [("postilion/sha2.start256", laid_postilion_sha2_start256), ("postilion/sha2.rounds256", laid_postilion_sha2_rounds256)], narrowed := true }
def S2kCountsUptoSaid : Prop := s2kCountsUptoRow.holds Tryd.pinned (OpenSpec.upto s2kCountsSpec)

end Rows
end Go.Proofs.YticflflbogdljaaDoor
