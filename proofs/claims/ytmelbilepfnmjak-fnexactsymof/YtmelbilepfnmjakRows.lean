/-
  No cell of these rows narrows 'for every input' (looked for: loops, veiled, ifaces, maps, wideKeys, modest, calm, conditions, laid).
  DERIVED. THE GIVEN ROWS OF THIS SEAT. 6 by the template 'for every input the law returns true; each argument reads behind the call as it read before'; 0 by the template 'total and deterministic' (their statements: YtmelbilepfnmjakTotals.lean).
  GIVEN WITH THE SEED: the statements are not yours to turn. If you find one false, say at which input.
  Laid BY PROGRAM, IN A SANDBOX (cutbox-rows.mjs): the forced cells as the released guide's own fill.sh prints them over the translation a2313a7eb7246d51… (all of the seat's roots in one cut). By AI agents, Wed Nov 11 2026. No macro, syntax, notation, axiom, sorry.
-/
import Derived.Test.YtmelbilepfnmjakChecked
import GoSem.Claim
import GoSem.ClaimJoined
import GoSem.ClaimMapViews
import Derived.JoinedTies
import Derived.KernelRfl
namespace Go.Proofs.Ytmelbilepfnmjak
/- THE CELL 'sum', in the pinned program and in every row, IS THE sha256 OF THE DUMP (.gsa) THAT YtmelbilepfnmjakProg.lean LOADS. Nothing in Lean hashes anything: it is a label: what it is worth is what the hold of that sum in a sandbox is worth. -/
noncomputable def Try.pinned : Pinned := { name := "ytmelbilepfnmjak", sum := "a2313a7eb7246d511ea08ed686e8fb65faab25b97994b47dffd7a9f6f4d589f8", checked := Try.checked }
namespace Rows
def none {H : Type} : Left H := { results := [], args := [] }

/-- 'laws.FnExactSetRange': WHATEVER THE INPUT: true; the input reads as it did. -/
def fnExactSetRangeSpec : ChangeSpec := { name := "fnExactSetRange", fn := fun _ => fun
  | [d1, d2, d3] => { results := [.lit (.bool true)], args := [d1, d2, d3] }
  | _ => none }
def fnExactSetRangeRow : OpenClaim := { program := "ytmelbilepfnmjak", sum := "a2313a7eb7246d511ea08ed686e8fb65faab25b97994b47dffd7a9f6f4d589f8", func := "loop.example/g00419/laws.FnExactSetRange", spec := "fnExactSetRange", unfollowed := true, recurses := true, apart := false }
def FnExactSetRangeSaid : Prop := fnExactSetRangeRow.holds Try.pinned (OpenSpec.ofChange fnExactSetRangeSpec)

/-- ITS FALSE NEIGHBOUR: 'it returns false'. Refute it at one input. -/
def fnExactSetRangeWrong : ChangeSpec := { name := "fnExactSetRange", fn := fun _ => fun
  | [d1, d2, d3] => { results := [.lit (.bool false)], args := [d1, d2, d3] }
  | _ => none }
def FnExactSetRangeWrongFalsely : Prop := fnExactSetRangeRow.holds Try.pinned (OpenSpec.ofChange fnExactSetRangeWrong)

/-- 'laws.FnExactHelloOK': WHATEVER THE INPUT: true; the input reads as it did. -/
def fnExactHelloOKSpec : ChangeSpec := { name := "fnExactHelloOK", fn := fun _ => fun
  | [d] => { results := [.lit (.bool true)], args := [d] }
  | _ => none }
def fnExactHelloOKRow : OpenClaim := { program := "ytmelbilepfnmjak", sum := "a2313a7eb7246d511ea08ed686e8fb65faab25b97994b47dffd7a9f6f4d589f8", func := "loop.example/g00419/laws.FnExactHelloOK", spec := "fnExactHelloOK", unfollowed := true, recurses := true, apart := false }
def FnExactHelloOKSaid : Prop := fnExactHelloOKRow.holds Try.pinned (OpenSpec.ofChange fnExactHelloOKSpec)

/-- ITS FALSE NEIGHBOUR: 'it returns false'. Refute it at one input. -/
def fnExactHelloOKWrong : ChangeSpec := { name := "fnExactHelloOK", fn := fun _ => fun
  | [d] => { results := [.lit (.bool false)], args := [d] }
  | _ => none }
def FnExactHelloOKWrongFalsely : Prop := fnExactHelloOKRow.holds Try.pinned (OpenSpec.ofChange fnExactHelloOKWrong)

/-- 'laws.FnExactEncodeHello': WHATEVER THE INPUT: true; the input reads as it did. -/
def fnExactEncodeHelloSpec : ChangeSpec := { name := "fnExactEncodeHello", fn := fun _ => fun
  | [d] => { results := [.lit (.bool true)], args := [d] }
  | _ => none }
def fnExactEncodeHelloRow : OpenClaim := { program := "ytmelbilepfnmjak", sum := "a2313a7eb7246d511ea08ed686e8fb65faab25b97994b47dffd7a9f6f4d589f8", func := "loop.example/g00419/laws.FnExactEncodeHello", spec := "fnExactEncodeHello", unfollowed := true, recurses := true, apart := false }
def FnExactEncodeHelloSaid : Prop := fnExactEncodeHelloRow.holds Try.pinned (OpenSpec.ofChange fnExactEncodeHelloSpec)

/-- ITS FALSE NEIGHBOUR: 'it returns false'. Refute it at one input. -/
def fnExactEncodeHelloWrong : ChangeSpec := { name := "fnExactEncodeHello", fn := fun _ => fun
  | [d] => { results := [.lit (.bool false)], args := [d] }
  | _ => none }
def FnExactEncodeHelloWrongFalsely : Prop := fnExactEncodeHelloRow.holds Try.pinned (OpenSpec.ofChange fnExactEncodeHelloWrong)

/-- 'laws.FnExactDecodeHello': WHATEVER THE INPUT: true; the input reads as it did. -/
def fnExactDecodeHelloSpec : ChangeSpec := { name := "fnExactDecodeHello", fn := fun _ => fun
  | [d] => { results := [.lit (.bool true)], args := [d] }
  | _ => none }
def fnExactDecodeHelloRow : OpenClaim := { program := "ytmelbilepfnmjak", sum := "a2313a7eb7246d511ea08ed686e8fb65faab25b97994b47dffd7a9f6f4d589f8", func := "loop.example/g00419/laws.FnExactDecodeHello", spec := "fnExactDecodeHello", unfollowed := true, recurses := true, apart := false }
def FnExactDecodeHelloSaid : Prop := fnExactDecodeHelloRow.holds Try.pinned (OpenSpec.ofChange fnExactDecodeHelloSpec)

/-- ITS FALSE NEIGHBOUR: 'it returns false'. Refute it at one input. -/
def fnExactDecodeHelloWrong : ChangeSpec := { name := "fnExactDecodeHello", fn := fun _ => fun
  | [d] => { results := [.lit (.bool false)], args := [d] }
  | _ => none }
def FnExactDecodeHelloWrongFalsely : Prop := fnExactDecodeHelloRow.holds Try.pinned (OpenSpec.ofChange fnExactDecodeHelloWrong)

/-- 'laws.FnExactNeighborOf': WHATEVER THE INPUT: true; the input reads as it did. -/
def fnExactNeighborOfSpec : ChangeSpec := { name := "fnExactNeighborOf", fn := fun _ => fun
  | [d1, d2] => { results := [.lit (.bool true)], args := [d1, d2] }
  | _ => none }
def fnExactNeighborOfRow : OpenClaim := { program := "ytmelbilepfnmjak", sum := "a2313a7eb7246d511ea08ed686e8fb65faab25b97994b47dffd7a9f6f4d589f8", func := "loop.example/g00419/laws.FnExactNeighborOf", spec := "fnExactNeighborOf", unfollowed := true, recurses := true, apart := false }
def FnExactNeighborOfSaid : Prop := fnExactNeighborOfRow.holds Try.pinned (OpenSpec.ofChange fnExactNeighborOfSpec)

/-- ITS FALSE NEIGHBOUR: 'it returns false'. Refute it at one input. -/
def fnExactNeighborOfWrong : ChangeSpec := { name := "fnExactNeighborOf", fn := fun _ => fun
  | [d1, d2] => { results := [.lit (.bool false)], args := [d1, d2] }
  | _ => none }
def FnExactNeighborOfWrongFalsely : Prop := fnExactNeighborOfRow.holds Try.pinned (OpenSpec.ofChange fnExactNeighborOfWrong)

/-- 'laws.FnExactSymOf': WHATEVER THE INPUT: true; the input reads as it did. -/
def fnExactSymOfSpec : ChangeSpec := { name := "fnExactSymOf", fn := fun _ => fun
  | [d] => { results := [.lit (.bool true)], args := [d] }
  | _ => none }
def fnExactSymOfRow : OpenClaim := { program := "ytmelbilepfnmjak", sum := "a2313a7eb7246d511ea08ed686e8fb65faab25b97994b47dffd7a9f6f4d589f8", func := "loop.example/g00419/laws.FnExactSymOf", spec := "fnExactSymOf", unfollowed := true, recurses := true, apart := false }
def FnExactSymOfSaid : Prop := fnExactSymOfRow.holds Try.pinned (OpenSpec.ofChange fnExactSymOfSpec)

/-- ITS FALSE NEIGHBOUR: 'it returns false'. Refute it at one input. -/
def fnExactSymOfWrong : ChangeSpec := { name := "fnExactSymOf", fn := fun _ => fun
  | [d] => { results := [.lit (.bool false)], args := [d] }
  | _ => none }
def FnExactSymOfWrongFalsely : Prop := fnExactSymOfRow.holds Try.pinned (OpenSpec.ofChange fnExactSymOfWrong)

/- THE SECOND FORM. 'bulk': how many values and letters a reading holds, each counted each time it is reached (what is shared counts as often as it is met; a slice's spare places count too). A statement '..UptoSaid' is the law's where the arguments, and the package variables that the reading takes, are together of bulk at most 1048576: NARROWER than '..Said'. Prove '..Said' where nothing that the law and all that it calls make is longer than what came in: it says more and counts as full. Else prove '..UptoSaid'. A law counts once. -/
mutual
def uptoBulk {H : Type} : DataW H → Nat
  | .lit (.string bytes) => bytes.length + 1
  | .lit _ => 1
  | .nil => 1
  | .ptr d => uptoBulk d + 1
  | .slice elems spare => uptoBulkAll elems + uptoBulkAll spare + 1
  | .agg parts => uptoBulkAll parts + 1
  | .iface _ d => uptoBulk d + 1
  | .map entries => uptoBulkEntries entries + 1
  | .held _ => 1
def uptoBulkAll {H : Type} : List (DataW H) → Nat
  | [] => 0
  | d :: r => uptoBulk d + uptoBulkAll r
def uptoBulkEntries {H : Type} : List (Lit × DataW H) → Nat
  | [] => 0
  | x :: r => uptoBulkEntry x + uptoBulkEntries r
def uptoBulkEntry {H : Type} : Lit × DataW H → Nat
  | (.string bytes, d) => bytes.length + uptoBulk d + 1
  | (_, d) => uptoBulk d + 1
 end
def uptoSmall : (H : Type) → List (DataW H) → Bool := fun _ ds => decide (uptoBulkAll ds ≤ 1048576)
def OpenSpec.upto (s : _root_.Go.ChangeSpec) : _root_.Go.OpenSpec := { _root_.Go.OpenSpec.ofChange s with cond := some uptoSmall }

/-- 'laws.FnExactSetRange', WHERE WHAT IT READS IS OF BULK AT MOST 1048576: true; the input reads as it did. -/
def fnExactSetRangeUptoRow : OpenClaim := { program := "ytmelbilepfnmjak", sum := "a2313a7eb7246d511ea08ed686e8fb65faab25b97994b47dffd7a9f6f4d589f8", func := "loop.example/g00419/laws.FnExactSetRange", spec := "fnExactSetRange", unfollowed := true, recurses := true, apart := false, narrowed := true }
def FnExactSetRangeUptoSaid : Prop := fnExactSetRangeUptoRow.holds Try.pinned (OpenSpec.upto fnExactSetRangeSpec)

/-- 'laws.FnExactHelloOK', WHERE WHAT IT READS IS OF BULK AT MOST 1048576: true; the input reads as it did. -/
def fnExactHelloOKUptoRow : OpenClaim := { program := "ytmelbilepfnmjak", sum := "a2313a7eb7246d511ea08ed686e8fb65faab25b97994b47dffd7a9f6f4d589f8", func := "loop.example/g00419/laws.FnExactHelloOK", spec := "fnExactHelloOK", unfollowed := true, recurses := true, apart := false, narrowed := true }
def FnExactHelloOKUptoSaid : Prop := fnExactHelloOKUptoRow.holds Try.pinned (OpenSpec.upto fnExactHelloOKSpec)

/-- 'laws.FnExactEncodeHello', WHERE WHAT IT READS IS OF BULK AT MOST 1048576: true; the input reads as it did. -/
def fnExactEncodeHelloUptoRow : OpenClaim := { program := "ytmelbilepfnmjak", sum := "a2313a7eb7246d511ea08ed686e8fb65faab25b97994b47dffd7a9f6f4d589f8", func := "loop.example/g00419/laws.FnExactEncodeHello", spec := "fnExactEncodeHello", unfollowed := true, recurses := true, apart := false, narrowed := true }
def FnExactEncodeHelloUptoSaid : Prop := fnExactEncodeHelloUptoRow.holds Try.pinned (OpenSpec.upto fnExactEncodeHelloSpec)

/-- 'laws.FnExactDecodeHello', WHERE WHAT IT READS IS OF BULK AT MOST 1048576: true; the input reads as it did. -/
def fnExactDecodeHelloUptoRow : OpenClaim := { program := "ytmelbilepfnmjak", sum := "a2313a7eb7246d511ea08ed686e8fb65faab25b97994b47dffd7a9f6f4d589f8", func := "loop.example/g00419/laws.FnExactDecodeHello", spec := "fnExactDecodeHello", unfollowed := true, recurses := true, apart := false, narrowed := true }
def FnExactDecodeHelloUptoSaid : Prop := fnExactDecodeHelloUptoRow.holds Try.pinned (OpenSpec.upto fnExactDecodeHelloSpec)

/-- 'laws.FnExactNeighborOf', WHERE WHAT IT READS IS OF BULK AT MOST 1048576: true; the input reads as it did. -/
def fnExactNeighborOfUptoRow : OpenClaim := { program := "ytmelbilepfnmjak", sum := "a2313a7eb7246d511ea08ed686e8fb65faab25b97994b47dffd7a9f6f4d589f8", func := "loop.example/g00419/laws.FnExactNeighborOf", spec := "fnExactNeighborOf", unfollowed := true, recurses := true, apart := false, narrowed := true }
def FnExactNeighborOfUptoSaid : Prop := fnExactNeighborOfUptoRow.holds Try.pinned (OpenSpec.upto fnExactNeighborOfSpec)

/-- 'laws.FnExactSymOf', WHERE WHAT IT READS IS OF BULK AT MOST 1048576: true; the input reads as it did. -/
def fnExactSymOfUptoRow : OpenClaim := { program := "ytmelbilepfnmjak", sum := "a2313a7eb7246d511ea08ed686e8fb65faab25b97994b47dffd7a9f6f4d589f8", func := "loop.example/g00419/laws.FnExactSymOf", spec := "fnExactSymOf", unfollowed := true, recurses := true, apart := false, narrowed := true }
def FnExactSymOfUptoSaid : Prop := fnExactSymOfUptoRow.holds Try.pinned (OpenSpec.upto fnExactSymOfSpec)

end Rows
end Go.Proofs.Ytmelbilepfnmjak
