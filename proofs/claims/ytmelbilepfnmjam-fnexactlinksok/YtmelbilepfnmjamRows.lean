/-
  No cell of these rows narrows 'for every input' (looked for: loops, veiled, ifaces, maps, wideKeys, modest, calm, conditions, laid).
  DERIVED. THE GIVEN ROWS OF THIS SEAT. 6 by the template 'for every input the law returns true; each argument reads behind the call as it read before'; 0 by the template 'total and deterministic' (their statements: YtmelbilepfnmjamTotals.lean).
  GIVEN WITH THE SEED: the statements are not yours to turn. If you find one false, say at which input.
  Laid BY PROGRAM, IN A SANDBOX (cutbox-rows.mjs): the forced cells as the released guide's own fill.sh prints them over the translation 230accfdde77e133… (all of the seat's roots in one cut). By AI agents, Wed Nov 11 2026. No macro, syntax, notation, axiom, sorry.
-/
import Derived.Test.YtmelbilepfnmjamChecked
import GoSem.Claim
import GoSem.ClaimJoined
import GoSem.ClaimMapViews
import Derived.JoinedTies
import Derived.KernelRfl
namespace Go.Proofs.Ytmelbilepfnmjam
/- THE CELL 'sum', in the pinned program and in every row, IS THE sha256 OF THE DUMP (.gsa) THAT YtmelbilepfnmjamProg.lean LOADS. Nothing in Lean hashes anything: it is a label: what it is worth is what the hold of that sum in a sandbox is worth. -/
noncomputable def Try.pinned : Pinned := { name := "ytmelbilepfnmjam", sum := "230accfdde77e13310b724ac969f8c9442bd7dca5067a6cffc15b1cb59d1ae67", checked := Try.checked }
namespace Rows
def none {H : Type} : Left H := { results := [], args := [] }

/-- 'laws.FnExactLinksOK': WHATEVER THE INPUT: true; the input reads as it did. -/
def fnExactLinksOKSpec : ChangeSpec := { name := "fnExactLinksOK", fn := fun _ => fun
  | [d] => { results := [.lit (.bool true)], args := [d] }
  | _ => none }
def fnExactLinksOKRow : OpenClaim := { program := "ytmelbilepfnmjam", sum := "230accfdde77e13310b724ac969f8c9442bd7dca5067a6cffc15b1cb59d1ae67", func := "loop.example/g00419/laws.FnExactLinksOK", spec := "fnExactLinksOK", plainKeys := false, apart := false }
def FnExactLinksOKSaid : Prop := fnExactLinksOKRow.holds Try.pinned (OpenSpec.ofChange fnExactLinksOKSpec)

/-- ITS FALSE NEIGHBOUR: 'it returns false'. Refute it at one input. -/
def fnExactLinksOKWrong : ChangeSpec := { name := "fnExactLinksOK", fn := fun _ => fun
  | [d] => { results := [.lit (.bool false)], args := [d] }
  | _ => none }
def FnExactLinksOKWrongFalsely : Prop := fnExactLinksOKRow.holds Try.pinned (OpenSpec.ofChange fnExactLinksOKWrong)

/-- 'laws.FnExactStatusOf': WHATEVER THE INPUT: true; the input reads as it did. -/
def fnExactStatusOfSpec : ChangeSpec := { name := "fnExactStatusOf", fn := fun _ => fun
  | [d1, d2] => { results := [.lit (.bool true)], args := [d1, d2] }
  | _ => none }
def fnExactStatusOfRow : OpenClaim := { program := "ytmelbilepfnmjam", sum := "230accfdde77e13310b724ac969f8c9442bd7dca5067a6cffc15b1cb59d1ae67", func := "loop.example/g00419/laws.FnExactStatusOf", spec := "fnExactStatusOf", plainKeys := false, apart := false }
def FnExactStatusOfSaid : Prop := fnExactStatusOfRow.holds Try.pinned (OpenSpec.ofChange fnExactStatusOfSpec)

/-- ITS FALSE NEIGHBOUR: 'it returns false'. Refute it at one input. -/
def fnExactStatusOfWrong : ChangeSpec := { name := "fnExactStatusOf", fn := fun _ => fun
  | [d1, d2] => { results := [.lit (.bool false)], args := [d1, d2] }
  | _ => none }
def FnExactStatusOfWrongFalsely : Prop := fnExactStatusOfRow.holds Try.pinned (OpenSpec.ofChange fnExactStatusOfWrong)

/-- 'laws.FnExactLinkFind': WHATEVER THE INPUT: true; the input reads as it did. -/
def fnExactLinkFindSpec : ChangeSpec := { name := "fnExactLinkFind", fn := fun _ => fun
  | [d1, d2] => { results := [.lit (.bool true)], args := [d1, d2] }
  | _ => none }
def fnExactLinkFindRow : OpenClaim := { program := "ytmelbilepfnmjam", sum := "230accfdde77e13310b724ac969f8c9442bd7dca5067a6cffc15b1cb59d1ae67", func := "loop.example/g00419/laws.FnExactLinkFind", spec := "fnExactLinkFind", plainKeys := false, apart := false }
def FnExactLinkFindSaid : Prop := fnExactLinkFindRow.holds Try.pinned (OpenSpec.ofChange fnExactLinkFindSpec)

/-- ITS FALSE NEIGHBOUR: 'it returns false'. Refute it at one input. -/
def fnExactLinkFindWrong : ChangeSpec := { name := "fnExactLinkFind", fn := fun _ => fun
  | [d1, d2] => { results := [.lit (.bool false)], args := [d1, d2] }
  | _ => none }
def FnExactLinkFindWrongFalsely : Prop := fnExactLinkFindRow.holds Try.pinned (OpenSpec.ofChange fnExactLinkFindWrong)

/-- 'laws.FnExactHearHello': WHATEVER THE INPUT: true; the input reads as it did. -/
def fnExactHearHelloSpec : ChangeSpec := { name := "fnExactHearHello", fn := fun _ => fun
  | [d1, d2, d3, d4, d5, d6] => { results := [.lit (.bool true)], args := [d1, d2, d3, d4, d5, d6] }
  | _ => none }
def fnExactHearHelloRow : OpenClaim := { program := "ytmelbilepfnmjam", sum := "230accfdde77e13310b724ac969f8c9442bd7dca5067a6cffc15b1cb59d1ae67", func := "loop.example/g00419/laws.FnExactHearHello", spec := "fnExactHearHello", unfollowed := true, recurses := true, plainKeys := false, apart := false }
def FnExactHearHelloSaid : Prop := fnExactHearHelloRow.holds Try.pinned (OpenSpec.ofChange fnExactHearHelloSpec)

/-- ITS FALSE NEIGHBOUR: 'it returns false'. Refute it at one input. -/
def fnExactHearHelloWrong : ChangeSpec := { name := "fnExactHearHello", fn := fun _ => fun
  | [d1, d2, d3, d4, d5, d6] => { results := [.lit (.bool false)], args := [d1, d2, d3, d4, d5, d6] }
  | _ => none }
def FnExactHearHelloWrongFalsely : Prop := fnExactHearHelloRow.holds Try.pinned (OpenSpec.ofChange fnExactHearHelloWrong)

/-- 'laws.FnExactLinksExpire': WHATEVER THE INPUT: true; the input reads as it did. -/
def fnExactLinksExpireSpec : ChangeSpec := { name := "fnExactLinksExpire", fn := fun _ => fun
  | [d1, d2] => { results := [.lit (.bool true)], args := [d1, d2] }
  | _ => none }
def fnExactLinksExpireRow : OpenClaim := { program := "ytmelbilepfnmjam", sum := "230accfdde77e13310b724ac969f8c9442bd7dca5067a6cffc15b1cb59d1ae67", func := "loop.example/g00419/laws.FnExactLinksExpire", spec := "fnExactLinksExpire", plainKeys := false, apart := false }
def FnExactLinksExpireSaid : Prop := fnExactLinksExpireRow.holds Try.pinned (OpenSpec.ofChange fnExactLinksExpireSpec)

/-- ITS FALSE NEIGHBOUR: 'it returns false'. Refute it at one input. -/
def fnExactLinksExpireWrong : ChangeSpec := { name := "fnExactLinksExpire", fn := fun _ => fun
  | [d1, d2] => { results := [.lit (.bool false)], args := [d1, d2] }
  | _ => none }
def FnExactLinksExpireWrongFalsely : Prop := fnExactLinksExpireRow.holds Try.pinned (OpenSpec.ofChange fnExactLinksExpireWrong)

/-- 'laws.FnExactSymLinks': WHATEVER THE INPUT: true; the input reads as it did. -/
def fnExactSymLinksSpec : ChangeSpec := { name := "fnExactSymLinks", fn := fun _ => fun
  | [d1, d2] => { results := [.lit (.bool true)], args := [d1, d2] }
  | _ => none }
def fnExactSymLinksRow : OpenClaim := { program := "ytmelbilepfnmjam", sum := "230accfdde77e13310b724ac969f8c9442bd7dca5067a6cffc15b1cb59d1ae67", func := "loop.example/g00419/laws.FnExactSymLinks", spec := "fnExactSymLinks", plainKeys := false, apart := false }
def FnExactSymLinksSaid : Prop := fnExactSymLinksRow.holds Try.pinned (OpenSpec.ofChange fnExactSymLinksSpec)

/-- ITS FALSE NEIGHBOUR: 'it returns false'. Refute it at one input. -/
def fnExactSymLinksWrong : ChangeSpec := { name := "fnExactSymLinks", fn := fun _ => fun
  | [d1, d2] => { results := [.lit (.bool false)], args := [d1, d2] }
  | _ => none }
def FnExactSymLinksWrongFalsely : Prop := fnExactSymLinksRow.holds Try.pinned (OpenSpec.ofChange fnExactSymLinksWrong)

/- THE SECOND FORM. 'bulk': how many values and letters a reading holds, each counted each time it is reached (what is shared counts as often as it is met; a slice's spare places count too). A statement '..UptoSaid' is the law's where the arguments, and the package variables that the reading takes, are together of bulk at most 1048576: NARROWER than '..Said'. Prove '..Said' where nothing that the law and all that it calls make is longer than what came in: it says more and counts as full. Else prove '..UptoSaid'. A law counts once. -/
mutual
def uptoBulk {H : Type} : DataW H → Nat
  | .lit (.string bytes) => bytes.length + 1
  | .lit _ => 1
  | .nil => 1
  | .ptr d => uptoBulk d + 1
  | .slice elems spare => uptoBulkAll elems + uptoBulkAll spare + 1
  | .agg parts => uptoBulkAll parts + 1
  | .iface _ d => uptoBulk d + 1
  | .map entries => uptoBulkEntries entries + 1
  | .held _ => 1
def uptoBulkAll {H : Type} : List (DataW H) → Nat
  | [] => 0
  | d :: r => uptoBulk d + uptoBulkAll r
def uptoBulkEntries {H : Type} : List (Lit × DataW H) → Nat
  | [] => 0
  | x :: r => uptoBulkEntry x + uptoBulkEntries r
def uptoBulkEntry {H : Type} : Lit × DataW H → Nat
  | (.string bytes, d) => bytes.length + uptoBulk d + 1
  | (_, d) => uptoBulk d + 1
 end
def uptoSmall : (H : Type) → List (DataW H) → Bool := fun _ ds => decide (uptoBulkAll ds ≤ 1048576)
def OpenSpec.upto (s : _root_.Go.ChangeSpec) : _root_.Go.OpenSpec := { _root_.Go.OpenSpec.ofChange s with cond := some uptoSmall }

/-- 'laws.FnExactLinksOK', WHERE WHAT IT READS IS OF BULK AT MOST 1048576: true; the input reads as it did. -/
def fnExactLinksOKUptoRow : OpenClaim := { program := "ytmelbilepfnmjam", sum := "230accfdde77e13310b724ac969f8c9442bd7dca5067a6cffc15b1cb59d1ae67", func := "loop.example/g00419/laws.FnExactLinksOK", spec := "fnExactLinksOK", plainKeys := false, apart := false, narrowed := true }
def FnExactLinksOKUptoSaid : Prop := fnExactLinksOKUptoRow.holds Try.pinned (OpenSpec.upto fnExactLinksOKSpec)

/-- 'laws.FnExactStatusOf', WHERE WHAT IT READS IS OF BULK AT MOST 1048576: true; the input reads as it did. -/
def fnExactStatusOfUptoRow : OpenClaim := { program := "ytmelbilepfnmjam", sum := "230accfdde77e13310b724ac969f8c9442bd7dca5067a6cffc15b1cb59d1ae67", func := "loop.example/g00419/laws.FnExactStatusOf", spec := "fnExactStatusOf", plainKeys := false, apart := false, narrowed := true }
def FnExactStatusOfUptoSaid : Prop := fnExactStatusOfUptoRow.holds Try.pinned (OpenSpec.upto fnExactStatusOfSpec)

/-- 'laws.FnExactLinkFind', WHERE WHAT IT READS IS OF BULK AT MOST 1048576: true; the input reads as it did. -/
def fnExactLinkFindUptoRow : OpenClaim := { program := "ytmelbilepfnmjam", sum := "230accfdde77e13310b724ac969f8c9442bd7dca5067a6cffc15b1cb59d1ae67", func := "loop.example/g00419/laws.FnExactLinkFind", spec := "fnExactLinkFind", plainKeys := false, apart := false, narrowed := true }
def FnExactLinkFindUptoSaid : Prop := fnExactLinkFindUptoRow.holds Try.pinned (OpenSpec.upto fnExactLinkFindSpec)

/-- 'laws.FnExactHearHello', WHERE WHAT IT READS IS OF BULK AT MOST 1048576: true; the input reads as it did. -/
def fnExactHearHelloUptoRow : OpenClaim := { program := "ytmelbilepfnmjam", sum := "230accfdde77e13310b724ac969f8c9442bd7dca5067a6cffc15b1cb59d1ae67", func := "loop.example/g00419/laws.FnExactHearHello", spec := "fnExactHearHello", unfollowed := true, recurses := true, plainKeys := false, apart := false, narrowed := true }
def FnExactHearHelloUptoSaid : Prop := fnExactHearHelloUptoRow.holds Try.pinned (OpenSpec.upto fnExactHearHelloSpec)

/-- 'laws.FnExactLinksExpire', WHERE WHAT IT READS IS OF BULK AT MOST 1048576: true; the input reads as it did. -/
def fnExactLinksExpireUptoRow : OpenClaim := { program := "ytmelbilepfnmjam", sum := "230accfdde77e13310b724ac969f8c9442bd7dca5067a6cffc15b1cb59d1ae67", func := "loop.example/g00419/laws.FnExactLinksExpire", spec := "fnExactLinksExpire", plainKeys := false, apart := false, narrowed := true }
def FnExactLinksExpireUptoSaid : Prop := fnExactLinksExpireUptoRow.holds Try.pinned (OpenSpec.upto fnExactLinksExpireSpec)

/-- 'laws.FnExactSymLinks', WHERE WHAT IT READS IS OF BULK AT MOST 1048576: true; the input reads as it did. -/
def fnExactSymLinksUptoRow : OpenClaim := { program := "ytmelbilepfnmjam", sum := "230accfdde77e13310b724ac969f8c9442bd7dca5067a6cffc15b1cb59d1ae67", func := "loop.example/g00419/laws.FnExactSymLinks", spec := "fnExactSymLinks", plainKeys := false, apart := false, narrowed := true }
def FnExactSymLinksUptoSaid : Prop := fnExactSymLinksUptoRow.holds Try.pinned (OpenSpec.upto fnExactSymLinksSpec)

end Rows
end Go.Proofs.Ytmelbilepfnmjam
