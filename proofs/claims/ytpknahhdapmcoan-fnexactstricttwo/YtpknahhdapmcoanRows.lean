/-
  No cell of these rows narrows 'for every input' (looked for: loops, veiled, ifaces, maps, wideKeys, modest, calm, conditions, laid).
  DERIVED. THE GIVEN ROWS OF THIS SEAT. 4 by the template 'for every input the law returns true; each argument reads behind the call as it read before'; 0 by the template 'total and deterministic' (their statements: YtpknahhdapmcoanTotals.lean).
  GIVEN WITH THE SEED: the statements are not yours to turn. If you find one false, say at which input.
  Laid BY PROGRAM, IN A SANDBOX (cutbox-rows.mjs): the forced cells as the released guide's own fill.sh prints them over the translation d1b60fb5472d25b1… (all of the seat's roots in one cut). By AI agents, Wed Nov 11 2026. No macro, syntax, notation, axiom, sorry.
-/
import Derived.Test.YtpknahhdapmcoanChecked
import GoSem.Claim
import GoSem.ClaimJoined
import GoSem.ClaimMapViews
import Derived.JoinedTies
import Derived.KernelRfl
namespace Go.Proofs.Ytpknahhdapmcoan
/- THE CELL 'sum', in the pinned program and in every row, IS THE sha256 OF THE DUMP (.gsa) THAT YtpknahhdapmcoanProg.lean LOADS. Nothing in Lean hashes anything: it is a label: what it is worth is what the hold of that sum in a sandbox is worth. -/
noncomputable def Try.pinned : Pinned := { name := "ytpknahhdapmcoan", sum := "d1b60fb5472d25b1a972e30029ba1c15091a8a8c28b42cbacc2e3d616c5231ec", checked := Try.checked }
namespace Rows
def none {H : Type} : Left H := { results := [], args := [] }

/-- 'laws.FnExactHearTwo': WHATEVER THE INPUT: true; the input reads as it did. -/
def fnExactHearTwoSpec : ChangeSpec := { name := "fnExactHearTwo", fn := fun _ => fun
  | [d1, d2, d3, d4, d5, d6] => { results := [.lit (.bool true)], args := [d1, d2, d3, d4, d5, d6] }
  | _ => none }
def fnExactHearTwoRow : OpenClaim := { program := "ytpknahhdapmcoan", sum := "d1b60fb5472d25b1a972e30029ba1c15091a8a8c28b42cbacc2e3d616c5231ec", func := "loop.example/g00419/laws.FnExactHearTwo", spec := "fnExactHearTwo", unfollowed := true, recurses := true, plainKeys := false, apart := false }
def FnExactHearTwoSaid : Prop := fnExactHearTwoRow.holds Try.pinned (OpenSpec.ofChange fnExactHearTwoSpec)

/-- ITS FALSE NEIGHBOUR: 'it returns false'. Refute it at one input. -/
def fnExactHearTwoWrong : ChangeSpec := { name := "fnExactHearTwo", fn := fun _ => fun
  | [d1, d2, d3, d4, d5, d6] => { results := [.lit (.bool false)], args := [d1, d2, d3, d4, d5, d6] }
  | _ => none }
def FnExactHearTwoWrongFalsely : Prop := fnExactHearTwoRow.holds Try.pinned (OpenSpec.ofChange fnExactHearTwoWrong)

/-- 'laws.FnExactTwoOf': WHATEVER THE INPUT: true; the input reads as it did. -/
def fnExactTwoOfSpec : ChangeSpec := { name := "fnExactTwoOf", fn := fun _ => fun
  | [d1, d2] => { results := [.lit (.bool true)], args := [d1, d2] }
  | _ => none }
def fnExactTwoOfRow : OpenClaim := { program := "ytpknahhdapmcoan", sum := "d1b60fb5472d25b1a972e30029ba1c15091a8a8c28b42cbacc2e3d616c5231ec", func := "loop.example/g00419/laws.FnExactTwoOf", spec := "fnExactTwoOf", plainKeys := false, apart := false }
def FnExactTwoOfSaid : Prop := fnExactTwoOfRow.holds Try.pinned (OpenSpec.ofChange fnExactTwoOfSpec)

/-- ITS FALSE NEIGHBOUR: 'it returns false'. Refute it at one input. -/
def fnExactTwoOfWrong : ChangeSpec := { name := "fnExactTwoOf", fn := fun _ => fun
  | [d1, d2] => { results := [.lit (.bool false)], args := [d1, d2] }
  | _ => none }
def FnExactTwoOfWrongFalsely : Prop := fnExactTwoOfRow.holds Try.pinned (OpenSpec.ofChange fnExactTwoOfWrong)

/-- 'laws.FnExactStrictTwo': WHATEVER THE INPUT: true; the input reads as it did. -/
def fnExactStrictTwoSpec : ChangeSpec := { name := "fnExactStrictTwo", fn := fun _ => fun
  | [d1, d2, d3, d4] => { results := [.lit (.bool true)], args := [d1, d2, d3, d4] }
  | _ => none }
def fnExactStrictTwoRow : OpenClaim := { program := "ytpknahhdapmcoan", sum := "d1b60fb5472d25b1a972e30029ba1c15091a8a8c28b42cbacc2e3d616c5231ec", func := "loop.example/g00419/laws.FnExactStrictTwo", spec := "fnExactStrictTwo", plainKeys := false, apart := false }
def FnExactStrictTwoSaid : Prop := fnExactStrictTwoRow.holds Try.pinned (OpenSpec.ofChange fnExactStrictTwoSpec)

/-- ITS FALSE NEIGHBOUR: 'it returns false'. Refute it at one input. -/
def fnExactStrictTwoWrong : ChangeSpec := { name := "fnExactStrictTwo", fn := fun _ => fun
  | [d1, d2, d3, d4] => { results := [.lit (.bool false)], args := [d1, d2, d3, d4] }
  | _ => none }
def FnExactStrictTwoWrongFalsely : Prop := fnExactStrictTwoRow.holds Try.pinned (OpenSpec.ofChange fnExactStrictTwoWrong)

/-- 'laws.FnExactViaOf': WHATEVER THE INPUT: true; the input reads as it did. -/
def fnExactViaOfSpec : ChangeSpec := { name := "fnExactViaOf", fn := fun _ => fun
  | [d1, d2, d3, d4] => { results := [.lit (.bool true)], args := [d1, d2, d3, d4] }
  | _ => none }
def fnExactViaOfRow : OpenClaim := { program := "ytpknahhdapmcoan", sum := "d1b60fb5472d25b1a972e30029ba1c15091a8a8c28b42cbacc2e3d616c5231ec", func := "loop.example/g00419/laws.FnExactViaOf", spec := "fnExactViaOf", plainKeys := false, apart := false }
def FnExactViaOfSaid : Prop := fnExactViaOfRow.holds Try.pinned (OpenSpec.ofChange fnExactViaOfSpec)

/-- ITS FALSE NEIGHBOUR: 'it returns false'. Refute it at one input. -/
def fnExactViaOfWrong : ChangeSpec := { name := "fnExactViaOf", fn := fun _ => fun
  | [d1, d2, d3, d4] => { results := [.lit (.bool false)], args := [d1, d2, d3, d4] }
  | _ => none }
def FnExactViaOfWrongFalsely : Prop := fnExactViaOfRow.holds Try.pinned (OpenSpec.ofChange fnExactViaOfWrong)

/- THE SECOND FORM. 'bulk': how many values and letters a reading holds, each counted each time it is reached (what is shared counts as often as it is met; a slice's spare places count too). A statement '..UptoSaid' is the law's where the arguments, and the package variables that the reading takes, are together of bulk at most 1048576: NARROWER than '..Said'. Prove '..Said' where nothing that the law and all that it calls make is longer than what came in: it says more and counts as full. Else prove '..UptoSaid'. A law counts once. -/
mutual
def uptoBulk {H : Type} : DataW H → Nat
  | .lit (.string bytes) => bytes.length + 1
  | .lit _ => 1
  | .nil => 1
  | .ptr d => uptoBulk d + 1
  | .slice elems spare => uptoBulkAll elems + uptoBulkAll spare + 1
  | .agg parts => uptoBulkAll parts + 1
  | .iface _ d => uptoBulk d + 1
  | .map entries => uptoBulkEntries entries + 1
  | .held _ => 1
def uptoBulkAll {H : Type} : List (DataW H) → Nat
  | [] => 0
  | d :: r => uptoBulk d + uptoBulkAll r
def uptoBulkEntries {H : Type} : List (Lit × DataW H) → Nat
  | [] => 0
  | x :: r => uptoBulkEntry x + uptoBulkEntries r
def uptoBulkEntry {H : Type} : Lit × DataW H → Nat
  | (.string bytes, d) => bytes.length + uptoBulk d + 1
  | (_, d) => uptoBulk d + 1
 end
def uptoSmall : (H : Type) → List (DataW H) → Bool := fun _ ds => decide (uptoBulkAll ds ≤ 1048576)
def OpenSpec.upto (s : _root_.Go.ChangeSpec) : _root_.Go.OpenSpec := { _root_.Go.OpenSpec.ofChange s with cond := some uptoSmall }

/-- 'laws.FnExactHearTwo', WHERE WHAT IT READS IS OF BULK AT MOST 1048576: true; the input reads as it did. -/
def fnExactHearTwoUptoRow : OpenClaim := { program := "ytpknahhdapmcoan", sum := "d1b60fb5472d25b1a972e30029ba1c15091a8a8c28b42cbacc2e3d616c5231ec", func := "loop.example/g00419/laws.FnExactHearTwo", spec := "fnExactHearTwo", unfollowed := true, recurses := true, plainKeys := false, apart := false, narrowed := true }
def FnExactHearTwoUptoSaid : Prop := fnExactHearTwoUptoRow.holds Try.pinned (OpenSpec.upto fnExactHearTwoSpec)

/-- 'laws.FnExactTwoOf', WHERE WHAT IT READS IS OF BULK AT MOST 1048576: true; the input reads as it did. -/
def fnExactTwoOfUptoRow : OpenClaim := { program := "ytpknahhdapmcoan", sum := "d1b60fb5472d25b1a972e30029ba1c15091a8a8c28b42cbacc2e3d616c5231ec", func := "loop.example/g00419/laws.FnExactTwoOf", spec := "fnExactTwoOf", plainKeys := false, apart := false, narrowed := true }
def FnExactTwoOfUptoSaid : Prop := fnExactTwoOfUptoRow.holds Try.pinned (OpenSpec.upto fnExactTwoOfSpec)

/-- 'laws.FnExactStrictTwo', WHERE WHAT IT READS IS OF BULK AT MOST 1048576: true; the input reads as it did. -/
def fnExactStrictTwoUptoRow : OpenClaim := { program := "ytpknahhdapmcoan", sum := "d1b60fb5472d25b1a972e30029ba1c15091a8a8c28b42cbacc2e3d616c5231ec", func := "loop.example/g00419/laws.FnExactStrictTwo", spec := "fnExactStrictTwo", plainKeys := false, apart := false, narrowed := true }
def FnExactStrictTwoUptoSaid : Prop := fnExactStrictTwoUptoRow.holds Try.pinned (OpenSpec.upto fnExactStrictTwoSpec)

/-- 'laws.FnExactViaOf', WHERE WHAT IT READS IS OF BULK AT MOST 1048576: true; the input reads as it did. -/
def fnExactViaOfUptoRow : OpenClaim := { program := "ytpknahhdapmcoan", sum := "d1b60fb5472d25b1a972e30029ba1c15091a8a8c28b42cbacc2e3d616c5231ec", func := "loop.example/g00419/laws.FnExactViaOf", spec := "fnExactViaOf", plainKeys := false, apart := false, narrowed := true }
def FnExactViaOfUptoSaid : Prop := fnExactViaOfUptoRow.holds Try.pinned (OpenSpec.upto fnExactViaOfSpec)

end Rows
end Go.Proofs.Ytpknahhdapmcoan
