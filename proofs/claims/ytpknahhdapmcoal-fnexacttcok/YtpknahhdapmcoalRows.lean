/-
  No cell of these rows narrows 'for every input' (looked for: loops, veiled, ifaces, maps, wideKeys, modest, calm, conditions, laid).
  DERIVED. THE GIVEN ROWS OF THIS SEAT. 4 by the template 'for every input the law returns true; each argument reads behind the call as it read before'; 0 by the template 'total and deterministic' (their statements: YtpknahhdapmcoalTotals.lean).
  GIVEN WITH THE SEED: the statements are not yours to turn. If you find one false, say at which input.
  Laid BY PROGRAM, IN A SANDBOX (cutbox-rows.mjs): the forced cells as the released guide's own fill.sh prints them over the translation b9dd7bbc206cc9a3… (all of the seat's roots in one cut). By AI agents, Wed Nov 11 2026. No macro, syntax, notation, axiom, sorry.
-/
import Derived.Test.YtpknahhdapmcoalChecked
import GoSem.Claim
import GoSem.ClaimJoined
import GoSem.ClaimMapViews
import Derived.JoinedTies
import Derived.KernelRfl
namespace Go.Proofs.Ytpknahhdapmcoal
/- THE CELL 'sum', in the pinned program and in every row, IS THE sha256 OF THE DUMP (.gsa) THAT YtpknahhdapmcoalProg.lean LOADS. Nothing in Lean hashes anything: it is a label: what it is worth is what the hold of that sum in a sandbox is worth. -/
noncomputable def Try.pinned : Pinned := { name := "ytpknahhdapmcoal", sum := "b9dd7bbc206cc9a3e14cadf4e8edd94713a423b8f80cca013e68748893ff7bef", checked := Try.checked }
namespace Rows
def none {H : Type} : Left H := { results := [], args := [] }

/-- 'laws.FnExactTcOK': WHATEVER THE INPUT: true; the input reads as it did. -/
def fnExactTcOKSpec : ChangeSpec := { name := "fnExactTcOK", fn := fun _ => fun
  | [d] => { results := [.lit (.bool true)], args := [d] }
  | _ => none }
def fnExactTcOKRow : OpenClaim := { program := "ytpknahhdapmcoal", sum := "b9dd7bbc206cc9a3e14cadf4e8edd94713a423b8f80cca013e68748893ff7bef", func := "loop.example/g00419/laws.FnExactTcOK", spec := "fnExactTcOK", unfollowed := true, recurses := true, apart := false }
def FnExactTcOKSaid : Prop := fnExactTcOKRow.holds Try.pinned (OpenSpec.ofChange fnExactTcOKSpec)

/-- ITS FALSE NEIGHBOUR: 'it returns false'. Refute it at one input. -/
def fnExactTcOKWrong : ChangeSpec := { name := "fnExactTcOK", fn := fun _ => fun
  | [d] => { results := [.lit (.bool false)], args := [d] }
  | _ => none }
def FnExactTcOKWrongFalsely : Prop := fnExactTcOKRow.holds Try.pinned (OpenSpec.ofChange fnExactTcOKWrong)

/-- 'laws.FnExactEncodeTc': WHATEVER THE INPUT: true; the input reads as it did. -/
def fnExactEncodeTcSpec : ChangeSpec := { name := "fnExactEncodeTc", fn := fun _ => fun
  | [d] => { results := [.lit (.bool true)], args := [d] }
  | _ => none }
def fnExactEncodeTcRow : OpenClaim := { program := "ytpknahhdapmcoal", sum := "b9dd7bbc206cc9a3e14cadf4e8edd94713a423b8f80cca013e68748893ff7bef", func := "loop.example/g00419/laws.FnExactEncodeTc", spec := "fnExactEncodeTc", unfollowed := true, recurses := true, apart := false }
def FnExactEncodeTcSaid : Prop := fnExactEncodeTcRow.holds Try.pinned (OpenSpec.ofChange fnExactEncodeTcSpec)

/-- ITS FALSE NEIGHBOUR: 'it returns false'. Refute it at one input. -/
def fnExactEncodeTcWrong : ChangeSpec := { name := "fnExactEncodeTc", fn := fun _ => fun
  | [d] => { results := [.lit (.bool false)], args := [d] }
  | _ => none }
def FnExactEncodeTcWrongFalsely : Prop := fnExactEncodeTcRow.holds Try.pinned (OpenSpec.ofChange fnExactEncodeTcWrong)

/-- 'laws.FnExactDecodeTc': WHATEVER THE INPUT: true; the input reads as it did. -/
def fnExactDecodeTcSpec : ChangeSpec := { name := "fnExactDecodeTc", fn := fun _ => fun
  | [d] => { results := [.lit (.bool true)], args := [d] }
  | _ => none }
def fnExactDecodeTcRow : OpenClaim := { program := "ytpknahhdapmcoal", sum := "b9dd7bbc206cc9a3e14cadf4e8edd94713a423b8f80cca013e68748893ff7bef", func := "loop.example/g00419/laws.FnExactDecodeTc", spec := "fnExactDecodeTc", unfollowed := true, recurses := true, apart := false }
def FnExactDecodeTcSaid : Prop := fnExactDecodeTcRow.holds Try.pinned (OpenSpec.ofChange fnExactDecodeTcSpec)

/-- ITS FALSE NEIGHBOUR: 'it returns false'. Refute it at one input. -/
def fnExactDecodeTcWrong : ChangeSpec := { name := "fnExactDecodeTc", fn := fun _ => fun
  | [d] => { results := [.lit (.bool false)], args := [d] }
  | _ => none }
def FnExactDecodeTcWrongFalsely : Prop := fnExactDecodeTcRow.holds Try.pinned (OpenSpec.ofChange fnExactDecodeTcWrong)

/-- 'laws.FnExactEdgeOf': WHATEVER THE INPUT: true; the input reads as it did. -/
def fnExactEdgeOfSpec : ChangeSpec := { name := "fnExactEdgeOf", fn := fun _ => fun
  | [d1, d2] => { results := [.lit (.bool true)], args := [d1, d2] }
  | _ => none }
def fnExactEdgeOfRow : OpenClaim := { program := "ytpknahhdapmcoal", sum := "b9dd7bbc206cc9a3e14cadf4e8edd94713a423b8f80cca013e68748893ff7bef", func := "loop.example/g00419/laws.FnExactEdgeOf", spec := "fnExactEdgeOf", unfollowed := true, recurses := true, apart := false }
def FnExactEdgeOfSaid : Prop := fnExactEdgeOfRow.holds Try.pinned (OpenSpec.ofChange fnExactEdgeOfSpec)

/-- ITS FALSE NEIGHBOUR: 'it returns false'. Refute it at one input. -/
def fnExactEdgeOfWrong : ChangeSpec := { name := "fnExactEdgeOf", fn := fun _ => fun
  | [d1, d2] => { results := [.lit (.bool false)], args := [d1, d2] }
  | _ => none }
def FnExactEdgeOfWrongFalsely : Prop := fnExactEdgeOfRow.holds Try.pinned (OpenSpec.ofChange fnExactEdgeOfWrong)

/- THE SECOND FORM. 'bulk': how many values and letters a reading holds, each counted each time it is reached (what is shared counts as often as it is met; a slice's spare places count too). A statement '..UptoSaid' is the law's where the arguments, and the package variables that the reading takes, are together of bulk at most 1048576: NARROWER than '..Said'. Prove '..Said' where nothing that the law and all that it calls make is longer than what came in: it says more and counts as full. Else prove '..UptoSaid'. A law counts once. -/
mutual
def uptoBulk {H : Type} : DataW H → Nat
  | .lit (.string bytes) => bytes.length + 1
  | .lit _ => 1
  | .nil => 1
  | .ptr d => uptoBulk d + 1
  | .slice elems spare => uptoBulkAll elems + uptoBulkAll spare + 1
  | .agg parts => uptoBulkAll parts + 1
  | .iface _ d => uptoBulk d + 1
  | .map entries => uptoBulkEntries entries + 1
  | .held _ => 1
def uptoBulkAll {H : Type} : List (DataW H) → Nat
  | [] => 0
  | d :: r => uptoBulk d + uptoBulkAll r
def uptoBulkEntries {H : Type} : List (Lit × DataW H) → Nat
  | [] => 0
  | x :: r => uptoBulkEntry x + uptoBulkEntries r
def uptoBulkEntry {H : Type} : Lit × DataW H → Nat
  | (.string bytes, d) => bytes.length + uptoBulk d + 1
  | (_, d) => uptoBulk d + 1
 end
def uptoSmall : (H : Type) → List (DataW H) → Bool := fun _ ds => decide (uptoBulkAll ds ≤ 1048576)
def OpenSpec.upto (s : _root_.Go.ChangeSpec) : _root_.Go.OpenSpec := { _root_.Go.OpenSpec.ofChange s with cond := some uptoSmall }

/-- 'laws.FnExactTcOK', WHERE WHAT IT READS IS OF BULK AT MOST 1048576: true; the input reads as it did. -/
def fnExactTcOKUptoRow : OpenClaim := { program := "ytpknahhdapmcoal", sum := "b9dd7bbc206cc9a3e14cadf4e8edd94713a423b8f80cca013e68748893ff7bef", func := "loop.example/g00419/laws.FnExactTcOK", spec := "fnExactTcOK", unfollowed := true, recurses := true, apart := false, narrowed := true }
def FnExactTcOKUptoSaid : Prop := fnExactTcOKUptoRow.holds Try.pinned (OpenSpec.upto fnExactTcOKSpec)

/-- 'laws.FnExactEncodeTc', WHERE WHAT IT READS IS OF BULK AT MOST 1048576: true; the input reads as it did. -/
def fnExactEncodeTcUptoRow : OpenClaim := { program := "ytpknahhdapmcoal", sum := "b9dd7bbc206cc9a3e14cadf4e8edd94713a423b8f80cca013e68748893ff7bef", func := "loop.example/g00419/laws.FnExactEncodeTc", spec := "fnExactEncodeTc", unfollowed := true, recurses := true, apart := false, narrowed := true }
def FnExactEncodeTcUptoSaid : Prop := fnExactEncodeTcUptoRow.holds Try.pinned (OpenSpec.upto fnExactEncodeTcSpec)

/-- 'laws.FnExactDecodeTc', WHERE WHAT IT READS IS OF BULK AT MOST 1048576: true; the input reads as it did. -/
def fnExactDecodeTcUptoRow : OpenClaim := { program := "ytpknahhdapmcoal", sum := "b9dd7bbc206cc9a3e14cadf4e8edd94713a423b8f80cca013e68748893ff7bef", func := "loop.example/g00419/laws.FnExactDecodeTc", spec := "fnExactDecodeTc", unfollowed := true, recurses := true, apart := false, narrowed := true }
def FnExactDecodeTcUptoSaid : Prop := fnExactDecodeTcUptoRow.holds Try.pinned (OpenSpec.upto fnExactDecodeTcSpec)

/-- 'laws.FnExactEdgeOf', WHERE WHAT IT READS IS OF BULK AT MOST 1048576: true; the input reads as it did. -/
def fnExactEdgeOfUptoRow : OpenClaim := { program := "ytpknahhdapmcoal", sum := "b9dd7bbc206cc9a3e14cadf4e8edd94713a423b8f80cca013e68748893ff7bef", func := "loop.example/g00419/laws.FnExactEdgeOf", spec := "fnExactEdgeOf", unfollowed := true, recurses := true, apart := false, narrowed := true }
def FnExactEdgeOfUptoSaid : Prop := fnExactEdgeOfUptoRow.holds Try.pinned (OpenSpec.upto fnExactEdgeOfSpec)

end Rows
end Go.Proofs.Ytpknahhdapmcoal
