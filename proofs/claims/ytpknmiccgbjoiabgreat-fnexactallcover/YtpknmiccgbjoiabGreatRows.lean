/-
  No cell of these rows narrows 'for every input' (looked for: loops, veiled, ifaces, maps, wideKeys, modest, calm, conditions, laid).
  DERIVED. THE GIVEN ROWS OF THIS SEAT. 5 by the template 'for every input the law returns true; each argument reads behind the call as it read before'; 0 by the template 'total and deterministic' (their statements: YtpknmiccgbjoiabGreatTotals.lean).
  GIVEN WITH THE SEED: the statements are not yours to turn. If you find one false, say at which input.
  Laid BY PROGRAM, IN A SANDBOX (cutbox-rows.mjs): the forced cells as the released guide's own fill.sh prints them over the translation 82c4ebab1275f164… (all of the seat's roots in one cut). By AI agents, Wed Nov 11 2026. No macro, syntax, notation, axiom, sorry.
-/
import Derived.Test.YtpknmiccgbjoiabGreatChecked
import GoSem.Claim
import GoSem.ClaimJoined
import GoSem.ClaimMapViews
import Derived.JoinedTies
import Derived.KernelRfl
namespace Go.Proofs.YtpknmiccgbjoiabGreat
/- THE CELL 'sum', in the pinned program and in every row, IS THE sha256 OF THE DUMP (.gsa) THAT YtpknmiccgbjoiabGreatProg.lean LOADS. Nothing in Lean hashes anything: it is a label: what it is worth is what the hold of that sum in a sandbox is worth. -/
noncomputable def Tryz.pinned : Pinned := { name := "ytpknmiccgbjoiabgreat", sum := "82c4ebab1275f164df0203f02a5a43847f1e34b375c3965c56423a42706c2e85", checked := Tryz.checked }
namespace Rows
def none {H : Type} : Left H := { results := [], args := [] }

/-- 'laws.FnExactConverged': WHATEVER THE INPUT: true; the input reads as it did. -/
def fnExactConvergedSpec : ChangeSpec := { name := "fnExactConverged", fn := fun _ => fun
  | [d] => { results := [.lit (.bool true)], args := [d] }
  | _ => none }
def fnExactConvergedRow : OpenClaim := { program := "ytpknmiccgbjoiabgreat", sum := "82c4ebab1275f164df0203f02a5a43847f1e34b375c3965c56423a42706c2e85", func := "loop.example/g00419/laws.FnExactConverged", spec := "fnExactConverged", unfollowed := true, recurses := true, plainKeys := false, apart := false }
def FnExactConvergedSaid : Prop := fnExactConvergedRow.holds Tryz.pinned (OpenSpec.ofChange fnExactConvergedSpec)

/-- ITS FALSE NEIGHBOUR: 'it returns false'. Refute it at one input. -/
def fnExactConvergedWrong : ChangeSpec := { name := "fnExactConverged", fn := fun _ => fun
  | [d] => { results := [.lit (.bool false)], args := [d] }
  | _ => none }
def FnExactConvergedWrongFalsely : Prop := fnExactConvergedRow.holds Tryz.pinned (OpenSpec.ofChange fnExactConvergedWrong)

/-- 'laws.FnExactWalk': WHATEVER THE INPUT: true; the input reads as it did. -/
def fnExactWalkSpec : ChangeSpec := { name := "fnExactWalk", fn := fun _ => fun
  | [d1, d2, d3] => { results := [.lit (.bool true)], args := [d1, d2, d3] }
  | _ => none }
def fnExactWalkRow : OpenClaim := { program := "ytpknmiccgbjoiabgreat", sum := "82c4ebab1275f164df0203f02a5a43847f1e34b375c3965c56423a42706c2e85", func := "loop.example/g00419/laws.FnExactWalk", spec := "fnExactWalk", unfollowed := true, recurses := true, plainKeys := false, apart := false }
def FnExactWalkSaid : Prop := fnExactWalkRow.holds Tryz.pinned (OpenSpec.ofChange fnExactWalkSpec)

/-- ITS FALSE NEIGHBOUR: 'it returns false'. Refute it at one input. -/
def fnExactWalkWrong : ChangeSpec := { name := "fnExactWalk", fn := fun _ => fun
  | [d1, d2, d3] => { results := [.lit (.bool false)], args := [d1, d2, d3] }
  | _ => none }
def FnExactWalkWrongFalsely : Prop := fnExactWalkRow.holds Tryz.pinned (OpenSpec.ofChange fnExactWalkWrong)

/-- 'laws.FnExactAllCover': WHATEVER THE INPUT: true; the input reads as it did. -/
def fnExactAllCoverSpec : ChangeSpec := { name := "fnExactAllCover", fn := fun _ => fun
  | [d] => { results := [.lit (.bool true)], args := [d] }
  | _ => none }
def fnExactAllCoverRow : OpenClaim := { program := "ytpknmiccgbjoiabgreat", sum := "82c4ebab1275f164df0203f02a5a43847f1e34b375c3965c56423a42706c2e85", func := "loop.example/g00419/laws.FnExactAllCover", spec := "fnExactAllCover", unfollowed := true, recurses := true, plainKeys := false, apart := false }
def FnExactAllCoverSaid : Prop := fnExactAllCoverRow.holds Tryz.pinned (OpenSpec.ofChange fnExactAllCoverSpec)

/-- ITS FALSE NEIGHBOUR: 'it returns false'. Refute it at one input. -/
def fnExactAllCoverWrong : ChangeSpec := { name := "fnExactAllCover", fn := fun _ => fun
  | [d] => { results := [.lit (.bool false)], args := [d] }
  | _ => none }
def FnExactAllCoverWrongFalsely : Prop := fnExactAllCoverRow.holds Tryz.pinned (OpenSpec.ofChange fnExactAllCoverWrong)

/-- 'laws.FnExactCountMarks': WHATEVER THE INPUT: true; the input reads as it did. -/
def fnExactCountMarksSpec : ChangeSpec := { name := "fnExactCountMarks", fn := fun _ => fun
  | [d1, d2, d3] => { results := [.lit (.bool true)], args := [d1, d2, d3] }
  | _ => none }
def fnExactCountMarksRow : OpenClaim := { program := "ytpknmiccgbjoiabgreat", sum := "82c4ebab1275f164df0203f02a5a43847f1e34b375c3965c56423a42706c2e85", func := "loop.example/g00419/laws.FnExactCountMarks", spec := "fnExactCountMarks", unfollowed := true, recurses := true, plainKeys := false, apart := false }
def FnExactCountMarksSaid : Prop := fnExactCountMarksRow.holds Tryz.pinned (OpenSpec.ofChange fnExactCountMarksSpec)

/-- ITS FALSE NEIGHBOUR: 'it returns false'. Refute it at one input. -/
def fnExactCountMarksWrong : ChangeSpec := { name := "fnExactCountMarks", fn := fun _ => fun
  | [d1, d2, d3] => { results := [.lit (.bool false)], args := [d1, d2, d3] }
  | _ => none }
def FnExactCountMarksWrongFalsely : Prop := fnExactCountMarksRow.holds Tryz.pinned (OpenSpec.ofChange fnExactCountMarksWrong)

/-- 'laws.FnExactErrorsOf': WHATEVER THE INPUT: true; the input reads as it did. -/
def fnExactErrorsOfSpec : ChangeSpec := { name := "fnExactErrorsOf", fn := fun _ => fun
  | [d] => { results := [.lit (.bool true)], args := [d] }
  | _ => none }
def fnExactErrorsOfRow : OpenClaim := { program := "ytpknmiccgbjoiabgreat", sum := "82c4ebab1275f164df0203f02a5a43847f1e34b375c3965c56423a42706c2e85", func := "loop.example/g00419/laws.FnExactErrorsOf", spec := "fnExactErrorsOf", unfollowed := true, recurses := true, plainKeys := false, apart := false }
def FnExactErrorsOfSaid : Prop := fnExactErrorsOfRow.holds Tryz.pinned (OpenSpec.ofChange fnExactErrorsOfSpec)

/-- ITS FALSE NEIGHBOUR: 'it returns false'. Refute it at one input. -/
def fnExactErrorsOfWrong : ChangeSpec := { name := "fnExactErrorsOf", fn := fun _ => fun
  | [d] => { results := [.lit (.bool false)], args := [d] }
  | _ => none }
def FnExactErrorsOfWrongFalsely : Prop := fnExactErrorsOfRow.holds Tryz.pinned (OpenSpec.ofChange fnExactErrorsOfWrong)

/- THE SECOND FORM. 'bulk': how many values and letters a reading holds, each counted each time it is reached (what is shared counts as often as it is met; a slice's spare places count too). A statement '..UptoSaid' is the law's where the arguments, and the package variables that the reading takes, are together of bulk at most 1048576: NARROWER than '..Said'. Prove '..Said' where nothing that the law and all that it calls make is longer than what came in: it says more and counts as full. Else prove '..UptoSaid'. A law counts once. -/
mutual
def uptoBulk {H : Type} : DataW H → Nat
  | .lit (.string bytes) => bytes.length + 1
  | .lit _ => 1
  | .nil => 1
  | .ptr d => uptoBulk d + 1
  | .slice elems spare => uptoBulkAll elems + uptoBulkAll spare + 1
  | .agg parts => uptoBulkAll parts + 1
  | .iface _ d => uptoBulk d + 1
  | .map entries => uptoBulkEntries entries + 1
  | .held _ => 1
def uptoBulkAll {H : Type} : List (DataW H) → Nat
  | [] => 0
  | d :: r => uptoBulk d + uptoBulkAll r
def uptoBulkEntries {H : Type} : List (Lit × DataW H) → Nat
  | [] => 0
  | x :: r => uptoBulkEntry x + uptoBulkEntries r
def uptoBulkEntry {H : Type} : Lit × DataW H → Nat
  | (.string bytes, d) => bytes.length + uptoBulk d + 1
  | (_, d) => uptoBulk d + 1
 end
def uptoSmall : (H : Type) → List (DataW H) → Bool := fun _ ds => decide (uptoBulkAll ds ≤ 1048576)
def OpenSpec.upto (s : _root_.Go.ChangeSpec) : _root_.Go.OpenSpec := { _root_.Go.OpenSpec.ofChange s with cond := some uptoSmall }

/-- 'laws.FnExactConverged', WHERE WHAT IT READS IS OF BULK AT MOST 1048576: true; the input reads as it did. -/
def fnExactConvergedUptoRow : OpenClaim := { program := "ytpknmiccgbjoiabgreat", sum := "82c4ebab1275f164df0203f02a5a43847f1e34b375c3965c56423a42706c2e85", func := "loop.example/g00419/laws.FnExactConverged", spec := "fnExactConverged", unfollowed := true, recurses := true, plainKeys := false, apart := false, narrowed := true }
def FnExactConvergedUptoSaid : Prop := fnExactConvergedUptoRow.holds Tryz.pinned (OpenSpec.upto fnExactConvergedSpec)

/-- 'laws.FnExactWalk', WHERE WHAT IT READS IS OF BULK AT MOST 1048576: true; the input reads as it did. -/
def fnExactWalkUptoRow : OpenClaim := { program := "ytpknmiccgbjoiabgreat", sum := "82c4ebab1275f164df0203f02a5a43847f1e34b375c3965c56423a42706c2e85", func := "loop.example/g00419/laws.FnExactWalk", spec := "fnExactWalk", unfollowed := true, recurses := true, plainKeys := false, apart := false, narrowed := true }
def FnExactWalkUptoSaid : Prop := fnExactWalkUptoRow.holds Tryz.pinned (OpenSpec.upto fnExactWalkSpec)

/-- 'laws.FnExactAllCover', WHERE WHAT IT READS IS OF BULK AT MOST 1048576: true; the input reads as it did. -/
def fnExactAllCoverUptoRow : OpenClaim := { program := "ytpknmiccgbjoiabgreat", sum := "82c4ebab1275f164df0203f02a5a43847f1e34b375c3965c56423a42706c2e85", func := "loop.example/g00419/laws.FnExactAllCover", spec := "fnExactAllCover", unfollowed := true, recurses := true, plainKeys := false, apart := false, narrowed := true }
def FnExactAllCoverUptoSaid : Prop := fnExactAllCoverUptoRow.holds Tryz.pinned (OpenSpec.upto fnExactAllCoverSpec)

/-- 'laws.FnExactCountMarks', WHERE WHAT IT READS IS OF BULK AT MOST 1048576: true; the input reads as it did. -/
def fnExactCountMarksUptoRow : OpenClaim := { program := "ytpknmiccgbjoiabgreat", sum := "82c4ebab1275f164df0203f02a5a43847f1e34b375c3965c56423a42706c2e85", func := "loop.example/g00419/laws.FnExactCountMarks", spec := "fnExactCountMarks", unfollowed := true, recurses := true, plainKeys := false, apart := false, narrowed := true }
def FnExactCountMarksUptoSaid : Prop := fnExactCountMarksUptoRow.holds Tryz.pinned (OpenSpec.upto fnExactCountMarksSpec)

/-- 'laws.FnExactErrorsOf', WHERE WHAT IT READS IS OF BULK AT MOST 1048576: true; the input reads as it did. -/
def fnExactErrorsOfUptoRow : OpenClaim := { program := "ytpknmiccgbjoiabgreat", sum := "82c4ebab1275f164df0203f02a5a43847f1e34b375c3965c56423a42706c2e85", func := "loop.example/g00419/laws.FnExactErrorsOf", spec := "fnExactErrorsOf", unfollowed := true, recurses := true, plainKeys := false, apart := false, narrowed := true }
def FnExactErrorsOfUptoSaid : Prop := fnExactErrorsOfUptoRow.holds Tryz.pinned (OpenSpec.upto fnExactErrorsOfSpec)

end Rows
end Go.Proofs.YtpknmiccgbjoiabGreat
