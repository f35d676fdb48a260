/-
  No cell of these rows narrows 'for every input' (looked for: loops, veiled, ifaces, maps, wideKeys, modest, calm, conditions, laid).
  DERIVED. THE GIVEN ROWS OF THIS SEAT. 8 by the template 'for every input the law returns true; each argument reads behind the call as it read before'; 0 by the template 'total and deterministic' (their statements: YtfooahhdikobeaaGreatTotals.lean).
  GIVEN WITH THE SEED: the statements are not yours to turn. If you find one false, say at which input.
  Laid BY PROGRAM, IN A SANDBOX (cutbox-rows.mjs): the forced cells as the released guide's own fill.sh prints them over the translation 8be0967d555e25e8… (all of the seat's roots in one cut). By AI agents, Wed Nov 11 2026. No macro, syntax, notation, axiom, sorry.
-/
import Derived.Test.YtfooahhdikobeaaGreatChecked
import GoSem.Claim
import GoSem.ClaimJoined
import GoSem.ClaimMapViews
import Derived.JoinedTies
import Derived.KernelRfl
namespace Go.Proofs.YtfooahhdikobeaaGreat
/- THE CELL 'sum', in the pinned program and in every row, IS THE sha256 OF THE DUMP (.gsa) THAT YtfooahhdikobeaaGreatProg.lean LOADS. Nothing in Lean hashes anything: it is a label: what it is worth is what the hold of that sum in a sandbox is worth. -/
noncomputable def Tryz.pinned : Pinned := { name := "ytfooahhdikobeaagreat", sum := "8be0967d555e25e86604e726a04900c055c25a70bede401eb3c966b9b50ed6d0", checked := Tryz.checked }
namespace Rows
def none {H : Type} : Left H := { results := [], args := [] }

/-- 'laws.FnExactSetCost': WHATEVER THE INPUT: true; the input reads as it did. -/
def fnExactSetCostSpec : ChangeSpec := { name := "fnExactSetCost", fn := fun _ => fun
  | [d1, d2, d3, d4] => { results := [.lit (.bool true)], args := [d1, d2, d3, d4] }
  | _ => none }
def fnExactSetCostRow : OpenClaim := { program := "ytfooahhdikobeaagreat", sum := "8be0967d555e25e86604e726a04900c055c25a70bede401eb3c966b9b50ed6d0", func := "loop.example/g00419/laws.FnExactSetCost", spec := "fnExactSetCost", unfollowed := true, recurses := true, plainKeys := false, apart := false }
def FnExactSetCostSaid : Prop := fnExactSetCostRow.holds Tryz.pinned (OpenSpec.ofChange fnExactSetCostSpec)

/-- ITS FALSE NEIGHBOUR: 'it returns false'. Refute it at one input. -/
def fnExactSetCostWrong : ChangeSpec := { name := "fnExactSetCost", fn := fun _ => fun
  | [d1, d2, d3, d4] => { results := [.lit (.bool false)], args := [d1, d2, d3, d4] }
  | _ => none }
def FnExactSetCostWrongFalsely : Prop := fnExactSetCostRow.holds Tryz.pinned (OpenSpec.ofChange fnExactSetCostWrong)

/-- 'laws.FnExactInject': WHATEVER THE INPUT: true; the input reads as it did. -/
def fnExactInjectSpec : ChangeSpec := { name := "fnExactInject", fn := fun _ => fun
  | [d1, d2, d3, d4] => { results := [.lit (.bool true)], args := [d1, d2, d3, d4] }
  | _ => none }
def fnExactInjectRow : OpenClaim := { program := "ytfooahhdikobeaagreat", sum := "8be0967d555e25e86604e726a04900c055c25a70bede401eb3c966b9b50ed6d0", func := "loop.example/g00419/laws.FnExactInject", spec := "fnExactInject", unfollowed := true, recurses := true, plainKeys := false, apart := false }
def FnExactInjectSaid : Prop := fnExactInjectRow.holds Tryz.pinned (OpenSpec.ofChange fnExactInjectSpec)

/-- ITS FALSE NEIGHBOUR: 'it returns false'. Refute it at one input. -/
def fnExactInjectWrong : ChangeSpec := { name := "fnExactInject", fn := fun _ => fun
  | [d1, d2, d3, d4] => { results := [.lit (.bool false)], args := [d1, d2, d3, d4] }
  | _ => none }
def FnExactInjectWrongFalsely : Prop := fnExactInjectRow.holds Tryz.pinned (OpenSpec.ofChange fnExactInjectWrong)

/-- 'laws.FnExactRestart': WHATEVER THE INPUT: true; the input reads as it did. -/
def fnExactRestartSpec : ChangeSpec := { name := "fnExactRestart", fn := fun _ => fun
  | [d1, d2, d3] => { results := [.lit (.bool true)], args := [d1, d2, d3] }
  | _ => none }
def fnExactRestartRow : OpenClaim := { program := "ytfooahhdikobeaagreat", sum := "8be0967d555e25e86604e726a04900c055c25a70bede401eb3c966b9b50ed6d0", func := "loop.example/g00419/laws.FnExactRestart", spec := "fnExactRestart", unfollowed := true, recurses := true, plainKeys := false, apart := false }
def FnExactRestartSaid : Prop := fnExactRestartRow.holds Tryz.pinned (OpenSpec.ofChange fnExactRestartSpec)

/-- ITS FALSE NEIGHBOUR: 'it returns false'. Refute it at one input. -/
def fnExactRestartWrong : ChangeSpec := { name := "fnExactRestart", fn := fun _ => fun
  | [d1, d2, d3] => { results := [.lit (.bool false)], args := [d1, d2, d3] }
  | _ => none }
def FnExactRestartWrongFalsely : Prop := fnExactRestartRow.holds Tryz.pinned (OpenSpec.ofChange fnExactRestartWrong)

/-- 'laws.FnExactTrueDistance': WHATEVER THE INPUT: true; the input reads as it did. -/
def fnExactTrueDistanceSpec : ChangeSpec := { name := "fnExactTrueDistance", fn := fun _ => fun
  | [d1, d2, d3] => { results := [.lit (.bool true)], args := [d1, d2, d3] }
  | _ => none }
def fnExactTrueDistanceRow : OpenClaim := { program := "ytfooahhdikobeaagreat", sum := "8be0967d555e25e86604e726a04900c055c25a70bede401eb3c966b9b50ed6d0", func := "loop.example/g00419/laws.FnExactTrueDistance", spec := "fnExactTrueDistance", unfollowed := true, recurses := true, plainKeys := false, apart := false }
def FnExactTrueDistanceSaid : Prop := fnExactTrueDistanceRow.holds Tryz.pinned (OpenSpec.ofChange fnExactTrueDistanceSpec)

/-- ITS FALSE NEIGHBOUR: 'it returns false'. Refute it at one input. -/
def fnExactTrueDistanceWrong : ChangeSpec := { name := "fnExactTrueDistance", fn := fun _ => fun
  | [d1, d2, d3] => { results := [.lit (.bool false)], args := [d1, d2, d3] }
  | _ => none }
def FnExactTrueDistanceWrongFalsely : Prop := fnExactTrueDistanceRow.holds Tryz.pinned (OpenSpec.ofChange fnExactTrueDistanceWrong)

/-- 'laws.FnExactConverged': WHATEVER THE INPUT: true; the input reads as it did. -/
def fnExactConvergedSpec : ChangeSpec := { name := "fnExactConverged", fn := fun _ => fun
  | [d] => { results := [.lit (.bool true)], args := [d] }
  | _ => none }
def fnExactConvergedRow : OpenClaim := { program := "ytfooahhdikobeaagreat", sum := "8be0967d555e25e86604e726a04900c055c25a70bede401eb3c966b9b50ed6d0", func := "loop.example/g00419/laws.FnExactConverged", spec := "fnExactConverged", unfollowed := true, recurses := true, plainKeys := false, apart := false }
def FnExactConvergedSaid : Prop := fnExactConvergedRow.holds Tryz.pinned (OpenSpec.ofChange fnExactConvergedSpec)

/-- ITS FALSE NEIGHBOUR: 'it returns false'. Refute it at one input. -/
def fnExactConvergedWrong : ChangeSpec := { name := "fnExactConverged", fn := fun _ => fun
  | [d] => { results := [.lit (.bool false)], args := [d] }
  | _ => none }
def FnExactConvergedWrongFalsely : Prop := fnExactConvergedRow.holds Tryz.pinned (OpenSpec.ofChange fnExactConvergedWrong)

/-- 'laws.FnExactCountMarks': WHATEVER THE INPUT: true; the input reads as it did. -/
def fnExactCountMarksSpec : ChangeSpec := { name := "fnExactCountMarks", fn := fun _ => fun
  | [d1, d2, d3] => { results := [.lit (.bool true)], args := [d1, d2, d3] }
  | _ => none }
def fnExactCountMarksRow : OpenClaim := { program := "ytfooahhdikobeaagreat", sum := "8be0967d555e25e86604e726a04900c055c25a70bede401eb3c966b9b50ed6d0", func := "loop.example/g00419/laws.FnExactCountMarks", spec := "fnExactCountMarks", unfollowed := true, recurses := true, plainKeys := false, apart := false }
def FnExactCountMarksSaid : Prop := fnExactCountMarksRow.holds Tryz.pinned (OpenSpec.ofChange fnExactCountMarksSpec)

/-- ITS FALSE NEIGHBOUR: 'it returns false'. Refute it at one input. -/
def fnExactCountMarksWrong : ChangeSpec := { name := "fnExactCountMarks", fn := fun _ => fun
  | [d1, d2, d3] => { results := [.lit (.bool false)], args := [d1, d2, d3] }
  | _ => none }
def FnExactCountMarksWrongFalsely : Prop := fnExactCountMarksRow.holds Tryz.pinned (OpenSpec.ofChange fnExactCountMarksWrong)

/-- 'laws.FnExactErrorsOf': WHATEVER THE INPUT: true; the input reads as it did. -/
def fnExactErrorsOfSpec : ChangeSpec := { name := "fnExactErrorsOf", fn := fun _ => fun
  | [d] => { results := [.lit (.bool true)], args := [d] }
  | _ => none }
def fnExactErrorsOfRow : OpenClaim := { program := "ytfooahhdikobeaagreat", sum := "8be0967d555e25e86604e726a04900c055c25a70bede401eb3c966b9b50ed6d0", func := "loop.example/g00419/laws.FnExactErrorsOf", spec := "fnExactErrorsOf", unfollowed := true, recurses := true, plainKeys := false, apart := false }
def FnExactErrorsOfSaid : Prop := fnExactErrorsOfRow.holds Tryz.pinned (OpenSpec.ofChange fnExactErrorsOfSpec)

/-- ITS FALSE NEIGHBOUR: 'it returns false'. Refute it at one input. -/
def fnExactErrorsOfWrong : ChangeSpec := { name := "fnExactErrorsOf", fn := fun _ => fun
  | [d] => { results := [.lit (.bool false)], args := [d] }
  | _ => none }
def FnExactErrorsOfWrongFalsely : Prop := fnExactErrorsOfRow.holds Tryz.pinned (OpenSpec.ofChange fnExactErrorsOfWrong)

/-- 'laws.FnExactWalk': WHATEVER THE INPUT: true; the input reads as it did. -/
def fnExactWalkSpec : ChangeSpec := { name := "fnExactWalk", fn := fun _ => fun
  | [d1, d2, d3] => { results := [.lit (.bool true)], args := [d1, d2, d3] }
  | _ => none }
def fnExactWalkRow : OpenClaim := { program := "ytfooahhdikobeaagreat", sum := "8be0967d555e25e86604e726a04900c055c25a70bede401eb3c966b9b50ed6d0", func := "loop.example/g00419/laws.FnExactWalk", spec := "fnExactWalk", unfollowed := true, recurses := true, plainKeys := false, apart := false }
def FnExactWalkSaid : Prop := fnExactWalkRow.holds Tryz.pinned (OpenSpec.ofChange fnExactWalkSpec)

/-- ITS FALSE NEIGHBOUR: 'it returns false'. Refute it at one input. -/
def fnExactWalkWrong : ChangeSpec := { name := "fnExactWalk", fn := fun _ => fun
  | [d1, d2, d3] => { results := [.lit (.bool false)], args := [d1, d2, d3] }
  | _ => none }
def FnExactWalkWrongFalsely : Prop := fnExactWalkRow.holds Tryz.pinned (OpenSpec.ofChange fnExactWalkWrong)

/- THE SECOND FORM. 'bulk': how many values and letters a reading holds, each counted each time it is reached (what is shared counts as often as it is met; a slice's spare places count too). A statement '..UptoSaid' is the law's where the arguments, and the package variables that the reading takes, are together of bulk at most 1048576: NARROWER than '..Said'. Prove '..Said' where nothing that the law and all that it calls make is longer than what came in: it says more and counts as full. Else prove '..UptoSaid'. A law counts once. -/
mutual
def uptoBulk {H : Type} : DataW H → Nat
  | .lit (.string bytes) => bytes.length + 1
  | .lit _ => 1
  | .nil => 1
  | .ptr d => uptoBulk d + 1
  | .slice elems spare => uptoBulkAll elems + uptoBulkAll spare + 1
  | .agg parts => uptoBulkAll parts + 1
  | .iface _ d => uptoBulk d + 1
  | .map entries => uptoBulkEntries entries + 1
  | .held _ => 1
def uptoBulkAll {H : Type} : List (DataW H) → Nat
  | [] => 0
  | d :: r => uptoBulk d + uptoBulkAll r
def uptoBulkEntries {H : Type} : List (Lit × DataW H) → Nat
  | [] => 0
  | x :: r => uptoBulkEntry x + uptoBulkEntries r
def uptoBulkEntry {H : Type} : Lit × DataW H → Nat
  | (.string bytes, d) => bytes.length + uptoBulk d + 1
  | (_, d) => uptoBulk d + 1
 end
def uptoSmall : (H : Type) → List (DataW H) → Bool := fun _ ds => decide (uptoBulkAll ds ≤ 1048576)
def OpenSpec.upto (s : _root_.Go.ChangeSpec) : _root_.Go.OpenSpec := { _root_.Go.OpenSpec.ofChange s with cond := some uptoSmall }

/-- 'laws.FnExactSetCost', WHERE WHAT IT READS IS OF BULK AT MOST 1048576: true; the input reads as it did. -/
def fnExactSetCostUptoRow : OpenClaim := { program := "ytfooahhdikobeaagreat", sum := "8be0967d555e25e86604e726a04900c055c25a70bede401eb3c966b9b50ed6d0", func := "loop.example/g00419/laws.FnExactSetCost", spec := "fnExactSetCost", unfollowed := true, recurses := true, plainKeys := false, apart := false, narrowed := true }
def FnExactSetCostUptoSaid : Prop := fnExactSetCostUptoRow.holds Tryz.pinned (OpenSpec.upto fnExactSetCostSpec)

/-- 'laws.FnExactInject', WHERE WHAT IT READS IS OF BULK AT MOST 1048576: true; the input reads as it did. -/
def fnExactInjectUptoRow : OpenClaim := { program := "ytfooahhdikobeaagreat", sum := "8be0967d555e25e86604e726a04900c055c25a70bede401eb3c966b9b50ed6d0", func := "loop.example/g00419/laws.FnExactInject", spec := "fnExactInject", unfollowed := true, recurses := true, plainKeys := false, apart := false, narrowed := true }
def FnExactInjectUptoSaid : Prop := fnExactInjectUptoRow.holds Tryz.pinned (OpenSpec.upto fnExactInjectSpec)

/-- 'laws.FnExactRestart', WHERE WHAT IT READS IS OF BULK AT MOST 1048576: true; the input reads as it did. -/
def fnExactRestartUptoRow : OpenClaim := { program := "ytfooahhdikobeaagreat", sum := "8be0967d555e25e86604e726a04900c055c25a70bede401eb3c966b9b50ed6d0", func := "loop.example/g00419/laws.FnExactRestart", spec := "fnExactRestart", unfollowed := true, recurses := true, plainKeys := false, apart := false, narrowed := true }
def FnExactRestartUptoSaid : Prop := fnExactRestartUptoRow.holds Tryz.pinned (OpenSpec.upto fnExactRestartSpec)

/-- 'laws.FnExactTrueDistance', WHERE WHAT IT READS IS OF BULK AT MOST 1048576: true; the input reads as it did. -/
def fnExactTrueDistanceUptoRow : OpenClaim := { program := "ytfooahhdikobeaagreat", sum := "8be0967d555e25e86604e726a04900c055c25a70bede401eb3c966b9b50ed6d0", func := "loop.example/g00419/laws.FnExactTrueDistance", spec := "fnExactTrueDistance", unfollowed := true, recurses := true, plainKeys := false, apart := false, narrowed := true }
def FnExactTrueDistanceUptoSaid : Prop := fnExactTrueDistanceUptoRow.holds Tryz.pinned (OpenSpec.upto fnExactTrueDistanceSpec)

/-- 'laws.FnExactConverged', WHERE WHAT IT READS IS OF BULK AT MOST 1048576: true; the input reads as it did. -/
def fnExactConvergedUptoRow : OpenClaim := { program := "ytfooahhdikobeaagreat", sum := "8be0967d555e25e86604e726a04900c055c25a70bede401eb3c966b9b50ed6d0", func := "loop.example/g00419/laws.FnExactConverged", spec := "fnExactConverged", unfollowed := true, recurses := true, plainKeys := false, apart := false, narrowed := true }
def FnExactConvergedUptoSaid : Prop := fnExactConvergedUptoRow.holds Tryz.pinned (OpenSpec.upto fnExactConvergedSpec)

/-- 'laws.FnExactCountMarks', WHERE WHAT IT READS IS OF BULK AT MOST 1048576: true; the input reads as it did. -/
def fnExactCountMarksUptoRow : OpenClaim := { program := "ytfooahhdikobeaagreat", sum := "8be0967d555e25e86604e726a04900c055c25a70bede401eb3c966b9b50ed6d0", func := "loop.example/g00419/laws.FnExactCountMarks", spec := "fnExactCountMarks", unfollowed := true, recurses := true, plainKeys := false, apart := false, narrowed := true }
def FnExactCountMarksUptoSaid : Prop := fnExactCountMarksUptoRow.holds Tryz.pinned (OpenSpec.upto fnExactCountMarksSpec)

/-- 'laws.FnExactErrorsOf', WHERE WHAT IT READS IS OF BULK AT MOST 1048576: true; the input reads as it did. -/
def fnExactErrorsOfUptoRow : OpenClaim := { program := "ytfooahhdikobeaagreat", sum := "8be0967d555e25e86604e726a04900c055c25a70bede401eb3c966b9b50ed6d0", func := "loop.example/g00419/laws.FnExactErrorsOf", spec := "fnExactErrorsOf", unfollowed := true, recurses := true, plainKeys := false, apart := false, narrowed := true }
def FnExactErrorsOfUptoSaid : Prop := fnExactErrorsOfUptoRow.holds Tryz.pinned (OpenSpec.upto fnExactErrorsOfSpec)

/-- 'laws.FnExactWalk', WHERE WHAT IT READS IS OF BULK AT MOST 1048576: true; the input reads as it did. -/
def fnExactWalkUptoRow : OpenClaim := { program := "ytfooahhdikobeaagreat", sum := "8be0967d555e25e86604e726a04900c055c25a70bede401eb3c966b9b50ed6d0", func := "loop.example/g00419/laws.FnExactWalk", spec := "fnExactWalk", unfollowed := true, recurses := true, plainKeys := false, apart := false, narrowed := true }
def FnExactWalkUptoSaid : Prop := fnExactWalkUptoRow.holds Tryz.pinned (OpenSpec.upto fnExactWalkSpec)

end Rows
end Go.Proofs.YtfooahhdikobeaaGreat
