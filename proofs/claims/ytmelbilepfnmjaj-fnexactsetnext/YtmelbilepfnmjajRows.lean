/-
  No cell of these rows narrows 'for every input' (looked for: loops, veiled, ifaces, maps, wideKeys, modest, calm, conditions, laid).
  DERIVED. THE GIVEN ROWS OF THIS SEAT. 6 by the template 'for every input the law returns true; each argument reads behind the call as it read before'; 0 by the template 'total and deterministic' (their statements: YtmelbilepfnmjajTotals.lean).
  GIVEN WITH THE SEED: the statements are not yours to turn. If you find one false, say at which input.
  Laid BY PROGRAM, IN A SANDBOX (cutbox-rows.mjs): the forced cells as the released guide's own fill.sh prints them over the translation 5bc5a3ab07298cb1… (all of the seat's roots in one cut). By AI agents, Wed Nov 11 2026. No macro, syntax, notation, axiom, sorry.
-/
import Derived.Test.YtmelbilepfnmjajChecked
import GoSem.Claim
import GoSem.ClaimJoined
import GoSem.ClaimMapViews
import Derived.JoinedTies
import Derived.KernelRfl
namespace Go.Proofs.Ytmelbilepfnmjaj
/- THE CELL 'sum', in the pinned program and in every row, IS THE sha256 OF THE DUMP (.gsa) THAT YtmelbilepfnmjajProg.lean LOADS. Nothing in Lean hashes anything: it is a label: what it is worth is what the hold of that sum in a sandbox is worth. -/
noncomputable def Try.pinned : Pinned := { name := "ytmelbilepfnmjaj", sum := "5bc5a3ab07298cb1c39da9da5372675d263c2a59b45f489e26bfbc585580e597", checked := Try.checked }
namespace Rows
def none {H : Type} : Left H := { results := [], args := [] }

/-- 'laws.FnExactSetPut': WHATEVER THE INPUT: true; the input reads as it did. -/
def fnExactSetPutSpec : ChangeSpec := { name := "fnExactSetPut", fn := fun _ => fun
  | [d1, d2] => { results := [.lit (.bool true)], args := [d1, d2] }
  | _ => none }
def fnExactSetPutRow : OpenClaim := { program := "ytmelbilepfnmjaj", sum := "5bc5a3ab07298cb1c39da9da5372675d263c2a59b45f489e26bfbc585580e597", func := "loop.example/g00419/laws.FnExactSetPut", spec := "fnExactSetPut", unfollowed := true, recurses := true, apart := false }
def FnExactSetPutSaid : Prop := fnExactSetPutRow.holds Try.pinned (OpenSpec.ofChange fnExactSetPutSpec)

/-- ITS FALSE NEIGHBOUR: 'it returns false'. Refute it at one input. -/
def fnExactSetPutWrong : ChangeSpec := { name := "fnExactSetPut", fn := fun _ => fun
  | [d1, d2] => { results := [.lit (.bool false)], args := [d1, d2] }
  | _ => none }
def FnExactSetPutWrongFalsely : Prop := fnExactSetPutRow.holds Try.pinned (OpenSpec.ofChange fnExactSetPutWrong)

/-- 'laws.FnExactSetDrop': WHATEVER THE INPUT: true; the input reads as it did. -/
def fnExactSetDropSpec : ChangeSpec := { name := "fnExactSetDrop", fn := fun _ => fun
  | [d1, d2] => { results := [.lit (.bool true)], args := [d1, d2] }
  | _ => none }
def fnExactSetDropRow : OpenClaim := { program := "ytmelbilepfnmjaj", sum := "5bc5a3ab07298cb1c39da9da5372675d263c2a59b45f489e26bfbc585580e597", func := "loop.example/g00419/laws.FnExactSetDrop", spec := "fnExactSetDrop", unfollowed := true, recurses := true, apart := false }
def FnExactSetDropSaid : Prop := fnExactSetDropRow.holds Try.pinned (OpenSpec.ofChange fnExactSetDropSpec)

/-- ITS FALSE NEIGHBOUR: 'it returns false'. Refute it at one input. -/
def fnExactSetDropWrong : ChangeSpec := { name := "fnExactSetDrop", fn := fun _ => fun
  | [d1, d2] => { results := [.lit (.bool false)], args := [d1, d2] }
  | _ => none }
def FnExactSetDropWrongFalsely : Prop := fnExactSetDropRow.holds Try.pinned (OpenSpec.ofChange fnExactSetDropWrong)

/-- 'laws.FnExactSetFind': WHATEVER THE INPUT: true; the input reads as it did. -/
def fnExactSetFindSpec : ChangeSpec := { name := "fnExactSetFind", fn := fun _ => fun
  | [d1, d2] => { results := [.lit (.bool true)], args := [d1, d2] }
  | _ => none }
def fnExactSetFindRow : OpenClaim := { program := "ytmelbilepfnmjaj", sum := "5bc5a3ab07298cb1c39da9da5372675d263c2a59b45f489e26bfbc585580e597", func := "loop.example/g00419/laws.FnExactSetFind", spec := "fnExactSetFind", unfollowed := true, recurses := true, apart := false }
def FnExactSetFindSaid : Prop := fnExactSetFindRow.holds Try.pinned (OpenSpec.ofChange fnExactSetFindSpec)

/-- ITS FALSE NEIGHBOUR: 'it returns false'. Refute it at one input. -/
def fnExactSetFindWrong : ChangeSpec := { name := "fnExactSetFind", fn := fun _ => fun
  | [d1, d2] => { results := [.lit (.bool false)], args := [d1, d2] }
  | _ => none }
def FnExactSetFindWrongFalsely : Prop := fnExactSetFindRow.holds Try.pinned (OpenSpec.ofChange fnExactSetFindWrong)

/-- 'laws.FnExactSetExpire': WHATEVER THE INPUT: true; the input reads as it did. -/
def fnExactSetExpireSpec : ChangeSpec := { name := "fnExactSetExpire", fn := fun _ => fun
  | [d1, d2] => { results := [.lit (.bool true)], args := [d1, d2] }
  | _ => none }
def fnExactSetExpireRow : OpenClaim := { program := "ytmelbilepfnmjaj", sum := "5bc5a3ab07298cb1c39da9da5372675d263c2a59b45f489e26bfbc585580e597", func := "loop.example/g00419/laws.FnExactSetExpire", spec := "fnExactSetExpire", apart := false }
def FnExactSetExpireSaid : Prop := fnExactSetExpireRow.holds Try.pinned (OpenSpec.ofChange fnExactSetExpireSpec)

/-- ITS FALSE NEIGHBOUR: 'it returns false'. Refute it at one input. -/
def fnExactSetExpireWrong : ChangeSpec := { name := "fnExactSetExpire", fn := fun _ => fun
  | [d1, d2] => { results := [.lit (.bool false)], args := [d1, d2] }
  | _ => none }
def FnExactSetExpireWrongFalsely : Prop := fnExactSetExpireRow.holds Try.pinned (OpenSpec.ofChange fnExactSetExpireWrong)

/-- 'laws.FnExactSetKeys': WHATEVER THE INPUT: true; the input reads as it did. -/
def fnExactSetKeysSpec : ChangeSpec := { name := "fnExactSetKeys", fn := fun _ => fun
  | [d] => { results := [.lit (.bool true)], args := [d] }
  | _ => none }
def fnExactSetKeysRow : OpenClaim := { program := "ytmelbilepfnmjaj", sum := "5bc5a3ab07298cb1c39da9da5372675d263c2a59b45f489e26bfbc585580e597", func := "loop.example/g00419/laws.FnExactSetKeys", spec := "fnExactSetKeys", apart := false }
def FnExactSetKeysSaid : Prop := fnExactSetKeysRow.holds Try.pinned (OpenSpec.ofChange fnExactSetKeysSpec)

/-- ITS FALSE NEIGHBOUR: 'it returns false'. Refute it at one input. -/
def fnExactSetKeysWrong : ChangeSpec := { name := "fnExactSetKeys", fn := fun _ => fun
  | [d] => { results := [.lit (.bool false)], args := [d] }
  | _ => none }
def FnExactSetKeysWrongFalsely : Prop := fnExactSetKeysRow.holds Try.pinned (OpenSpec.ofChange fnExactSetKeysWrong)

/-- 'laws.FnExactSetNext': WHATEVER THE INPUT: true; the input reads as it did. -/
def fnExactSetNextSpec : ChangeSpec := { name := "fnExactSetNext", fn := fun _ => fun
  | [d] => { results := [.lit (.bool true)], args := [d] }
  | _ => none }
def fnExactSetNextRow : OpenClaim := { program := "ytmelbilepfnmjaj", sum := "5bc5a3ab07298cb1c39da9da5372675d263c2a59b45f489e26bfbc585580e597", func := "loop.example/g00419/laws.FnExactSetNext", spec := "fnExactSetNext", apart := false }
def FnExactSetNextSaid : Prop := fnExactSetNextRow.holds Try.pinned (OpenSpec.ofChange fnExactSetNextSpec)

/-- ITS FALSE NEIGHBOUR: 'it returns false'. Refute it at one input. -/
def fnExactSetNextWrong : ChangeSpec := { name := "fnExactSetNext", fn := fun _ => fun
  | [d] => { results := [.lit (.bool false)], args := [d] }
  | _ => none }
def FnExactSetNextWrongFalsely : Prop := fnExactSetNextRow.holds Try.pinned (OpenSpec.ofChange fnExactSetNextWrong)

/- THE SECOND FORM. 'bulk': how many values and letters a reading holds, each counted each time it is reached (what is shared counts as often as it is met; a slice's spare places count too). A statement '..UptoSaid' is the law's where the arguments, and the package variables that the reading takes, are together of bulk at most 1048576: NARROWER than '..Said'. Prove '..Said' where nothing that the law and all that it calls make is longer than what came in: it says more and counts as full. Else prove '..UptoSaid'. A law counts once. -/
mutual
def uptoBulk {H : Type} : DataW H → Nat
  | .lit (.string bytes) => bytes.length + 1
  | .lit _ => 1
  | .nil => 1
  | .ptr d => uptoBulk d + 1
  | .slice elems spare => uptoBulkAll elems + uptoBulkAll spare + 1
  | .agg parts => uptoBulkAll parts + 1
  | .iface _ d => uptoBulk d + 1
  | .map entries => uptoBulkEntries entries + 1
  | .held _ => 1
def uptoBulkAll {H : Type} : List (DataW H) → Nat
  | [] => 0
  | d :: r => uptoBulk d + uptoBulkAll r
def uptoBulkEntries {H : Type} : List (Lit × DataW H) → Nat
  | [] => 0
  | x :: r => uptoBulkEntry x + uptoBulkEntries r
def uptoBulkEntry {H : Type} : Lit × DataW H → Nat
  | (.string bytes, d) => bytes.length + uptoBulk d + 1
  | (_, d) => uptoBulk d + 1
 end
def uptoSmall : (H : Type) → List (DataW H) → Bool := fun _ ds => decide (uptoBulkAll ds ≤ 1048576)
def OpenSpec.upto (s : _root_.Go.ChangeSpec) : _root_.Go.OpenSpec := { _root_.Go.OpenSpec.ofChange s with cond := some uptoSmall }

/-- 'laws.FnExactSetPut', WHERE WHAT IT READS IS OF BULK AT MOST 1048576: true; the input reads as it did. -/
def fnExactSetPutUptoRow : OpenClaim := { program := "ytmelbilepfnmjaj", sum := "5bc5a3ab07298cb1c39da9da5372675d263c2a59b45f489e26bfbc585580e597", func := "loop.example/g00419/laws.FnExactSetPut", spec := "fnExactSetPut", unfollowed := true, recurses := true, apart := false, narrowed := true }
def FnExactSetPutUptoSaid : Prop := fnExactSetPutUptoRow.holds Try.pinned (OpenSpec.upto fnExactSetPutSpec)

/-- 'laws.FnExactSetDrop', WHERE WHAT IT READS IS OF BULK AT MOST 1048576: true; the input reads as it did. -/
def fnExactSetDropUptoRow : OpenClaim := { program := "ytmelbilepfnmjaj", sum := "5bc5a3ab07298cb1c39da9da5372675d263c2a59b45f489e26bfbc585580e597", func := "loop.example/g00419/laws.FnExactSetDrop", spec := "fnExactSetDrop", unfollowed := true, recurses := true, apart := false, narrowed := true }
def FnExactSetDropUptoSaid : Prop := fnExactSetDropUptoRow.holds Try.pinned (OpenSpec.upto fnExactSetDropSpec)

/-- 'laws.FnExactSetFind', WHERE WHAT IT READS IS OF BULK AT MOST 1048576: true; the input reads as it did. -/
def fnExactSetFindUptoRow : OpenClaim := { program := "ytmelbilepfnmjaj", sum := "5bc5a3ab07298cb1c39da9da5372675d263c2a59b45f489e26bfbc585580e597", func := "loop.example/g00419/laws.FnExactSetFind", spec := "fnExactSetFind", unfollowed := true, recurses := true, apart := false, narrowed := true }
def FnExactSetFindUptoSaid : Prop := fnExactSetFindUptoRow.holds Try.pinned (OpenSpec.upto fnExactSetFindSpec)

/-- 'laws.FnExactSetExpire', WHERE WHAT IT READS IS OF BULK AT MOST 1048576: true; the input reads as it did. -/
def fnExactSetExpireUptoRow : OpenClaim := { program := "ytmelbilepfnmjaj", sum := "5bc5a3ab07298cb1c39da9da5372675d263c2a59b45f489e26bfbc585580e597", func := "loop.example/g00419/laws.FnExactSetExpire", spec := "fnExactSetExpire", apart := false, narrowed := true }
def FnExactSetExpireUptoSaid : Prop := fnExactSetExpireUptoRow.holds Try.pinned (OpenSpec.upto fnExactSetExpireSpec)

/-- 'laws.FnExactSetKeys', WHERE WHAT IT READS IS OF BULK AT MOST 1048576: true; the input reads as it did. -/
def fnExactSetKeysUptoRow : OpenClaim := { program := "ytmelbilepfnmjaj", sum := "5bc5a3ab07298cb1c39da9da5372675d263c2a59b45f489e26bfbc585580e597", func := "loop.example/g00419/laws.FnExactSetKeys", spec := "fnExactSetKeys", apart := false, narrowed := true }
def FnExactSetKeysUptoSaid : Prop := fnExactSetKeysUptoRow.holds Try.pinned (OpenSpec.upto fnExactSetKeysSpec)

/-- 'laws.FnExactSetNext', WHERE WHAT IT READS IS OF BULK AT MOST 1048576: true; the input reads as it did. -/
def fnExactSetNextUptoRow : OpenClaim := { program := "ytmelbilepfnmjaj", sum := "5bc5a3ab07298cb1c39da9da5372675d263c2a59b45f489e26bfbc585580e597", func := "loop.example/g00419/laws.FnExactSetNext", spec := "fnExactSetNext", apart := false, narrowed := true }
def FnExactSetNextUptoSaid : Prop := fnExactSetNextUptoRow.holds Try.pinned (OpenSpec.upto fnExactSetNextSpec)

end Rows
end Go.Proofs.Ytmelbilepfnmjaj
