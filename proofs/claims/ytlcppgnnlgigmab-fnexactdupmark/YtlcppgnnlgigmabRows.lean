/-
  No cell of these rows narrows 'for every input' (looked for: loops, veiled, ifaces, maps, wideKeys, modest, calm, conditions, laid).
  DERIVED. THE GIVEN ROWS OF THIS SEAT. 5 by the template 'for every input the law returns true; each argument reads behind the call as it read before'; 0 by the template 'total and deterministic' (their statements: YtlcppgnnlgigmabTotals.lean).
  GIVEN WITH THE SEED: the statements are not yours to turn. If you find one false, say at which input.
  Laid BY PROGRAM, IN A SANDBOX (cutbox-rows.mjs): the forced cells as the released guide's own fill.sh prints them over the translation e46bc0698dbf97b1… (all of the seat's roots in one cut). By AI agents, Wed Nov 11 2026. No macro, syntax, notation, axiom, sorry.
-/
import Derived.Test.YtlcppgnnlgigmabChecked
import GoSem.Claim
import GoSem.ClaimJoined
import GoSem.ClaimMapViews
import Derived.JoinedTies
import Derived.KernelRfl
namespace Go.Proofs.Ytlcppgnnlgigmab
/- THE CELL 'sum', in the pinned program and in every row, IS THE sha256 OF THE DUMP (.gsa) THAT YtlcppgnnlgigmabProg.lean LOADS. Nothing in Lean hashes anything: it is a label: what it is worth is what the hold of that sum in a sandbox is worth. -/
noncomputable def Try.pinned : Pinned := { name := "ytlcppgnnlgigmab", sum := "e46bc0698dbf97b1657ee9cfcabe6428f4668e9c56a1bbb9013e10a0cc9ccba1", checked := Try.checked }
namespace Rows
def none {H : Type} : Left H := { results := [], args := [] }

/-- 'laws.FnExactDupKey': WHATEVER THE INPUT: true; the input reads as it did. -/
def fnExactDupKeySpec : ChangeSpec := { name := "fnExactDupKey", fn := fun _ => fun
  | [d1, d2] => { results := [.lit (.bool true)], args := [d1, d2] }
  | _ => none }
def fnExactDupKeyRow : OpenClaim := { program := "ytlcppgnnlgigmab", sum := "e46bc0698dbf97b1657ee9cfcabe6428f4668e9c56a1bbb9013e10a0cc9ccba1", func := "loop.example/g00419/laws.FnExactDupKey", spec := "fnExactDupKey", plainKeys := false, apart := false }
def FnExactDupKeySaid : Prop := fnExactDupKeyRow.holds Try.pinned (OpenSpec.ofChange fnExactDupKeySpec)

/-- ITS FALSE NEIGHBOUR: 'it returns false'. Refute it at one input. -/
def fnExactDupKeyWrong : ChangeSpec := { name := "fnExactDupKey", fn := fun _ => fun
  | [d1, d2] => { results := [.lit (.bool false)], args := [d1, d2] }
  | _ => none }
def FnExactDupKeyWrongFalsely : Prop := fnExactDupKeyRow.holds Try.pinned (OpenSpec.ofChange fnExactDupKeyWrong)

/-- 'laws.FnExactDupSeen': WHATEVER THE INPUT: true; the input reads as it did. -/
def fnExactDupSeenSpec : ChangeSpec := { name := "fnExactDupSeen", fn := fun _ => fun
  | [d1, d2, d3, d4] => { results := [.lit (.bool true)], args := [d1, d2, d3, d4] }
  | _ => none }
def fnExactDupSeenRow : OpenClaim := { program := "ytlcppgnnlgigmab", sum := "e46bc0698dbf97b1657ee9cfcabe6428f4668e9c56a1bbb9013e10a0cc9ccba1", func := "loop.example/g00419/laws.FnExactDupSeen", spec := "fnExactDupSeen", plainKeys := false, apart := false }
def FnExactDupSeenSaid : Prop := fnExactDupSeenRow.holds Try.pinned (OpenSpec.ofChange fnExactDupSeenSpec)

/-- ITS FALSE NEIGHBOUR: 'it returns false'. Refute it at one input. -/
def fnExactDupSeenWrong : ChangeSpec := { name := "fnExactDupSeen", fn := fun _ => fun
  | [d1, d2, d3, d4] => { results := [.lit (.bool false)], args := [d1, d2, d3, d4] }
  | _ => none }
def FnExactDupSeenWrongFalsely : Prop := fnExactDupSeenRow.holds Try.pinned (OpenSpec.ofChange fnExactDupSeenWrong)

/-- 'laws.FnExactDupMark': WHATEVER THE INPUT: true; the input reads as it did. -/
def fnExactDupMarkSpec : ChangeSpec := { name := "fnExactDupMark", fn := fun _ => fun
  | [d1, d2, d3, d4, d5] => { results := [.lit (.bool true)], args := [d1, d2, d3, d4, d5] }
  | _ => none }
def fnExactDupMarkRow : OpenClaim := { program := "ytlcppgnnlgigmab", sum := "e46bc0698dbf97b1657ee9cfcabe6428f4668e9c56a1bbb9013e10a0cc9ccba1", func := "loop.example/g00419/laws.FnExactDupMark", spec := "fnExactDupMark", unfollowed := true, recurses := true, plainKeys := false, apart := false }
def FnExactDupMarkSaid : Prop := fnExactDupMarkRow.holds Try.pinned (OpenSpec.ofChange fnExactDupMarkSpec)

/-- ITS FALSE NEIGHBOUR: 'it returns false'. Refute it at one input. -/
def fnExactDupMarkWrong : ChangeSpec := { name := "fnExactDupMark", fn := fun _ => fun
  | [d1, d2, d3, d4, d5] => { results := [.lit (.bool false)], args := [d1, d2, d3, d4, d5] }
  | _ => none }
def FnExactDupMarkWrongFalsely : Prop := fnExactDupMarkRow.holds Try.pinned (OpenSpec.ofChange fnExactDupMarkWrong)

/-- 'laws.FnExactMayForward': WHATEVER THE INPUT: true; the input reads as it did. -/
def fnExactMayForwardSpec : ChangeSpec := { name := "fnExactMayForward", fn := fun _ => fun
  | [d1, d2, d3, d4] => { results := [.lit (.bool true)], args := [d1, d2, d3, d4] }
  | _ => none }
def fnExactMayForwardRow : OpenClaim := { program := "ytlcppgnnlgigmab", sum := "e46bc0698dbf97b1657ee9cfcabe6428f4668e9c56a1bbb9013e10a0cc9ccba1", func := "loop.example/g00419/laws.FnExactMayForward", spec := "fnExactMayForward", unfollowed := true, recurses := true, plainKeys := false, apart := false }
def FnExactMayForwardSaid : Prop := fnExactMayForwardRow.holds Try.pinned (OpenSpec.ofChange fnExactMayForwardSpec)

/-- ITS FALSE NEIGHBOUR: 'it returns false'. Refute it at one input. -/
def fnExactMayForwardWrong : ChangeSpec := { name := "fnExactMayForward", fn := fun _ => fun
  | [d1, d2, d3, d4] => { results := [.lit (.bool false)], args := [d1, d2, d3, d4] }
  | _ => none }
def FnExactMayForwardWrongFalsely : Prop := fnExactMayForwardRow.holds Try.pinned (OpenSpec.ofChange fnExactMayForwardWrong)

/-- 'laws.FnExactForwarded': WHATEVER THE INPUT: true; the input reads as it did. -/
def fnExactForwardedSpec : ChangeSpec := { name := "fnExactForwarded", fn := fun _ => fun
  | [d] => { results := [.lit (.bool true)], args := [d] }
  | _ => none }
def fnExactForwardedRow : OpenClaim := { program := "ytlcppgnnlgigmab", sum := "e46bc0698dbf97b1657ee9cfcabe6428f4668e9c56a1bbb9013e10a0cc9ccba1", func := "loop.example/g00419/laws.FnExactForwarded", spec := "fnExactForwarded", plainKeys := false, apart := false }
def FnExactForwardedSaid : Prop := fnExactForwardedRow.holds Try.pinned (OpenSpec.ofChange fnExactForwardedSpec)

/-- ITS FALSE NEIGHBOUR: 'it returns false'. Refute it at one input. -/
def fnExactForwardedWrong : ChangeSpec := { name := "fnExactForwarded", fn := fun _ => fun
  | [d] => { results := [.lit (.bool false)], args := [d] }
  | _ => none }
def FnExactForwardedWrongFalsely : Prop := fnExactForwardedRow.holds Try.pinned (OpenSpec.ofChange fnExactForwardedWrong)

/- THE SECOND FORM. 'bulk': how many values and letters a reading holds, each counted each time it is reached (what is shared counts as often as it is met; a slice's spare places count too). A statement '..UptoSaid' is the law's where the arguments, and the package variables that the reading takes, are together of bulk at most 1048576: NARROWER than '..Said'. Prove '..Said' where nothing that the law and all that it calls make is longer than what came in: it says more and counts as full. Else prove '..UptoSaid'. A law counts once. -/
mutual
def uptoBulk {H : Type} : DataW H → Nat
  | .lit (.string bytes) => bytes.length + 1
  | .lit _ => 1
  | .nil => 1
  | .ptr d => uptoBulk d + 1
  | .slice elems spare => uptoBulkAll elems + uptoBulkAll spare + 1
  | .agg parts => uptoBulkAll parts + 1
  | .iface _ d => uptoBulk d + 1
  | .map entries => uptoBulkEntries entries + 1
  | .held _ => 1
def uptoBulkAll {H : Type} : List (DataW H) → Nat
  | [] => 0
  | d :: r => uptoBulk d + uptoBulkAll r
def uptoBulkEntries {H : Type} : List (Lit × DataW H) → Nat
  | [] => 0
  | x :: r => uptoBulkEntry x + uptoBulkEntries r
def uptoBulkEntry {H : Type} : Lit × DataW H → Nat
  | (.string bytes, d) => bytes.length + uptoBulk d + 1
  | (_, d) => uptoBulk d + 1
 end
def uptoSmall : (H : Type) → List (DataW H) → Bool := fun _ ds => decide (uptoBulkAll ds ≤ 1048576)
def OpenSpec.upto (s : _root_.Go.ChangeSpec) : _root_.Go.OpenSpec := { _root_.Go.OpenSpec.ofChange s with cond := some uptoSmall }

/-- 'laws.FnExactDupKey', WHERE WHAT IT READS IS OF BULK AT MOST 1048576: true; the input reads as it did. -/
def fnExactDupKeyUptoRow : OpenClaim := { program := "ytlcppgnnlgigmab", sum := "e46bc0698dbf97b1657ee9cfcabe6428f4668e9c56a1bbb9013e10a0cc9ccba1", func := "loop.example/g00419/laws.FnExactDupKey", spec := "fnExactDupKey", plainKeys := false, apart := false, narrowed := true }
def FnExactDupKeyUptoSaid : Prop := fnExactDupKeyUptoRow.holds Try.pinned (OpenSpec.upto fnExactDupKeySpec)

/-- 'laws.FnExactDupSeen', WHERE WHAT IT READS IS OF BULK AT MOST 1048576: true; the input reads as it did. -/
def fnExactDupSeenUptoRow : OpenClaim := { program := "ytlcppgnnlgigmab", sum := "e46bc0698dbf97b1657ee9cfcabe6428f4668e9c56a1bbb9013e10a0cc9ccba1", func := "loop.example/g00419/laws.FnExactDupSeen", spec := "fnExactDupSeen", plainKeys := false, apart := false, narrowed := true }
def FnExactDupSeenUptoSaid : Prop := fnExactDupSeenUptoRow.holds Try.pinned (OpenSpec.upto fnExactDupSeenSpec)

/-- 'laws.FnExactDupMark', WHERE WHAT IT READS IS OF BULK AT MOST 1048576: true; the input reads as it did. -/
def fnExactDupMarkUptoRow : OpenClaim := { program := "ytlcppgnnlgigmab", sum := "e46bc0698dbf97b1657ee9cfcabe6428f4668e9c56a1bbb9013e10a0cc9ccba1", func := "loop.example/g00419/laws.FnExactDupMark", spec := "fnExactDupMark", unfollowed := true, recurses := true, plainKeys := false, apart := false, narrowed := true }
def FnExactDupMarkUptoSaid : Prop := fnExactDupMarkUptoRow.holds Try.pinned (OpenSpec.upto fnExactDupMarkSpec)

/-- 'laws.FnExactMayForward', WHERE WHAT IT READS IS OF BULK AT MOST 1048576: true; the input reads as it did. -/
def fnExactMayForwardUptoRow : OpenClaim := { program := "ytlcppgnnlgigmab", sum := "e46bc0698dbf97b1657ee9cfcabe6428f4668e9c56a1bbb9013e10a0cc9ccba1", func := "loop.example/g00419/laws.FnExactMayForward", spec := "fnExactMayForward", unfollowed := true, recurses := true, plainKeys := false, apart := false, narrowed := true }
def FnExactMayForwardUptoSaid : Prop := fnExactMayForwardUptoRow.holds Try.pinned (OpenSpec.upto fnExactMayForwardSpec)

/-- 'laws.FnExactForwarded', WHERE WHAT IT READS IS OF BULK AT MOST 1048576: true; the input reads as it did. -/
def fnExactForwardedUptoRow : OpenClaim := { program := "ytlcppgnnlgigmab", sum := "e46bc0698dbf97b1657ee9cfcabe6428f4668e9c56a1bbb9013e10a0cc9ccba1", func := "loop.example/g00419/laws.FnExactForwarded", spec := "fnExactForwarded", plainKeys := false, apart := false, narrowed := true }
def FnExactForwardedUptoSaid : Prop := fnExactForwardedUptoRow.holds Try.pinned (OpenSpec.upto fnExactForwardedSpec)

end Rows
end Go.Proofs.Ytlcppgnnlgigmab
