/-
  No cell of these rows narrows 'for every input' (looked for: loops, veiled, ifaces, maps, wideKeys, modest, calm, conditions, laid).
  DERIVED. THE GIVEN ROWS OF THIS SEAT. 4 by the template 'for every input the law returns true; each argument reads behind the call as it read before'; 0 by the template 'total and deterministic' (their statements: YtlcppgnnlgigmaaTotals.lean).
  GIVEN WITH THE SEED: the statements are not yours to turn. If you find one false, say at which input.
  Laid BY PROGRAM, IN A SANDBOX (cutbox-rows.mjs): the forced cells as the released guide's own fill.sh prints them over the translation ffef15f5b3982320… (all of the seat's roots in one cut). By AI agents, Wed Nov 11 2026. No macro, syntax, notation, axiom, sorry.
-/
import Derived.Test.YtlcppgnnlgigmaaChecked
import GoSem.Claim
import GoSem.ClaimJoined
import GoSem.ClaimMapViews
import Derived.JoinedTies
import Derived.KernelRfl
namespace Go.Proofs.Ytlcppgnnlgigmaa
/- THE CELL 'sum', in the pinned program and in every row, IS THE sha256 OF THE DUMP (.gsa) THAT YtlcppgnnlgigmaaProg.lean LOADS. Nothing in Lean hashes anything: it is a label: what it is worth is what the hold of that sum in a sandbox is worth. -/
noncomputable def Try.pinned : Pinned := { name := "ytlcppgnnlgigmaa", sum := "ffef15f5b3982320e701bb939e45b753ea35c3e4ff9f5a6a57d6e79289f2729c", checked := Try.checked }
namespace Rows
def none {H : Type} : Left H := { results := [], args := [] }

/-- 'laws.FnTopology': WHATEVER THE INPUT: true; the input reads as it did. -/
def fnTopologySpec : ChangeSpec := { name := "fnTopology", fn := fun _ => fun
  | [d1, d2] => { results := [.lit (.bool true)], args := [d1, d2] }
  | _ => none }
def fnTopologyRow : OpenClaim := { program := "ytlcppgnnlgigmaa", sum := "ffef15f5b3982320e701bb939e45b753ea35c3e4ff9f5a6a57d6e79289f2729c", func := "loop.example/g00419/laws.FnTopology", spec := "fnTopology", unfollowed := true, recurses := true, plainKeys := false, apart := false }
def FnTopologySaid : Prop := fnTopologyRow.holds Try.pinned (OpenSpec.ofChange fnTopologySpec)

/-- ITS FALSE NEIGHBOUR: 'it returns false'. Refute it at one input. -/
def fnTopologyWrong : ChangeSpec := { name := "fnTopology", fn := fun _ => fun
  | [d1, d2] => { results := [.lit (.bool false)], args := [d1, d2] }
  | _ => none }
def FnTopologyWrongFalsely : Prop := fnTopologyRow.holds Try.pinned (OpenSpec.ofChange fnTopologyWrong)

/-- 'laws.FnOnce': WHATEVER THE INPUT: true; the input reads as it did. -/
def fnOnceSpec : ChangeSpec := { name := "fnOnce", fn := fun _ => fun
  | [d1, d2] => { results := [.lit (.bool true)], args := [d1, d2] }
  | _ => none }
def fnOnceRow : OpenClaim := { program := "ytlcppgnnlgigmaa", sum := "ffef15f5b3982320e701bb939e45b753ea35c3e4ff9f5a6a57d6e79289f2729c", func := "loop.example/g00419/laws.FnOnce", spec := "fnOnce", unfollowed := true, recurses := true, plainKeys := false, apart := false }
def FnOnceSaid : Prop := fnOnceRow.holds Try.pinned (OpenSpec.ofChange fnOnceSpec)

/-- ITS FALSE NEIGHBOUR: 'it returns false'. Refute it at one input. -/
def fnOnceWrong : ChangeSpec := { name := "fnOnce", fn := fun _ => fun
  | [d1, d2] => { results := [.lit (.bool false)], args := [d1, d2] }
  | _ => none }
def FnOnceWrongFalsely : Prop := fnOnceRow.holds Try.pinned (OpenSpec.ofChange fnOnceWrong)

/-- 'laws.FnHops': WHATEVER THE INPUT: true; the input reads as it did. -/
def fnHopsSpec : ChangeSpec := { name := "fnHops", fn := fun _ => fun
  | [d1, d2] => { results := [.lit (.bool true)], args := [d1, d2] }
  | _ => none }
def fnHopsRow : OpenClaim := { program := "ytlcppgnnlgigmaa", sum := "ffef15f5b3982320e701bb939e45b753ea35c3e4ff9f5a6a57d6e79289f2729c", func := "loop.example/g00419/laws.FnHops", spec := "fnHops", unfollowed := true, recurses := true, plainKeys := false, apart := false }
def FnHopsSaid : Prop := fnHopsRow.holds Try.pinned (OpenSpec.ofChange fnHopsSpec)

/-- ITS FALSE NEIGHBOUR: 'it returns false'. Refute it at one input. -/
def fnHopsWrong : ChangeSpec := { name := "fnHops", fn := fun _ => fun
  | [d1, d2] => { results := [.lit (.bool false)], args := [d1, d2] }
  | _ => none }
def FnHopsWrongFalsely : Prop := fnHopsRow.holds Try.pinned (OpenSpec.ofChange fnHopsWrong)

/-- 'laws.FnExactHearTc': WHATEVER THE INPUT: true; the input reads as it did. -/
def fnExactHearTcSpec : ChangeSpec := { name := "fnExactHearTc", fn := fun _ => fun
  | [d1, d2, d3, d4] => { results := [.lit (.bool true)], args := [d1, d2, d3, d4] }
  | _ => none }
def fnExactHearTcRow : OpenClaim := { program := "ytlcppgnnlgigmaa", sum := "ffef15f5b3982320e701bb939e45b753ea35c3e4ff9f5a6a57d6e79289f2729c", func := "loop.example/g00419/laws.FnExactHearTc", spec := "fnExactHearTc", unfollowed := true, recurses := true, plainKeys := false, apart := false }
def FnExactHearTcSaid : Prop := fnExactHearTcRow.holds Try.pinned (OpenSpec.ofChange fnExactHearTcSpec)

/-- ITS FALSE NEIGHBOUR: 'it returns false'. Refute it at one input. -/
def fnExactHearTcWrong : ChangeSpec := { name := "fnExactHearTc", fn := fun _ => fun
  | [d1, d2, d3, d4] => { results := [.lit (.bool false)], args := [d1, d2, d3, d4] }
  | _ => none }
def FnExactHearTcWrongFalsely : Prop := fnExactHearTcRow.holds Try.pinned (OpenSpec.ofChange fnExactHearTcWrong)

/- THE SECOND FORM. 'bulk': how many values and letters a reading holds, each counted each time it is reached (what is shared counts as often as it is met; a slice's spare places count too). A statement '..UptoSaid' is the law's where the arguments, and the package variables that the reading takes, are together of bulk at most 1048576: NARROWER than '..Said'. Prove '..Said' where nothing that the law and all that it calls make is longer than what came in: it says more and counts as full. Else prove '..UptoSaid'. A law counts once. -/
mutual
def uptoBulk {H : Type} : DataW H → Nat
  | .lit (.string bytes) => bytes.length + 1
  | .lit _ => 1
  | .nil => 1
  | .ptr d => uptoBulk d + 1
  | .slice elems spare => uptoBulkAll elems + uptoBulkAll spare + 1
  | .agg parts => uptoBulkAll parts + 1
  | .iface _ d => uptoBulk d + 1
  | .map entries => uptoBulkEntries entries + 1
  | .held _ => 1
def uptoBulkAll {H : Type} : List (DataW H) → Nat
  | [] => 0
  | d :: r => uptoBulk d + uptoBulkAll r
def uptoBulkEntries {H : Type} : List (Lit × DataW H) → Nat
  | [] => 0
  | x :: r => uptoBulkEntry x + uptoBulkEntries r
def uptoBulkEntry {H : Type} : Lit × DataW H → Nat
  | (.string bytes, d) => bytes.length + uptoBulk d + 1
  | (_, d) => uptoBulk d + 1
 end
def uptoSmall : (H : Type) → List (DataW H) → Bool := fun _ ds => decide (uptoBulkAll ds ≤ 1048576)
def OpenSpec.upto (s : _root_.Go.ChangeSpec) : _root_.Go.OpenSpec := { _root_.Go.OpenSpec.ofChange s with cond := some uptoSmall }

/-- 'laws.FnTopology', WHERE WHAT IT READS IS OF BULK AT MOST 1048576: true; the input reads as it did. -/
def fnTopologyUptoRow : OpenClaim := { program := "ytlcppgnnlgigmaa", sum := "ffef15f5b3982320e701bb939e45b753ea35c3e4ff9f5a6a57d6e79289f2729c", func := "loop.example/g00419/laws.FnTopology", spec := "fnTopology", unfollowed := true, recurses := true, plainKeys := false, apart := false, narrowed := true }
def FnTopologyUptoSaid : Prop := fnTopologyUptoRow.holds Try.pinned (OpenSpec.upto fnTopologySpec)

/-- 'laws.FnOnce', WHERE WHAT IT READS IS OF BULK AT MOST 1048576: true; the input reads as it did. -/
def fnOnceUptoRow : OpenClaim := { program := "ytlcppgnnlgigmaa", sum := "ffef15f5b3982320e701bb939e45b753ea35c3e4ff9f5a6a57d6e79289f2729c", func := "loop.example/g00419/laws.FnOnce", spec := "fnOnce", unfollowed := true, recurses := true, plainKeys := false, apart := false, narrowed := true }
def FnOnceUptoSaid : Prop := fnOnceUptoRow.holds Try.pinned (OpenSpec.upto fnOnceSpec)

/-- 'laws.FnHops', WHERE WHAT IT READS IS OF BULK AT MOST 1048576: true; the input reads as it did. -/
def fnHopsUptoRow : OpenClaim := { program := "ytlcppgnnlgigmaa", sum := "ffef15f5b3982320e701bb939e45b753ea35c3e4ff9f5a6a57d6e79289f2729c", func := "loop.example/g00419/laws.FnHops", spec := "fnHops", unfollowed := true, recurses := true, plainKeys := false, apart := false, narrowed := true }
def FnHopsUptoSaid : Prop := fnHopsUptoRow.holds Try.pinned (OpenSpec.upto fnHopsSpec)

/-- 'laws.FnExactHearTc', WHERE WHAT IT READS IS OF BULK AT MOST 1048576: true; the input reads as it did. -/
def fnExactHearTcUptoRow : OpenClaim := { program := "ytlcppgnnlgigmaa", sum := "ffef15f5b3982320e701bb939e45b753ea35c3e4ff9f5a6a57d6e79289f2729c", func := "loop.example/g00419/laws.FnExactHearTc", spec := "fnExactHearTc", unfollowed := true, recurses := true, plainKeys := false, apart := false, narrowed := true }
def FnExactHearTcUptoSaid : Prop := fnExactHearTcUptoRow.holds Try.pinned (OpenSpec.upto fnExactHearTcSpec)

end Rows
end Go.Proofs.Ytlcppgnnlgigmaa
