/-
  No cell of these rows narrows 'for every input' (looked for: loops, veiled, ifaces, maps, wideKeys, modest, calm, conditions, laid).
  DERIVED. THE GIVEN ROWS OF THIS SEAT. 5 by the template 'for every input the law returns true; each argument reads behind the call as it read before'; 0 by the template 'total and deterministic' (their statements: YtpknahhdapmcoacTotals.lean).
  GIVEN WITH THE SEED: the statements are not yours to turn. If you find one false, say at which input.
  Laid BY PROGRAM, IN A SANDBOX (cutbox-rows.mjs): the forced cells as the released guide's own fill.sh prints them over the translation 1fbe17f42efa82d3… (all of the seat's roots in one cut). By AI agents, Wed Nov 11 2026. No macro, syntax, notation, axiom, sorry.
-/
import Derived.Test.YtpknahhdapmcoacChecked
import GoSem.Claim
import GoSem.ClaimJoined
import GoSem.ClaimMapViews
import Derived.JoinedTies
import Derived.KernelRfl
namespace Go.Proofs.Ytpknahhdapmcoac
/- THE CELL 'sum', in the pinned program and in every row, IS THE sha256 OF THE DUMP (.gsa) THAT YtpknahhdapmcoacProg.lean LOADS. Nothing in Lean hashes anything: it is a label: what it is worth is what the hold of that sum in a sandbox is worth. -/
noncomputable def Try.pinned : Pinned := { name := "ytpknahhdapmcoac", sum := "1fbe17f42efa82d314cfefc7f4be303d3e68df0ce1883d0fe07e1a1c66162406", checked := Try.checked }
namespace Rows
def none {H : Type} : Left H := { results := [], args := [] }

/-- 'laws.FnStrict': WHATEVER THE INPUT: true; the input reads as it did. -/
def fnStrictSpec : ChangeSpec := { name := "fnStrict", fn := fun _ => fun
  | [d1, d2] => { results := [.lit (.bool true)], args := [d1, d2] }
  | _ => none }
def fnStrictRow : OpenClaim := { program := "ytpknahhdapmcoac", sum := "1fbe17f42efa82d314cfefc7f4be303d3e68df0ce1883d0fe07e1a1c66162406", func := "loop.example/g00419/laws.FnStrict", spec := "fnStrict", plainKeys := false, apart := false }
def FnStrictSaid : Prop := fnStrictRow.holds Try.pinned (OpenSpec.ofChange fnStrictSpec)

/-- ITS FALSE NEIGHBOUR: 'it returns false'. Refute it at one input. -/
def fnStrictWrong : ChangeSpec := { name := "fnStrict", fn := fun _ => fun
  | [d1, d2] => { results := [.lit (.bool false)], args := [d1, d2] }
  | _ => none }
def FnStrictWrongFalsely : Prop := fnStrictRow.holds Try.pinned (OpenSpec.ofChange fnStrictWrong)

/-- 'laws.FnCovers': WHATEVER THE INPUT: true; the input reads as it did. -/
def fnCoversSpec : ChangeSpec := { name := "fnCovers", fn := fun _ => fun
  | [d1, d2] => { results := [.lit (.bool true)], args := [d1, d2] }
  | _ => none }
def fnCoversRow : OpenClaim := { program := "ytpknahhdapmcoac", sum := "1fbe17f42efa82d314cfefc7f4be303d3e68df0ce1883d0fe07e1a1c66162406", func := "loop.example/g00419/laws.FnCovers", spec := "fnCovers", unfollowed := true, recurses := true, plainKeys := false, apart := false }
def FnCoversSaid : Prop := fnCoversRow.holds Try.pinned (OpenSpec.ofChange fnCoversSpec)

/-- ITS FALSE NEIGHBOUR: 'it returns false'. Refute it at one input. -/
def fnCoversWrong : ChangeSpec := { name := "fnCovers", fn := fun _ => fun
  | [d1, d2] => { results := [.lit (.bool false)], args := [d1, d2] }
  | _ => none }
def FnCoversWrongFalsely : Prop := fnCoversRow.holds Try.pinned (OpenSpec.ofChange fnCoversWrong)

/-- 'laws.FnNeedless': WHATEVER THE INPUT: true; the input reads as it did. -/
def fnNeedlessSpec : ChangeSpec := { name := "fnNeedless", fn := fun _ => fun
  | [d1, d2] => { results := [.lit (.bool true)], args := [d1, d2] }
  | _ => none }
def fnNeedlessRow : OpenClaim := { program := "ytpknahhdapmcoac", sum := "1fbe17f42efa82d314cfefc7f4be303d3e68df0ce1883d0fe07e1a1c66162406", func := "loop.example/g00419/laws.FnNeedless", spec := "fnNeedless", unfollowed := true, recurses := true, plainKeys := false, apart := false }
def FnNeedlessSaid : Prop := fnNeedlessRow.holds Try.pinned (OpenSpec.ofChange fnNeedlessSpec)

/-- ITS FALSE NEIGHBOUR: 'it returns false'. Refute it at one input. -/
def fnNeedlessWrong : ChangeSpec := { name := "fnNeedless", fn := fun _ => fun
  | [d1, d2] => { results := [.lit (.bool false)], args := [d1, d2] }
  | _ => none }
def FnNeedlessWrongFalsely : Prop := fnNeedlessRow.holds Try.pinned (OpenSpec.ofChange fnNeedlessWrong)

/-- 'laws.FnKeeps': WHATEVER THE INPUT: true; the input reads as it did. -/
def fnKeepsSpec : ChangeSpec := { name := "fnKeeps", fn := fun _ => fun
  | [d1, d2] => { results := [.lit (.bool true)], args := [d1, d2] }
  | _ => none }
def fnKeepsRow : OpenClaim := { program := "ytpknahhdapmcoac", sum := "1fbe17f42efa82d314cfefc7f4be303d3e68df0ce1883d0fe07e1a1c66162406", func := "loop.example/g00419/laws.FnKeeps", spec := "fnKeeps", unfollowed := true, recurses := true, plainKeys := false, apart := false }
def FnKeepsSaid : Prop := fnKeepsRow.holds Try.pinned (OpenSpec.ofChange fnKeepsSpec)

/-- ITS FALSE NEIGHBOUR: 'it returns false'. Refute it at one input. -/
def fnKeepsWrong : ChangeSpec := { name := "fnKeeps", fn := fun _ => fun
  | [d1, d2] => { results := [.lit (.bool false)], args := [d1, d2] }
  | _ => none }
def FnKeepsWrongFalsely : Prop := fnKeepsRow.holds Try.pinned (OpenSpec.ofChange fnKeepsWrong)

/-- 'laws.FnTopology': WHATEVER THE INPUT: true; the input reads as it did. -/
def fnTopologySpec : ChangeSpec := { name := "fnTopology", fn := fun _ => fun
  | [d1, d2] => { results := [.lit (.bool true)], args := [d1, d2] }
  | _ => none }
def fnTopologyRow : OpenClaim := { program := "ytpknahhdapmcoac", sum := "1fbe17f42efa82d314cfefc7f4be303d3e68df0ce1883d0fe07e1a1c66162406", func := "loop.example/g00419/laws.FnTopology", spec := "fnTopology", unfollowed := true, recurses := true, plainKeys := false, apart := false }
def FnTopologySaid : Prop := fnTopologyRow.holds Try.pinned (OpenSpec.ofChange fnTopologySpec)

/-- ITS FALSE NEIGHBOUR: 'it returns false'. Refute it at one input. -/
def fnTopologyWrong : ChangeSpec := { name := "fnTopology", fn := fun _ => fun
  | [d1, d2] => { results := [.lit (.bool false)], args := [d1, d2] }
  | _ => none }
def FnTopologyWrongFalsely : Prop := fnTopologyRow.holds Try.pinned (OpenSpec.ofChange fnTopologyWrong)

/- THE SECOND FORM. 'bulk': how many values and letters a reading holds, each counted each time it is reached (what is shared counts as often as it is met; a slice's spare places count too). A statement '..UptoSaid' is the law's where the arguments, and the package variables that the reading takes, are together of bulk at most 1048576: NARROWER than '..Said'. Prove '..Said' where nothing that the law and all that it calls make is longer than what came in: it says more and counts as full. Else prove '..UptoSaid'. A law counts once. -/
mutual
def uptoBulk {H : Type} : DataW H → Nat
  | .lit (.string bytes) => bytes.length + 1
  | .lit _ => 1
  | .nil => 1
  | .ptr d => uptoBulk d + 1
  | .slice elems spare => uptoBulkAll elems + uptoBulkAll spare + 1
  | .agg parts => uptoBulkAll parts + 1
  | .iface _ d => uptoBulk d + 1
  | .map entries => uptoBulkEntries entries + 1
  | .held _ => 1
def uptoBulkAll {H : Type} : List (DataW H) → Nat
  | [] => 0
  | d :: r => uptoBulk d + uptoBulkAll r
def uptoBulkEntries {H : Type} : List (Lit × DataW H) → Nat
  | [] => 0
  | x :: r => uptoBulkEntry x + uptoBulkEntries r
def uptoBulkEntry {H : Type} : Lit × DataW H → Nat
  | (.string bytes, d) => bytes.length + uptoBulk d + 1
  | (_, d) => uptoBulk d + 1
 end
def uptoSmall : (H : Type) → List (DataW H) → Bool := fun _ ds => decide (uptoBulkAll ds ≤ 1048576)
def OpenSpec.upto (s : _root_.Go.ChangeSpec) : _root_.Go.OpenSpec := { _root_.Go.OpenSpec.ofChange s with cond := some uptoSmall }

/-- 'laws.FnStrict', WHERE WHAT IT READS IS OF BULK AT MOST 1048576: true; the input reads as it did. -/
def fnStrictUptoRow : OpenClaim := { program := "ytpknahhdapmcoac", sum := "1fbe17f42efa82d314cfefc7f4be303d3e68df0ce1883d0fe07e1a1c66162406", func := "loop.example/g00419/laws.FnStrict", spec := "fnStrict", plainKeys := false, apart := false, narrowed := true }
def FnStrictUptoSaid : Prop := fnStrictUptoRow.holds Try.pinned (OpenSpec.upto fnStrictSpec)

/-- 'laws.FnCovers', WHERE WHAT IT READS IS OF BULK AT MOST 1048576: true; the input reads as it did. -/
def fnCoversUptoRow : OpenClaim := { program := "ytpknahhdapmcoac", sum := "1fbe17f42efa82d314cfefc7f4be303d3e68df0ce1883d0fe07e1a1c66162406", func := "loop.example/g00419/laws.FnCovers", spec := "fnCovers", unfollowed := true, recurses := true, plainKeys := false, apart := false, narrowed := true }
def FnCoversUptoSaid : Prop := fnCoversUptoRow.holds Try.pinned (OpenSpec.upto fnCoversSpec)

/-- 'laws.FnNeedless', WHERE WHAT IT READS IS OF BULK AT MOST 1048576: true; the input reads as it did. -/
def fnNeedlessUptoRow : OpenClaim := { program := "ytpknahhdapmcoac", sum := "1fbe17f42efa82d314cfefc7f4be303d3e68df0ce1883d0fe07e1a1c66162406", func := "loop.example/g00419/laws.FnNeedless", spec := "fnNeedless", unfollowed := true, recurses := true, plainKeys := false, apart := false, narrowed := true }
def FnNeedlessUptoSaid : Prop := fnNeedlessUptoRow.holds Try.pinned (OpenSpec.upto fnNeedlessSpec)

/-- 'laws.FnKeeps', WHERE WHAT IT READS IS OF BULK AT MOST 1048576: true; the input reads as it did. -/
def fnKeepsUptoRow : OpenClaim := { program := "ytpknahhdapmcoac", sum := "1fbe17f42efa82d314cfefc7f4be303d3e68df0ce1883d0fe07e1a1c66162406", func := "loop.example/g00419/laws.FnKeeps", spec := "fnKeeps", unfollowed := true, recurses := true, plainKeys := false, apart := false, narrowed := true }
def FnKeepsUptoSaid : Prop := fnKeepsUptoRow.holds Try.pinned (OpenSpec.upto fnKeepsSpec)

/-- 'laws.FnTopology', WHERE WHAT IT READS IS OF BULK AT MOST 1048576: true; the input reads as it did. -/
def fnTopologyUptoRow : OpenClaim := { program := "ytpknahhdapmcoac", sum := "1fbe17f42efa82d314cfefc7f4be303d3e68df0ce1883d0fe07e1a1c66162406", func := "loop.example/g00419/laws.FnTopology", spec := "fnTopology", unfollowed := true, recurses := true, plainKeys := false, apart := false, narrowed := true }
def FnTopologyUptoSaid : Prop := fnTopologyUptoRow.holds Try.pinned (OpenSpec.upto fnTopologySpec)

end Rows
end Go.Proofs.Ytpknahhdapmcoac
