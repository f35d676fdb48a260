/-
  No cell of these rows narrows 'for every input' (looked for: loops, veiled, ifaces, maps, wideKeys, modest, calm, conditions, laid).
  DERIVED. THE GIVEN ROWS OF THIS SEAT. 4 by the template 'for every input the law returns true; each argument reads behind the call as it read before'; 0 by the template 'total and deterministic' (their statements: YtffclijcfngeeaaGreatTotals.lean).
  GIVEN WITH THE SEED: the statements are not yours to turn. If you find one false, say at which input.
  Laid BY PROGRAM, IN A SANDBOX (cutbox-rows.mjs): the forced cells as the released guide's own fill.sh prints them over the translation a3bb666805cf772a… (all of the seat's roots in one cut). By AI agents, Wed Nov 11 2026. No macro, syntax, notation, axiom, sorry.
-/
import Derived.Test.YtffclijcfngeeaaGreatChecked
import GoSem.Claim
import GoSem.ClaimJoined
import GoSem.ClaimMapViews
import Derived.JoinedTies
import Derived.KernelRfl
namespace Go.Proofs.YtffclijcfngeeaaGreat
/- THE CELL 'sum', in the pinned program and in every row, IS THE sha256 OF THE DUMP (.gsa) THAT YtffclijcfngeeaaGreatProg.lean LOADS. Nothing in Lean hashes anything: it is a label: what it is worth is what the hold of that sum in a sandbox is worth. -/
noncomputable def Tryz.pinned : Pinned := { name := "ytffclijcfngeeaagreat", sum := "a3bb666805cf772a29618c9c17220962fa85964e7f192612e22c7e6fb6d6d490", checked := Tryz.checked }
namespace Rows
def none {H : Type} : Left H := { results := [], args := [] }

/-- 'laws.FnExactRouterTick': WHATEVER THE INPUT: true; the input reads as it did. -/
def fnExactRouterTickSpec : ChangeSpec := { name := "fnExactRouterTick", fn := fun _ => fun
  | [d] => { results := [.lit (.bool true)], args := [d] }
  | _ => none }
def fnExactRouterTickRow : OpenClaim := { program := "ytffclijcfngeeaagreat", sum := "a3bb666805cf772a29618c9c17220962fa85964e7f192612e22c7e6fb6d6d490", func := "loop.example/g00419/laws.FnExactRouterTick", spec := "fnExactRouterTick", unfollowed := true, recurses := true, plainKeys := false, apart := false }
def FnExactRouterTickSaid : Prop := fnExactRouterTickRow.holds Tryz.pinned (OpenSpec.ofChange fnExactRouterTickSpec)

/-- ITS FALSE NEIGHBOUR: 'it returns false'. Refute it at one input. -/
def fnExactRouterTickWrong : ChangeSpec := { name := "fnExactRouterTick", fn := fun _ => fun
  | [d] => { results := [.lit (.bool false)], args := [d] }
  | _ => none }
def FnExactRouterTickWrongFalsely : Prop := fnExactRouterTickRow.holds Tryz.pinned (OpenSpec.ofChange fnExactRouterTickWrong)

/-- 'laws.FnExactRouterHear': WHATEVER THE INPUT: true; the input reads as it did. -/
def fnExactRouterHearSpec : ChangeSpec := { name := "fnExactRouterHear", fn := fun _ => fun
  | [d1, d2, d3, d4] => { results := [.lit (.bool true)], args := [d1, d2, d3, d4] }
  | _ => none }
def fnExactRouterHearRow : OpenClaim := { program := "ytffclijcfngeeaagreat", sum := "a3bb666805cf772a29618c9c17220962fa85964e7f192612e22c7e6fb6d6d490", func := "loop.example/g00419/laws.FnExactRouterHear", spec := "fnExactRouterHear", unfollowed := true, recurses := true, plainKeys := false, apart := false }
def FnExactRouterHearSaid : Prop := fnExactRouterHearRow.holds Tryz.pinned (OpenSpec.ofChange fnExactRouterHearSpec)

/-- ITS FALSE NEIGHBOUR: 'it returns false'. Refute it at one input. -/
def fnExactRouterHearWrong : ChangeSpec := { name := "fnExactRouterHear", fn := fun _ => fun
  | [d1, d2, d3, d4] => { results := [.lit (.bool false)], args := [d1, d2, d3, d4] }
  | _ => none }
def FnExactRouterHearWrongFalsely : Prop := fnExactRouterHearRow.holds Tryz.pinned (OpenSpec.ofChange fnExactRouterHearWrong)

/-- 'laws.FnExactHelloNow': WHATEVER THE INPUT: true; the input reads as it did. -/
def fnExactHelloNowSpec : ChangeSpec := { name := "fnExactHelloNow", fn := fun _ => fun
  | [d] => { results := [.lit (.bool true)], args := [d] }
  | _ => none }
def fnExactHelloNowRow : OpenClaim := { program := "ytffclijcfngeeaagreat", sum := "a3bb666805cf772a29618c9c17220962fa85964e7f192612e22c7e6fb6d6d490", func := "loop.example/g00419/laws.FnExactHelloNow", spec := "fnExactHelloNow", unfollowed := true, recurses := true, plainKeys := false, apart := false }
def FnExactHelloNowSaid : Prop := fnExactHelloNowRow.holds Tryz.pinned (OpenSpec.ofChange fnExactHelloNowSpec)

/-- ITS FALSE NEIGHBOUR: 'it returns false'. Refute it at one input. -/
def fnExactHelloNowWrong : ChangeSpec := { name := "fnExactHelloNow", fn := fun _ => fun
  | [d] => { results := [.lit (.bool false)], args := [d] }
  | _ => none }
def FnExactHelloNowWrongFalsely : Prop := fnExactHelloNowRow.holds Tryz.pinned (OpenSpec.ofChange fnExactHelloNowWrong)

/-- 'laws.FnExactNetOK': WHATEVER THE INPUT: true; the input reads as it did. -/
def fnExactNetOKSpec : ChangeSpec := { name := "fnExactNetOK", fn := fun _ => fun
  | [d] => { results := [.lit (.bool true)], args := [d] }
  | _ => none }
def fnExactNetOKRow : OpenClaim := { program := "ytffclijcfngeeaagreat", sum := "a3bb666805cf772a29618c9c17220962fa85964e7f192612e22c7e6fb6d6d490", func := "loop.example/g00419/laws.FnExactNetOK", spec := "fnExactNetOK", unfollowed := true, recurses := true, plainKeys := false, apart := false }
def FnExactNetOKSaid : Prop := fnExactNetOKRow.holds Tryz.pinned (OpenSpec.ofChange fnExactNetOKSpec)

/-- ITS FALSE NEIGHBOUR: 'it returns false'. Refute it at one input. -/
def fnExactNetOKWrong : ChangeSpec := { name := "fnExactNetOK", fn := fun _ => fun
  | [d] => { results := [.lit (.bool false)], args := [d] }
  | _ => none }
def FnExactNetOKWrongFalsely : Prop := fnExactNetOKRow.holds Tryz.pinned (OpenSpec.ofChange fnExactNetOKWrong)

/- THE SECOND FORM. 'bulk': how many values and letters a reading holds, each counted each time it is reached (what is shared counts as often as it is met; a slice's spare places count too). A statement '..UptoSaid' is the law's where the arguments, and the package variables that the reading takes, are together of bulk at most 1048576: NARROWER than '..Said'. Prove '..Said' where nothing that the law and all that it calls make is longer than what came in: it says more and counts as full. Else prove '..UptoSaid'. A law counts once. -/
mutual
def uptoBulk {H : Type} : DataW H → Nat
  | .lit (.string bytes) => bytes.length + 1
  | .lit _ => 1
  | .nil => 1
  | .ptr d => uptoBulk d + 1
  | .slice elems spare => uptoBulkAll elems + uptoBulkAll spare + 1
  | .agg parts => uptoBulkAll parts + 1
  | .iface _ d => uptoBulk d + 1
  | .map entries => uptoBulkEntries entries + 1
  | .held _ => 1
def uptoBulkAll {H : Type} : List (DataW H) → Nat
  | [] => 0
  | d :: r => uptoBulk d + uptoBulkAll r
def uptoBulkEntries {H : Type} : List (Lit × DataW H) → Nat
  | [] => 0
  | x :: r => uptoBulkEntry x + uptoBulkEntries r
def uptoBulkEntry {H : Type} : Lit × DataW H → Nat
  | (.string bytes, d) => bytes.length + uptoBulk d + 1
  | (_, d) => uptoBulk d + 1
 end
def uptoSmall : (H : Type) → List (DataW H) → Bool := fun _ ds => decide (uptoBulkAll ds ≤ 1048576)
def OpenSpec.upto (s : _root_.Go.ChangeSpec) : _root_.Go.OpenSpec := { _root_.Go.OpenSpec.ofChange s with cond := some uptoSmall }

/-- 'laws.FnExactRouterTick', WHERE WHAT IT READS IS OF BULK AT MOST 1048576: true; the input reads as it did. -/
def fnExactRouterTickUptoRow : OpenClaim := { program := "ytffclijcfngeeaagreat", sum := "a3bb666805cf772a29618c9c17220962fa85964e7f192612e22c7e6fb6d6d490", func := "loop.example/g00419/laws.FnExactRouterTick", spec := "fnExactRouterTick", unfollowed := true, recurses := true, plainKeys := false, apart := false, narrowed := true }
def FnExactRouterTickUptoSaid : Prop := fnExactRouterTickUptoRow.holds Tryz.pinned (OpenSpec.upto fnExactRouterTickSpec)

/-- 'laws.FnExactRouterHear', WHERE WHAT IT READS IS OF BULK AT MOST 1048576: true; the input reads as it did. -/
def fnExactRouterHearUptoRow : OpenClaim := { program := "ytffclijcfngeeaagreat", sum := "a3bb666805cf772a29618c9c17220962fa85964e7f192612e22c7e6fb6d6d490", func := "loop.example/g00419/laws.FnExactRouterHear", spec := "fnExactRouterHear", unfollowed := true, recurses := true, plainKeys := false, apart := false, narrowed := true }
def FnExactRouterHearUptoSaid : Prop := fnExactRouterHearUptoRow.holds Tryz.pinned (OpenSpec.upto fnExactRouterHearSpec)

/-- 'laws.FnExactHelloNow', WHERE WHAT IT READS IS OF BULK AT MOST 1048576: true; the input reads as it did. -/
def fnExactHelloNowUptoRow : OpenClaim := { program := "ytffclijcfngeeaagreat", sum := "a3bb666805cf772a29618c9c17220962fa85964e7f192612e22c7e6fb6d6d490", func := "loop.example/g00419/laws.FnExactHelloNow", spec := "fnExactHelloNow", unfollowed := true, recurses := true, plainKeys := false, apart := false, narrowed := true }
def FnExactHelloNowUptoSaid : Prop := fnExactHelloNowUptoRow.holds Tryz.pinned (OpenSpec.upto fnExactHelloNowSpec)

/-- 'laws.FnExactNetOK', WHERE WHAT IT READS IS OF BULK AT MOST 1048576: true; the input reads as it did. -/
def fnExactNetOKUptoRow : OpenClaim := { program := "ytffclijcfngeeaagreat", sum := "a3bb666805cf772a29618c9c17220962fa85964e7f192612e22c7e6fb6d6d490", func := "loop.example/g00419/laws.FnExactNetOK", spec := "fnExactNetOK", unfollowed := true, recurses := true, plainKeys := false, apart := false, narrowed := true }
def FnExactNetOKUptoSaid : Prop := fnExactNetOKUptoRow.holds Tryz.pinned (OpenSpec.upto fnExactNetOKSpec)

end Rows
end Go.Proofs.YtffclijcfngeeaaGreat
