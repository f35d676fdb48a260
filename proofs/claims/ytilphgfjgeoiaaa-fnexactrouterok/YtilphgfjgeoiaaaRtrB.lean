/-
  A new router, of the model and of the program. (written by mkrtrb.py)
-/
import Derived.Test.YtilphgfjgeoiaaaRtrA
import Derived.Test.YtilphgfjgeoiaaaRtrV
namespace Go.Proofs.Ytilphgfjgeoiaaa
open Go.ChangeShapes Go.WideShapes Go.ChangeAt Go.RowKit
set_option linter.unusedVariables false
set_option linter.unusedSimpArgs false
set_option maxRecDepth 100000
attribute [local go_sem ↓] Go.wp_at_zero Go.wp_at_succ
namespace Rt
open W1
/-- A router whose lists are empty. -/
def EV (x y z : Int) (v : Value) : Prop := ∃ a1 a2 a3 a4 a5 a6 a7 : Option Addr, v = .agg (rC x y z 0 0 (.slice a1 0 0) (.slice a2 0 0) (.slice a3 0 0) (.slice a4 0 0) (.slice a5 0 0) (.slice a6 0 0) (.slice a7 0 0) 0).toArray
theorem RA.alloc {w : World} {b : Nat} {cs : List Value} (h : RA w b cs) (ob : Obj) : RA (w.alloc ob) b cs := h.below ((Below.refl _ _).alloc (Nat.le_refl _) ob)
theorem bel_alloc {w w' : World} (h : Below w.heap.size w w') (ob : Obj) : Below w.heap.size w (w'.alloc ob) := h.alloc h.size ob
end Rt
end Go.Proofs.Ytilphgfjgeoiaaa
