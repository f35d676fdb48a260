/-
  Contracts: keyPlace (the program's), and SetFind, both.
-/
import Derived.Test.YtilphgfjgeoiaaaSetP
import Derived.Laws.NewBlocks
namespace Go.Proofs.Ytilphgfjgeoiaaa
open Go.ChangeShapes Go.WideShapes Go.ChangeAt Go.RowKit
set_option linter.unusedVariables false
set_option linter.unusedSimpArgs false
attribute [local go_sem ↓] Go.wp_at_zero Go.wp_at_succ
namespace St
open W1 Tu
theorem there_no {ms : List R} {k : Int} {p : Nat} (e : place ms k = p) (h : ms.length ≤ p) : thereB ms k = false := by unfold thereB; rw [e, decide_eq_false (by omega)]; rfl
theorem there_ne {ms : List R} {k : Int} {p : Nat} (e : place ms k = p) (h : ¬ (ms.getD p R.zero).key = k) : thereB ms k = false := by unfold thereB; rw [e, decide_eq_false h, Bool.and_false]
theorem there_yes {ms : List R} {k : Int} {p : Nat} (e : place ms k = p) (hl : p < ms.length) (h : (ms.getD p R.zero).key = k) : thereB ms k = true := by unfold thereB; rw [e, decide_eq_true hl, decide_eq_true h]; rfl
end St
end Go.Proofs.Ytilphgfjgeoiaaa
