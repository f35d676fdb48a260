/-
  Contracts: the program's search by halves, at each of the functions that it is handed (written by mkset.py).
-/
import Derived.Test.YtilphgfjgeoiaaaSetD
namespace Go.Proofs.Ytilphgfjgeoiaaa
open Go.ChangeShapes Go.WideShapes Go.ChangeAt Go.RowKit
set_option linter.unusedVariables false
set_option linter.unusedSimpArgs false
attribute [local go_sem ↓] Go.wp_at_zero Go.wp_at_succ
namespace St
open W1 Tu
theorem up_at {ms : List R} (h : setB ms = true) (k : Int) : ∀ i j, i < j → j < ms.length → atKey k (ms.getD i R.zero) = true → atKey k (ms.getD j R.zero) = true := by
  intro i j hij hj hi
  have := rises h j i hij hj
  unfold atKey at *
  exact decide_eq_true (by have := of_decide_eq_true hi; omega)
theorem up_over {ms : List R} (h : setB ms = true) (k : Int) : ∀ i j, i < j → j < ms.length → overKey k (ms.getD i R.zero) = true → overKey k (ms.getD j R.zero) = true := by
  intro i j hij hj hi
  have := rises h j i hij hj
  unfold overKey at *
  exact decide_eq_true (by have := of_decide_eq_true hi; omega)
end St
end Go.Proofs.Ytilphgfjgeoiaaa
