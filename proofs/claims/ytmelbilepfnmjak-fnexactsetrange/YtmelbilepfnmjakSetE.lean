/-
  Contracts: SetExpire, both.
-/
import Derived.Test.YtmelbilepfnmjakSetD
namespace Go.Proofs.Ytmelbilepfnmjak
open Go.ChangeShapes Go.WideShapes Go.ChangeAt Go.RowKit
set_option linter.unusedVariables false
set_option linter.unusedSimpArgs false
attribute [local go_sem ↓] Go.wp_at_zero Go.wp_at_succ
namespace St
open W1 Tu
theorem take_filter (p : R → Bool) (ms : List R) (j : Nat) (h : j < ms.length) : (ms.take (j + 1)).filter p = (ms.take j).filter p ++ (if p (ms.getD j R.zero) = true then [ms.getD j R.zero] else []) := by
  rw [List.take_add_one, List.getElem?_eq_getElem h, List.filter_append, List.getD_eq_getElem?_getD, List.getElem?_eq_getElem h]
  cases hp : p ms[j] <;> simp [hp]
theorem filter_le (p : R → Bool) (ms : List R) (j : Nat) : ((ms.take j).filter p).length ≤ j := by
  have := List.length_filter_le p (ms.take j)
  have := List.length_take_le j ms
  omega
end St
end Go.Proofs.Ytmelbilepfnmjak
