/-
  The model's contract: relays for floods.
-/
import Derived.Test.YtmelbilepfnmjapMprE
namespace Go.Proofs.Ytmelbilepfnmjap
open Go.ChangeShapes Go.WideShapes Go.ChangeAt Go.RowKit
set_option linter.unusedVariables false
set_option linter.unusedSimpArgs false
attribute [local go_sem ↓] Go.wp_at_zero Go.wp_at_succ
namespace Mr
open W1 Tu St Tw
def lenS : Value → Nat
  | .slice _ n _ => n
  | _ => 0
theorem own_list {w : World} {base : Nat} {v : Value} {zs : List Int} (h : w.ownsRow base 3 1 v zs.length (In.flat zs)) : ∃ a c, v = .slice a zs.length c ∧ In.RM w a zs := by
  obtain ⟨a, c, e, l⟩ := In.lst_own rfl h
  exact ⟨a, c, e, l.rm⟩
theorem own_lt {w : World} {base n : Nat} {v : Value} {xs : List Value} (h : w.ownsRow base 3 1 v n xs) : ∀ g, v.ownBlock = some g → g < w.heap.size := fun g e => (h.lt g e).2
end Mr
end Go.Proofs.Ytmelbilepfnmjap
