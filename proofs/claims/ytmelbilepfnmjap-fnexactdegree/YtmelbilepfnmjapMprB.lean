/-
  The model's contract: who is left.
-/
import Derived.Test.YtmelbilepfnmjapMprA
namespace Go.Proofs.Ytmelbilepfnmjap
open Go.ChangeShapes Go.WideShapes Go.ChangeAt Go.RowKit
set_option linter.unusedVariables false
set_option linter.unusedSimpArgs false
attribute [local go_sem ↓] Go.wp_at_zero Go.wp_at_succ
namespace Mr
open W1 Tu St Tw
theorem near_of {w : World} {v : Value} {a : Option Addr} {zs : List Int} {lo hi : Nat} (h : In.Lst w a zs lo hi) (hv : ∀ g, v.ownBlock = some g → g < lo) : NearOk w v a zs := by
  rcases h with e | ⟨g2, rfl, h1, h2, h3, h4⟩
  · exact .inl e
  · exact .inr ⟨g2, 0, rfl, fun e => by have := hv _ e; omega, h3, In.rm_of h4⟩
end Mr
end Go.Proofs.Ytmelbilepfnmjap
