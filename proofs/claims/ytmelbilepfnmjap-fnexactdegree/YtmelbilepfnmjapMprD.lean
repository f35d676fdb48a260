/-
  The model's contract: which of two links is the better relay.
-/
import Derived.Test.YtmelbilepfnmjapMprC
namespace Go.Proofs.Ytmelbilepfnmjap
open Go.ChangeShapes Go.WideShapes Go.ChangeAt Go.RowKit
set_option linter.unusedVariables false
set_option linter.unusedSimpArgs false
attribute [local go_sem ↓] Go.wp_at_zero Go.wp_at_succ
namespace Mr
open W1 Tu St Tw
/-- More of those that are left, the greater will, the greater degree. -/
def betV (via : Int → List Int) (S L : List Int) (x y : Lk.R) : Bool :=
  if cntV via L x.ad = cntV via L y.ad then (if x.wl = y.wl then decide (cntV via S y.ad < cntV via S x.ad) else decide (y.wl < x.wl)) else decide (cntV via L y.ad < cntV via L x.ad)
theorem cnt_len (via : Int → List Int) (L : List Int) (a : Int) : cntV via L a ≤ L.length := List.length_filter_le _ _
end Mr
end Go.Proofs.Ytmelbilepfnmjap
