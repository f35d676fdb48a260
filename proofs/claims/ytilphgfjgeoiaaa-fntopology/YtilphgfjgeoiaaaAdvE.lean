/-
  Contract over advertisements: the text of one (the model's l05Encode).
-/
import Derived.Test.YtilphgfjgeoiaaaAdvC
import Derived.Test.YtilphgfjgeoiaaaAdvN
namespace Go.Proofs.Ytilphgfjgeoiaaa
open Go.ChangeShapes Go.WideShapes Go.ChangeAt Go.RowKit
set_option linter.unusedVariables false
set_option linter.unusedSimpArgs false
attribute [local go_sem ↓] Go.wp_at_zero Go.wp_at_succ
attribute [local go_sem] Go.strOfNums_size ByteArray.size_append
namespace Av
open W1 Ed
theorem sBx3 {w : World} {b : Nat} {x y : Int} {v : Value} (h : Bx3 w b x y v) : Bx3 w b x y v ∧ w.cell? ⟨b, 0, none⟩ = some (.int .i64 x) ∧ w.cell? ⟨b, 1, none⟩ = some (.int .i64 y) ∧ w.cell? ⟨b, 2, none⟩ = some v := ⟨h, h⟩
theorem sXA {w : World} {b g o : Nat} {x y ad mt : Int} {v : Value} (h : Bx3 w b x y v) (hA : At w g o ⟨ad, mt⟩) : (Bx3 w b x y v ∧ At w g o ⟨ad, mt⟩) ∧ w.cell? ⟨b, 2, none⟩ = some v ∧ w.cell? ⟨g, o, none⟩ = some (.int .i64 ad) ∧ w.cell? ⟨g, o + 1, none⟩ = some (.int .i64 mt) := ⟨⟨h, hA⟩, h.2.2, hA.1, hA.2⟩
end Av
end Go.Proofs.Ytilphgfjgeoiaaa
