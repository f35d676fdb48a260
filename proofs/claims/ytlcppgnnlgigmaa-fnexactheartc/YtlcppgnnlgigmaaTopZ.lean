/-
  TopologyExpire, the model's and the program's.
-/
import Derived.Test.YtlcppgnnlgigmaaTopY
import Derived.Test.YtlcppgnnlgigmaaTopL
namespace Go.Proofs.Ytlcppgnnlgigmaa
open Go.ChangeShapes Go.WideShapes Go.ChangeAt Go.RowKit
set_option linter.unusedVariables false
set_option linter.unusedSimpArgs false
set_option maxRecDepth 100000
attribute [local go_sem ↓] Go.wp_at_zero Go.wp_at_succ
namespace Tp
open W1 Tu St Tw
theorem OwT.tl {w : World} {v : Value} {S : List So.R} {E : List R} {lo hi : Nat} (h : OwT w v S E lo hi) : TLst w v S E lo hi := by
  obtain ⟨g, c, h, d, mid, rfl, h1, h2, h3, h4⟩ := h
  exact ⟨_, _, mid, rfl, ⟨_, _, rfl, h2⟩, ⟨_, _, rfl, h3⟩, h4⟩
theorem OwT.set {w : World} {v : Value} {S : List So.R} {E : List R} {lo hi b i : Nat} {u : Value} (h : OwT w v S E lo hi) (hb : b < lo) : OwT (w.setCell ⟨b, i, none⟩ u) v S E lo hi := by
  obtain ⟨g, c, h, d, mid, rfl, h1, h2, h3, h4⟩ := h
  exact ⟨g, c, h, d, mid, rfl, h1, lsS_set h2 (.inl hb), lsT_set h3 (.inl (by omega)), h4⟩
theorem liveS_up {ss : List So.R} (h : UpS ss) (now : Int) : UpS (ss.filter (liveS now)) := up_filter h _
theorem sLE {w : World} {b B : Nat} {key til val : Int} {x y : Value} (h : St.Bx w b ⟨key, til, val⟩) (hB : Bx2 w B x y) : (St.Bx w b ⟨key, til, val⟩ ∧ Bx2 w B x y) ∧ w.cell? ⟨b, 0, none⟩ = some (.int .i64 key) ∧ w.cell? ⟨B, 0, none⟩ = some x := ⟨⟨h, hB⟩, h.1, hB.1⟩
end Tp
end Go.Proofs.Ytlcppgnnlgigmaa
