/-
  The model's TopologyExpire.
-/
import Derived.Test.YtilphgfjgeoiaaaTopX
namespace Go.Proofs.Ytilphgfjgeoiaaa
open Go.ChangeShapes Go.WideShapes Go.ChangeAt Go.RowKit
set_option linter.unusedVariables false
set_option linter.unusedSimpArgs false
set_option maxRecDepth 100000
attribute [local go_sem ↓] Go.wp_at_zero Go.wp_at_succ
namespace Tp
open W1 Tu St Tw
/-- A topology's block has no number in it. -/
theorem tv_ne {w : World} {b g o : Nat} {a a' : Option Addr} {n n' c c' : Nat} {z : Int} (h : TV w b (.slice a n c) (.slice a' n' c')) (ha : w.cell? ⟨g, o, none⟩ = some (.int .i64 z)) : g ≠ b := by
  intro e
  subst e
  unfold TV at h
  match o, ha with
  | 0, ha => simp [World.cell?, h] at ha
  | 1, ha => simp [World.cell?, h] at ha
  | o + 2, ha => simp [World.cell?, h] at ha
theorem rmS_tv {w : World} {b : Nat} {a a' : Option Addr} {n n' c c' : Nat} {r : Option Addr} {ms : List So.R} (h : So.RM w r ms) (ht : TV w b (.slice a n c) (.slice a' n' c')) (i : Nat) (u : Value) : So.RM (w.setCell ⟨b, i, none⟩ u) r ms := by
  rcases h with h | ⟨g, off, e, hc⟩
  · exact .inl h
  · refine .inr ⟨g, off, e, fun j hj => ?_⟩
    have hh : (w.setCell ⟨b, i, none⟩ u).heap[g]? = w.heap[g]? := Below.heap_setCell _ _ _ _ (tv_ne ht (hc j hj).1)
    exact ⟨(World.cell?_of_block (a := ⟨g, _, none⟩) hh).trans (hc j hj).1, (World.cell?_of_block (a := ⟨g, _, none⟩) hh).trans (hc j hj).2.1, (World.cell?_of_block (a := ⟨g, _, none⟩) hh).trans (hc j hj).2.2⟩
theorem rmT_tv {w : World} {b : Nat} {a a' : Option Addr} {n n' c c' : Nat} {r : Option Addr} {ms : List R} (h : Tu.RM w r ms) (ht : TV w b (.slice a n c) (.slice a' n' c')) (i : Nat) (u : Value) : Tu.RM (w.setCell ⟨b, i, none⟩ u) r ms := by
  rcases h with h | ⟨g, off, e, hc⟩
  · exact .inl h
  · refine .inr ⟨g, off, e, fun j hj => ?_⟩
    have hh : (w.setCell ⟨b, i, none⟩ u).heap[g]? = w.heap[g]? := Below.heap_setCell _ _ _ _ (tv_ne ht (hc j hj).1)
    exact ⟨(World.cell?_of_block (a := ⟨g, _, none⟩) hh).trans (hc j hj).1, (World.cell?_of_block (a := ⟨g, _, none⟩) hh).trans (hc j hj).2.1, (World.cell?_of_block (a := ⟨g, _, none⟩) hh).trans (hc j hj).2.2⟩
theorem sSt {w : World} {g o B : Nat} {ad an til : Int} {x y : Value} (h : So.At w g o ⟨ad, an, til⟩) (hB : Bx2 w B x y) : (So.At w g o ⟨ad, an, til⟩ ∧ Bx2 w B x y) ∧ w.cell? ⟨g, o, none⟩ = some (.int .i64 ad) ∧ w.cell? ⟨B, 0, none⟩ = some x := ⟨⟨h, hB⟩, h.1, hB.1⟩
end Tp
end Go.Proofs.Ytilphgfjgeoiaaa
