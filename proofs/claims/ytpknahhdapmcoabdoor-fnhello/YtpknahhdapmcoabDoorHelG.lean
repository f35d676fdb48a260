/-
  Contract of the model's l04Decode and DecodeHello.
-/
import Derived.Test.YtpknahhdapmcoabDoorHelV
import Derived.Deep.DeepCutAuto
import Derived.Laws.NewBlocks
namespace Go.Proofs.YtpknahhdapmcoabDoor
open Go.ChangeShapes Go.WideShapes Go.ChangeAt Go.RowKit
set_option linter.unusedVariables false
set_option linter.unusedSimpArgs false
attribute [local go_sem ↓] Go.wp_at_zero Go.wp_at_succ
namespace Hl
open W1 Nb De
theorem dec_no {bs : List UInt8} (h : decG bs = false) : decX bs = 0 ∧ decY bs = 0 ∧ decL bs = [] := by
  unfold decX decY decL; rw [if_neg (by simp [h]), if_neg (by simp [h]), if_neg (by simp [h])]; exact ⟨rfl, rfl, rfl⟩
theorem dec_yes {bs : List UInt8} (h : decG bs = true) : decX bs = fld bs 0 ∧ decY bs = timOf bs ∧ decL bs = grps bs (nOf bs) := by
  unfold decX decY decL; rw [if_pos h, if_pos h, if_pos h]; exact ⟨rfl, rfl, rfl⟩
theorem sH {w : World} {b : Nat} {x y : Int} {v : Value} (h : HV w b x y v) : HV w b x y v ∧ w.cell? ⟨b, 0, none⟩ = some (.int .i64 x) ∧ w.cell? ⟨b, 1, none⟩ = some (.int .i64 y) ∧ w.cell? ⟨b, 2, none⟩ = some v := ⟨h, h.bx⟩
theorem formA (V : World) (base : Nat) (x y : Int) (hb : base ≤ V.heap.size) :
    HV ((V.alloc (.cells #[] 38)).alloc (.cells #[.int .i64 x, .int .i64 y, .slice (some ⟨V.heap.size, 0, none⟩) 0 0] 25)) (V.heap.size + 1) x y (.slice (some ⟨V.heap.size, 0, none⟩) 0 0) ∧
    ((V.alloc (.cells #[] 38)).alloc (.cells #[.int .i64 x, .int .i64 y, .slice (some ⟨V.heap.size, 0, none⟩) 0 0] 25)).ownsRow base 38 4 (.slice (some ⟨V.heap.size, 0, none⟩) 0 0) ([] : List R).length (Nb.flat []) := by
  have h := hv_new (V.alloc (.cells #[] 38)) x y (.slice (some ⟨V.heap.size, 0, none⟩) 0 0)
  rw [World.size_alloc] at h
  exact ⟨h, (Nb.own_empty V base hb).alloc _⟩
theorem formB (V : World) (base : Nat) (x y : Int) (hb : base ≤ V.heap.size) :
    HV ((V.alloc (.cells #[.int .i64 x, .int .i64 y, .slice (some ⟨V.heap.size + 1, 0, none⟩) 0 0] 25)).alloc (.cells #[] 38)) V.heap.size x y (.slice (some ⟨V.heap.size + 1, 0, none⟩) 0 0) ∧
    ((V.alloc (.cells #[.int .i64 x, .int .i64 y, .slice (some ⟨V.heap.size + 1, 0, none⟩) 0 0] 25)).alloc (.cells #[] 38)).ownsRow base 38 4 (.slice (some ⟨V.heap.size + 1, 0, none⟩) 0 0) ([] : List R).length (Nb.flat []) := by
  have h := Nb.own_empty (V.alloc (.cells #[.int .i64 x, .int .i64 y, .slice (some ⟨V.heap.size + 1, 0, none⟩) 0 0] 25)) base (by simp; omega)
  rw [World.size_alloc] at h
  exact ⟨(hv_new V x y _).below ((Below.refl _ _).alloc (Nat.le_refl _) _), h⟩
end Hl
end Go.Proofs.YtpknahhdapmcoabDoor
