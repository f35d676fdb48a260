/-
  Contract of the model's l05Decode.
-/
import Derived.Test.YtpknahhdapmcoabDoorAdvV
import Derived.Deep.DeepCutAuto
import Derived.Laws.NewBlocks
namespace Go.Proofs.YtpknahhdapmcoabDoor
open Go.ChangeShapes Go.WideShapes Go.ChangeAt Go.RowKit
set_option linter.unusedVariables false
set_option linter.unusedSimpArgs false
attribute [local go_sem ↓] Go.wp_at_zero Go.wp_at_succ
namespace Av
open W1 Ed De
theorem formA (V : World) (base : Nat) (x y : Int) (hb : base ≤ V.heap.size) :
    HV ((V.alloc (.cells #[] 54)).alloc (.cells #[.int .i64 x, .int .i64 y, .slice (some ⟨V.heap.size, 0, none⟩) 0 0] 44)) (V.heap.size + 1) x y (.slice (some ⟨V.heap.size, 0, none⟩) 0 0) ∧
    ((V.alloc (.cells #[] 54)).alloc (.cells #[.int .i64 x, .int .i64 y, .slice (some ⟨V.heap.size, 0, none⟩) 0 0] 44)).ownsRow base 54 2 (.slice (some ⟨V.heap.size, 0, none⟩) 0 0) ([] : List R).length (Ed.flat []) := by
  have h := hv_new (V.alloc (.cells #[] 54)) x y (.slice (some ⟨V.heap.size, 0, none⟩) 0 0)
  rw [World.size_alloc] at h
  exact ⟨h, (Ed.own_empty V base hb).alloc _⟩
theorem formB (V : World) (base : Nat) (x y : Int) (hb : base ≤ V.heap.size) :
    HV ((V.alloc (.cells #[.int .i64 x, .int .i64 y, .slice (some ⟨V.heap.size + 1, 0, none⟩) 0 0] 44)).alloc (.cells #[] 54)) V.heap.size x y (.slice (some ⟨V.heap.size + 1, 0, none⟩) 0 0) ∧
    ((V.alloc (.cells #[.int .i64 x, .int .i64 y, .slice (some ⟨V.heap.size + 1, 0, none⟩) 0 0] 44)).alloc (.cells #[] 54)).ownsRow base 54 2 (.slice (some ⟨V.heap.size + 1, 0, none⟩) 0 0) ([] : List R).length (Ed.flat []) := by
  have h := Ed.own_empty (V.alloc (.cells #[.int .i64 x, .int .i64 y, .slice (some ⟨V.heap.size + 1, 0, none⟩) 0 0] 44)) base (by simp; omega)
  rw [World.size_alloc] at h
  exact ⟨(hv_new V x y _).below ((Below.refl _ _).alloc (Nat.le_refl _) _), h⟩
end Av
end Go.Proofs.YtpknahhdapmcoabDoor
