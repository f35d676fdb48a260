/-
  Contracts over hellos: whether one is right (the program's and the model's).
-/
import Derived.Test.YtpknahhdapmcoaaHelM
namespace Go.Proofs.Ytpknahhdapmcoaa
open Go.ChangeShapes Go.WideShapes Go.ChangeAt Go.RowKit
set_option linter.unusedVariables false
set_option linter.unusedSimpArgs false
attribute [local go_sem ↓] Go.wp_at_zero Go.wp_at_succ
namespace Hl
open W1 Nb
/-- A neighbor in a variable's block. -/
def Bx (w : World) (b : Nat) (m : R) : Prop := w.cell? ⟨b, 0, none⟩ = some (.int .i64 m.ad) ∧ w.cell? ⟨b, 1, none⟩ = some (.int .i64 m.st) ∧ w.cell? ⟨b, 2, none⟩ = some (.int .i64 m.mt) ∧ w.cell? ⟨b, 3, none⟩ = some (.bool m.mp)
theorem Bx.below {w w' : World} {b : Nat} {m : R} (h : Bx w b m) (hb : Below w.heap.size w w') : Bx w' b m := by
  have hg : b < w.heap.size := World.block_lt_of_cell? _ _ h.1
  obtain ⟨h0, h1, h2, h3⟩ := h
  refine ⟨?_, ?_, ?_, ?_⟩ <;> (rw [hb.cell hg]; assumption)
theorem Bx.drew {w : World} {b : Nat} {m : R} (h : Bx w b m) : Bx w.drew b m := h
theorem bx_new (w : World) (m : R) (t : Nat) : Bx (w.alloc (.cells #[.int .i64 m.ad, .int .i64 m.st, .int .i64 m.mt, .bool m.mp] t)) w.heap.size m := by
  refine ⟨?_, ?_, ?_, ?_⟩ <;> simp [World.cell?_alloc_new]
theorem sBox {w : World} {b : Nat} {ad st mt : Int} {mp : Bool} (h : Bx w b ⟨ad, st, mt, mp⟩) : Bx w b ⟨ad, st, mt, mp⟩ ∧ w.cell? ⟨b, 0, none⟩ = some (.int .i64 ad) ∧ w.cell? ⟨b, 1, none⟩ = some (.int .i64 st) ∧ w.cell? ⟨b, 2, none⟩ = some (.int .i64 mt) ∧ w.cell? ⟨b, 3, none⟩ = some (.bool mp) := ⟨h, h⟩
theorem sBox2 {w : World} {b g p B : Nat} {m : R} {ad st mt will valid : Int} {mp : Bool} {v : Value} (h : Bx w b ⟨ad, st, mt, mp⟩) (h' : At w g p m) (hB : Bx3 w B will valid v) :
    (Bx w b ⟨ad, st, mt, mp⟩ ∧ At w g p m ∧ Bx3 w B will valid v) ∧ w.cell? ⟨b, 0, none⟩ = some (.int .i64 ad) ∧ w.cell? ⟨b, 1, none⟩ = some (.int .i64 st) ∧ w.cell? ⟨b, 2, none⟩ = some (.int .i64 mt) ∧ w.cell? ⟨b, 3, none⟩ = some (.bool mp) ∧ w.cell? ⟨g, p, none⟩ = some (.int .i64 m.ad) ∧ w.cell? ⟨B, 2, none⟩ = some v := ⟨⟨h, h', hB⟩, h.1, h.2.1, h.2.2.1, h.2.2.2, h'.1, hB.2.2⟩
theorem sH1 {w : World} {g o B : Nat} {ad st mt will valid : Int} {mp : Bool} {v : Value} (h : At w g o ⟨ad, st, mt, mp⟩) (hB : Bx3 w B will valid v) :
    (At w g o ⟨ad, st, mt, mp⟩ ∧ Bx3 w B will valid v) ∧ w.cell? ⟨g, o, none⟩ = some (.int .i64 ad) ∧ w.cell? ⟨g, o + 1, none⟩ = some (.int .i64 st) ∧ w.cell? ⟨g, o + 2, none⟩ = some (.int .i64 mt) ∧ w.cell? ⟨g, o + 3, none⟩ = some (.bool mp) ∧ w.cell? ⟨B, 2, none⟩ = some v := ⟨⟨h, hB⟩, h.1, h.2.1, h.2.2.1, h.2.2.2, hB.2.2⟩
theorem sH2 {w : World} {g o p B : Nat} {m : R} {ad st mt will valid : Int} {mp : Bool} {v : Value} (h : At w g o ⟨ad, st, mt, mp⟩) (h' : At w g p m) (hB : Bx3 w B will valid v) :
    (At w g o ⟨ad, st, mt, mp⟩ ∧ At w g p m ∧ Bx3 w B will valid v) ∧ w.cell? ⟨g, o, none⟩ = some (.int .i64 ad) ∧ w.cell? ⟨g, o + 1, none⟩ = some (.int .i64 st) ∧ w.cell? ⟨g, o + 2, none⟩ = some (.int .i64 mt) ∧ w.cell? ⟨g, o + 3, none⟩ = some (.bool mp) ∧ w.cell? ⟨g, p, none⟩ = some (.int .i64 m.ad) ∧ w.cell? ⟨B, 2, none⟩ = some v := ⟨⟨h, h', hB⟩, h.1, h.2.1, h.2.2.1, h.2.2.2, h'.1, hB.2.2⟩
end Hl
end Go.Proofs.Ytpknahhdapmcoaa
