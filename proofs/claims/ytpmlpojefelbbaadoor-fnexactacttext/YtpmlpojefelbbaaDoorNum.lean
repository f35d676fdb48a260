/-
  Contracts of the functions that lay a number into bytes: the program's appendTwo, onto a slice of bytes that the call owns; the model's l01Number for one byte and for two.
-/
import Derived.Test.YtpmlpojefelbbaaDoorWire1
import Derived.Deep.AppendLies
import Derived.Laws.BytesArg
namespace Go.Proofs.YtpmlpojefelbbaaDoor
open Go.ChangeShapes Go.WideShapes Go.ChangeAt Go.RowKit
set_option linter.unusedVariables false
namespace Nu
open W1
theorem info5 : ∃ i, Tryd.prog.info? 5 = some i ∧ i.zero = some (.int .u8 0) ∧ i.size = 1 ∧ i.bytes = 1 := by
  have h : (Tryd.prog.info? 5).map (fun i => (i.zero, i.size, i.bytes)) = some (some (.int .u8 0), 1, 1) := by kernel_rfl
  obtain ⟨i, hi, he⟩ := Option.map_eq_some_iff.1 h
  simp only [Prod.mk.injEq] at he
  exact ⟨i, hi, he.1, he.2.1, he.2.2⟩
/-- Bytes as cells. -/
def cs (bs : List UInt8) : List Value := bs.map fun b => Value.int .u8 b.toNat

theorem two_cells {w : World} {base g cap : Nat} {a b : Int} (h : w.ownsRow base 5 1 (.slice (some ⟨g, 0, none⟩) 2 cap) 2 [.int .u8 a, .int .u8 b]) :
    ∀ i, i < 2 → w.cell? ⟨g, 0 + i, none⟩ = some (.int .u8 ([a, b].getD i 0)) := by
  intro i hi
  rw [Nat.zero_add, h.cellAt i (by omega)]
  match i, hi with
  | 0, _ => rfl
  | 1, _ => rfl
theorem one_cell {w : World} {base g cap : Nat} {a : Int} (h : w.ownsRow base 5 1 (.slice (some ⟨g, 0, none⟩) 1 cap) 1 [.int .u8 a]) :
    ∀ i, i < 1 → w.cell? ⟨g, 0 + i, none⟩ = some (.int .u8 ([a].getD i 0)) := by
  intro i hi
  rw [Nat.zero_add, h.cellAt i (by omega)]
  match i, hi with
  | 0, _ => rfl

end Nu
end Go.Proofs.YtpmlpojefelbbaaDoor
