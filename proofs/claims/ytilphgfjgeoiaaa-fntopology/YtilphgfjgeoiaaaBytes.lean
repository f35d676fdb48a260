/-
  Contracts of the helpers of the laws that compare, mark and look through slices of bytes: for slices that read alike; for every slice that may be written.
-/
import Derived.Test.YtilphgfjgeoiaaaWire1
import Derived.Deep.QuietTactic
import Derived.BigQuiet
namespace Go.Proofs.Ytilphgfjgeoiaaa
open Go.ChangeShapes Go.WideShapes Go.ChangeAt Go.RowKit
set_option linter.unusedVariables false
namespace By
open W1
/-- The slice at a reads as these bytes in w. -/
def Reads (w : World) (a : Option Addr) (bs : List UInt8) : Prop :=
  bs = [] ∨ ∃ g off, a = some ⟨g, off, none⟩ ∧ ∀ i, i < bs.length → w.cell? ⟨g, off + i, none⟩ = some (.int .u8 (bs.getD i 0).toNat)


/-- w' is w but for cells of block g. -/
structure Wrote (w w' : World) (g : Nat) : Prop where
  os : w'.os = w.os
  tape : w'.tape = w.tape
  output : w'.output = w.output
  size : w'.heap.size = w.heap.size
  block : ∀ k, k ≠ g → w'.heap[k]? = w.heap[k]?
  frozen : ∀ a, w'.frozen? a = w.frozen? a
  len : ∀ o, (w'.cell? ⟨g, o, none⟩).isSome = (w.cell? ⟨g, o, none⟩).isSome
theorem Wrote.refl (w : World) (g : Nat) : Wrote w w g := ⟨rfl, rfl, rfl, rfl, fun _ _ => rfl, fun _ => rfl, fun _ => rfl⟩
theorem setCell_isSome (w : World) (g o q : Nat) (v : Value) : ((w.setCell ⟨g, o, none⟩ v).cell? ⟨g, q, none⟩).isSome = (w.cell? ⟨g, q, none⟩).isSome := by
  unfold World.setCell World.cell?
  simp only [Array.getElem?_modify]
  cases h : w.heap[g]? with
  | none => simp
  | some x =>
    cases x <;> simp [Array.getElem?_setIfInBounds] <;> split <;> (try simp_all)
    split
    · rename_i hq; rw [Array.getElem?_eq_getElem hq]; rfl
    · rename_i hq; rw [Array.getElem?_eq_none (by omega)]
theorem Wrote.set {w w' : World} {g : Nat} (h : Wrote w w' g) (o : Nat) (v : Value) : Wrote w (w'.setCell ⟨g, o, none⟩ v) g :=
  ⟨h.os, h.tape, h.output, by rw [← h.size]; simp [World.setCell], fun k hk => (Below.heap_setCell _ _ _ _ hk).trans (h.block k hk), fun a => by rw [World.frozen?_setCell]; exact h.frozen a, fun q => (setCell_isSome w' g o q v).trans (h.len q)⟩
theorem Wrote.drewN {w w' : World} {g : Nat} (h : Wrote w w' g) (n : Nat) : Wrote w (w'.drewN n) g := ⟨h.os, h.tape, h.output, h.size, h.block, h.frozen, h.len⟩
theorem Wrote.below {w w' : World} {g B : Nat} (h : Wrote w w' g) (hg : B ≤ g) : Below B w w' :=
  ⟨h.os, h.tape, h.output, by rw [h.size]; exact Nat.le_refl _, fun k hk => h.block k (by omega)⟩
theorem Wrote.cell {w w' : World} {g : Nat} (h : Wrote w w' g) {b : Nat} (hb : b ≠ g) (o : Nat) : w'.cell? ⟨b, o, none⟩ = w.cell? ⟨b, o, none⟩ :=
  World.cell?_of_block (a := ⟨b, o, none⟩) (h.block b hb)

/-- n marks, from k on, at the address. -/
def Marks (w : World) (a : Option Addr) (n : Nat) (k : Int) : Prop :=
  n = 0 ∨ ∃ g off, a = some ⟨g, off, none⟩ ∧ ∀ i : Nat, i < n → w.cell? ⟨g, off + i, none⟩ = some (.int .u8 ((k + i) % 256))
/-- The slice may be written: n cells lie at block g. -/
def Opn (w : World) (a : Option Addr) (g n : Nat) : Prop :=
  n = 0 ∨ ∃ off, a = some ⟨g, off, none⟩ ∧ ∀ i : Nat, i < n → (w.cell? ⟨g, off + i, none⟩).isSome = true ∧ w.frozen? ⟨g, off + i, none⟩ = false


end By
end Go.Proofs.Ytilphgfjgeoiaaa
