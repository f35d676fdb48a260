/-
  The model's source of choices, further: a chance, a sequence number, a metric. They change nothing that was there but the source itself.
-/
import Derived.Test.YtmelbilepfnmjaaDoorSrc
import Derived.Laws.NewBlocks
namespace Go.Proofs.YtmelbilepfnmjaaDoor
open Go.ChangeShapes Go.WideShapes Go.ChangeAt Go.RowKit
set_option linter.unusedVariables false
set_option linter.unusedSimpArgs false
attribute [local go_sem ↓] Go.wp_at_zero Go.wp_at_succ
namespace Dw
open W1 By Sr
theorem but_refl (w : World) (p : Nat) : w.grownBy w (some p) := ⟨rfl, rfl, rfl, Nat.le_refl _, fun _ _ _ => rfl⟩
theorem but_trans {w w1 w2 : World} {p : Nat} (h : w.grownBy w1 (some p)) (h' : w1.grownBy w2 (some p)) : w.grownBy w2 (some p) :=
  ⟨h'.os.trans h.os, h'.tape.trans h.tape, h'.output.trans h.output, Nat.le_trans h.size h'.size, fun k hk hne => (h'.block k (Nat.lt_of_lt_of_le hk h.size) hne).trans (h.block k hk hne)⟩
theorem but_wrote {w w' : World} {p : Nat} (h : Wrote w w' p) : w.grownBy w' (some p) := ⟨h.os, h.tape, h.output, Nat.le_of_eq h.size.symm, fun k _ hne => h.block k (fun e => hne (by rw [e]))⟩
theorem but_below {w w' : World} {p : Nat} (h : Below w.heap.size w w') : w.grownBy w' (some p) := ⟨h.os, h.tape, h.output, h.size, fun k hk _ => h.block k hk⟩
theorem but_alloc {w w' : World} {p : Nat} (h : w.grownBy w' (some p)) (o : Obj) : w.grownBy (w'.alloc o) (some p) := but_trans h (but_below ((Below.refl _ _).alloc (Nat.le_refl _) _))
/-- Writes into blocks that are new. -/
theorem but_set {w w' : World} {p b : Nat} (h : w.grownBy w' (some p)) (hb : w.heap.size ≤ b) (o : Nat) (v : Value) : w.grownBy (w'.setCell ⟨b, o, none⟩ v) (some p) :=
  ⟨h.os, h.tape, h.output, by simpa [World.setCell] using h.size, fun k hk hne => (Below.heap_setCell _ _ _ _ (by show k ≠ b; omega)).trans (h.block k hk hne)⟩
theorem but_own {w w1 w2 : World} {p : Nat} {r : Option Nat} (h : w.grownBy w1 (some p)) (hg : w1.grownBy w2 r) (hr : ∀ k, r = some k → w.heap.size ≤ k) : w.grownBy w2 (some p) :=
  ⟨hg.os.trans h.os, hg.tape.trans h.tape, hg.output.trans h.output, Nat.le_trans h.size hg.size, fun k hk hp => (hg.block k (Nat.lt_of_lt_of_le hk h.size) (fun e => by have := hr k e.symm; omega)).trans (h.block k hk hp)⟩
theorem src_lt {w : World} {p : Nat} {a : Option Addr} {bs : List UInt8} {cap n : Nat} (h : Src w p a bs cap n) : p < w.heap.size := World.block_lt_of_cell? _ _ h.code
theorem src_blocks {w w' : World} {p : Nat} {a : Option Addr} {bs : List UInt8} {cap n : Nat} (h : Src w p a bs cap n) (hp : w'.heap[p]? = w.heap[p]?) (hg : bs ≠ [] → ∀ g off, a = some ⟨g, off, none⟩ → w'.heap[g]? = w.heap[g]?) : Src w' p a bs cap n := by
  obtain ⟨i, s, i0, i1, s0, s1, c1, c2⟩ := h.at_
  exact ⟨⟨i, s, i0, i1, s0, s1, (World.cell?_of_block (a := ⟨p, 1, none⟩) hp).trans c1, (World.cell?_of_block (a := ⟨p, 2, none⟩) hp).trans c2⟩, (World.cell?_of_block (a := ⟨p, 0, none⟩) hp).trans h.code, fun o => (World.frozen?_of_block (a := ⟨p, o, none⟩) hp).trans (h.fz o),
    reads_of_cells h.rd (fun e0 g off o e => World.cell?_of_block (a := ⟨g, o, none⟩) (hg e0 g off e)), h.ne, (congrArg Option.isSome (World.cell?_of_block (a := ⟨p, 3, none⟩) hp)).trans h.top⟩
theorem src_below {w w' : World} {p : Nat} {a : Option Addr} {bs : List UInt8} {cap n : Nat} (h : Src w p a bs cap n) (hb : Below w.heap.size w w') : Src w' p a bs cap n :=
  src_blocks h (hb.block p (src_lt h)) (fun e0 g off e => hb.block g (reads_lt h.rd e0 e))
/-- What a growth of another row leaves. -/
theorem src_grown {w w' : World} {p : Nat} {a : Option Addr} {bs : List UInt8} {cap n : Nat} {r : Option Nat} (h : Src w p a bs cap n) (hg : w.grownBy w' r) (hp : some p ≠ r) (hr : bs ≠ [] → ∀ g off, a = some ⟨g, off, none⟩ → some g ≠ r) : Src w' p a bs cap n :=
  src_blocks h (hg.block p (src_lt h) hp) (fun e0 g off e => hg.block g (reads_lt h.rd e0 e) (hr e0 g off e))
end Dw
end Go.Proofs.YtmelbilepfnmjaaDoor
