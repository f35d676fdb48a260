/-
  The program's contracts over routes: whether one, whether a list is right; where an address stands; RouteTo. (written by mkroua.py)
-/
import Derived.Test.YtjhhhmdhdnmejabRouM
import Derived.Test.YtjhhhmdhdnmejabRg
import Derived.Laws.NewBlocks
namespace Go.Proofs.Ytjhhhmdhdnmejab
open Go.ChangeShapes Go.WideShapes Go.ChangeAt Go.RowKit
set_option linter.unusedVariables false
set_option linter.unusedSimpArgs false
set_option maxRecDepth 100000
attribute [local go_sem ↓] Go.wp_at_zero Go.wp_at_succ
namespace Rw
open W1 Ro
/-- A route in a variable's block. -/
def Bx (w : World) (b : Nat) (m : R) : Prop := w.cell? ⟨b, 0, none⟩ = some (.int .i64 m.ds) ∧ w.cell? ⟨b, 1, none⟩ = some (.int .i64 m.nx) ∧ w.cell? ⟨b, 2, none⟩ = some (.int .i64 m.co) ∧ w.cell? ⟨b, 3, none⟩ = some (.int .i64 m.hp)
theorem Bx.below {w w' : World} {b : Nat} {m : R} (h : Bx w b m) (hb : Below w.heap.size w w') : Bx w' b m := by
  have hg : b < w.heap.size := World.block_lt_of_cell? _ _ h.1
  obtain ⟨h0, h1, h2, h3⟩ := h
  refine ⟨?_, ?_, ?_, ?_⟩ <;> (rw [hb.cell hg]; assumption)
theorem Bx.lt {w : World} {b : Nat} {m : R} (h : Bx w b m) : b < w.heap.size := World.block_lt_of_cell? _ _ h.1
theorem Bx.drew {w : World} {b : Nat} {m : R} (h : Bx w b m) : Bx w.drew b m := h
theorem bx_new (w : World) (m : R) (t : Nat) : Bx (w.alloc (.cells #[.int .i64 m.ds, .int .i64 m.nx, .int .i64 m.co, .int .i64 m.hp] t)) w.heap.size m := by
  refine ⟨?_, ?_, ?_, ?_⟩ <;> simp [World.cell?_alloc_new]
theorem sBox {w : World} {b : Nat} {ds nx co hp : Int} (h : Bx w b ⟨ds, nx, co, hp⟩) : Bx w b ⟨ds, nx, co, hp⟩ ∧ w.cell? ⟨b, 0, none⟩ = some (.int .i64 ds) ∧ w.cell? ⟨b, 1, none⟩ = some (.int .i64 nx) ∧ w.cell? ⟨b, 2, none⟩ = some (.int .i64 co) ∧ w.cell? ⟨b, 3, none⟩ = some (.int .i64 hp) := ⟨h, h⟩
theorem sBox2 {w : World} {b g p : Nat} {m : R} {ds nx co hp : Int} (h : Bx w b ⟨ds, nx, co, hp⟩) (h' : At w g p m) :
    (Bx w b ⟨ds, nx, co, hp⟩ ∧ At w g p m) ∧ w.cell? ⟨b, 0, none⟩ = some (.int .i64 ds) ∧ w.cell? ⟨b, 1, none⟩ = some (.int .i64 nx) ∧ w.cell? ⟨b, 2, none⟩ = some (.int .i64 co) ∧ w.cell? ⟨b, 3, none⟩ = some (.int .i64 hp) ∧ w.cell? ⟨g, p, none⟩ = some (.int .i64 m.ds) := ⟨⟨h, h'⟩, h.1, h.2.1, h.2.2.1, h.2.2.2, h'.1⟩
theorem up_at {ms : List R} (h : UpT ms) (k : Int) : ∀ i j, i < j → j < ms.length → atT k (ms.getD i R.zero) = true → atT k (ms.getD j R.zero) = true := by
  intro i j hij hj hi
  have := (List.pairwise_iff_getElem.1 h) i j (by omega) hj hij
  rw [← getD_get (by omega), ← getD_get hj] at this
  unfold atT at *
  exact decide_eq_true (by have := of_decide_eq_true hi; omega)
theorem there_no {ms : List R} {k : Int} {p : Nat} (e : placeT ms k = p) (h : ms.length ≤ p) : thereT ms k = false := by unfold thereT; rw [e, decide_eq_false (by omega)]; rfl
theorem there_ne {ms : List R} {k : Int} {p : Nat} (e : placeT ms k = p) (h : ¬ (ms.getD p R.zero).ds = k) : thereT ms k = false := by unfold thereT; rw [e, decide_eq_false h, Bool.and_false]
theorem there_yes {ms : List R} {k : Int} {p : Nat} (e : placeT ms k = p) (hl : p < ms.length) (h : (ms.getD p R.zero).ds = k) : thereT ms k = true := by unfold thereT; rw [e, decide_eq_true hl, decide_eq_true h]; rfl
theorem sKey {w : World} {b g o : Nat} {k : Int} {m : R} (h : w.cell? ⟨b, 0, none⟩ = some (.int .i64 k)) (h' : At w g o m) : w.cell? ⟨b, 0, none⟩ = some (.int .i64 k) ∧ w.cell? ⟨g, o, none⟩ = some (.int .i64 m.ds) := ⟨h, h'.1⟩
theorem lt_block {w : World} {b : Nat} {c : Obj} (h : w.heap[b]? = some c) : b < w.heap.size := by
  rcases Nat.lt_or_ge b w.heap.size with hlt | hge
  · exact hlt
  · rw [Array.getElem?_eq_none hge] at h; cases h
theorem heap_set {w : World} {b i : Nat} {c : Array Value} {t : TypeId} {fr : Nat × Nat} (u : Value) (h : w.heap[b]? = some (.cells c t fr)) : (w.setCell ⟨b, i, none⟩ u).heap[b]? = some (.cells (c.setIfInBounds i u) t fr) := by
  have hlt := lt_block h
  have h' : w.heap[b] = .cells c t fr := by simpa [Array.getElem?_eq_getElem hlt] using h
  show (w.heap.modify b _)[b]? = _
  rw [Array.getElem?_eq_getElem (by simpa using hlt), Array.getElem_modify_self, h']
  rfl
/-- A route's block that may be written. -/
def RV (w : World) (b : Nat) (m : R) : Prop := w.heap[b]? = some (.cells #[.int .i64 m.ds, .int .i64 m.nx, .int .i64 m.co, .int .i64 m.hp] 86 (0, 0))
theorem RV.cells {w : World} {b : Nat} {m : R} (h : RV w b m) : Bx w b m := by
  unfold RV at h; refine ⟨?_, ?_, ?_, ?_⟩ <;> simp [World.cell?, h]
theorem RV.free {w : World} {b : Nat} {m : R} (h : RV w b m) (i : Nat) : w.frozen? ⟨b, i, none⟩ = false := by unfold RV at h; simp [World.frozen?, h]
theorem RV.lt {w : World} {b : Nat} {m : R} (h : RV w b m) : b < w.heap.size := lt_block h
theorem RV.drew {w : World} {b : Nat} {m : R} (h : RV w b m) : RV w.drew b m := h
theorem RV.below {w w' : World} {b : Nat} {m : R} (h : RV w b m) (hb : Below w.heap.size w w') : RV w' b m := (hb.block b h.lt).trans h
theorem RV.under {w w' : World} {B b : Nat} {m : R} (h : RV w b m) (hb : Below B w w') (hl : b < B) : RV w' b m := (hb.block b hl).trans h
theorem rv_new (w : World) (m : R) : RV (w.alloc (.cells #[.int .i64 m.ds, .int .i64 m.nx, .int .i64 m.co, .int .i64 m.hp] 86)) w.heap.size m := heap_alloc_new w _
theorem rv_put {w : World} {b : Nat} {m : R} (h : RV w b m) (x y z u : Int) : RV ((((w.setCell ⟨b, 0, none⟩ (.int .i64 x)).setCell ⟨b, 1, none⟩ (.int .i64 y)).setCell ⟨b, 2, none⟩ (.int .i64 z)).setCell ⟨b, 3, none⟩ (.int .i64 u)) b ⟨x, y, z, u⟩ := by
  have h1 := heap_set (i := 0) (.int .i64 x) h
  have h2 := heap_set (i := 1) (.int .i64 y) h1
  have h3 := heap_set (i := 2) (.int .i64 z) h2
  exact heap_set (i := 3) (.int .i64 u) h3
theorem fT_val {ms : List R} {k : Int} {p : Nat} (hs : UpT ms) (e : placeT ms k = p) (ht : thereT ms k = true) : fT ms k = ms.getD p R.zero := by rw [fT_there hs ht, e]
theorem fT_not {ms : List R} {k : Int} (hs : UpT ms) (ht : thereT ms k = false) : fT ms k = R.zero := fT_none (by rw [has_there hs]; exact ht)
end Rw
end Go.Proofs.Ytjhhhmdhdnmejab
