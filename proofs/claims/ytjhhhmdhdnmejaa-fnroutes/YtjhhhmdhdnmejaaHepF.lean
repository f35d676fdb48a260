/-
  The program's search of ways: waysFrom.
-/
import Derived.Test.YtjhhhmdhdnmejaaHepE
import Derived.Test.YtjhhhmdhdnmejaaWysN
import Derived.Test.YtjhhhmdhdnmejaaEndK
import Derived.Deep.LoopGhost
import Derived.Deep.MidRow
import Derived.Laws.EntriesVeiled
namespace Go.Proofs.Ytjhhhmdhdnmejaa
open Go.ChangeShapes Go.WideShapes Go.ChangeAt Go.RowKit
set_option linter.unusedVariables false
set_option linter.unusedSimpArgs false
set_option maxRecDepth 100000
attribute [local go_sem ↓] Go.wp_at_zero Go.wp_at_succ
namespace Wd
open W1 Ro Rw Tw
/-- Eight routes in a block that may be written. -/
def AV (w : World) (b : Nat) (ws : List R) : Prop := w.heap[b]? = some (.cells (flat ws).toArray 97 (0, 0))
theorem AV.lt {w : World} {b : Nat} {ws : List R} (h : AV w b ws) : b < w.heap.size := lt_block h
theorem AV.cell {w : World} {b : Nat} {ws : List R} (h : AV w b ws) (j : Nat) : w.cell? ⟨b, j, none⟩ = (flat ws)[j]? := by
  unfold AV at h; simp [World.cell?, h]
theorem AV.free {w : World} {b : Nat} {ws : List R} (h : AV w b ws) (i : Nat) : w.frozen? ⟨b, i, none⟩ = false := by unfold AV at h; simp [World.frozen?, h]
theorem AV.at {w : World} {b : Nat} {ws : List R} (h : AV w b ws) {i : Nat} (hi : i < ws.length) : At w b (i * 4) (at' ws i) := by
  have h0 := flat_get ws i 0 (by omega) hi
  have h1 := flat_get ws i 1 (by omega) hi
  have h2 := flat_get ws i 2 (by omega) hi
  have h3 := flat_get ws i 3 (by omega) hi
  exact ⟨(h.cell _).trans h0, (h.cell _).trans h1, (h.cell _).trans h2, (h.cell _).trans h3⟩
theorem AV.below {w w' : World} {b : Nat} {ws : List R} (h : AV w b ws) (hb : Below w.heap.size w w') : AV w' b ws := (hb.block b h.lt).trans h
theorem AV.under {w w' : World} {B b : Nat} {ws : List R} (h : AV w b ws) (hb : Below B w w') (hl : b < B) : AV w' b ws := (hb.block b hl).trans h
theorem AV.put {w : World} {b : Nat} {ws : List R} (h : AV w b ws) {i : Nat} (hi : i < ws.length) (m : R) : AV (put w b (i * 4) m) b (ws.set i m) := by
  have h' := heap_set (i := i * 4 + 3) (.int .i64 m.hp) (heap_set (i := i * 4 + 2) (.int .i64 m.co) (heap_set (i := i * 4 + 1) (.int .i64 m.nx) (heap_set (i := i * 4) (.int .i64 m.ds) h)))
  simp only [List.setIfInBounds_toArray] at h'
  unfold AV
  rw [flat_set ws i m hi]
  exact h'
theorem AV.range {w : World} {b : Nat} {ws : List R} (h : AV w b ws) : w.rangeAt b 0 (flat ws) := fun j v hv => by rw [Nat.zero_add, h.cell]; exact hv
theorem AV.there {w : World} {b : Nat} {ws : List R} (h : AV w b ws) : w.there b 0 (flat ws).length := fun j hj => ⟨by rw [Nat.zero_add, h.cell]; simp [hj], h.free _⟩
theorem infoA : Try.prog.underlying 97 = some (Try.prog.underlying 97).get! ∧ ((Try.prog.underlying 97).get!).isRow = true ∧ (Try.prog.info? 97).map (·.size) = some 32 := ⟨by kernel_rfl, by kernel_rfl, by kernel_rfl⟩
theorem flat_32 {ws : List R} (h : ws.length = 8) : (flat ws).length = 32 := by rw [flat_len, h]
theorem av_base (w : World) : AV (((w.alloc (.cells #[.int .i64 0, .int .i64 0, .int .i64 0, .int .i64 0, .int .i64 0, .int .i64 0, .int .i64 0, .int .i64 0, .int .i64 0, .int .i64 0, .int .i64 0, .int .i64 0, .int .i64 0, .int .i64 0, .int .i64 0, .int .i64 0, .int .i64 0, .int .i64 0, .int .i64 0, .int .i64 0, .int .i64 0, .int .i64 0, .int .i64 0, .int .i64 0, .int .i64 0, .int .i64 0, .int .i64 0, .int .i64 0, .int .i64 0, .int .i64 0, .int .i64 0, .int .i64 0] 97)).alloc (.cells #[.int .i64 0, .int .i64 0, .int .i64 0, .int .i64 0, .int .i64 0, .int .i64 0, .int .i64 0, .int .i64 0, .int .i64 0, .int .i64 0, .int .i64 0, .int .i64 0, .int .i64 0, .int .i64 0, .int .i64 0, .int .i64 0, .int .i64 0, .int .i64 0, .int .i64 0, .int .i64 0, .int .i64 0, .int .i64 0, .int .i64 0, .int .i64 0, .int .i64 0, .int .i64 0, .int .i64 0, .int .i64 0, .int .i64 0, .int .i64 0, .int .i64 0, .int .i64 0] 97)).alloc (.cells #[.slice none 0 0, (Value.func (.func 92) #[] #[])] 128)) w.heap.size zs8 ∧ AV (((w.alloc (.cells #[.int .i64 0, .int .i64 0, .int .i64 0, .int .i64 0, .int .i64 0, .int .i64 0, .int .i64 0, .int .i64 0, .int .i64 0, .int .i64 0, .int .i64 0, .int .i64 0, .int .i64 0, .int .i64 0, .int .i64 0, .int .i64 0, .int .i64 0, .int .i64 0, .int .i64 0, .int .i64 0, .int .i64 0, .int .i64 0, .int .i64 0, .int .i64 0, .int .i64 0, .int .i64 0, .int .i64 0, .int .i64 0, .int .i64 0, .int .i64 0, .int .i64 0, .int .i64 0] 97)).alloc (.cells #[.int .i64 0, .int .i64 0, .int .i64 0, .int .i64 0, .int .i64 0, .int .i64 0, .int .i64 0, .int .i64 0, .int .i64 0, .int .i64 0, .int .i64 0, .int .i64 0, .int .i64 0, .int .i64 0, .int .i64 0, .int .i64 0, .int .i64 0, .int .i64 0, .int .i64 0, .int .i64 0, .int .i64 0, .int .i64 0, .int .i64 0, .int .i64 0, .int .i64 0, .int .i64 0, .int .i64 0, .int .i64 0, .int .i64 0, .int .i64 0, .int .i64 0, .int .i64 0] 97)).alloc (.cells #[.slice none 0 0, (Value.func (.func 92) #[] #[])] 128)) (w.heap.size + 1) zs8 ∧ HP (((w.alloc (.cells #[.int .i64 0, .int .i64 0, .int .i64 0, .int .i64 0, .int .i64 0, .int .i64 0, .int .i64 0, .int .i64 0, .int .i64 0, .int .i64 0, .int .i64 0, .int .i64 0, .int .i64 0, .int .i64 0, .int .i64 0, .int .i64 0, .int .i64 0, .int .i64 0, .int .i64 0, .int .i64 0, .int .i64 0, .int .i64 0, .int .i64 0, .int .i64 0, .int .i64 0, .int .i64 0, .int .i64 0, .int .i64 0, .int .i64 0, .int .i64 0, .int .i64 0, .int .i64 0] 97)).alloc (.cells #[.int .i64 0, .int .i64 0, .int .i64 0, .int .i64 0, .int .i64 0, .int .i64 0, .int .i64 0, .int .i64 0, .int .i64 0, .int .i64 0, .int .i64 0, .int .i64 0, .int .i64 0, .int .i64 0, .int .i64 0, .int .i64 0, .int .i64 0, .int .i64 0, .int .i64 0, .int .i64 0, .int .i64 0, .int .i64 0, .int .i64 0, .int .i64 0, .int .i64 0, .int .i64 0, .int .i64 0, .int .i64 0, .int .i64 0, .int .i64 0, .int .i64 0, .int .i64 0] 97)).alloc (.cells #[.slice none 0 0, (Value.func (.func 92) #[] #[])] 128)) (w.heap.size + 1 + 1) (.slice none 0 0) [] ∧ Below w.heap.size w (((w.alloc (.cells #[.int .i64 0, .int .i64 0, .int .i64 0, .int .i64 0, .int .i64 0, .int .i64 0, .int .i64 0, .int .i64 0, .int .i64 0, .int .i64 0, .int .i64 0, .int .i64 0, .int .i64 0, .int .i64 0, .int .i64 0, .int .i64 0, .int .i64 0, .int .i64 0, .int .i64 0, .int .i64 0, .int .i64 0, .int .i64 0, .int .i64 0, .int .i64 0, .int .i64 0, .int .i64 0, .int .i64 0, .int .i64 0, .int .i64 0, .int .i64 0, .int .i64 0, .int .i64 0] 97)).alloc (.cells #[.int .i64 0, .int .i64 0, .int .i64 0, .int .i64 0, .int .i64 0, .int .i64 0, .int .i64 0, .int .i64 0, .int .i64 0, .int .i64 0, .int .i64 0, .int .i64 0, .int .i64 0, .int .i64 0, .int .i64 0, .int .i64 0, .int .i64 0, .int .i64 0, .int .i64 0, .int .i64 0, .int .i64 0, .int .i64 0, .int .i64 0, .int .i64 0, .int .i64 0, .int .i64 0, .int .i64 0, .int .i64 0, .int .i64 0, .int .i64 0, .int .i64 0, .int .i64 0] 97)).alloc (.cells #[.slice none 0 0, (Value.func (.func 92) #[] #[])] 128)) := by
  have a1 : AV (w.alloc (.cells #[.int .i64 0, .int .i64 0, .int .i64 0, .int .i64 0, .int .i64 0, .int .i64 0, .int .i64 0, .int .i64 0, .int .i64 0, .int .i64 0, .int .i64 0, .int .i64 0, .int .i64 0, .int .i64 0, .int .i64 0, .int .i64 0, .int .i64 0, .int .i64 0, .int .i64 0, .int .i64 0, .int .i64 0, .int .i64 0, .int .i64 0, .int .i64 0, .int .i64 0, .int .i64 0, .int .i64 0, .int .i64 0, .int .i64 0, .int .i64 0, .int .i64 0, .int .i64 0] 97)) w.heap.size zs8 := heap_alloc_new w _
  have a2 : AV ((w.alloc (.cells #[.int .i64 0, .int .i64 0, .int .i64 0, .int .i64 0, .int .i64 0, .int .i64 0, .int .i64 0, .int .i64 0, .int .i64 0, .int .i64 0, .int .i64 0, .int .i64 0, .int .i64 0, .int .i64 0, .int .i64 0, .int .i64 0, .int .i64 0, .int .i64 0, .int .i64 0, .int .i64 0, .int .i64 0, .int .i64 0, .int .i64 0, .int .i64 0, .int .i64 0, .int .i64 0, .int .i64 0, .int .i64 0, .int .i64 0, .int .i64 0, .int .i64 0, .int .i64 0] 97)).alloc (.cells #[.int .i64 0, .int .i64 0, .int .i64 0, .int .i64 0, .int .i64 0, .int .i64 0, .int .i64 0, .int .i64 0, .int .i64 0, .int .i64 0, .int .i64 0, .int .i64 0, .int .i64 0, .int .i64 0, .int .i64 0, .int .i64 0, .int .i64 0, .int .i64 0, .int .i64 0, .int .i64 0, .int .i64 0, .int .i64 0, .int .i64 0, .int .i64 0, .int .i64 0, .int .i64 0, .int .i64 0, .int .i64 0, .int .i64 0, .int .i64 0, .int .i64 0, .int .i64 0] 97)) (w.heap.size + 1) zs8 := by
    have := heap_alloc_new (w.alloc (.cells #[.int .i64 0, .int .i64 0, .int .i64 0, .int .i64 0, .int .i64 0, .int .i64 0, .int .i64 0, .int .i64 0, .int .i64 0, .int .i64 0, .int .i64 0, .int .i64 0, .int .i64 0, .int .i64 0, .int .i64 0, .int .i64 0, .int .i64 0, .int .i64 0, .int .i64 0, .int .i64 0, .int .i64 0, .int .i64 0, .int .i64 0, .int .i64 0, .int .i64 0, .int .i64 0, .int .i64 0, .int .i64 0, .int .i64 0, .int .i64 0, .int .i64 0, .int .i64 0] 97)) (.cells #[.int .i64 0, .int .i64 0, .int .i64 0, .int .i64 0, .int .i64 0, .int .i64 0, .int .i64 0, .int .i64 0, .int .i64 0, .int .i64 0, .int .i64 0, .int .i64 0, .int .i64 0, .int .i64 0, .int .i64 0, .int .i64 0, .int .i64 0, .int .i64 0, .int .i64 0, .int .i64 0, .int .i64 0, .int .i64 0, .int .i64 0, .int .i64 0, .int .i64 0, .int .i64 0, .int .i64 0, .int .i64 0, .int .i64 0, .int .i64 0, .int .i64 0, .int .i64 0] 97); rw [World.size_alloc] at this; exact this
  have b2 : Below (w.alloc (.cells #[.int .i64 0, .int .i64 0, .int .i64 0, .int .i64 0, .int .i64 0, .int .i64 0, .int .i64 0, .int .i64 0, .int .i64 0, .int .i64 0, .int .i64 0, .int .i64 0, .int .i64 0, .int .i64 0, .int .i64 0, .int .i64 0, .int .i64 0, .int .i64 0, .int .i64 0, .int .i64 0, .int .i64 0, .int .i64 0, .int .i64 0, .int .i64 0, .int .i64 0, .int .i64 0, .int .i64 0, .int .i64 0, .int .i64 0, .int .i64 0, .int .i64 0, .int .i64 0] 97)).heap.size (w.alloc (.cells #[.int .i64 0, .int .i64 0, .int .i64 0, .int .i64 0, .int .i64 0, .int .i64 0, .int .i64 0, .int .i64 0, .int .i64 0, .int .i64 0, .int .i64 0, .int .i64 0, .int .i64 0, .int .i64 0, .int .i64 0, .int .i64 0, .int .i64 0, .int .i64 0, .int .i64 0, .int .i64 0, .int .i64 0, .int .i64 0, .int .i64 0, .int .i64 0, .int .i64 0, .int .i64 0, .int .i64 0, .int .i64 0, .int .i64 0, .int .i64 0, .int .i64 0, .int .i64 0] 97)) ((w.alloc (.cells #[.int .i64 0, .int .i64 0, .int .i64 0, .int .i64 0, .int .i64 0, .int .i64 0, .int .i64 0, .int .i64 0, .int .i64 0, .int .i64 0, .int .i64 0, .int .i64 0, .int .i64 0, .int .i64 0, .int .i64 0, .int .i64 0, .int .i64 0, .int .i64 0, .int .i64 0, .int .i64 0, .int .i64 0, .int .i64 0, .int .i64 0, .int .i64 0, .int .i64 0, .int .i64 0, .int .i64 0, .int .i64 0, .int .i64 0, .int .i64 0, .int .i64 0, .int .i64 0] 97)).alloc (.cells #[.int .i64 0, .int .i64 0, .int .i64 0, .int .i64 0, .int .i64 0, .int .i64 0, .int .i64 0, .int .i64 0, .int .i64 0, .int .i64 0, .int .i64 0, .int .i64 0, .int .i64 0, .int .i64 0, .int .i64 0, .int .i64 0, .int .i64 0, .int .i64 0, .int .i64 0, .int .i64 0, .int .i64 0, .int .i64 0, .int .i64 0, .int .i64 0, .int .i64 0, .int .i64 0, .int .i64 0, .int .i64 0, .int .i64 0, .int .i64 0, .int .i64 0, .int .i64 0] 97)) := (Below.refl _ _).alloc (Nat.le_refl _) _
  have b3 : Below ((w.alloc (.cells #[.int .i64 0, .int .i64 0, .int .i64 0, .int .i64 0, .int .i64 0, .int .i64 0, .int .i64 0, .int .i64 0, .int .i64 0, .int .i64 0, .int .i64 0, .int .i64 0, .int .i64 0, .int .i64 0, .int .i64 0, .int .i64 0, .int .i64 0, .int .i64 0, .int .i64 0, .int .i64 0, .int .i64 0, .int .i64 0, .int .i64 0, .int .i64 0, .int .i64 0, .int .i64 0, .int .i64 0, .int .i64 0, .int .i64 0, .int .i64 0, .int .i64 0, .int .i64 0] 97)).alloc (.cells #[.int .i64 0, .int .i64 0, .int .i64 0, .int .i64 0, .int .i64 0, .int .i64 0, .int .i64 0, .int .i64 0, .int .i64 0, .int .i64 0, .int .i64 0, .int .i64 0, .int .i64 0, .int .i64 0, .int .i64 0, .int .i64 0, .int .i64 0, .int .i64 0, .int .i64 0, .int .i64 0, .int .i64 0, .int .i64 0, .int .i64 0, .int .i64 0, .int .i64 0, .int .i64 0, .int .i64 0, .int .i64 0, .int .i64 0, .int .i64 0, .int .i64 0, .int .i64 0] 97)).heap.size ((w.alloc (.cells #[.int .i64 0, .int .i64 0, .int .i64 0, .int .i64 0, .int .i64 0, .int .i64 0, .int .i64 0, .int .i64 0, .int .i64 0, .int .i64 0, .int .i64 0, .int .i64 0, .int .i64 0, .int .i64 0, .int .i64 0, .int .i64 0, .int .i64 0, .int .i64 0, .int .i64 0, .int .i64 0, .int .i64 0, .int .i64 0, .int .i64 0, .int .i64 0, .int .i64 0, .int .i64 0, .int .i64 0, .int .i64 0, .int .i64 0, .int .i64 0, .int .i64 0, .int .i64 0] 97)).alloc (.cells #[.int .i64 0, .int .i64 0, .int .i64 0, .int .i64 0, .int .i64 0, .int .i64 0, .int .i64 0, .int .i64 0, .int .i64 0, .int .i64 0, .int .i64 0, .int .i64 0, .int .i64 0, .int .i64 0, .int .i64 0, .int .i64 0, .int .i64 0, .int .i64 0, .int .i64 0, .int .i64 0, .int .i64 0, .int .i64 0, .int .i64 0, .int .i64 0, .int .i64 0, .int .i64 0, .int .i64 0, .int .i64 0, .int .i64 0, .int .i64 0, .int .i64 0, .int .i64 0] 97)) (((w.alloc (.cells #[.int .i64 0, .int .i64 0, .int .i64 0, .int .i64 0, .int .i64 0, .int .i64 0, .int .i64 0, .int .i64 0, .int .i64 0, .int .i64 0, .int .i64 0, .int .i64 0, .int .i64 0, .int .i64 0, .int .i64 0, .int .i64 0, .int .i64 0, .int .i64 0, .int .i64 0, .int .i64 0, .int .i64 0, .int .i64 0, .int .i64 0, .int .i64 0, .int .i64 0, .int .i64 0, .int .i64 0, .int .i64 0, .int .i64 0, .int .i64 0, .int .i64 0, .int .i64 0] 97)).alloc (.cells #[.int .i64 0, .int .i64 0, .int .i64 0, .int .i64 0, .int .i64 0, .int .i64 0, .int .i64 0, .int .i64 0, .int .i64 0, .int .i64 0, .int .i64 0, .int .i64 0, .int .i64 0, .int .i64 0, .int .i64 0, .int .i64 0, .int .i64 0, .int .i64 0, .int .i64 0, .int .i64 0, .int .i64 0, .int .i64 0, .int .i64 0, .int .i64 0, .int .i64 0, .int .i64 0, .int .i64 0, .int .i64 0, .int .i64 0, .int .i64 0, .int .i64 0, .int .i64 0] 97)).alloc (.cells #[.slice none 0 0, (Value.func (.func 92) #[] #[])] 128)) := (Below.refl _ _).alloc (Nat.le_refl _) _
  refine ⟨(a1.below b2).below b3, a2.below b3, ⟨?_, World.ownsRow_nil _ _ _ _⟩, ?_⟩
  · have := heap_alloc_new ((w.alloc (.cells #[.int .i64 0, .int .i64 0, .int .i64 0, .int .i64 0, .int .i64 0, .int .i64 0, .int .i64 0, .int .i64 0, .int .i64 0, .int .i64 0, .int .i64 0, .int .i64 0, .int .i64 0, .int .i64 0, .int .i64 0, .int .i64 0, .int .i64 0, .int .i64 0, .int .i64 0, .int .i64 0, .int .i64 0, .int .i64 0, .int .i64 0, .int .i64 0, .int .i64 0, .int .i64 0, .int .i64 0, .int .i64 0, .int .i64 0, .int .i64 0, .int .i64 0, .int .i64 0] 97)).alloc (.cells #[.int .i64 0, .int .i64 0, .int .i64 0, .int .i64 0, .int .i64 0, .int .i64 0, .int .i64 0, .int .i64 0, .int .i64 0, .int .i64 0, .int .i64 0, .int .i64 0, .int .i64 0, .int .i64 0, .int .i64 0, .int .i64 0, .int .i64 0, .int .i64 0, .int .i64 0, .int .i64 0, .int .i64 0, .int .i64 0, .int .i64 0, .int .i64 0, .int .i64 0, .int .i64 0, .int .i64 0, .int .i64 0, .int .i64 0, .int .i64 0, .int .i64 0, .int .i64 0] 97)) (.cells #[.slice none 0 0, (Value.func (.func 92) #[] #[])] 128); rw [World.size_alloc, World.size_alloc] at this; exact this
  · exact (((Below.refl _ _).alloc (Nat.le_refl _) _).alloc (by simp) _).alloc (by simp <;> omega) _
theorem hp_put {w : World} {p b o : Nat} {v : Value} {m : R} {hs : List R} (h : HP w p v hs) (hb : b ≠ p) (hv : some b ≠ v.ownBlock) : HP (put w b o m) p v hs := by
  unfold put; exact hp_other (hp_other (hp_other (hp_other h hb hv) hb hv) hb hv) hb hv
/-- Eight routes are read whole, written whole, handed back. -/
theorem wpList_loadA {ops : Array Oper} {rest : List Oper} {op : Oper} {a : Act} {w : World} {Q : Exit → Act → World → Prop} (x : Operand) (hgd : op.guard = none) (ho : op.op = .load 97 x) {b : Nat} {ws : List R} (hl : ws.length = 8) (hx : a.eval x = .pointer (some ⟨b, 0, none⟩)) (h : AV w b ws)
    (hk : wpList Try.prog ops Q rest (a.put op.dst (.agg (flat ws).toArray)) w) : wpList Try.prog ops Q (op :: rest) a w :=
  wpList_load_mid hgd 97 x ho b 0 hx (flat ws) _ h.range infoA.1 infoA.2.1 (by rw [infoA.2.2, flat_32 hl]) hk
theorem cells_below {B : Nat} {w0 : World} {b : Nat} (hb : B ≤ b) : ∀ (vs : List Value) (o : Nat) (w : World), Below B w0 w → Below B w0 (w.setCells b o vs)
  | [], _, w, h => h
  | v :: r, o, w, h => cells_below hb r (o + 1) _ (h.setCell (p := ⟨b, o, none⟩) hb v)
theorem wpList_storeA {ops : Array Oper} {rest : List Oper} {op : Oper} {a : Act} {w : World} {Q : Exit → Act → World → Prop} (x y : Operand) (hgd : op.guard = none) (ho : op.op = .store 97 x y) {b : Nat} {ws old : List R} (hl : ws.length = 8) (hl' : old.length = 8) (hx : a.eval x = .pointer (some ⟨b, 0, none⟩)) (hy : a.eval y = .agg (flat ws).toArray) (h : AV w b old)
    (hk : ∀ w', w'.rangeAt b 0 (flat ws) → (∀ B w0, Below B w0 w → B ≤ b → Below B w0 w') → wpList Try.prog ops Q rest (a.put op.dst undef) w') : wpList Try.prog ops Q (op :: rest) a w := by
  have ht : w.there b 0 (flat ws).toArray.size := by have := h.there; rw [flat_32 hl'] at this; simpa [flat_32 hl] using this
  refine wpList_store_mid hgd 97 x y ho b 0 (flat ws).toArray hx hy ht (by rw [infoA.2.2]; simp [flat_32 hl]) (all_oneCell_toArray (fun v hv => flat_one_cell hv)) (hk _ (World.rangeAt_setCells_same w b 0 _ (by simpa using ht)) (fun B w0 h hb => cells_below hb _ _ _ h))
theorem resultsA {fn : Func} {p : Tmp} (h : fn.results = #[.cell p 97]) (tmps : Array Value) (w : World) {b : Nat} {ws : List R} (hl : ws.length = 8) (hp : tmps.getD p undef = .pointer (some ⟨b, 0, none⟩)) (hg : w.rangeAt b 0 (flat ws)) : (results fn tmps).run Try.prog w = .ok (.agg (flat ws).toArray) w := by
  have hp' : tmps[p]?.getD undef = .pointer (some ⟨b, 0, none⟩) := by simpa using hp
  have hlv := run_loadVar_mid (P := Try.prog) w b 0 97 (flat ws) _ hg infoA.1 infoA.2.1 (by rw [infoA.2.2, flat_32 hl])
  simp only [results, h]
  simp [Sem.run_bind, hp', asAddr, hlv, Result.andThen]
set_option maxHeartbeats 32000000 in
theorem waysFrom (a : Option Addr) (g : List Tu.R) (cap : Nat) (f : Int) (w : World) (hg : graphB g = true) (hf : 1 ≤ f ∧ f ≤ 8) (hr : Tu.RM w a g) :
    Calls Try.prog 56 #[.slice a g.length cap, .int .i64 f] w fun e w' => e = .returned (.agg (flat (waysL g f)).toArray) ∧ Below w.heap.size w w' ∧ Good g f (best g f) ∧ ∀ v x, best g f v = some x → (1 ≤ v ∧ v ≤ 8) ∧ okN 8 x := by
  have HR := hide hr
  have HG := hide hg
  have h62 := two_len (graph_two hg)
  obtain ⟨a4, a5, ahp, ab⟩ := av_base w
  have HA4 := hide a4
  have HA5 := hide a5
  have HHP := hide ahp
  have HB0 := hide ab
  have HPU : Hid (Heap ([] : List R)) := hide (fun i _ hi => by simp at hi)
  clear hr hg a4 a5 ahp ab
  obtain ⟨n, hn⟩ : ∃ n, g.length = n := ⟨_, rfl⟩
  have HN := hide hn
  rw [hn] at h62 ⊢
  clear hn
  go_enter Try.func56, Try.ntmps56
  go_wp2_with fail
  refine (push (w.heap.size + 1 + 1) (.slice none 0 0) [] (zl f) _ (unhide HHP) (unhide HPU) (by simp)).mono ?_
  rintro e w1 ⟨rfl, v1, hs1, p1, q1, l1, m1, f1, _⟩
  have HP1 := hide p1
  have HS1 : Hid (Sta g f zs8 hs1) := hide (sta_start hf q1 (by simpa using l1) (fun y => by rw [m1]; simp))
  have fb := f1.below (unhide HHP)
  have HA51 := hide ((unhide HA5).under fb (by omega))
  have HA41 := hide ((unhide HA4).under fb (by omega))
  have HB1 := hide ((unhide HB0).trans (fb.mono (by omega)))
  have HK1 : Hid (65 * (8 - cntW (WL zs8)) + hs1.length ≤ 521) := hide (by rw [cnt_none _ zs8_wl]; simp at l1; omega)
  clear p1 q1 l1 m1 f1 fb HA4 HA5 HHP HB0 HPU
  generalize hB : w.heap.size = B at *
  have HBB := hide hB
  clear hB
  go_wp2_with fail
  go_loopg [] 521 (fun kx wr => ∃ (ws hs : List R) (v : Value), Hid (HP wr (B + 1 + 1) v hs) ∧ Hid (Sta g f ws hs) ∧ Hid (AV wr (B + 1) ws) ∧ Hid (AV wr B zs8) ∧ Hid (Below B w wr) ∧ Hid (65 * (8 - cntW (WL ws)) + hs.length ≤ kx))
  case atStart => exact ⟨zs8, hs1, v1, HP1, HS1, HA51, HA41, HB1, HK1⟩
  case round =>
    obtain ⟨ws, hs, v, hHP, hST, hA5, hA4, hbl, hkx⟩ := hrel
    by_cases hz : hs.length = 0
    · have hnil : hs = [] := List.eq_nil_of_length_eq_zero hz
      subst hnil
      have HD := hide (sta_done (unhide HG) (unhide hST))
      have hw : ws = waysL g f := (unhide HD).1
      rw [hw] at hA5
      have HL8 := hide (waysL_len g f)
      have HZ8 : Hid (zs8.length = 8) := hide rfl
      generalize hWS : waysL g f = WS at *
      have HWS := hide hWS
      clear hw hz hWS
      go_wp2_with fail
      refine (isEmpty _ _ [] _ (unhide hHP)).mono ?_
      rintro e w2 ⟨rfl, rfl⟩
      have hdz : (decide (([] : List R).length = 0)) = true := rfl
      rw [hdz]
      clear hdz
      go_wp2_with (first | (refine wpList_loadA _ rfl rfl (unhide HL8) rfl (unhide hA5) ?_) | (refine wpList_storeA _ _ rfl rfl (unhide HL8) (unhide HZ8) rfl rfl (unhide hA4) ?_; intro w9 hr9 hb9; have HR9 := hide hr9; have HB9 := hide (hb9 _ _ (unhide hbl) (Nat.le_refl _)); clear hr9 hb9))
      refine bodyPost_ret (resultsA rfl _ _ (unhide HL8) rfl (unhide HR9)) rfl ⟨by rw [unhide HWS], by rw [unhide HBB]; exact unhide HB9, (unhide HD).2⟩
    · have hpos : 0 < hs.length := by omega
      have HTM := hide (at_mem (hs := hs) (i := 0) hpos)
      have HTB := hide (sta_top (unhide hST) (unhide HTM))
      have HMN : Hid (∀ y ∈ hs, ¬ Bt y (at' hs 0)) := hide (fun y hy => heap_min (unhide hST).heap hy)
      have hsl : hs.length ≤ 600 := by have := (unhide hST).size; have := cnt_le (WL ws); omega
      have HWN := hide (unhide hST).len
      have HSK : Hid (∀ hs' : List R, (at' ws ((at' hs 0).ds - 1).toNat).ds ≠ 0 → Heap hs' → hs'.length + 1 = hs.length → (∀ y ∈ hs, y = at' hs 0 ∨ y ∈ hs') → (∀ y ∈ hs', y ∈ hs) → Sta g f ws hs') := hide (fun hs' h0 h1 h2 h3 h4 => sta_skip (unhide hST) (unhide HTM) h0 h1 h2 h3 h4)
      have HNW : Hid (∀ hs' hs2 : List R, (at' ws ((at' hs 0).ds - 1).toNat).ds = 0 → hs'.length + 1 = hs.length → (∀ y ∈ hs, y = at' hs 0 ∨ y ∈ hs') → (∀ y ∈ hs', y ∈ hs) → Heap hs2 → hs2.length ≤ hs'.length + g.length → (∀ y, y ∈ hs2 ↔ y ∈ hs' ∨ psh g (at' hs 0) g.length y) → Sta g f (ws.set ((at' hs 0).ds - 1).toNat (at' hs 0)) hs2) := hide (fun hs' hs2 h0 h1 h2 h3 h4 h5 h6 => sta_new (unhide HG) (unhide hST) (unhide HTM) (unhide HMN) h0 h1 h2 h3 h4 h5 h6)
      have HCN : Hid ((at' ws ((at' hs 0).ds - 1).toNat).ds = 0 → cntW (WL (ws.set ((at' hs 0).ds - 1).toNat (at' hs 0))) = cntW (WL ws) + 1) := hide (fun h0 => by
        rw [wl_set (unhide hST).len (unhide HTB).1]; exact cnt_up (unhide HTB).1.1 (unhide HTB).1.2 (wl_none h0))
      have HHE := hide (unhide hST).heap
      go_wp2_with fail
      refine (isEmpty _ _ hs _ (unhide hHP)).mono ?_
      rintro e w2 ⟨rfl, rfl⟩
      rw [decide_eq_false hz]
      go_wp2_with fail
      refine (pop _ _ hs _ (unhide hHP) (unhide HHE) hpos (by omega)).mono ?_
      rintro e w3 ⟨rfl, v3, hs3, p3, q3, l3, m3, n3, f3, x3⟩
      have fb := f3.below (unhide hHP)
      have HP3 := hide p3
      have HE3 := hide q3
      have HM3 := hide m3
      have HN3 := hide n3
      have HA53 := hide ((unhide hA5).under fb (by omega))
      have HA43 := hide ((unhide hA4).under fb (by omega))
      have HB3 := hide ((unhide hbl).trans (fb.mono (by omega)))
      have HSL3 := hide l3
      have hpl := p3.lt
      clear p3 q3 m3 n3 fb f3 x3 l3
      obtain ⟨b, hb⟩ : ∃ b, at' hs 0 = b := ⟨_, rfl⟩
      rw [hb] at HTB HSK HNW HCN HM3 HTM ⊢
      clear hb HMN
      obtain ⟨bd, bn, bc, bh⟩ := b
      rw [show R.value ⟨bd, bn, bc, bh⟩ = .agg #[.int .i64 bd, .int .i64 bn, .int .i64 bc, .int .i64 bh] from rfl]
      have htb := unhide HTB
      dsimp only at htb HSK HNW HCN
      obtain ⟨k, hk⟩ : ∃ k : Nat, bd = (k : Int) + 1 := ⟨(bd - 1).toNat, by omega⟩
      have hk8 : k < 8 := by omega
      have hkk : (bd - 1).toNat = k := by omega
      rw [hkk] at HSK HNW HCN
      have e1 : bd - 1 = (k : Int) := by omega
      have k0 : (0 : Int) ≤ (k : Int) := by omega
      have k8 : (k : Int) < 8 := by omega
      have wk : IntKind.i64.wrap (k : Int) = (k : Int) := by rw [IntKind.wrap_i64]; omega
      have HDK := hide hk
      clear hk hkk
      have HB4 : Hid (Below w3.heap.size w3 (w3.alloc (.cells #[.int .i64 bd, .int .i64 bn, .int .i64 bc, .int .i64 bh] 62))) := hide ((Below.refl _ _).alloc (Nat.le_refl _) _)
      have HP4 := hide ((unhide HP3).below (unhide HB4))
      have HA54 := hide ((unhide HA53).below (unhide HB4))
      have HA44 := hide ((unhide HA43).below (unhide HB4))
      have HBB4 : Hid (Below B w (w3.alloc (.cells #[.int .i64 bd, .int .i64 bn, .int .i64 bc, .int .i64 bh] 62))) := hide ((unhide HB3).trans ((unhide HB4).mono (by omega)))
      have HR4 := hide (rv_new w3 ⟨bd, bn, bc, bh⟩)
      have HQ4 : Hid (some w3.heap.size ≠ v3.ownBlock) := hide (fun e => by have := (unhide HP3).2.lt _ e.symm; omega)
      obtain ⟨a0, a1, a2, a3⟩ := (unhide HA54).at (i := k) (by rw [unhide HWN]; exact hk8)
      have g0 := (unhide HA54).free (k * 4)
      have g1 := (unhide HA54).free (k * 4 + 1)
      have g2 := (unhide HA54).free (k * 4 + 2)
      have g3 := (unhide HA54).free (k * 4 + 3)
      have hs4 : (w3.alloc (.cells #[.int .i64 bd, .int .i64 bn, .int .i64 bc, .int .i64 bh] 62)).heap.size = w3.heap.size + 1 := by simp
      clear HP3 HA53 HA43 HB3
      by_cases hd : (at' ws k).ds = 0
      · have hd' : ((at' ws k).ds != 0) = false := by simpa using hd
        have hcn := unhide HCN hd
        have HNW2 := hide (fun hs2 => unhide HNW hs3 hs2 hd (unhide HSL3) (unhide HM3) (unhide HN3))
        have hne1 : B + 1 ≠ B + 1 + 1 := by omega
        have HNE : Hid (some (B + 1) ≠ v3.ownBlock) := hide (fun e => by have := (unhide HP4).2.lt _ e.symm; omega)
        have hQB : w3.heap.size ≠ B + 1 := by omega
        have HA55 := hide ((unhide HA54).put (i := k) (by rw [unhide HWN]; exact hk8) ⟨bd, bn, bc, bh⟩)
        have HP5 := hide (hp_put (o := k * 4) (m := ⟨bd, bn, bc, bh⟩) (unhide HP4) hne1 (unhide HNE))
        have HA45 : Hid (AV (put (w3.alloc (.cells #[.int .i64 bd, .int .i64 bn, .int .i64 bc, .int .i64 bh] 62)) (B + 1) (k * 4) ⟨bd, bn, bc, bh⟩) B zs8) := hide ((put_other (show B ≠ B + 1 by omega)).trans (unhide HA44))
        have HR5 : Hid (RV (put (w3.alloc (.cells #[.int .i64 bd, .int .i64 bn, .int .i64 bc, .int .i64 bh] 62)) (B + 1) (k * 4) ⟨bd, bn, bc, bh⟩) w3.heap.size ⟨bd, bn, bc, bh⟩) := hide ((put_other hQB).trans (unhide HR4))
        have HB5 := hide (put_below (g := B + 1) (o := k * 4) (m := ⟨bd, bn, bc, bh⟩) (unhide HBB4) (by omega))
        have hs5 : (put (w3.alloc (.cells #[.int .i64 bd, .int .i64 bn, .int .i64 bc, .int .i64 bh] 62)) (B + 1) (k * 4) ⟨bd, bn, bc, bh⟩).heap.size = w3.heap.size + 1 := by rw [put_size]; exact hs4
        have HPW : Hid (put (w3.alloc (.cells #[.int .i64 bd, .int .i64 bn, .int .i64 bc, .int .i64 bh] 62)) (B + 1) (k * 4) ⟨bd, bn, bc, bh⟩ = (((((w3.alloc (.cells #[.int .i64 bd, .int .i64 bn, .int .i64 bc, .int .i64 bh] 62)).setCell ⟨B + 1, k * 4, none⟩ (.int .i64 bd)).setCell ⟨B + 1, k * 4 + 1, none⟩ (.int .i64 bn)).setCell ⟨B + 1, k * 4 + 2, none⟩ (.int .i64 bc)).setCell ⟨B + 1, k * 4 + 3, none⟩ (.int .i64 bh))) := hide rfl
        have HMJ : Hid (∀ y, y ∈ hs3 ↔ y ∈ hs3 ∨ psh g ⟨bd, bn, bc, bh⟩ 0 y) := hide (fun y => ⟨.inl, fun h => h.elim id (fun h => absurd h (psh_zero _ _ _))⟩)
        have HLJ : Hid (hs3.length ≤ hs3.length + 0) := hide (Nat.le_refl _)
        have HRM : Hid (∀ W, Below B w W → Tu.RM W a g) := hide (fun W h => (unhide HR).below (by rw [unhide HBB]; exact h))
        generalize hws : ws.set k ⟨bd, bn, bc, bh⟩ = ws2 at *
        clear hws
        clear HSK HNW HCN hd HA54 HA44 HBB4 HR4 HP4 hA5 hA4 hbl hHP HTM HHE hST HM3 HN3
        generalize (at' ws k).ds = dk at *
        generalize (at' ws k).nx = nk at *
        generalize (at' ws k).co = ck at *
        generalize (at' ws k).hp = pk at *
        go_wp2_with fail
        rw [← unhide HPW]
        generalize hW5 : put (w3.alloc (.cells #[.int .i64 bd, .int .i64 bn, .int .i64 bc, .int .i64 bh] 62)) (B + 1) (k * 4) ⟨bd, bn, bc, bh⟩ = W5 at *
        clear hW5 a0 a1 a2 a3 g0 g1 g2 g3 HPW
        generalize hQ : w3.heap.size = Q at *
        clear hQ
        go_loopw [32] (fun jv wr => ∃ (j : Nat) (L : List R) (v : Value), j ≤ n ∧ jv = .int .i64 (j : Int) ∧ Hid (HP wr (B + 1 + 1) v L) ∧ Hid (Heap L) ∧ Hid (L.length ≤ hs3.length + j) ∧ Hid (∀ y, y ∈ L ↔ y ∈ hs3 ∨ psh g ⟨bd, bn, bc, bh⟩ j y) ∧ Hid (AV wr (B + 1) ws2) ∧ Hid (AV wr B zs8) ∧ Hid (RV wr Q ⟨bd, bn, bc, bh⟩) ∧ Hid (some Q ≠ v.ownBlock) ∧ Hid (Below B w wr)) (fun jv _ => n - (intOf jv).toNat)
        case atStart => exact ⟨0, hs3, v3, by omega, rfl, HP5, HE3, HLJ, HMJ, HA55, HA45, HR5, HQ4, HB5⟩
        case round =>
          obtain ⟨j, L, v, hj, rfl, hHP, hHE, hLE, hME, hA5, hA4, hRV, hQV, hbl⟩ := hrel
          by_cases hlt : (j : Int) < (n : Int)
          · have k1 : (0 : Int) ≤ (j : Int) := by omega
            have hlen : j < g.length := by rw [unhide HN]; omega
            have HRr := hide (unhide HRM _ (unhide hbl))
            obtain ⟨ga, off, rfl⟩ := (unhide HRr).form (by omega)
            obtain ⟨c0, c1, c2⟩ := (unhide HRr).at hlen
            have hbd := St.ok_bounds (St.setB_ok (two_set (graph_two (unhide HG))) hlen)
            have hbk := ok_k (two_ok (graph_two (unhide HG)) _ (Tu.getD_mem hlen))
            have HPY : Hid (hv (g.getD j Tu.R.zero) = bd → ∀ y, psh g ⟨bd, bn, bc, bh⟩ (j + 1) y ↔ psh g ⟨bd, bn, bc, bh⟩ j y ∨ y = ext ⟨bd, bn, bc, bh⟩ (ha (g.getD j Tu.R.zero)) (g.getD j Tu.R.zero).val) := hide (fun h y => psh_yes hlen h y)
            have HPN : Hid (hv (g.getD j Tu.R.zero) ≠ bd → ∀ y, psh g ⟨bd, bn, bc, bh⟩ (j + 1) y ↔ psh g ⟨bd, bn, bc, bh⟩ j y) := hide (fun h y => psh_no hlen h y)
            unfold hv ha at HPY hbk
            unfold hv at HPN
            generalize g.getD j Tu.R.zero = m at *
            obtain ⟨key, til, val⟩ := m
            dsimp only at c0 c1 c2 hbd hbk HPY HPN
            have hpl2 := (unhide hHP).lt
            have hQl := (unhide hRV).lt
            have B6 : Hid (Below wr.heap.size wr (wr.alloc (.cells #[.int .i64 key, .int .i64 til, .int .i64 val] 56))) := hide ((Below.refl _ _).alloc (Nat.le_refl _) _)
            have HX6 := hide (Tw.bx_new wr ⟨key, til, val⟩ 56)
            have hs6 : (wr.alloc (.cells #[.int .i64 key, .int .i64 til, .int .i64 val] 56)).heap.size = wr.heap.size + 1 := by simp
            go_wp2_with fail
            refine (Ek.endsOfKey key _ (by omega) (by omega)).mono ?_
            rintro e w7 ⟨rfl, b7⟩
            generalize hhh : key.tdiv 100 = hh at *
            generalize haa : key.tmod 100 = aa at *
            clear hhh haa
            have hs7 := b7.size
            rw [hs6] at hs7
            have b8 : Below wr.heap.size wr (w7.alloc (.cells #[.int .i64 hh, .int .i64 aa] 90)) := ((unhide B6).trans (b7.mono (by omega))).alloc (by omega) _
            have HP8 := hide ((unhide hHP).below b8)
            have HA58 := hide ((unhide hA5).below b8)
            have HA48 := hide ((unhide hA4).below b8)
            have HR8 := hide ((unhide hRV).below b8)
            have HB8 := hide ((unhide hbl).trans (b8.mono (by omega)))
            have HX8 := hide (((unhide HX6).below b7).below ((Below.refl _ _).alloc (Nat.le_refl _) (.cells #[.int .i64 hh, .int .i64 aa] 90)))
            have hs8 : (w7.alloc (.cells #[.int .i64 hh, .int .i64 aa] 90)).heap.size = w7.heap.size + 1 := by simp
            obtain ⟨r0, r1, r2, r3⟩ := (unhide HR8).cells
            obtain ⟨y0, y1, y2⟩ := unhide HX8
            dsimp only at r0 r1 r2 r3 y0 y1 y2
            clear B6 HX6 b7 b8 c0 c1 c2 hHP hA5 hA4 hRV hbl HRr
            by_cases hhb : hh = bd
            · have hhb' : (hh == bd) = true := by simpa using hhb
              have HJ := hide (unhide HPY hhb)
              clear hhb HPY HPN
              go_wp2_with fail
              refine (longer ⟨bd, bn, bc, bh⟩ aa val _ (by dsimp only; omega) (by dsimp only; omega) (by omega)).mono ?_
              rintro e w9 ⟨rfl, b9⟩
              have HP9 := hide ((unhide HP8).below b9)
              have HA59 := hide ((unhide HA58).below b9)
              have HA49 := hide ((unhide HA48).below b9)
              have HR9 := hide ((unhide HR8).below b9)
              have HB9 := hide ((unhide HB8).trans (b9.mono (by omega)))
              have hs9 := b9.size
              rw [hs8] at hs9
              clear b9 HP8 HA58 HA48 HR8 HB8 r0 r1 r2 r3 y0 y1 y2 HX8
              generalize ext ⟨bd, bn, bc, bh⟩ aa val = z at *
              go_wp2_with fail
              refine (push _ _ L z _ (unhide HP9) (unhide hHE) (by have := unhide hLE; have := unhide HSL3; omega)).mono ?_
              rintro e w10 ⟨rfl, v', L', p10, q10, l10, m10, f10, x10⟩
              have fb := f10.below (unhide HP9)
              have HP10 := hide p10
              have HE10 := hide q10
              have HLJ2 : Hid (L'.length ≤ hs3.length + (j + 1)) := hide (by have := unhide hLE; omega)
              have HMJ2 : Hid (∀ y, y ∈ L' ↔ y ∈ hs3 ∨ psh g ⟨bd, bn, bc, bh⟩ (j + 1) y) := hide (fun y => by rw [m10, unhide hME, unhide HJ, or_assoc])
              have HA510 := hide ((unhide HA59).under fb (by omega))
              have HA410 := hide ((unhide HA49).under fb (by omega))
              have HB10 := hide ((unhide HB9).trans (fb.mono (by omega)))
              have HR10 := hide (rv_frm (unhide HR9) f10 (by omega) (unhide hQV))
              have HQ10 : Hid (some Q ≠ v'.ownBlock) := hide (by
                rcases x10 with e | e | ⟨t, e, ht⟩
                · rw [e]; exact unhide hQV
                · rw [e]; simp
                · rw [e]; intro e'; cases e'; omega)
              clear p10 q10 l10 m10 f10 x10 fb
              go_wp2_with fail
              go_roundw
              case rel => exact ⟨j + 1, L', v', by omega, by go_num, HP10, HE10, HLJ2, HMJ2, HA510, HA410, HR10, HQ10, HB10⟩
              case measure => simp [intOf]; omega
            · have hhb' : (hh == bd) = false := by simpa using hhb
              have HJ := hide (unhide HPN hhb)
              have HMJ2 : Hid (∀ y, y ∈ L ↔ y ∈ hs3 ∨ psh g ⟨bd, bn, bc, bh⟩ (j + 1) y) := hide (fun y => by rw [unhide hME, unhide HJ])
              have HLJ2 : Hid (L.length ≤ hs3.length + (j + 1)) := hide (by have := unhide hLE; omega)
              clear hhb HPY HPN
              go_wp2_with fail
              go_roundw
              case rel => exact ⟨j + 1, L, v, by omega, by go_num, HP8, hHE, HLJ2, HMJ2, HA58, HA48, HR8, hQV, HB8⟩
              case measure => simp [intOf]; omega
          · obtain rfl : j = n := by omega
            have HS2 := hide (unhide HNW2 L (unhide hHE) (by rw [unhide HN]; exact unhide hLE) (fun y => by rw [unhide HN]; exact unhide hME y))
            have hm2 : 65 * (8 - cntW (WL ws2)) + L.length < gk := by
              have h1 := unhide hkx; have h2 := unhide HSL3; have h3 := unhide hLE; have h4 := cnt_le (WL ws2)
              omega
            go_wp2_with fail
            go_roundg (65 * (8 - cntW (WL ws2)) + L.length)
            case measure => exact hm2
            case rel => exact ⟨ws2, L, v, hHP, HS2, hA5, hA4, hbl, hide (Nat.le_refl _)⟩
      · have hd' : ((at' ws k).ds != 0) = true := by simpa using hd
        have HS2 := hide (unhide HSK hs3 hd (unhide HE3) (unhide HSL3) (unhide HM3) (unhide HN3))
        have hm2 : 65 * (8 - cntW (WL ws)) + hs3.length < gk := by have := unhide hkx; have := unhide HSL3; omega
        have HK2 : Hid (65 * (8 - cntW (WL ws)) + hs3.length ≤ 65 * (8 - cntW (WL ws)) + hs3.length) := hide (Nat.le_refl _)
        generalize (at' ws k).ds = dk at *
        generalize (at' ws k).nx = nk at *
        generalize (at' ws k).co = ck at *
        generalize (at' ws k).hp = pk at *
        go_wp2_with fail
        go_roundg (65 * (8 - cntW (WL ws)) + hs3.length)
        case measure => exact hm2
        case rel => exact ⟨ws, hs3, v3, HP4, HS2, HA54, HA44, HBB4, HK2⟩
end Wd
end Go.Proofs.Ytjhhhmdhdnmejaa
