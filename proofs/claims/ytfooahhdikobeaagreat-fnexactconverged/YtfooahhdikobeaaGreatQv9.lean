/-
  Of the texts HepF, HepG, HepH, WysS, SpcA, SpB0: what this claim needs of them. (put together by mkprune.py)
-/
import Derived.Test.YtfooahhdikobeaaGreatQv8
import Derived.Deep.LoopGhost
import Derived.Deep.MidRow
import Derived.Laws.EntriesVeiled
import Derived.Deep.Cut
import Derived.BigRegion
namespace Go.Proofs.YtfooahhdikobeaaGreat
open Go.ChangeShapes Go.WideShapes Go.ChangeAt Go.RowKit
set_option linter.unusedVariables false
set_option linter.unusedSimpArgs false
set_option maxRecDepth 100000
attribute [local go_sem ↓] Go.wp_at_zero Go.wp_at_succ
namespace Wd
open W1 Ro Rw Tw
/-- Eight routes in a block that may be written. -/
def AV (w : World) (b : Nat) (ws : List R) : Prop := w.heap[b]? = some (.cells (flat ws).toArray 141 (0, 0))
theorem AV.lt {w : World} {b : Nat} {ws : List R} (h : AV w b ws) : b < w.heap.size := lt_block h
theorem AV.cell {w : World} {b : Nat} {ws : List R} (h : AV w b ws) (j : Nat) : w.cell? ⟨b, j, none⟩ = (flat ws)[j]? := by
  unfold AV at h; simp [World.cell?, h]
theorem AV.free {w : World} {b : Nat} {ws : List R} (h : AV w b ws) (i : Nat) : w.frozen? ⟨b, i, none⟩ = false := by unfold AV at h; simp [World.frozen?, h]
theorem AV.at {w : World} {b : Nat} {ws : List R} (h : AV w b ws) {i : Nat} (hi : i < ws.length) : At w b (i * 4) (at' ws i) := by
  have h0 := flat_get ws i 0 (by omega) hi
  have h1 := flat_get ws i 1 (by omega) hi
  have h2 := flat_get ws i 2 (by omega) hi
  have h3 := flat_get ws i 3 (by omega) hi
  exact ⟨(h.cell _).trans h0, (h.cell _).trans h1, (h.cell _).trans h2, (h.cell _).trans h3⟩
theorem AV.below {w w' : World} {b : Nat} {ws : List R} (h : AV w b ws) (hb : Below w.heap.size w w') : AV w' b ws := (hb.block b h.lt).trans h
theorem AV.under {w w' : World} {B b : Nat} {ws : List R} (h : AV w b ws) (hb : Below B w w') (hl : b < B) : AV w' b ws := (hb.block b hl).trans h
theorem AV.put {w : World} {b : Nat} {ws : List R} (h : AV w b ws) {i : Nat} (hi : i < ws.length) (m : R) : AV (put w b (i * 4) m) b (ws.set i m) := by
  have h' := heap_set (i := i * 4 + 3) (.int .i64 m.hp) (heap_set (i := i * 4 + 2) (.int .i64 m.co) (heap_set (i := i * 4 + 1) (.int .i64 m.nx) (heap_set (i := i * 4) (.int .i64 m.ds) h)))
  simp only [List.setIfInBounds_toArray] at h'
  unfold AV
  rw [flat_set ws i m hi]
  exact h'
theorem AV.range {w : World} {b : Nat} {ws : List R} (h : AV w b ws) : w.rangeAt b 0 (flat ws) := fun j v hv => by rw [Nat.zero_add, h.cell]; exact hv
theorem AV.there {w : World} {b : Nat} {ws : List R} (h : AV w b ws) : w.there b 0 (flat ws).length := fun j hj => ⟨by rw [Nat.zero_add, h.cell]; simp [hj], h.free _⟩
theorem infoA : Tryz.prog.underlying 141 = some (Tryz.prog.underlying 141).get! ∧ ((Tryz.prog.underlying 141).get!).isRow = true ∧ (Tryz.prog.info? 141).map (·.size) = some 32 := ⟨by kernel_rfl, by kernel_rfl, by kernel_rfl⟩
theorem flat_32 {ws : List R} (h : ws.length = 8) : (flat ws).length = 32 := by rw [flat_len, h]
theorem av_base (w : World) : AV (((w.alloc (.cells #[.int .i64 0, .int .i64 0, .int .i64 0, .int .i64 0, .int .i64 0, .int .i64 0, .int .i64 0, .int .i64 0, .int .i64 0, .int .i64 0, .int .i64 0, .int .i64 0, .int .i64 0, .int .i64 0, .int .i64 0, .int .i64 0, .int .i64 0, .int .i64 0, .int .i64 0, .int .i64 0, .int .i64 0, .int .i64 0, .int .i64 0, .int .i64 0, .int .i64 0, .int .i64 0, .int .i64 0, .int .i64 0, .int .i64 0, .int .i64 0, .int .i64 0, .int .i64 0] 141)).alloc (.cells #[.int .i64 0, .int .i64 0, .int .i64 0, .int .i64 0, .int .i64 0, .int .i64 0, .int .i64 0, .int .i64 0, .int .i64 0, .int .i64 0, .int .i64 0, .int .i64 0, .int .i64 0, .int .i64 0, .int .i64 0, .int .i64 0, .int .i64 0, .int .i64 0, .int .i64 0, .int .i64 0, .int .i64 0, .int .i64 0, .int .i64 0, .int .i64 0, .int .i64 0, .int .i64 0, .int .i64 0, .int .i64 0, .int .i64 0, .int .i64 0, .int .i64 0, .int .i64 0] 141)).alloc (.cells #[.slice none 0 0, (Value.func (.func 158) #[] #[])] 189)) w.heap.size zs8 ∧ AV (((w.alloc (.cells #[.int .i64 0, .int .i64 0, .int .i64 0, .int .i64 0, .int .i64 0, .int .i64 0, .int .i64 0, .int .i64 0, .int .i64 0, .int .i64 0, .int .i64 0, .int .i64 0, .int .i64 0, .int .i64 0, .int .i64 0, .int .i64 0, .int .i64 0, .int .i64 0, .int .i64 0, .int .i64 0, .int .i64 0, .int .i64 0, .int .i64 0, .int .i64 0, .int .i64 0, .int .i64 0, .int .i64 0, .int .i64 0, .int .i64 0, .int .i64 0, .int .i64 0, .int .i64 0] 141)).alloc (.cells #[.int .i64 0, .int .i64 0, .int .i64 0, .int .i64 0, .int .i64 0, .int .i64 0, .int .i64 0, .int .i64 0, .int .i64 0, .int .i64 0, .int .i64 0, .int .i64 0, .int .i64 0, .int .i64 0, .int .i64 0, .int .i64 0, .int .i64 0, .int .i64 0, .int .i64 0, .int .i64 0, .int .i64 0, .int .i64 0, .int .i64 0, .int .i64 0, .int .i64 0, .int .i64 0, .int .i64 0, .int .i64 0, .int .i64 0, .int .i64 0, .int .i64 0, .int .i64 0] 141)).alloc (.cells #[.slice none 0 0, (Value.func (.func 158) #[] #[])] 189)) (w.heap.size + 1) zs8 ∧ HP (((w.alloc (.cells #[.int .i64 0, .int .i64 0, .int .i64 0, .int .i64 0, .int .i64 0, .int .i64 0, .int .i64 0, .int .i64 0, .int .i64 0, .int .i64 0, .int .i64 0, .int .i64 0, .int .i64 0, .int .i64 0, .int .i64 0, .int .i64 0, .int .i64 0, .int .i64 0, .int .i64 0, .int .i64 0, .int .i64 0, .int .i64 0, .int .i64 0, .int .i64 0, .int .i64 0, .int .i64 0, .int .i64 0, .int .i64 0, .int .i64 0, .int .i64 0, .int .i64 0, .int .i64 0] 141)).alloc (.cells #[.int .i64 0, .int .i64 0, .int .i64 0, .int .i64 0, .int .i64 0, .int .i64 0, .int .i64 0, .int .i64 0, .int .i64 0, .int .i64 0, .int .i64 0, .int .i64 0, .int .i64 0, .int .i64 0, .int .i64 0, .int .i64 0, .int .i64 0, .int .i64 0, .int .i64 0, .int .i64 0, .int .i64 0, .int .i64 0, .int .i64 0, .int .i64 0, .int .i64 0, .int .i64 0, .int .i64 0, .int .i64 0, .int .i64 0, .int .i64 0, .int .i64 0, .int .i64 0] 141)).alloc (.cells #[.slice none 0 0, (Value.func (.func 158) #[] #[])] 189)) (w.heap.size + 1 + 1) (.slice none 0 0) [] ∧ Below w.heap.size w (((w.alloc (.cells #[.int .i64 0, .int .i64 0, .int .i64 0, .int .i64 0, .int .i64 0, .int .i64 0, .int .i64 0, .int .i64 0, .int .i64 0, .int .i64 0, .int .i64 0, .int .i64 0, .int .i64 0, .int .i64 0, .int .i64 0, .int .i64 0, .int .i64 0, .int .i64 0, .int .i64 0, .int .i64 0, .int .i64 0, .int .i64 0, .int .i64 0, .int .i64 0, .int .i64 0, .int .i64 0, .int .i64 0, .int .i64 0, .int .i64 0, .int .i64 0, .int .i64 0, .int .i64 0] 141)).alloc (.cells #[.int .i64 0, .int .i64 0, .int .i64 0, .int .i64 0, .int .i64 0, .int .i64 0, .int .i64 0, .int .i64 0, .int .i64 0, .int .i64 0, .int .i64 0, .int .i64 0, .int .i64 0, .int .i64 0, .int .i64 0, .int .i64 0, .int .i64 0, .int .i64 0, .int .i64 0, .int .i64 0, .int .i64 0, .int .i64 0, .int .i64 0, .int .i64 0, .int .i64 0, .int .i64 0, .int .i64 0, .int .i64 0, .int .i64 0, .int .i64 0, .int .i64 0, .int .i64 0] 141)).alloc (.cells #[.slice none 0 0, (Value.func (.func 158) #[] #[])] 189)) := by
  have a1 : AV (w.alloc (.cells #[.int .i64 0, .int .i64 0, .int .i64 0, .int .i64 0, .int .i64 0, .int .i64 0, .int .i64 0, .int .i64 0, .int .i64 0, .int .i64 0, .int .i64 0, .int .i64 0, .int .i64 0, .int .i64 0, .int .i64 0, .int .i64 0, .int .i64 0, .int .i64 0, .int .i64 0, .int .i64 0, .int .i64 0, .int .i64 0, .int .i64 0, .int .i64 0, .int .i64 0, .int .i64 0, .int .i64 0, .int .i64 0, .int .i64 0, .int .i64 0, .int .i64 0, .int .i64 0] 141)) w.heap.size zs8 := heap_alloc_new w _
  have a2 : AV ((w.alloc (.cells #[.int .i64 0, .int .i64 0, .int .i64 0, .int .i64 0, .int .i64 0, .int .i64 0, .int .i64 0, .int .i64 0, .int .i64 0, .int .i64 0, .int .i64 0, .int .i64 0, .int .i64 0, .int .i64 0, .int .i64 0, .int .i64 0, .int .i64 0, .int .i64 0, .int .i64 0, .int .i64 0, .int .i64 0, .int .i64 0, .int .i64 0, .int .i64 0, .int .i64 0, .int .i64 0, .int .i64 0, .int .i64 0, .int .i64 0, .int .i64 0, .int .i64 0, .int .i64 0] 141)).alloc (.cells #[.int .i64 0, .int .i64 0, .int .i64 0, .int .i64 0, .int .i64 0, .int .i64 0, .int .i64 0, .int .i64 0, .int .i64 0, .int .i64 0, .int .i64 0, .int .i64 0, .int .i64 0, .int .i64 0, .int .i64 0, .int .i64 0, .int .i64 0, .int .i64 0, .int .i64 0, .int .i64 0, .int .i64 0, .int .i64 0, .int .i64 0, .int .i64 0, .int .i64 0, .int .i64 0, .int .i64 0, .int .i64 0, .int .i64 0, .int .i64 0, .int .i64 0, .int .i64 0] 141)) (w.heap.size + 1) zs8 := by
    have := heap_alloc_new (w.alloc (.cells #[.int .i64 0, .int .i64 0, .int .i64 0, .int .i64 0, .int .i64 0, .int .i64 0, .int .i64 0, .int .i64 0, .int .i64 0, .int .i64 0, .int .i64 0, .int .i64 0, .int .i64 0, .int .i64 0, .int .i64 0, .int .i64 0, .int .i64 0, .int .i64 0, .int .i64 0, .int .i64 0, .int .i64 0, .int .i64 0, .int .i64 0, .int .i64 0, .int .i64 0, .int .i64 0, .int .i64 0, .int .i64 0, .int .i64 0, .int .i64 0, .int .i64 0, .int .i64 0] 141)) (.cells #[.int .i64 0, .int .i64 0, .int .i64 0, .int .i64 0, .int .i64 0, .int .i64 0, .int .i64 0, .int .i64 0, .int .i64 0, .int .i64 0, .int .i64 0, .int .i64 0, .int .i64 0, .int .i64 0, .int .i64 0, .int .i64 0, .int .i64 0, .int .i64 0, .int .i64 0, .int .i64 0, .int .i64 0, .int .i64 0, .int .i64 0, .int .i64 0, .int .i64 0, .int .i64 0, .int .i64 0, .int .i64 0, .int .i64 0, .int .i64 0, .int .i64 0, .int .i64 0] 141); rw [World.size_alloc] at this; exact this
  have b2 : Below (w.alloc (.cells #[.int .i64 0, .int .i64 0, .int .i64 0, .int .i64 0, .int .i64 0, .int .i64 0, .int .i64 0, .int .i64 0, .int .i64 0, .int .i64 0, .int .i64 0, .int .i64 0, .int .i64 0, .int .i64 0, .int .i64 0, .int .i64 0, .int .i64 0, .int .i64 0, .int .i64 0, .int .i64 0, .int .i64 0, .int .i64 0, .int .i64 0, .int .i64 0, .int .i64 0, .int .i64 0, .int .i64 0, .int .i64 0, .int .i64 0, .int .i64 0, .int .i64 0, .int .i64 0] 141)).heap.size (w.alloc (.cells #[.int .i64 0, .int .i64 0, .int .i64 0, .int .i64 0, .int .i64 0, .int .i64 0, .int .i64 0, .int .i64 0, .int .i64 0, .int .i64 0, .int .i64 0, .int .i64 0, .int .i64 0, .int .i64 0, .int .i64 0, .int .i64 0, .int .i64 0, .int .i64 0, .int .i64 0, .int .i64 0, .int .i64 0, .int .i64 0, .int .i64 0, .int .i64 0, .int .i64 0, .int .i64 0, .int .i64 0, .int .i64 0, .int .i64 0, .int .i64 0, .int .i64 0, .int .i64 0] 141)) ((w.alloc (.cells #[.int .i64 0, .int .i64 0, .int .i64 0, .int .i64 0, .int .i64 0, .int .i64 0, .int .i64 0, .int .i64 0, .int .i64 0, .int .i64 0, .int .i64 0, .int .i64 0, .int .i64 0, .int .i64 0, .int .i64 0, .int .i64 0, .int .i64 0, .int .i64 0, .int .i64 0, .int .i64 0, .int .i64 0, .int .i64 0, .int .i64 0, .int .i64 0, .int .i64 0, .int .i64 0, .int .i64 0, .int .i64 0, .int .i64 0, .int .i64 0, .int .i64 0, .int .i64 0] 141)).alloc (.cells #[.int .i64 0, .int .i64 0, .int .i64 0, .int .i64 0, .int .i64 0, .int .i64 0, .int .i64 0, .int .i64 0, .int .i64 0, .int .i64 0, .int .i64 0, .int .i64 0, .int .i64 0, .int .i64 0, .int .i64 0, .int .i64 0, .int .i64 0, .int .i64 0, .int .i64 0, .int .i64 0, .int .i64 0, .int .i64 0, .int .i64 0, .int .i64 0, .int .i64 0, .int .i64 0, .int .i64 0, .int .i64 0, .int .i64 0, .int .i64 0, .int .i64 0, .int .i64 0] 141)) := (Below.refl _ _).alloc (Nat.le_refl _) _
  have b3 : Below ((w.alloc (.cells #[.int .i64 0, .int .i64 0, .int .i64 0, .int .i64 0, .int .i64 0, .int .i64 0, .int .i64 0, .int .i64 0, .int .i64 0, .int .i64 0, .int .i64 0, .int .i64 0, .int .i64 0, .int .i64 0, .int .i64 0, .int .i64 0, .int .i64 0, .int .i64 0, .int .i64 0, .int .i64 0, .int .i64 0, .int .i64 0, .int .i64 0, .int .i64 0, .int .i64 0, .int .i64 0, .int .i64 0, .int .i64 0, .int .i64 0, .int .i64 0, .int .i64 0, .int .i64 0] 141)).alloc (.cells #[.int .i64 0, .int .i64 0, .int .i64 0, .int .i64 0, .int .i64 0, .int .i64 0, .int .i64 0, .int .i64 0, .int .i64 0, .int .i64 0, .int .i64 0, .int .i64 0, .int .i64 0, .int .i64 0, .int .i64 0, .int .i64 0, .int .i64 0, .int .i64 0, .int .i64 0, .int .i64 0, .int .i64 0, .int .i64 0, .int .i64 0, .int .i64 0, .int .i64 0, .int .i64 0, .int .i64 0, .int .i64 0, .int .i64 0, .int .i64 0, .int .i64 0, .int .i64 0] 141)).heap.size ((w.alloc (.cells #[.int .i64 0, .int .i64 0, .int .i64 0, .int .i64 0, .int .i64 0, .int .i64 0, .int .i64 0, .int .i64 0, .int .i64 0, .int .i64 0, .int .i64 0, .int .i64 0, .int .i64 0, .int .i64 0, .int .i64 0, .int .i64 0, .int .i64 0, .int .i64 0, .int .i64 0, .int .i64 0, .int .i64 0, .int .i64 0, .int .i64 0, .int .i64 0, .int .i64 0, .int .i64 0, .int .i64 0, .int .i64 0, .int .i64 0, .int .i64 0, .int .i64 0, .int .i64 0] 141)).alloc (.cells #[.int .i64 0, .int .i64 0, .int .i64 0, .int .i64 0, .int .i64 0, .int .i64 0, .int .i64 0, .int .i64 0, .int .i64 0, .int .i64 0, .int .i64 0, .int .i64 0, .int .i64 0, .int .i64 0, .int .i64 0, .int .i64 0, .int .i64 0, .int .i64 0, .int .i64 0, .int .i64 0, .int .i64 0, .int .i64 0, .int .i64 0, .int .i64 0, .int .i64 0, .int .i64 0, .int .i64 0, .int .i64 0, .int .i64 0, .int .i64 0, .int .i64 0, .int .i64 0] 141)) (((w.alloc (.cells #[.int .i64 0, .int .i64 0, .int .i64 0, .int .i64 0, .int .i64 0, .int .i64 0, .int .i64 0, .int .i64 0, .int .i64 0, .int .i64 0, .int .i64 0, .int .i64 0, .int .i64 0, .int .i64 0, .int .i64 0, .int .i64 0, .int .i64 0, .int .i64 0, .int .i64 0, .int .i64 0, .int .i64 0, .int .i64 0, .int .i64 0, .int .i64 0, .int .i64 0, .int .i64 0, .int .i64 0, .int .i64 0, .int .i64 0, .int .i64 0, .int .i64 0, .int .i64 0] 141)).alloc (.cells #[.int .i64 0, .int .i64 0, .int .i64 0, .int .i64 0, .int .i64 0, .int .i64 0, .int .i64 0, .int .i64 0, .int .i64 0, .int .i64 0, .int .i64 0, .int .i64 0, .int .i64 0, .int .i64 0, .int .i64 0, .int .i64 0, .int .i64 0, .int .i64 0, .int .i64 0, .int .i64 0, .int .i64 0, .int .i64 0, .int .i64 0, .int .i64 0, .int .i64 0, .int .i64 0, .int .i64 0, .int .i64 0, .int .i64 0, .int .i64 0, .int .i64 0, .int .i64 0] 141)).alloc (.cells #[.slice none 0 0, (Value.func (.func 158) #[] #[])] 189)) := (Below.refl _ _).alloc (Nat.le_refl _) _
  refine ⟨(a1.below b2).below b3, a2.below b3, ⟨?_, World.ownsRow_nil _ _ _ _⟩, ?_⟩
  · have := heap_alloc_new ((w.alloc (.cells #[.int .i64 0, .int .i64 0, .int .i64 0, .int .i64 0, .int .i64 0, .int .i64 0, .int .i64 0, .int .i64 0, .int .i64 0, .int .i64 0, .int .i64 0, .int .i64 0, .int .i64 0, .int .i64 0, .int .i64 0, .int .i64 0, .int .i64 0, .int .i64 0, .int .i64 0, .int .i64 0, .int .i64 0, .int .i64 0, .int .i64 0, .int .i64 0, .int .i64 0, .int .i64 0, .int .i64 0, .int .i64 0, .int .i64 0, .int .i64 0, .int .i64 0, .int .i64 0] 141)).alloc (.cells #[.int .i64 0, .int .i64 0, .int .i64 0, .int .i64 0, .int .i64 0, .int .i64 0, .int .i64 0, .int .i64 0, .int .i64 0, .int .i64 0, .int .i64 0, .int .i64 0, .int .i64 0, .int .i64 0, .int .i64 0, .int .i64 0, .int .i64 0, .int .i64 0, .int .i64 0, .int .i64 0, .int .i64 0, .int .i64 0, .int .i64 0, .int .i64 0, .int .i64 0, .int .i64 0, .int .i64 0, .int .i64 0, .int .i64 0, .int .i64 0, .int .i64 0, .int .i64 0] 141)) (.cells #[.slice none 0 0, (Value.func (.func 158) #[] #[])] 189); rw [World.size_alloc, World.size_alloc] at this; exact this
  · exact (((Below.refl _ _).alloc (Nat.le_refl _) _).alloc (by simp) _).alloc (by simp <;> omega) _
theorem hp_put {w : World} {p b o : Nat} {v : Value} {m : R} {hs : List R} (h : HP w p v hs) (hb : b ≠ p) (hv : some b ≠ v.ownBlock) : HP (put w b o m) p v hs := by
  unfold put; exact hp_other (hp_other (hp_other (hp_other h hb hv) hb hv) hb hv) hb hv
/-- Eight routes are read whole, written whole, handed back. -/
theorem wpList_loadA {ops : Array Oper} {rest : List Oper} {op : Oper} {a : Act} {w : World} {Q : Exit → Act → World → Prop} (x : Operand) (hgd : op.guard = none) (ho : op.op = .load 141 x) {b : Nat} {ws : List R} (hl : ws.length = 8) (hx : a.eval x = .pointer (some ⟨b, 0, none⟩)) (h : AV w b ws)
    (hk : wpList Tryz.prog ops Q rest (a.put op.dst (.agg (flat ws).toArray)) w) : wpList Tryz.prog ops Q (op :: rest) a w :=
  wpList_load_mid hgd 141 x ho b 0 hx (flat ws) _ h.range infoA.1 infoA.2.1 (by rw [infoA.2.2, flat_32 hl]) hk
theorem cells_below {B : Nat} {w0 : World} {b : Nat} (hb : B ≤ b) : ∀ (vs : List Value) (o : Nat) (w : World), Below B w0 w → Below B w0 (w.setCells b o vs)
  | [], _, w, h => h
  | v :: r, o, w, h => cells_below hb r (o + 1) _ (h.setCell (p := ⟨b, o, none⟩) hb v)
theorem wpList_storeA {ops : Array Oper} {rest : List Oper} {op : Oper} {a : Act} {w : World} {Q : Exit → Act → World → Prop} (x y : Operand) (hgd : op.guard = none) (ho : op.op = .store 141 x y) {b : Nat} {ws old : List R} (hl : ws.length = 8) (hl' : old.length = 8) (hx : a.eval x = .pointer (some ⟨b, 0, none⟩)) (hy : a.eval y = .agg (flat ws).toArray) (h : AV w b old)
    (hk : ∀ w', w'.rangeAt b 0 (flat ws) → (∀ B w0, Below B w0 w → B ≤ b → Below B w0 w') → wpList Tryz.prog ops Q rest (a.put op.dst undef) w') : wpList Tryz.prog ops Q (op :: rest) a w := by
  have ht : w.there b 0 (flat ws).toArray.size := by have := h.there; rw [flat_32 hl'] at this; simpa [flat_32 hl] using this
  refine wpList_store_mid hgd 141 x y ho b 0 (flat ws).toArray hx hy ht (by rw [infoA.2.2]; simp [flat_32 hl]) (all_oneCell_toArray (fun v hv => flat_one_cell hv)) (hk _ (World.rangeAt_setCells_same w b 0 _ (by simpa using ht)) (fun B w0 h hb => cells_below hb _ _ _ h))
theorem resultsA {fn : Func} {p : Tmp} (h : fn.results = #[.cell p 141]) (tmps : Array Value) (w : World) {b : Nat} {ws : List R} (hl : ws.length = 8) (hp : tmps.getD p undef = .pointer (some ⟨b, 0, none⟩)) (hg : w.rangeAt b 0 (flat ws)) : (results fn tmps).run Tryz.prog w = .ok (.agg (flat ws).toArray) w := by
  have hp' : tmps[p]?.getD undef = .pointer (some ⟨b, 0, none⟩) := by simpa using hp
  have hlv := run_loadVar_mid (P := Tryz.prog) w b 0 141 (flat ws) _ hg infoA.1 infoA.2.1 (by rw [infoA.2.2, flat_32 hl])
  simp only [results, h]
  simp [Sem.run_bind, hp', asAddr, hlv, Result.andThen]
set_option maxHeartbeats 32000000 in
theorem waysFrom (a : Option Addr) (g : List Tu.R) (cap : Nat) (f : Int) (w : World) (hg : graphB g = true) (hf : 1 ≤ f ∧ f ≤ 8) (hr : Tu.RM w a g) :
    Calls Tryz.prog 117 #[.slice a g.length cap, .int .i64 f] w fun e w' => e = .returned (.agg (flat (waysL g f)).toArray) ∧ Below w.heap.size w w' ∧ Good g f (best g f) ∧ ∀ v x, best g f v = some x → (1 ≤ v ∧ v ≤ 8) ∧ okN 8 x := by
  have HR := hide hr
  have HG := hide hg
  have h62 := two_len (graph_two hg)
  obtain ⟨a4, a5, ahp, ab⟩ := av_base w
  have HA4 := hide a4
  have HA5 := hide a5
  have HHP := hide ahp
  have HB0 := hide ab
  have HPU : Hid (Heap ([] : List R)) := hide (fun i _ hi => by simp at hi)
  clear hr hg a4 a5 ahp ab
  obtain ⟨n, hn⟩ : ∃ n, g.length = n := ⟨_, rfl⟩
  have HN := hide hn
  rw [hn] at h62 ⊢
  clear hn
  go_enter Tryz.func117, Tryz.ntmps117
  go_wp2_with fail
  refine (push (w.heap.size + 1 + 1) (.slice none 0 0) [] (zl f) _ (unhide HHP) (unhide HPU) (by simp)).mono ?_
  rintro e w1 ⟨rfl, v1, hs1, p1, q1, l1, m1, f1, _⟩
  have HP1 := hide p1
  have HS1 : Hid (Sta g f zs8 hs1) := hide (sta_start hf q1 (by simpa using l1) (fun y => by rw [m1]; simp))
  have fb := f1.below (unhide HHP)
  have HA51 := hide ((unhide HA5).under fb (by omega))
  have HA41 := hide ((unhide HA4).under fb (by omega))
  have HB1 := hide ((unhide HB0).trans (fb.mono (by omega)))
  have HK1 : Hid (65 * (8 - cntW (WL zs8)) + hs1.length ≤ 521) := hide (by rw [cnt_none _ zs8_wl]; simp at l1; omega)
  clear p1 q1 l1 m1 f1 fb HA4 HA5 HHP HB0 HPU
  generalize hB : w.heap.size = B at *
  have HBB := hide hB
  clear hB
  go_wp2_with fail
  go_loopg [] 521 (fun kx wr => ∃ (ws hs : List R) (v : Value), Hid (HP wr (B + 1 + 1) v hs) ∧ Hid (Sta g f ws hs) ∧ Hid (AV wr (B + 1) ws) ∧ Hid (AV wr B zs8) ∧ Hid (Below B w wr) ∧ Hid (65 * (8 - cntW (WL ws)) + hs.length ≤ kx))
  case atStart => exact ⟨zs8, hs1, v1, HP1, HS1, HA51, HA41, HB1, HK1⟩
  case round =>
    obtain ⟨ws, hs, v, hHP, hST, hA5, hA4, hbl, hkx⟩ := hrel
    by_cases hz : hs.length = 0
    · have hnil : hs = [] := List.eq_nil_of_length_eq_zero hz
      subst hnil
      have HD := hide (sta_done (unhide HG) (unhide hST))
      have hw : ws = waysL g f := (unhide HD).1
      rw [hw] at hA5
      have HL8 := hide (waysL_len g f)
      have HZ8 : Hid (zs8.length = 8) := hide rfl
      generalize hWS : waysL g f = WS at *
      have HWS := hide hWS
      clear hw hz hWS
      go_wp2_with fail
      refine (isEmpty _ _ [] _ (unhide hHP)).mono ?_
      rintro e w2 ⟨rfl, rfl⟩
      have hdz : (decide (([] : List R).length = 0)) = true := rfl
      rw [hdz]
      clear hdz
      go_wp2_with (first | (refine wpList_loadA _ rfl rfl (unhide HL8) rfl (unhide hA5) ?_) | (refine wpList_storeA _ _ rfl rfl (unhide HL8) (unhide HZ8) rfl rfl (unhide hA4) ?_; intro w9 hr9 hb9; have HR9 := hide hr9; have HB9 := hide (hb9 _ _ (unhide hbl) (Nat.le_refl _)); clear hr9 hb9))
      refine bodyPost_ret (resultsA rfl _ _ (unhide HL8) rfl (unhide HR9)) rfl ⟨by rw [unhide HWS], by rw [unhide HBB]; exact unhide HB9, (unhide HD).2⟩
    · have hpos : 0 < hs.length := by omega
      have HTM := hide (at_mem (hs := hs) (i := 0) hpos)
      have HTB := hide (sta_top (unhide hST) (unhide HTM))
      have HMN : Hid (∀ y ∈ hs, ¬ Bt y (at' hs 0)) := hide (fun y hy => heap_min (unhide hST).heap hy)
      have hsl : hs.length ≤ 600 := by have := (unhide hST).size; have := cnt_le (WL ws); omega
      have HWN := hide (unhide hST).len
      have HSK : Hid (∀ hs' : List R, (at' ws ((at' hs 0).ds - 1).toNat).ds ≠ 0 → Heap hs' → hs'.length + 1 = hs.length → (∀ y ∈ hs, y = at' hs 0 ∨ y ∈ hs') → (∀ y ∈ hs', y ∈ hs) → Sta g f ws hs') := hide (fun hs' h0 h1 h2 h3 h4 => sta_skip (unhide hST) (unhide HTM) h0 h1 h2 h3 h4)
      have HNW : Hid (∀ hs' hs2 : List R, (at' ws ((at' hs 0).ds - 1).toNat).ds = 0 → hs'.length + 1 = hs.length → (∀ y ∈ hs, y = at' hs 0 ∨ y ∈ hs') → (∀ y ∈ hs', y ∈ hs) → Heap hs2 → hs2.length ≤ hs'.length + g.length → (∀ y, y ∈ hs2 ↔ y ∈ hs' ∨ psh g (at' hs 0) g.length y) → Sta g f (ws.set ((at' hs 0).ds - 1).toNat (at' hs 0)) hs2) := hide (fun hs' hs2 h0 h1 h2 h3 h4 h5 h6 => sta_new (unhide HG) (unhide hST) (unhide HTM) (unhide HMN) h0 h1 h2 h3 h4 h5 h6)
      have HCN : Hid ((at' ws ((at' hs 0).ds - 1).toNat).ds = 0 → cntW (WL (ws.set ((at' hs 0).ds - 1).toNat (at' hs 0))) = cntW (WL ws) + 1) := hide (fun h0 => by
        rw [wl_set (unhide hST).len (unhide HTB).1]; exact cnt_up (unhide HTB).1.1 (unhide HTB).1.2 (wl_none h0))
      have HHE := hide (unhide hST).heap
      go_wp2_with fail
      refine (isEmpty _ _ hs _ (unhide hHP)).mono ?_
      rintro e w2 ⟨rfl, rfl⟩
      rw [decide_eq_false hz]
      go_wp2_with fail
      refine (pop _ _ hs _ (unhide hHP) (unhide HHE) hpos (by omega)).mono ?_
      rintro e w3 ⟨rfl, v3, hs3, p3, q3, l3, m3, n3, f3, x3⟩
      have fb := f3.below (unhide hHP)
      have HP3 := hide p3
      have HE3 := hide q3
      have HM3 := hide m3
      have HN3 := hide n3
      have HA53 := hide ((unhide hA5).under fb (by omega))
      have HA43 := hide ((unhide hA4).under fb (by omega))
      have HB3 := hide ((unhide hbl).trans (fb.mono (by omega)))
      have HSL3 := hide l3
      have hpl := p3.lt
      clear p3 q3 m3 n3 fb f3 x3 l3
      obtain ⟨b, hb⟩ : ∃ b, at' hs 0 = b := ⟨_, rfl⟩
      rw [hb] at HTB HSK HNW HCN HM3 HTM ⊢
      clear hb HMN
      obtain ⟨bd, bn, bc, bh⟩ := b
      rw [show R.value ⟨bd, bn, bc, bh⟩ = .agg #[.int .i64 bd, .int .i64 bn, .int .i64 bc, .int .i64 bh] from rfl]
      have htb := unhide HTB
      dsimp only at htb HSK HNW HCN
      obtain ⟨k, hk⟩ : ∃ k : Nat, bd = (k : Int) + 1 := ⟨(bd - 1).toNat, by omega⟩
      have hk8 : k < 8 := by omega
      have hkk : (bd - 1).toNat = k := by omega
      rw [hkk] at HSK HNW HCN
      have e1 : bd - 1 = (k : Int) := by omega
      have k0 : (0 : Int) ≤ (k : Int) := by omega
      have k8 : (k : Int) < 8 := by omega
      have wk : IntKind.i64.wrap (k : Int) = (k : Int) := by rw [IntKind.wrap_i64]; omega
      have HDK := hide hk
      clear hk hkk
      have HB4 : Hid (Below w3.heap.size w3 (w3.alloc (.cells #[.int .i64 bd, .int .i64 bn, .int .i64 bc, .int .i64 bh] 87))) := hide ((Below.refl _ _).alloc (Nat.le_refl _) _)
      have HP4 := hide ((unhide HP3).below (unhide HB4))
      have HA54 := hide ((unhide HA53).below (unhide HB4))
      have HA44 := hide ((unhide HA43).below (unhide HB4))
      have HBB4 : Hid (Below B w (w3.alloc (.cells #[.int .i64 bd, .int .i64 bn, .int .i64 bc, .int .i64 bh] 87))) := hide ((unhide HB3).trans ((unhide HB4).mono (by omega)))
      have HR4 := hide (rv_new w3 ⟨bd, bn, bc, bh⟩)
      have HQ4 : Hid (some w3.heap.size ≠ v3.ownBlock) := hide (fun e => by have := (unhide HP3).2.lt _ e.symm; omega)
      obtain ⟨a0, a1, a2, a3⟩ := (unhide HA54).at (i := k) (by rw [unhide HWN]; exact hk8)
      have g0 := (unhide HA54).free (k * 4)
      have g1 := (unhide HA54).free (k * 4 + 1)
      have g2 := (unhide HA54).free (k * 4 + 2)
      have g3 := (unhide HA54).free (k * 4 + 3)
      have hs4 : (w3.alloc (.cells #[.int .i64 bd, .int .i64 bn, .int .i64 bc, .int .i64 bh] 87)).heap.size = w3.heap.size + 1 := by simp
      clear HP3 HA53 HA43 HB3
      by_cases hd : (at' ws k).ds = 0
      · have hd' : ((at' ws k).ds != 0) = false := by simpa using hd
        have hcn := unhide HCN hd
        have HNW2 := hide (fun hs2 => unhide HNW hs3 hs2 hd (unhide HSL3) (unhide HM3) (unhide HN3))
        have hne1 : B + 1 ≠ B + 1 + 1 := by omega
        have HNE : Hid (some (B + 1) ≠ v3.ownBlock) := hide (fun e => by have := (unhide HP4).2.lt _ e.symm; omega)
        have hQB : w3.heap.size ≠ B + 1 := by omega
        have HA55 := hide ((unhide HA54).put (i := k) (by rw [unhide HWN]; exact hk8) ⟨bd, bn, bc, bh⟩)
        have HP5 := hide (hp_put (o := k * 4) (m := ⟨bd, bn, bc, bh⟩) (unhide HP4) hne1 (unhide HNE))
        have HA45 : Hid (AV (put (w3.alloc (.cells #[.int .i64 bd, .int .i64 bn, .int .i64 bc, .int .i64 bh] 87)) (B + 1) (k * 4) ⟨bd, bn, bc, bh⟩) B zs8) := hide ((put_other (show B ≠ B + 1 by omega)).trans (unhide HA44))
        have HR5 : Hid (RV (put (w3.alloc (.cells #[.int .i64 bd, .int .i64 bn, .int .i64 bc, .int .i64 bh] 87)) (B + 1) (k * 4) ⟨bd, bn, bc, bh⟩) w3.heap.size ⟨bd, bn, bc, bh⟩) := hide ((put_other hQB).trans (unhide HR4))
        have HB5 := hide (put_below (g := B + 1) (o := k * 4) (m := ⟨bd, bn, bc, bh⟩) (unhide HBB4) (by omega))
        have hs5 : (put (w3.alloc (.cells #[.int .i64 bd, .int .i64 bn, .int .i64 bc, .int .i64 bh] 87)) (B + 1) (k * 4) ⟨bd, bn, bc, bh⟩).heap.size = w3.heap.size + 1 := by rw [put_size]; exact hs4
        have HPW : Hid (put (w3.alloc (.cells #[.int .i64 bd, .int .i64 bn, .int .i64 bc, .int .i64 bh] 87)) (B + 1) (k * 4) ⟨bd, bn, bc, bh⟩ = (((((w3.alloc (.cells #[.int .i64 bd, .int .i64 bn, .int .i64 bc, .int .i64 bh] 87)).setCell ⟨B + 1, k * 4, none⟩ (.int .i64 bd)).setCell ⟨B + 1, k * 4 + 1, none⟩ (.int .i64 bn)).setCell ⟨B + 1, k * 4 + 2, none⟩ (.int .i64 bc)).setCell ⟨B + 1, k * 4 + 3, none⟩ (.int .i64 bh))) := hide rfl
        have HMJ : Hid (∀ y, y ∈ hs3 ↔ y ∈ hs3 ∨ psh g ⟨bd, bn, bc, bh⟩ 0 y) := hide (fun y => ⟨.inl, fun h => h.elim id (fun h => absurd h (psh_zero _ _ _))⟩)
        have HLJ : Hid (hs3.length ≤ hs3.length + 0) := hide (Nat.le_refl _)
        have HRM : Hid (∀ W, Below B w W → Tu.RM W a g) := hide (fun W h => (unhide HR).below (by rw [unhide HBB]; exact h))
        generalize hws : ws.set k ⟨bd, bn, bc, bh⟩ = ws2 at *
        clear hws
        clear HSK HNW HCN hd HA54 HA44 HBB4 HR4 HP4 hA5 hA4 hbl hHP HTM HHE hST HM3 HN3
        generalize (at' ws k).ds = dk at *
        generalize (at' ws k).nx = nk at *
        generalize (at' ws k).co = ck at *
        generalize (at' ws k).hp = pk at *
        go_wp2_with fail
        rw [← unhide HPW]
        generalize hW5 : put (w3.alloc (.cells #[.int .i64 bd, .int .i64 bn, .int .i64 bc, .int .i64 bh] 87)) (B + 1) (k * 4) ⟨bd, bn, bc, bh⟩ = W5 at *
        clear hW5 a0 a1 a2 a3 g0 g1 g2 g3 HPW
        generalize hQ : w3.heap.size = Q at *
        clear hQ
        go_loopw [32] (fun jv wr => ∃ (j : Nat) (L : List R) (v : Value), j ≤ n ∧ jv = .int .i64 (j : Int) ∧ Hid (HP wr (B + 1 + 1) v L) ∧ Hid (Heap L) ∧ Hid (L.length ≤ hs3.length + j) ∧ Hid (∀ y, y ∈ L ↔ y ∈ hs3 ∨ psh g ⟨bd, bn, bc, bh⟩ j y) ∧ Hid (AV wr (B + 1) ws2) ∧ Hid (AV wr B zs8) ∧ Hid (RV wr Q ⟨bd, bn, bc, bh⟩) ∧ Hid (some Q ≠ v.ownBlock) ∧ Hid (Below B w wr)) (fun jv _ => n - (intOf jv).toNat)
        case atStart => exact ⟨0, hs3, v3, by omega, rfl, HP5, HE3, HLJ, HMJ, HA55, HA45, HR5, HQ4, HB5⟩
        case round =>
          obtain ⟨j, L, v, hj, rfl, hHP, hHE, hLE, hME, hA5, hA4, hRV, hQV, hbl⟩ := hrel
          by_cases hlt : (j : Int) < (n : Int)
          · have k1 : (0 : Int) ≤ (j : Int) := by omega
            have hlen : j < g.length := by rw [unhide HN]; omega
            have HRr := hide (unhide HRM _ (unhide hbl))
            obtain ⟨ga, off, rfl⟩ := (unhide HRr).form (by omega)
            obtain ⟨c0, c1, c2⟩ := (unhide HRr).at hlen
            have hbd := St.ok_bounds (St.setB_ok (two_set (graph_two (unhide HG))) hlen)
            have hbk := ok_k (two_ok (graph_two (unhide HG)) _ (Tu.getD_mem hlen))
            have HPY : Hid (hv (g.getD j Tu.R.zero) = bd → ∀ y, psh g ⟨bd, bn, bc, bh⟩ (j + 1) y ↔ psh g ⟨bd, bn, bc, bh⟩ j y ∨ y = ext ⟨bd, bn, bc, bh⟩ (ha (g.getD j Tu.R.zero)) (g.getD j Tu.R.zero).val) := hide (fun h y => psh_yes hlen h y)
            have HPN : Hid (hv (g.getD j Tu.R.zero) ≠ bd → ∀ y, psh g ⟨bd, bn, bc, bh⟩ (j + 1) y ↔ psh g ⟨bd, bn, bc, bh⟩ j y) := hide (fun h y => psh_no hlen h y)
            unfold hv ha at HPY hbk
            unfold hv at HPN
            generalize g.getD j Tu.R.zero = m at *
            obtain ⟨key, til, val⟩ := m
            dsimp only at c0 c1 c2 hbd hbk HPY HPN
            have hpl2 := (unhide hHP).lt
            have hQl := (unhide hRV).lt
            have B6 : Hid (Below wr.heap.size wr (wr.alloc (.cells #[.int .i64 key, .int .i64 til, .int .i64 val] 99))) := hide ((Below.refl _ _).alloc (Nat.le_refl _) _)
            have HX6 := hide (Tw.bx_new wr ⟨key, til, val⟩ 99)
            have hs6 : (wr.alloc (.cells #[.int .i64 key, .int .i64 til, .int .i64 val] 99)).heap.size = wr.heap.size + 1 := by simp
            go_wp2_with fail
            refine (Ek.endsOfKey key _ (by omega) (by omega)).mono ?_
            rintro e w7 ⟨rfl, b7⟩
            generalize hhh : key.tdiv 100 = hh at *
            generalize haa : key.tmod 100 = aa at *
            clear hhh haa
            have hs7 := b7.size
            rw [hs6] at hs7
            have b8 : Below wr.heap.size wr (w7.alloc (.cells #[.int .i64 hh, .int .i64 aa] 194)) := ((unhide B6).trans (b7.mono (by omega))).alloc (by omega) _
            have HP8 := hide ((unhide hHP).below b8)
            have HA58 := hide ((unhide hA5).below b8)
            have HA48 := hide ((unhide hA4).below b8)
            have HR8 := hide ((unhide hRV).below b8)
            have HB8 := hide ((unhide hbl).trans (b8.mono (by omega)))
            have HX8 := hide (((unhide HX6).below b7).below ((Below.refl _ _).alloc (Nat.le_refl _) (.cells #[.int .i64 hh, .int .i64 aa] 194)))
            have hs8 : (w7.alloc (.cells #[.int .i64 hh, .int .i64 aa] 194)).heap.size = w7.heap.size + 1 := by simp
            obtain ⟨r0, r1, r2, r3⟩ := (unhide HR8).cells
            obtain ⟨y0, y1, y2⟩ := unhide HX8
            dsimp only at r0 r1 r2 r3 y0 y1 y2
            clear B6 HX6 b7 b8 c0 c1 c2 hHP hA5 hA4 hRV hbl HRr
            by_cases hhb : hh = bd
            · have hhb' : (hh == bd) = true := by simpa using hhb
              have HJ := hide (unhide HPY hhb)
              clear hhb HPY HPN
              go_wp2_with fail
              refine (longer ⟨bd, bn, bc, bh⟩ aa val _ (by dsimp only; omega) (by dsimp only; omega) (by omega)).mono ?_
              rintro e w9 ⟨rfl, b9⟩
              have HP9 := hide ((unhide HP8).below b9)
              have HA59 := hide ((unhide HA58).below b9)
              have HA49 := hide ((unhide HA48).below b9)
              have HR9 := hide ((unhide HR8).below b9)
              have HB9 := hide ((unhide HB8).trans (b9.mono (by omega)))
              have hs9 := b9.size
              rw [hs8] at hs9
              clear b9 HP8 HA58 HA48 HR8 HB8 r0 r1 r2 r3 y0 y1 y2 HX8
              generalize ext ⟨bd, bn, bc, bh⟩ aa val = z at *
              go_wp2_with fail
              refine (push _ _ L z _ (unhide HP9) (unhide hHE) (by have := unhide hLE; have := unhide HSL3; omega)).mono ?_
              rintro e w10 ⟨rfl, v', L', p10, q10, l10, m10, f10, x10⟩
              have fb := f10.below (unhide HP9)
              have HP10 := hide p10
              have HE10 := hide q10
              have HLJ2 : Hid (L'.length ≤ hs3.length + (j + 1)) := hide (by have := unhide hLE; omega)
              have HMJ2 : Hid (∀ y, y ∈ L' ↔ y ∈ hs3 ∨ psh g ⟨bd, bn, bc, bh⟩ (j + 1) y) := hide (fun y => by rw [m10, unhide hME, unhide HJ, or_assoc])
              have HA510 := hide ((unhide HA59).under fb (by omega))
              have HA410 := hide ((unhide HA49).under fb (by omega))
              have HB10 := hide ((unhide HB9).trans (fb.mono (by omega)))
              have HR10 := hide (rv_frm (unhide HR9) f10 (by omega) (unhide hQV))
              have HQ10 : Hid (some Q ≠ v'.ownBlock) := hide (by
                rcases x10 with e | e | ⟨t, e, ht⟩
                · rw [e]; exact unhide hQV
                · rw [e]; simp
                · rw [e]; intro e'; cases e'; omega)
              clear p10 q10 l10 m10 f10 x10 fb
              go_wp2_with fail
              go_roundw
              case rel => exact ⟨j + 1, L', v', by omega, by go_num, HP10, HE10, HLJ2, HMJ2, HA510, HA410, HR10, HQ10, HB10⟩
              case measure => simp [intOf]; omega
            · have hhb' : (hh == bd) = false := by simpa using hhb
              have HJ := hide (unhide HPN hhb)
              have HMJ2 : Hid (∀ y, y ∈ L ↔ y ∈ hs3 ∨ psh g ⟨bd, bn, bc, bh⟩ (j + 1) y) := hide (fun y => by rw [unhide hME, unhide HJ])
              have HLJ2 : Hid (L.length ≤ hs3.length + (j + 1)) := hide (by have := unhide hLE; omega)
              clear hhb HPY HPN
              go_wp2_with fail
              go_roundw
              case rel => exact ⟨j + 1, L, v, by omega, by go_num, HP8, hHE, HLJ2, HMJ2, HA58, HA48, HR8, hQV, HB8⟩
              case measure => simp [intOf]; omega
          · obtain rfl : j = n := by omega
            have HS2 := hide (unhide HNW2 L (unhide hHE) (by rw [unhide HN]; exact unhide hLE) (fun y => by rw [unhide HN]; exact unhide hME y))
            have hm2 : 65 * (8 - cntW (WL ws2)) + L.length < gk := by
              have h1 := unhide hkx; have h2 := unhide HSL3; have h3 := unhide hLE; have h4 := cnt_le (WL ws2)
              omega
            go_wp2_with fail
            go_roundg (65 * (8 - cntW (WL ws2)) + L.length)
            case measure => exact hm2
            case rel => exact ⟨ws2, L, v, hHP, HS2, hA5, hA4, hbl, hide (Nat.le_refl _)⟩
      · have hd' : ((at' ws k).ds != 0) = true := by simpa using hd
        have HS2 := hide (unhide HSK hs3 hd (unhide HE3) (unhide HSL3) (unhide HM3) (unhide HN3))
        have hm2 : 65 * (8 - cntW (WL ws)) + hs3.length < gk := by have := unhide hkx; have := unhide HSL3; omega
        have HK2 : Hid (65 * (8 - cntW (WL ws)) + hs3.length ≤ 65 * (8 - cntW (WL ws)) + hs3.length) := hide (Nat.le_refl _)
        generalize (at' ws k).ds = dk at *
        generalize (at' ws k).nx = nk at *
        generalize (at' ws k).co = ck at *
        generalize (at' ws k).hp = pk at *
        go_wp2_with fail
        go_roundg (65 * (8 - cntW (WL ws)) + hs3.length)
        case measure => exact hm2
        case rel => exact ⟨ws, hs3, v3, HP4, HS2, HA54, HA44, HBB4, HK2⟩
end Wd
end Go.Proofs.YtfooahhdikobeaaGreat
namespace Go.Proofs.YtfooahhdikobeaaGreat
open Go.ChangeShapes Go.WideShapes Go.ChangeAt Go.RowKit
set_option linter.unusedVariables false
set_option linter.unusedSimpArgs false
set_option maxRecDepth 100000
attribute [local go_sem ↓] Go.wp_at_zero Go.wp_at_succ
namespace Wd
open W1 Ro Rw Tw
/-- What Distances, RoutesOf answer. -/
def dstV (x : R) : Int := if x.ds = 0 then -1 else x.co
def keptB (f : Int) (x : R) : Bool := x.ds != 0 && x.ds != f
noncomputable def rouL (g : List Tu.R) (f : Int) : List R := (waysL g f).filter (keptB f)
noncomputable def rouA (g : List Tu.R) (f : Int) : List R := if codeG g f = 0 then rouL g f else []
theorem rouL_len (g : List Tu.R) (f : Int) : (rouL g f).length ≤ 8 := by have := List.length_filter_le (keptB f) (waysL g f); rw [waysL_len] at this; exact this
theorem tk1 {α : Type} (z : α) {xs : List α} {j : Nat} (h : j < xs.length) : xs.take (j + 1) = xs.take j ++ [xs.getD j z] := by
  rw [List.take_add_one, List.getElem?_eq_getElem h, List.getD_eq_getElem?_getD, List.getElem?_eq_getElem h]; rfl
theorem eight {ws : List R} (h : ws.length = 8) : ∃ a b c d e f g i, ws = [a, b, c, d, e, f, g, i] := by
  match ws, h with
  | [a, b, c, d, e, f, g, i], _ => exact ⟨a, b, c, d, e, f, g, i, rfl⟩
theorem idx0 (a b c d e f g i : R) (W : World) : (Instr.index 141 (.agg (flat [a, b, c, d, e, f, g, i]).toArray) (.int .i64 0)).run Tryz.prog W = .ok a.value W := by kernel_rfl
theorem idx1 (a b c d e f g i : R) (W : World) : (Instr.index 141 (.agg (flat [a, b, c, d, e, f, g, i]).toArray) (.int .i64 1)).run Tryz.prog W = .ok b.value W := by kernel_rfl
theorem idx2 (a b c d e f g i : R) (W : World) : (Instr.index 141 (.agg (flat [a, b, c, d, e, f, g, i]).toArray) (.int .i64 2)).run Tryz.prog W = .ok c.value W := by kernel_rfl
theorem idx3 (a b c d e f g i : R) (W : World) : (Instr.index 141 (.agg (flat [a, b, c, d, e, f, g, i]).toArray) (.int .i64 3)).run Tryz.prog W = .ok d.value W := by kernel_rfl
theorem idx4 (a b c d e f g i : R) (W : World) : (Instr.index 141 (.agg (flat [a, b, c, d, e, f, g, i]).toArray) (.int .i64 4)).run Tryz.prog W = .ok e.value W := by kernel_rfl
theorem idx5 (a b c d e f g i : R) (W : World) : (Instr.index 141 (.agg (flat [a, b, c, d, e, f, g, i]).toArray) (.int .i64 5)).run Tryz.prog W = .ok f.value W := by kernel_rfl
theorem idx6 (a b c d e f g i : R) (W : World) : (Instr.index 141 (.agg (flat [a, b, c, d, e, f, g, i]).toArray) (.int .i64 6)).run Tryz.prog W = .ok g.value W := by kernel_rfl
theorem idx7 (a b c d e f g i : R) (W : World) : (Instr.index 141 (.agg (flat [a, b, c, d, e, f, g, i]).toArray) (.int .i64 7)).run Tryz.prog W = .ok i.value W := by kernel_rfl
theorem idxA (ws : List R) (hl : ws.length = 8) (i : Nat) (hi : i < 8) (W : World) : (Instr.index 141 (.agg (flat ws).toArray) (.int .i64 (i : Int))).run Tryz.prog W = .ok (at' ws i).value W := by
  obtain ⟨a, b, c, d, e, f, g, h, rfl⟩ := eight hl
  have h8 : i = 0 ∨ i = 1 ∨ i = 2 ∨ i = 3 ∨ i = 4 ∨ i = 5 ∨ i = 6 ∨ i = 7 := by omega
  rcases h8 with rfl | rfl | rfl | rfl | rfl | rfl | rfl | rfl
  · exact idx0 a b c d e f g h W
  · exact idx1 a b c d e f g h W
  · exact idx2 a b c d e f g h W
  · exact idx3 a b c d e f g h W
  · exact idx4 a b c d e f g h W
  · exact idx5 a b c d e f g h W
  · exact idx6 a b c d e f g h W
  · exact idx7 a b c d e f g h W
end Wd
end Go.Proofs.YtfooahhdikobeaaGreat
namespace Go.Proofs.YtfooahhdikobeaaGreat
open Go.ChangeShapes Go.WideShapes Go.ChangeAt Go.RowKit
set_option linter.unusedVariables false
set_option linter.unusedSimpArgs false
set_option maxRecDepth 100000
attribute [local go_sem ↓] Go.wp_at_zero Go.wp_at_succ
namespace Wd
open W1 Ro Rw Tw
set_option maxHeartbeats 8000000 in
theorem implRoutes (a : Option Addr) (g : List Tu.R) (cap : Nat) (f : Int) (w : World) (hm : g.length ≤ 1048576) (hr : Tu.RM w a g) :
    Calls Tryz.prog 71 #[.slice a g.length cap, .int .i64 f] w fun e w' => ∃ v, e = .returned (.tuple #[v, .int .i64 (codeG g f)]) ∧ Below w.heap.size w w' ∧ LstV w' v (rouA g f) w.heap.size w'.heap.size := by
  have HR := hide hr
  clear hr
  by_cases hc : codeG g f = 0
  rotate_left
  · have h1 : rouA g f = [] := by unfold rouA; rw [if_neg hc]
    rw [h1]
    clear h1
    obtain ⟨cd, hcd⟩ : ∃ cd, codeG g f = cd := ⟨_, rfl⟩
    have HC := hide hcd
    rw [hcd] at hc ⊢
    have q1 : (cd != 0) = true := by simpa using hc
    clear hcd hc
    go_enter Tryz.func71, Tryz.ntmps71
    go_wp2_with fail
    refine (graphCode _ g cap f _ hm (unhide HR)).mono ?_
    rintro e w1 ⟨rfl, b1⟩
    rw [unhide HC]
    have HB1 := hide b1
    clear b1
    go_wp2_with fail
    go_ret2
    exact ⟨_, rfl, unhide HB1, lstV_nil _ _ _ _ _⟩
  have h1 : rouA g f = rouL g f := by unfold rouA; rw [if_pos hc]
  rw [h1, hc]
  have HC := hide hc
  have HOK := hide (codeG_ok hc)
  clear h1 hc
  have HL8 := hide (waysL_len g f)
  have HDL : Hid (rouL g f = (waysL g f).filter (keptB f)) := hide rfl
  have HWF : Hid (∀ W, Tu.RM W a g → Calls Tryz.prog 117 #[.slice a g.length cap, .int .i64 f] W fun e w' => e = .returned (.agg (flat (waysL g f)).toArray) ∧ Below W.heap.size W w' ∧ Good g f (best g f) ∧ ∀ v x, best g f v = some x → (1 ≤ v ∧ v ≤ 8) ∧ okN 8 x) := hide (fun W h => waysFrom a g cap f W (unhide HOK).1 (unhide HOK).2 h)
  obtain ⟨DL, hDL⟩ : ∃ DL, rouL g f = DL := ⟨_, rfl⟩
  rw [hDL] at HDL ⊢
  clear hDL
  generalize waysL g f = ws at *
  go_enter Tryz.func71, Tryz.ntmps71
  go_wp2_with fail
  refine (graphCode _ g cap f _ hm (unhide HR)).mono ?_
  rintro e w1 ⟨rfl, b1⟩
  rw [unhide HC]
  have HB1 := hide b1
  have HR1 := hide ((unhide HR).below b1)
  have hs1 := b1.size
  clear b1
  have OW : Hid (w1.ownsRow w1.heap.size 87 4 (.slice none 0 0) ((ws.take 0).filter (keptB f)).length (flat ((ws.take 0).filter (keptB f)))) := hide (own_nil w1 w1.heap.size)
  go_wp2_with fail
  refine (unhide HWF _ (unhide HR1)).mono ?_
  rintro e w2 ⟨rfl, b2, _, _⟩
  have HB2 := hide ((unhide HB1).trans (b2.mono hs1))
  have OW2 : Hid (w2.ownsRow w1.heap.size 87 4 (.slice none 0 0) ((ws.take 0).filter (keptB f)).length (flat ((ws.take 0).filter (keptB f)))) := hide (own_nil w2 w1.heap.size)
  have hs2 := b2.size
  clear b2 OW HR1 HB1 HWF
  have HIX : Hid (∀ (i : Nat) W, i < 8 → (Instr.index 141 (.agg (flat ws).toArray) (.int .i64 (i : Int))).run Tryz.prog W = .ok (at' ws i).value W) := hide (fun i W h => idxA ws (unhide HL8) i h W)
  have HTY : Hid (∀ j, j < 8 → keptB f (at' ws j) = true → (ws.take (j + 1)).filter (keptB f) = (ws.take j).filter (keptB f) ++ [at' ws j]) := hide (fun j hj hk => by
    rw [tk1 R.zero (by rw [unhide HL8]; exact hj), List.filter_append, show ws.getD j R.zero = at' ws j from rfl, List.filter_cons_of_pos hk]; rfl)
  have HTN : Hid (∀ j, j < 8 → keptB f (at' ws j) = false → (ws.take (j + 1)).filter (keptB f) = (ws.take j).filter (keptB f)) := hide (fun j hj hk => by
    rw [tk1 R.zero (by rw [unhide HL8]; exact hj), List.filter_append, List.filter_cons_of_neg (by rw [show ws.getD j R.zero = at' ws j from rfl, hk]; simp)]; simp)
  have HTL : Hid (∀ j, ((ws.take j).filter (keptB f)).length ≤ 8) := hide (fun j => by have := List.length_filter_le (keptB f) (ws.take j); rw [List.length_take, unhide HL8] at this; omega)
  have HFL : Hid ((ws.take 8).filter (keptB f) = DL) := hide (by rw [List.take_of_length_le (by rw [unhide HL8]; exact Nat.le_refl _)]; exact (unhide HDL).symm)
  generalize hAG : Value.agg (flat ws).toArray = AG at *
  clear hAG
  go_wp2_with fail
  go_loopw [7, 19] (fun v iv wr => ∃ j : Nat, j ≤ 8 ∧ iv = .int .i64 (j : Int) ∧ Hid (wr.ownsRow w1.heap.size 87 4 v ((ws.take j).filter (keptB f)).length (flat ((ws.take j).filter (keptB f)))) ∧ Hid (Below w.heap.size w wr) ∧ Hid (w1.heap.size ≤ wr.heap.size)) (fun _ iv _ => 8 - (intOf iv).toNat)
  case atStart => exact ⟨0, by omega, rfl, OW2, HB2, hide (by omega)⟩
  case round =>
    obtain ⟨j, hj, rfl, how, hbl, hsz⟩ := hrel
    have hsz' := unhide hsz
    by_cases hlt : (j : Int) < 8
    · have hx : ∀ W, (Instr.index 141 AG (.int .i64 (j : Int))).run Tryz.prog W = .ok (at' ws j).value W := fun W => unhide HIX j W (by omega)
      have HTy := hide (unhide HTY j (by omega))
      have HTn := hide (unhide HTN j (by omega))
      have HTJ := unhide HTL j
      generalize hx2 : at' ws j = x at *
      clear hx2
      obtain ⟨xa, xn, xc, xh⟩ := x
      rw [show R.value ⟨xa, xn, xc, xh⟩ = .agg #[.int .i64 xa, .int .i64 xn, .int .i64 xc, .int .i64 xh] from rfl] at hx
      unfold keptB at HTy HTn
      dsimp only at HTy HTn
      have hbs := (unhide hbl).size
      have HBA := hide ((unhide hbl).alloc hbs (.cells #[.int .i64 xa, .int .i64 xn, .int .i64 xc, .int .i64 xh] 87))
      have HOA := hide ((unhide how).alloc (.cells #[.int .i64 xa, .int .i64 xn, .int .i64 xc, .int .i64 xh] 87))
      have HZA : Hid (w1.heap.size ≤ (wr.alloc (.cells #[.int .i64 xa, .int .i64 xn, .int .i64 xc, .int .i64 xh] 87)).heap.size) := hide (by simp; omega)
      cases hd : (xa != 0)
      · have HTF := hide (unhide HTn (by rw [hd]; rfl))
        have HO : Hid ((wr.alloc (.cells #[.int .i64 xa, .int .i64 xn, .int .i64 xc, .int .i64 xh] 87)).ownsRow w1.heap.size 87 4 u7 ((ws.take (j + 1)).filter (keptB f)).length (flat ((ws.take (j + 1)).filter (keptB f)))) := hide (by unfold keptB; rw [unhide HTF]; exact unhide HOA)
        clear HTy HTn
        go_wp2_with fail
        go_roundw
        case rel => exact ⟨j + 1, by omega, by go_num, HO, HBA, HZA⟩
        case measure => simp [intOf]; omega
      · cases hd2 : (xa != f)
        · have HTF := hide (unhide HTn (by rw [hd, hd2]; rfl))
          have HO : Hid ((wr.alloc (.cells #[.int .i64 xa, .int .i64 xn, .int .i64 xc, .int .i64 xh] 87)).ownsRow w1.heap.size 87 4 u7 ((ws.take (j + 1)).filter (keptB f)).length (flat ((ws.take (j + 1)).filter (keptB f)))) := hide (by unfold keptB; rw [unhide HTF]; exact unhide HOA)
          clear HTy HTn
          go_wp2_with fail
          go_roundw
          case rel => exact ⟨j + 1, by omega, by go_num, HO, HBA, HZA⟩
          case measure => simp [intOf]; omega
        · have HTF := hide (unhide HTy (by rw [hd, hd2]; rfl))
          clear HTy HTn
          go_wp2_with (at_builtin; refine wpList_apS ((unhide HOA).alloc _) (wr.heap.size + 1) 0 1 1 [(⟨xa, xn, xc, xh⟩ : R)] rfl (by have := rm_new (wr.alloc (.cells #[.int .i64 xa, .int .i64 xn, .int .i64 xc, .int .i64 xh] 87)) ⟨xa, xn, xc, xh⟩; simpa using this) (by simp only [List.length_cons, List.length_nil]; omega) (by simp; omega) rfl _ _ rfl rfl rfl ?_; intro v' w' ho hg; have HO : Hid (w'.ownsRow w1.heap.size 87 4 v' ((ws.take (j + 1)).filter (keptB f)).length (flat ((ws.take (j + 1)).filter (keptB f)))) := hide (by unfold keptB; rw [unhide HTF]; exact ho); have HZ : Hid (w1.heap.size ≤ w'.heap.size) := hide (by have := hg.size; simp at this; omega); have HB := hide (below_own ((unhide HBA).alloc (by simp; omega) _) ((unhide HOA).alloc _) hg hs1 (by simp; omega)); clear ho hg)
          go_roundw
          case rel => exact ⟨j + 1, by omega, by go_num, HO, HB, HZ⟩
          case measure => simp [intOf]; omega
    · obtain rfl : j = 8 := by omega
      have HL : Hid (LstV wr u7 DL w.heap.size wr.heap.size) := hide (by
        have := lst_own rfl (unhide how)
        rw [unhide HFL] at this
        exact this.mono hs1 (Nat.le_refl _))
      go_wp2_with fail
      go_ret2
      exact ⟨_, rfl, unhide hbl, unhide HL⟩
end Wd
end Go.Proofs.YtfooahhdikobeaaGreat
namespace Go.Proofs.YtfooahhdikobeaaGreat
set_option linter.unusedVariables false
set_option linter.unusedSimpArgs false
namespace Wd
open W1 Ro Tw
/-- A mark; whose way is known; what lies open. -/
def dn (ds : List Bool) (a : Nat) : Bool := ds.getD a false
def WM (bs : List R) (ds : List Bool) (v : Int) : Option R := if 1 ≤ v ∧ v ≤ 8 then (if dn ds v.toNat = true then some (at' bs v.toNat) else none) else none
def opn (bs : List R) (ds : List Bool) (a : Nat) : Prop := dn ds a = false ∧ 0 ≤ (at' bs a).co
def HM (bs : List R) (ds : List Bool) (x : R) : Prop := ∃ a, 1 ≤ a ∧ a ≤ 8 ∧ opn bs ds a ∧ x = at' bs a
def nul (a : Nat) : R := ⟨(a : Int), 0, -1, 0⟩
theorem dn_set {ds : List Bool} {k : Nat} (h : k < ds.length) (a : Nat) : dn (ds.set k true) a = if a = k then true else dn ds a := by
  unfold dn
  simp only [List.getD_eq_getElem?_getD, List.getElem?_set]
  by_cases e : a = k
  · subst e; simp [h]
  · rw [if_neg (by omega), if_neg e]
theorem wm_at {bs : List R} {ds : List Bool} {a : Nat} (h1 : 1 ≤ a) (h8 : a ≤ 8) (h : dn ds a = true) : WM bs ds (a : Int) = some (at' bs a) := by
  unfold WM; rw [if_pos (by omega), Int.toNat_natCast, if_pos h]
theorem wm_none {bs : List R} {ds : List Bool} {a : Nat} (h : dn ds a = false) : WM bs ds (a : Int) = none := by
  unfold WM; rw [Int.toNat_natCast, h]; simp
/-- The state of the model's search. -/
structure StM (g : List Tu.R) (f : Int) (bs : List R) (ds : List Bool) : Prop where
  len : bs.length = 9
  len' : ds.length = 9
  tag : ∀ a : Nat, a ≤ 8 → (at' bs a).ds = (a : Int)
  neg : ∀ a : Nat, a ≤ 8 → (at' bs a).co < 0 → at' bs a = nul a
  nut : at' bs 0 = nul 0
  inv : Inv g f (WM bs ds) (HM bs ds)
  ok : ∀ a : Nat, 1 ≤ a → a ≤ 8 → 0 ≤ (at' bs a).co → okN (cntW (WM bs ds)) (at' bs a)
  dco : ∀ a : Nat, 1 ≤ a → a ≤ 8 → dn ds a = true → 0 ≤ (at' bs a).co
def bs9 (j : Nat) : List R := (List.range 9).map (fun a => if a < j then nul a else R.zero)
def fs9 : List Bool := [false, false, false, false, false, false, false, false, false]
theorem bs9_len (j : Nat) : (bs9 j).length = 9 := by unfold bs9; simp
theorem bs9_at {j a : Nat} (h : a < 9) : at' (bs9 j) a = if a < j then nul a else R.zero := by
  unfold at' bs9; rw [List.getD_eq_getElem?_getD, List.getElem?_map, List.getElem?_range h]; rfl
theorem at_ext {xs ys : List R} (hx : xs.length = ys.length) (h : ∀ i, i < xs.length → at' xs i = at' ys i) : xs = ys := by
  apply List.ext_getElem hx
  intro i h1 h2
  have := h i h1
  unfold at' at this
  rw [List.getD_eq_getElem?_getD, List.getD_eq_getElem?_getD, List.getElem?_eq_getElem h1, List.getElem?_eq_getElem h2] at this
  exact this
theorem bs9_step {j : Nat} (h : j < 9) : (bs9 j).set j (nul j) = bs9 (j + 1) := by
  refine at_ext (by rw [List.length_set, bs9_len, bs9_len]) (fun i hi => ?_)
  rw [List.length_set, bs9_len] at hi
  rw [at_set (by rw [bs9_len]; exact h), bs9_at hi, bs9_at hi]
  by_cases e : i = j
  · subst e; rw [if_pos rfl, if_pos (by omega)]
  · rw [if_neg e]
    by_cases e2 : i < j
    · rw [if_pos e2, if_pos (by omega)]
    · rw [if_neg e2, if_neg (by omega)]
theorem fs9_dn (a : Nat) : dn fs9 a = false := by
  unfold dn fs9
  match a with
  | 0 | 1 | 2 | 3 | 4 | 5 | 6 | 7 | 8 => rfl
  | n + 9 => simp
/-- At the beginning: all at -1 but one's own, at 0. -/
def bsF (f : Nat) : List R := (bs9 9).set f ⟨(f : Int), 0, 0, 0⟩
theorem bsF_at {f a : Nat} (hf : f < 9) (h : a < 9) : at' (bsF f) a = if a = f then zl (f : Int) else nul a := by
  unfold bsF; rw [at_set (by rw [bs9_len]; exact hf), bs9_at h, if_pos h]; rfl
theorem stm_start {g : List Tu.R} {f : Nat} (hf : 1 ≤ f ∧ f ≤ 8) : StM g (f : Int) (bsF f) fs9 := by
  have hW : WM (bsF f) fs9 = fun _ => none := funext (fun v => by unfold WM; rw [fs9_dn]; simp)
  have hH : HM (bsF f) fs9 = fun x => x = zl (f : Int) := funext (fun x => propext ⟨fun ⟨a, h1, h8, ho, e⟩ => by
      rw [bsF_at (by omega) (by omega)] at e
      by_cases ha : a = f
      · rw [if_pos ha] at e; exact e
      · have := ho.2; rw [bsF_at (by omega) (by omega), if_neg ha] at this; unfold nul at this; dsimp only at this; omega,
    fun e => ⟨f, hf.1, hf.2, ⟨fs9_dn f, by rw [bsF_at (by omega) (by omega), if_pos rfl]; exact Int.le_refl _⟩, by rw [bsF_at (by omega) (by omega), if_pos rfl]; exact e⟩⟩)
  refine ⟨by unfold bsF; rw [List.length_set, bs9_len], rfl, fun a ha => ?_, fun a ha h => ?_, ?_, ?_, fun a h1 h8 h => ?_, fun a _ _ h => ?_⟩
  · rw [bsF_at (by omega) (by omega)]; split
    · rename_i e; subst e; rfl
    · rfl
  · rw [bsF_at (by omega) (by omega)] at h ⊢
    split at h
    · unfold zl at h; dsimp only at h; omega
    · rename_i e; rw [if_neg e]
  · rw [bsF_at (by omega) (by omega), if_neg (by omega)]
  · rw [hW, hH]; exact inv_start g _
  · rw [bsF_at (by omega) (by omega)] at h ⊢
    by_cases e : a = f
    · rw [if_pos e]; exact okN_mono (by omega) (okN_zl (by omega))
    · rw [if_neg e] at h; unfold nul at h; dsimp only at h; omega
  · rw [fs9_dn] at h; cases h
/-- The best that lies open, the first of such, of the first j. -/
def canB (bs : List R) (ds : List Bool) (k a : Nat) : Bool := !dn ds a && decide (0 ≤ (at' bs a).co) && (k == 0 || btB (at' bs a) (at' bs k))
def pk (bs : List R) (ds : List Bool) : Nat → Nat
  | 0 => 0
  | a + 1 => if canB bs ds (pk bs ds a) (a + 1) = true then a + 1 else pk bs ds a
theorem pk_le (bs : List R) (ds : List Bool) : ∀ j, pk bs ds j ≤ j
  | 0 => Nat.le_refl _
  | j + 1 => by unfold pk; split; exact Nat.le_refl _; have := pk_le bs ds j; omega
theorem can_iff {bs : List R} {ds : List Bool} {k a : Nat} : canB bs ds k a = true ↔ opn bs ds a ∧ (k = 0 ∨ Bt (at' bs a) (at' bs k)) := by
  unfold canB opn
  rw [Bool.and_eq_true, Bool.and_eq_true, Bool.or_eq_true, btB_iff]
  simp
theorem pk_spec (bs : List R) (ds : List Bool) : ∀ j, (pk bs ds j = 0 ∧ ∀ a, 1 ≤ a → a ≤ j → ¬ opn bs ds a) ∨ (1 ≤ pk bs ds j ∧ opn bs ds (pk bs ds j) ∧ ∀ a, 1 ≤ a → a ≤ j → opn bs ds a → ¬ Bt (at' bs a) (at' bs (pk bs ds j)))
  | 0 => .inl ⟨rfl, fun a h1 h2 => by omega⟩
  | j + 1 => by
    have ih := pk_spec bs ds j
    have hlast : ∀ a, a ≤ j + 1 → a = j + 1 ∨ a ≤ j := fun a h => by omega
    unfold pk
    by_cases hc : canB bs ds (pk bs ds j) (j + 1) = true
    · rw [if_pos hc]
      obtain ⟨ho, hb⟩ := can_iff.1 hc
      refine .inr ⟨by omega, ho, fun a h1 h2 hoa => ?_⟩
      rcases hlast a h2 with rfl | h2
      · exact no_self _
      · rcases ih with ⟨h0, hn⟩ | ⟨h0, ho', hm⟩
        · exact absurd hoa (hn a h1 h2)
        · rcases hb with e | hb
          · omega
          · exact no_trans (bt_no hb) (hm a h1 h2 hoa)
    · rw [if_neg hc]
      have hc' : ¬ (opn bs ds (j + 1) ∧ (pk bs ds j = 0 ∨ Bt (at' bs (j + 1)) (at' bs (pk bs ds j)))) := fun h => hc (can_iff.2 h)
      rcases ih with ⟨h0, hn⟩ | ⟨h0, ho', hm⟩
      · refine .inl ⟨h0, fun a h1 h2 hoa => ?_⟩
        rcases hlast a h2 with rfl | h2
        · exact hc' ⟨hoa, .inl h0⟩
        · exact hn a h1 h2 hoa
      · refine .inr ⟨h0, ho', fun a h1 h2 hoa => ?_⟩
        rcases hlast a h2 with rfl | h2
        · exact fun hb => hc' ⟨hoa, .inr hb⟩
        · exact hm a h1 h2 hoa
/-- What the first j edges make of the routes. -/
def betB (bs : List R) (ds : List Bool) (x : R) (a : Nat) : Bool := !dn ds a && (decide ((at' bs a).co < 0) || btB x (at' bs a))
def rl1 (b : R) (ds : List Bool) (B : List R) (m : Tu.R) : List R := if hv m = b.ds ∧ betB B ds (ext b (ha m) m.val) (ha m).toNat = true then B.set (ha m).toNat (ext b (ha m) m.val) else B
def rl (g : List Tu.R) (b : R) (ds : List Bool) (bs : List R) : Nat → List R
  | 0 => bs
  | j + 1 => rl1 b ds (rl g b ds bs j) (g.getD j Tu.R.zero)
theorem bet_iff {bs : List R} {ds : List Bool} {x : R} {a : Nat} : betB bs ds x a = true ↔ dn ds a = false ∧ ((at' bs a).co < 0 ∨ Bt x (at' bs a)) := by
  unfold betB; rw [Bool.and_eq_true, Bool.or_eq_true, btB_iff]; simp
structure RlI (g : List Tu.R) (b : R) (ds : List Bool) (bs B : List R) (j : Nat) : Prop where
  len : B.length = 9
  keep : ∀ a : Nat, a ≤ 8 → at' B a = at' bs a ∨ 1 ≤ a ∧ dn ds a = false ∧ ∃ c, Ed g b.ds (a : Int) c ∧ at' B a = ext b (a : Int) c
  impr : ∀ a : Nat, a ≤ 8 → 0 ≤ (at' bs a).co → 0 ≤ (at' B a).co ∧ ¬ Bt (at' bs a) (at' B a)
  best : ∀ m ∈ g.take j, hv m = b.ds → dn ds (ha m).toNat = false → 0 ≤ (at' B (ha m).toNat).co ∧ ¬ Bt (ext b (ha m) m.val) (at' B (ha m).toNat)
theorem rl_inv {g : List Tu.R} (hg : graphB g = true) {b : R} (hb : 0 ≤ b.co) {ds : List Bool} {bs : List R} (hl : bs.length = 9) : ∀ j, j ≤ g.length → RlI g b ds bs (rl g b ds bs j) j
  | 0, _ => ⟨hl, fun a _ => .inl rfl, fun a _ h => ⟨h, no_self _⟩, fun m hm => by simp at hm⟩
  | j + 1, hj => by
    have ih := rl_inv hg hb (ds := ds) hl j (by omega)
    have hlen : j < g.length := by omega
    have hk := ok_k (two_ok (graph_two hg) _ (Tu.getD_mem hlen))
    have hpos := graph_pos hg _ (Tu.getD_mem hlen)
    have hmem : g.getD j Tu.R.zero ∈ g := Tu.getD_mem hlen
    have htk := take_one hlen
    unfold rl rl1
    generalize g.getD j Tu.R.zero = m at *
    generalize rl g b ds bs j = B at *
    obtain ⟨t, ht⟩ : ∃ t : Nat, ha m = (t : Int) := ⟨(ha m).toNat, by omega⟩
    have ht8 : 1 ≤ t ∧ t ≤ 8 := by omega
    have hto : (ha m).toNat = t := by omega
    rw [hto]
    by_cases hc : hv m = b.ds ∧ betB B ds (ext b (ha m) m.val) t = true
    · rw [if_pos hc]
      obtain ⟨hd, hbt⟩ := bet_iff.1 hc.2
      have hat : ∀ a, at' (B.set t (ext b (ha m) m.val)) a = if a = t then ext b (ha m) m.val else at' B a := fun a => at_set (by rw [ih.len]; omega) a
      have hco : 0 ≤ (ext b (ha m) m.val).co := by unfold ext; dsimp only; omega
      refine ⟨by rw [List.length_set]; exact ih.len, fun a ha8 => ?_, fun a ha8 h0 => ?_, fun m' hm' hv' hd' => ?_⟩
      · rw [hat]
        by_cases e : a = t
        · rw [if_pos e]
          exact .inr ⟨by omega, by rw [e]; exact hd, m.val, ⟨m, hmem, hc.1, by rw [ht, e], rfl⟩, by rw [ht, e]⟩
        · rw [if_neg e]; exact ih.keep a ha8
      · rw [hat]
        by_cases e : a = t
        · rw [if_pos e]
          refine ⟨hco, ?_⟩
          obtain ⟨h1, h2⟩ := ih.impr a ha8 h0
          rw [e] at h1 h2
          rcases hbt with hbt | hbt
          · omega
          · rw [e]; exact no_trans (bt_no hbt) h2
        · rw [if_neg e]; exact ih.impr a ha8 h0
      · rw [htk] at hm'
        rw [hat]
        rcases List.mem_append.1 hm' with hm' | hm'
        · obtain ⟨h1, h2⟩ := ih.best m' hm' hv' hd'
          by_cases e : (ha m').toNat = t
          · rw [if_pos e]
            rw [e] at h1 h2
            refine ⟨hco, ?_⟩
            rcases hbt with hbt | hbt
            · omega
            · exact no_trans (bt_no hbt) h2
          · rw [if_neg e]; exact ⟨h1, h2⟩
        · rw [List.mem_singleton] at hm'
          subst hm'
          rw [if_pos hto]; exact ⟨hco, no_self _⟩
    · rw [if_neg hc]
      refine ⟨ih.len, ih.keep, ih.impr, fun m' hm' hv' hd' => ?_⟩
      rw [htk] at hm'
      rcases List.mem_append.1 hm' with hm' | hm'
      · exact ih.best m' hm' hv' hd'
      · rw [List.mem_singleton] at hm'
        subst hm'
        rw [hto] at hd' ⊢
        have hn : ¬ ((at' B t).co < 0 ∨ Bt (ext b (ha m') m'.val) (at' B t)) := fun h => hc ⟨hv', bet_iff.2 ⟨hd', h⟩⟩
        exact ⟨by omega, fun h => hn (.inr h)⟩
theorem stm_pick {g : List Tu.R} {f : Int} {bs : List R} {ds : List Bool} (h : StM g f bs ds) (h0 : pk bs ds 8 ≠ 0) : (1 ≤ pk bs ds 8 ∧ pk bs ds 8 ≤ 8) ∧ dn ds (pk bs ds 8) = false ∧ HM bs ds (at' bs (pk bs ds 8)) ∧ okN 7 (at' bs (pk bs ds 8)) ∧ ((at' bs (pk bs ds 8)).hp = 0 ↔ ((pk bs ds 8 : Nat) : Int) = f) := by
  have hle := pk_le bs ds 8
  rcases pk_spec bs ds 8 with ⟨e, _⟩ | ⟨h1, ho, hm⟩
  · exact absurd e h0
  · generalize pk bs ds 8 = k at *
    have hH : HM bs ds (at' bs k) := ⟨k, h1, hle, ho, rfl⟩
    have hW : WM bs ds (k : Int) = none := wm_none ho.1
    have hc : cntW (WM bs ds) ≤ 7 := by
      have e := cnt_up (W := WM bs ds) (b := at' bs k) (by rw [h.tag k hle]; omega) (by rw [h.tag k hle]; omega) (by rw [h.tag k hle]; exact hW)
      have := cnt_le (upW (WM bs ds) (at' bs k))
      omega
    refine ⟨⟨h1, hle⟩, ho.1, hH, okN_mono hc (h.ok k h1 hle ho.2), ?_⟩
    have htag := h.tag k hle
    constructor
    · intro e
      rcases h.inv.hp _ hH with e2 | ⟨u, y, c, hu, _, e2⟩
      · rw [e2] at htag; exact htag.symm
      · have := (h.inv.too u y hu).2.2
        rw [e2] at e; unfold ext at e; dsimp only at e; omega
    · intro e
      rcases h.inv.st with e2 | ⟨_, e2, _⟩
      · rw [e] at hW; rw [hW] at e2; cases e2
      · rw [e2 _ hH]; rfl
theorem stm_step {g : List Tu.R} (hg : graphB g = true) {f : Int} {bs : List R} {ds : List Bool} (h : StM g f bs ds) {k : Nat} (hk : pk bs ds 8 = k) (h0 : k ≠ 0) :
    StM g f (rl g (at' bs k) (ds.set k true) bs g.length) (ds.set k true) ∧ cntW (WM (rl g (at' bs k) (ds.set k true) bs g.length) (ds.set k true)) = cntW (WM bs ds) + 1 := by
  obtain ⟨hk8, hdk, hHk, hok, _⟩ := (by have := stm_pick h (by rw [hk]; exact h0); rw [hk] at this; exact this)
  have hsp := pk_spec bs ds 8
  rw [hk] at hsp
  have hmin : ∀ x, HM bs ds x → ¬ Bt x (at' bs k) := by
    rcases hsp with ⟨e, _⟩ | ⟨_, _, hm⟩
    · omega
    · rintro x ⟨a, h1, h8, ho, rfl⟩; exact hm a h1 h8 ho
  have htag := h.tag k hk8.2
  have hopk : 0 ≤ (at' bs k).co := by obtain ⟨a, h1, h8, ho, e⟩ := hHk; rw [e]; exact ho.2
  have hdn : ∀ a, dn (ds.set k true) a = if a = k then true else dn ds a := fun a => dn_set (by rw [h.len']; omega) a
  have hI := rl_inv hg hopk (ds := ds.set k true) h.len g.length (Nat.le_refl _)
  obtain ⟨b, hb⟩ : ∃ b, at' bs k = b := ⟨_, rfl⟩
  rw [hb] at hI hmin htag hopk hHk hok ⊢
  generalize hB : rl g b (ds.set k true) bs g.length = B at *
  have hkeep : ∀ a : Nat, a ≤ 8 → dn (ds.set k true) a = true → at' B a = at' bs a := fun a ha hd => by
    rcases hI.keep a ha with e | ⟨_, e, _⟩
    · exact e
    · rw [hd] at e; cases e
  have hWb : WM bs ds b.ds = none := by rw [htag]; exact wm_none hdk
  have hW : WM B (ds.set k true) = upW (WM bs ds) b := by
    funext v
    unfold upW
    by_cases e : v = b.ds
    · rw [if_pos e, e, htag, wm_at hk8.1 hk8.2 (by rw [hdn, if_pos rfl]), hkeep k hk8.2 (by rw [hdn, if_pos rfl]), hb]
    · rw [if_neg e]
      unfold WM
      by_cases hv : 1 ≤ v ∧ v ≤ 8
      · rw [if_pos hv, if_pos hv]
        have hne : v.toNat ≠ k := by omega
        have e1 : dn (ds.set k true) v.toNat = dn ds v.toNat := by rw [hdn, if_neg hne]
        rw [e1]
        by_cases hd : dn ds v.toNat = true
        · rw [if_pos hd, if_pos hd, hkeep v.toNat (by omega) (by rw [e1]; exact hd)]
        · rw [if_neg hd, if_neg hd]
      · rw [if_neg hv, if_neg hv]
  have hcnt : cntW (WM B (ds.set k true)) = cntW (WM bs ds) + 1 := by
    rw [hW]; exact cnt_up (by omega) (by omega) hWb
  have hokb : okN (cntW (WM bs ds)) b := by rw [← hb]; exact h.ok k hk8.1 hk8.2 (by rw [hb]; exact hopk)
  refine ⟨⟨hI.len, by rw [List.length_set]; exact h.len', fun a ha => ?_, fun a ha hn => ?_, ?_, ?_, fun a h1 h8 h00 => ?_, fun a h1 h8 hd => ?_⟩, hcnt⟩
  · rcases hI.keep a ha with e | ⟨_, _, c, _, e⟩
    · rw [e]; exact h.tag a ha
    · rw [e]; rfl
  · rcases hI.keep a ha with e | ⟨_, _, c, he, e⟩
    · rw [e] at hn ⊢; exact h.neg a ha hn
    · have := ed_rng (graph_two hg) he
      rw [e] at hn; unfold ext at hn; dsimp only at hn; omega
  · rcases hI.keep 0 (by omega) with e | ⟨e, _⟩
    · rw [e]; exact h.nut
    · omega
  · rw [hW]
    refine inv_new (graph_pos hg) h.inv hHk hWb hmin (fun x hx => ?_) (fun x hx => ?_) (fun v c he => ?_)
    · obtain ⟨a, h1, h8, ho, rfl⟩ := hx
      have hne : a ≠ k := fun e => by have := ho.1; rw [hdn, if_pos e] at this; cases this
      have hda : dn ds a = false := by have := ho.1; rw [hdn, if_neg hne] at this; exact this
      rcases hI.keep a h8 with e | ⟨_, _, c, he, e⟩
      · rw [e]; exact .inl ⟨a, h1, h8, ⟨hda, by have := ho.2; rw [e] at this; exact this⟩, rfl⟩
      · have ed : (at' B a).ds = (a : Int) := by rw [e]; rfl
        exact .inr ⟨c, by rw [ed]; exact he, by rw [ed]; exact e⟩
    · obtain ⟨a, h1, h8, ho, rfl⟩ := hx
      by_cases e : a = k
      · exact .inl (by rw [e]; exact hb)
      · obtain ⟨h3, h4⟩ := hI.impr a h8 ho.2
        refine .inr (.inr ⟨at' B a, ⟨a, h1, h8, ⟨by rw [hdn, if_neg e]; exact ho.1, h3⟩, rfl⟩, ?_, h4⟩)
        rcases hI.keep a h8 with e2 | ⟨_, _, c, _, e2⟩
        · rw [e2]
        · rw [e2, h.tag a h8]; rfl
    · obtain ⟨m, hm, h1, h2, h3⟩ := he
      have hr := ed_rng (graph_two hg) ⟨m, hm, h1, h2, h3⟩
      obtain ⟨t, ht⟩ : ∃ t : Nat, v = (t : Int) := ⟨v.toNat, by omega⟩
      have hto : (ha m).toNat = t := by omega
      by_cases hd : dn (ds.set k true) t = true
      · right
        rw [← hW, ht, wm_at (by omega) (by omega) hd]
        exact ⟨_, rfl⟩
      · have hd' : dn (ds.set k true) t = false := by cases hh : dn (ds.set k true) t; rfl; exact absurd hh hd
        obtain ⟨h4, h5⟩ := hI.best m (by rw [List.take_length]; exact hm) h1 (by rw [hto]; exact hd')
        rw [hto, h2, h3] at h5
        rw [hto] at h4
        refine .inl ⟨at' B t, ⟨t, by omega, by omega, ⟨hd', h4⟩, rfl⟩, ?_, h5⟩
        rcases hI.keep t (by omega) with e2 | ⟨_, _, c', _, e2⟩
        · rw [e2, h.tag t (by omega), ht]
        · rw [e2, ht]; rfl
  · rw [hcnt]
    rcases hI.keep a h8 with e | ⟨_, _, c, he, e⟩
    · rw [e] at h00 ⊢; exact okN_mono (by omega) (h.ok a h1 h8 h00)
    · have hr := ed_rng (graph_two hg) he
      rw [e]; exact okN_ext hokb hr.2.1 hr.2.2.2
  · by_cases e : a = k
    · rw [hkeep a h8 hd, e, hb]; exact hopk
    · rw [hkeep a h8 hd]; exact h.dco a h1 h8 (by rw [hdn, if_neg e] at hd; exact hd)
/-- What the model's search comes to. -/
noncomputable def mdl (g : List Tu.R) (f : Int) : List R := (List.range 9).map (fun a : Nat => if a = 0 then nul 0 else (best g f (a : Int)).getD (nul a))
theorem mdl_len (g : List Tu.R) (f : Int) : (mdl g f).length = 9 := by unfold mdl; simp
theorem mdl_at (g : List Tu.R) (f : Int) {a : Nat} (h : a < 9) : at' (mdl g f) a = if a = 0 then nul 0 else (best g f (a : Int)).getD (nul a) := by
  unfold at' mdl; rw [List.getD_eq_getElem?_getD, List.getElem?_map, List.getElem?_range h]; rfl
theorem stm_done {g : List Tu.R} (hg : graphB g = true) {f : Int} {bs : List R} {ds : List Bool} (h : StM g f bs ds) (h0 : pk bs ds 8 = 0) : bs = mdl g f ∧ Good g f (best g f) := by
  have hno : ∀ a, 1 ≤ a → a ≤ 8 → ¬ opn bs ds a := by
    rcases pk_spec bs ds 8 with ⟨_, hn⟩ | ⟨h1, _⟩
    · exact hn
    · omega
  have hG : Good g f (WM bs ds) := inv_done h.inv (fun x ⟨a, h1, h8, ho, _⟩ => hno a h1 h8 ho)
  have e := best_is (graph_pos hg) hG
  refine ⟨at_ext (by rw [h.len, mdl_len]) (fun a ha => ?_), by rw [← e]; exact hG⟩
  rw [h.len] at ha
  rw [mdl_at g f ha]
  by_cases h00 : a = 0
  · subst h00; rw [if_pos rfl]; exact h.nut
  · rw [if_neg h00, ← e]
    by_cases hd : dn ds a = true
    · rw [wm_at (by omega) (by omega) hd]; rfl
    · have hd' : dn ds a = false := by cases hh : dn ds a; rfl; exact absurd hh hd
      rw [wm_none hd']
      exact h.neg a (by omega) (by
        have : ¬ 0 ≤ (at' bs a).co := fun hc => hno a (by omega) (by omega) ⟨hd', hc⟩
        omega)
end Wd
end Go.Proofs.YtfooahhdikobeaaGreat
namespace Go.Proofs.YtfooahhdikobeaaGreat
open Go.ChangeShapes Go.WideShapes Go.ChangeAt Go.RowKit
set_option linter.unusedVariables false
set_option linter.unusedSimpArgs false
set_option maxRecDepth 100000
attribute [local go_sem ↓] Go.wp_at_zero Go.wp_at_succ
namespace Wd
open W1 Ro Rw Tw
set_option maxHeartbeats 4000000 in
theorem l11Less (x y : R) (w : World) : Calls Tryz.prog 112 #[x.value, y.value] w fun e w' => e = .returned (.bool (btB x y)) ∧ Below w.heap.size w w' := by
  have HE : Hid (btB x y = (decide (x.co < y.co) || (x.co == y.co) && (decide (x.hp < y.hp) || (x.hp == y.hp) && decide (x.nx < y.nx)))) := hide rfl
  obtain ⟨xa, xn, xc, xh⟩ := x
  obtain ⟨ya, yn, yc, yh⟩ := y
  dsimp only at HE
  show Calls Tryz.prog 112 #[.agg #[.int .i64 xa, .int .i64 xn, .int .i64 xc, .int .i64 xh], .agg #[.int .i64 ya, .int .i64 yn, .int .i64 yc, .int .i64 yh]] w _
  have HB : Hid (∀ o1 o2 : Obj, Below w.heap.size w ((w.alloc o1).alloc o2)) := hide (fun o1 o2 => ((Below.refl _ _).alloc (Nat.le_refl _) _).alloc (by simp) _)
  by_cases h1 : xc = yc
  · have n1 : (xc != yc) = false := by simpa using h1
    by_cases h2 : xh = yh
    · have n2 : (xh != yh) = false := by simpa using h2
      have HF : Hid (btB ⟨xa, xn, xc, xh⟩ ⟨ya, yn, yc, yh⟩ = decide (xn < yn)) := hide (by rw [unhide HE, h1, h2]; simp)
      clear h1 h2
      by_cases h3 : xn < yn
      · have HG : Hid (btB ⟨xa, xn, xc, xh⟩ ⟨ya, yn, yc, yh⟩ = true) := hide (by rw [unhide HF]; exact decide_eq_true h3)
        go_enter Tryz.func112, Tryz.ntmps112
        go_wp2_with fail
        go_ret
        exact ⟨ret_bool (unhide HG).symm, unhide HB _ _⟩
      · have HG : Hid (btB ⟨xa, xn, xc, xh⟩ ⟨ya, yn, yc, yh⟩ = false) := hide (by rw [unhide HF]; exact decide_eq_false h3)
        go_enter Tryz.func112, Tryz.ntmps112
        go_wp2_with fail
        go_ret
        exact ⟨ret_bool (unhide HG).symm, unhide HB _ _⟩
    · have n2 : (xh != yh) = true := by simpa using h2
      have HF : Hid (btB ⟨xa, xn, xc, xh⟩ ⟨ya, yn, yc, yh⟩ = decide (xh < yh)) := hide (by rw [unhide HE, h1, show (xh == yh) = false by simpa using h2]; simp)
      clear h1 h2
      by_cases h3 : xh < yh
      · have HG : Hid (btB ⟨xa, xn, xc, xh⟩ ⟨ya, yn, yc, yh⟩ = true) := hide (by rw [unhide HF]; exact decide_eq_true h3)
        go_enter Tryz.func112, Tryz.ntmps112
        go_wp2_with fail
        go_ret
        exact ⟨ret_bool (unhide HG).symm, unhide HB _ _⟩
      · have HG : Hid (btB ⟨xa, xn, xc, xh⟩ ⟨ya, yn, yc, yh⟩ = false) := hide (by rw [unhide HF]; exact decide_eq_false h3)
        go_enter Tryz.func112, Tryz.ntmps112
        go_wp2_with fail
        go_ret
        exact ⟨ret_bool (unhide HG).symm, unhide HB _ _⟩
  · have n1 : (xc != yc) = true := by simpa using h1
    have HF : Hid (btB ⟨xa, xn, xc, xh⟩ ⟨ya, yn, yc, yh⟩ = decide (xc < yc)) := hide (by rw [unhide HE, show (xc == yc) = false by simpa using h1]; simp)
    clear h1
    by_cases h3 : xc < yc
    · have HG : Hid (btB ⟨xa, xn, xc, xh⟩ ⟨ya, yn, yc, yh⟩ = true) := hide (by rw [unhide HF]; exact decide_eq_true h3)
      go_enter Tryz.func112, Tryz.ntmps112
      go_wp2_with fail
      go_ret
      exact ⟨ret_bool (unhide HG).symm, unhide HB _ _⟩
    · have HG : Hid (btB ⟨xa, xn, xc, xh⟩ ⟨ya, yn, yc, yh⟩ = false) := hide (by rw [unhide HF]; exact decide_eq_false h3)
      go_enter Tryz.func112, Tryz.ntmps112
      go_wp2_with fail
      go_ret
      exact ⟨ret_bool (unhide HG).symm, unhide HB _ _⟩
/-- Routes, marks in a block of their own that may be written. -/
def BV (w : World) (b : Nat) (bs : List R) : Prop := w.heap[b]? = some (.cells (flat bs).toArray 87 (0, 0))
theorem BV.lt {w : World} {b : Nat} {bs : List R} (h : BV w b bs) : b < w.heap.size := lt_block h
theorem BV.cell {w : World} {b : Nat} {bs : List R} (h : BV w b bs) (j : Nat) : w.cell? ⟨b, j, none⟩ = (flat bs)[j]? := by unfold BV at h; simp [World.cell?, h]
theorem BV.free {w : World} {b : Nat} {bs : List R} (h : BV w b bs) (i : Nat) : w.frozen? ⟨b, i, none⟩ = false := by unfold BV at h; simp [World.frozen?, h]
theorem BV.at {w : World} {b : Nat} {bs : List R} (h : BV w b bs) {i : Nat} (hi : i < bs.length) : At w b (i * 4) (at' bs i) := by
  have h0 := flat_get bs i 0 (by omega) hi
  have h1 := flat_get bs i 1 (by omega) hi
  have h2 := flat_get bs i 2 (by omega) hi
  have h3 := flat_get bs i 3 (by omega) hi
  exact ⟨(h.cell _).trans h0, (h.cell _).trans h1, (h.cell _).trans h2, (h.cell _).trans h3⟩
theorem BV.below {w w' : World} {b : Nat} {bs : List R} (h : BV w b bs) (hb : Below w.heap.size w w') : BV w' b bs := (hb.block b h.lt).trans h
theorem BV.put {w : World} {b : Nat} {bs : List R} (h : BV w b bs) {i : Nat} (hi : i < bs.length) (m : R) : BV (put w b (i * 4) m) b (bs.set i m) := by
  have h' := heap_set (i := i * 4 + 3) (.int .i64 m.hp) (heap_set (i := i * 4 + 2) (.int .i64 m.co) (heap_set (i := i * 4 + 1) (.int .i64 m.nx) (heap_set (i := i * 4) (.int .i64 m.ds) h)))
  simp only [List.setIfInBounds_toArray] at h'
  unfold BV
  rw [flat_set bs i m hi]
  exact h'
theorem flat_co : ∀ (hs : List R) (i : Nat) (c : Int), i < hs.length → flat (hs.set i ⟨(at' hs i).ds, (at' hs i).nx, c, (at' hs i).hp⟩) = (flat hs).set (i * 4 + 2) (.int .i64 c)
  | [], i, c, h => by simp at h
  | x :: t, 0, c, _ => rfl
  | x :: t, i + 1, c, h => by
    have ih := flat_co t i c (by simpa using h)
    have e : flat (x :: t) = .int .i64 x.ds :: .int .i64 x.nx :: .int .i64 x.co :: .int .i64 x.hp :: flat t := rfl
    have ea : at' (x :: t) (i + 1) = at' t i := rfl
    have e' : ∀ m, flat ((x :: t).set (i + 1) m) = .int .i64 x.ds :: .int .i64 x.nx :: .int .i64 x.co :: .int .i64 x.hp :: flat (t.set i m) := fun m => rfl
    rw [ea, e', e, ih, show (i + 1) * 4 + 2 = (i * 4 + 2) + 1 + 1 + 1 + 1 by omega]
    simp only [List.set_cons_succ]
theorem BV.co {w : World} {b : Nat} {bs : List R} (h : BV w b bs) {i : Nat} (hi : i < bs.length) (c : Int) : BV (w.setCell ⟨b, i * 4 + 2, none⟩ (.int .i64 c)) b (bs.set i ⟨(at' bs i).ds, (at' bs i).nx, c, (at' bs i).hp⟩) := by
  have h' := heap_set (i := i * 4 + 2) (.int .i64 c) h
  simp only [List.setIfInBounds_toArray] at h'
  unfold BV
  rw [flat_co bs i c hi]
  exact h'
def DV (w : World) (b : Nat) (ds : List Bool) : Prop := w.heap[b]? = some (.cells (ds.map Value.bool).toArray 4 (0, 0))
theorem DV.lt {w : World} {b : Nat} {ds : List Bool} (h : DV w b ds) : b < w.heap.size := lt_block h
theorem DV.at {w : World} {b : Nat} {ds : List Bool} (h : DV w b ds) {i : Nat} (hi : i < ds.length) : w.cell? ⟨b, i, none⟩ = some (.bool (dn ds i)) := by
  unfold DV at h
  have : w.cell? ⟨b, i, none⟩ = (ds.map Value.bool)[i]? := by simp [World.cell?, h]
  rw [this, List.getElem?_map, List.getElem?_eq_getElem hi]
  unfold dn
  rw [List.getD_eq_getElem?_getD, List.getElem?_eq_getElem hi]; rfl
theorem DV.free {w : World} {b : Nat} {ds : List Bool} (h : DV w b ds) (i : Nat) : w.frozen? ⟨b, i, none⟩ = false := by unfold DV at h; simp [World.frozen?, h]
theorem DV.below {w w' : World} {b : Nat} {ds : List Bool} (h : DV w b ds) (hb : Below w.heap.size w w') : DV w' b ds := (hb.block b h.lt).trans h
theorem DV.set {w : World} {b : Nat} {ds : List Bool} (h : DV w b ds) (i : Nat) (x : Bool) : DV (w.setCell ⟨b, i, none⟩ (.bool x)) b (ds.set i x) := by
  have h' := heap_set (i := i) (.bool x) h
  simp only [List.setIfInBounds_toArray] at h'
  unfold DV
  rw [List.map_set]
  exact h'
theorem bsF_set {q : Nat} (h : q < 9) : (bs9 9).set q ⟨(at' (bs9 9) q).ds, (at' (bs9 9) q).nx, 0, (at' (bs9 9) q).hp⟩ = bsF q := by
  unfold bsF; rw [bs9_at h, if_pos h]; rfl
theorem makeB (w : World) : (Instr.makeSlice 88 (.int .i64 9) (.int .i64 9)).run Tryz.prog w = .ok (.slice (some ⟨w.heap.size, 0, none⟩) 9 9) (w.alloc (.cells (flat (bs9 0)).toArray 87)) := by
  obtain ⟨i0, hi, hz0, hz1, hz2⟩ := infoR
  have hmk := run_make (P := Tryz.prog) w 88 87 i0 _ Tryz.underlying88 hi hz0 .i64 .i64 9 9 (by omega) (by omega) (by rw [hz2]; omega) (by omega)
  rw [hz1] at hmk
  have e : madeCells (Value.agg #[.int .i64 0, .int .i64 0, .int .i64 0, .int .i64 0]).cells (Int.toNat 9 * 4) = (flat (bs9 0)).toArray := by kernel_rfl
  rw [e] at hmk
  exact hmk
theorem infoB : ∃ i, Tryz.prog.info? 4 = some i ∧ i.zero = some (.bool false) ∧ i.size = 1 ∧ i.bytes = 1 := by
  have h : (Tryz.prog.info? 4).map (fun i => (i.zero, i.size, i.bytes)) = some (some (.bool false), 1, 1) := by kernel_rfl
  obtain ⟨i, hi, he⟩ := Option.map_eq_some_iff.1 h
  simp only [Prod.mk.injEq] at he
  exact ⟨i, hi, he.1, he.2.1, he.2.2⟩
theorem makeD (w : World) : (Instr.makeSlice 138 (.int .i64 9) (.int .i64 9)).run Tryz.prog w = .ok (.slice (some ⟨w.heap.size, 0, none⟩) 9 9) (w.alloc (.cells (fs9.map Value.bool).toArray 4)) := by
  obtain ⟨i0, hi, hz0, hz1, hz2⟩ := infoB
  have hmk := run_make (P := Tryz.prog) w 138 4 i0 _ Tryz.underlying138 hi hz0 .i64 .i64 9 9 (by omega) (by omega) (by rw [hz2]; omega) (by omega)
  rw [hz1] at hmk
  have e : madeCells (Value.bool false).cells (Int.toNat 9 * 1) = (fs9.map Value.bool).toArray := by kernel_rfl
  rw [e] at hmk
  exact hmk
end Wd
end Go.Proofs.YtfooahhdikobeaaGreat
namespace Go.Proofs.YtfooahhdikobeaaGreat
open Go.ChangeShapes Go.WideShapes Go.ChangeAt Go.RowKit
set_option linter.unusedVariables false
set_option linter.unusedSimpArgs false
set_option maxRecDepth 100000
attribute [local go_sem ↓] Go.wp_at_zero Go.wp_at_succ
namespace Wd
open W1 Ro Rw Tw
/-- Nine routes, nine marks lie there, and all below B is as it was. -/
def Nin (w : World) (B D : Nat) (bs : List R) (ds : List Bool) : Prop := BV w B bs ∧ DV w D ds
theorem Nin.below {w w' : World} {B D : Nat} {bs : List R} {ds : List Bool} (h : Nin w B D bs ds) (hb : Below w.heap.size w w') : Nin w' B D bs ds := ⟨h.1.below hb, h.2.below hb⟩
theorem Nin.drew {w : World} {B D : Nat} {bs : List R} {ds : List Bool} (h : Nin w B D bs ds) : Nin w.drew B D bs ds := h
theorem infoT : Tryz.prog.underlying 87 = some (Tryz.prog.underlying 87).get! ∧ ((Tryz.prog.underlying 87).get!).isRow = true ∧ (Tryz.prog.info? 87).map (·.size) = some 4 := ⟨by kernel_rfl, by kernel_rfl, by kernel_rfl⟩
/-- A route is read whole, written whole. -/
theorem wpList_loadR {ops : Array Oper} {rest : List Oper} {op : Oper} {a : Act} {w : World} {Q : Exit → Act → World → Prop} (x : Operand) (hgd : op.guard = none) (ho : op.op = .load 87 x) {b : Nat} {m : R} (hx : a.eval x = .pointer (some ⟨b, 0, none⟩)) (h : Bx w b m)
    (hk : wpList Tryz.prog ops Q rest (a.put op.dst (.agg #[.int .i64 m.ds, .int .i64 m.nx, .int .i64 m.co, .int .i64 m.hp])) w) : wpList Tryz.prog ops Q (op :: rest) a w := by
  refine wpList_load_mid hgd 87 x ho b 0 hx m.cells _ (fun j v hv => ?_) infoT.1 infoT.2.1 (by rw [infoT.2.2]; rfl) hk
  rw [Nat.zero_add]
  obtain ⟨h0, h1, h2, h3⟩ := h
  unfold R.cells at hv
  match j, hv with
  | 0, hv => simp at hv; rw [← hv]; exact h0
  | 1, hv => simp at hv; rw [← hv]; exact h1
  | 2, hv => simp at hv; rw [← hv]; exact h2
  | 3, hv => simp at hv; rw [← hv]; exact h3
  | n + 4, hv => simp at hv
theorem wpList_storeR {ops : Array Oper} {rest : List Oper} {op : Oper} {a : Act} {w : World} {Q : Exit → Act → World → Prop} (x y : Operand) (hgd : op.guard = none) (ho : op.op = .store 87 x y) {b t : Nat} {m : R} {bs : List R} (hx : a.eval x = .pointer (some ⟨b, t * 4, none⟩)) (hy : a.eval y = .agg #[.int .i64 m.ds, .int .i64 m.nx, .int .i64 m.co, .int .i64 m.hp]) (h : BV w b bs) (ht : t < bs.length)
    (hk : wpList Tryz.prog ops Q rest (a.put op.dst undef) (put w b (t * 4) m)) : wpList Tryz.prog ops Q (op :: rest) a w := by
  refine wpList_store_mid hgd 87 x y ho b (t * 4) #[.int .i64 m.ds, .int .i64 m.nx, .int .i64 m.co, .int .i64 m.hp] hx hy (fun j hj => ⟨?_, h.free _⟩) (by rw [infoT.2.2]; rfl) (by kernel_rfl) hk
  have hj4 : j < 4 := hj
  rw [h.cell, flat_get bs t j hj4 ht]
  unfold R.cells
  match j, hj4 with
  | 0, _ | 1, _ | 2, _ | 3, _ => rfl
theorem nin_new (w : World) : Nin ((w.alloc (.cells (flat (bs9 0)).toArray 87)).alloc (.cells (fs9.map Value.bool).toArray 4)) w.heap.size (w.heap.size + 1) (bs9 0) fs9 := by
  have a1 : BV (w.alloc (.cells (flat (bs9 0)).toArray 87)) w.heap.size (bs9 0) := heap_alloc_new w _
  refine ⟨a1.below ((Below.refl _ _).alloc (Nat.le_refl _) _), ?_⟩
  have := heap_alloc_new (w.alloc (.cells (flat (bs9 0)).toArray 87)) (.cells (fs9.map Value.bool).toArray 4); rw [World.size_alloc] at this; exact this
def sP (w : World) (B D j k : Nat) (dj : Bool) (x y : R) : Prop := w.cell? ⟨D, j, none⟩ = some (.bool dj) ∧ At w B (j * 4) x ∧ At w B (k * 4) y
theorem sP_of {w : World} {B D j k : Nat} {bs : List R} {ds : List Bool} (h : Nin w B D bs ds) (hb : bs.length = 9) (hd : ds.length = 9) (hj : j < 9) (hk : k < 9) : sP w B D j k (dn ds j) (at' bs j) (at' bs k) := ⟨h.2.at (by omega), h.1.at (by omega), h.1.at (by omega)⟩
theorem sP.below {w w' : World} {B D j k : Nat} {dj : Bool} {x y : R} (h : sP w B D j k dj x y) (hb : Below w.heap.size w w') : sP w' B D j k dj x y :=
  ⟨(hb.cell (p := ⟨D, j, none⟩) (World.block_lt_of_cell? _ _ h.1)).trans h.1, h.2.1.below hb, h.2.2.below hb⟩
theorem sPc {w : World} {B D j k : Nat} {dj : Bool} {xa xn xc xh ya yn yc yh : Int} (h : sP w B D j k dj ⟨xa, xn, xc, xh⟩ ⟨ya, yn, yc, yh⟩) : sP w B D j k dj ⟨xa, xn, xc, xh⟩ ⟨ya, yn, yc, yh⟩ ∧ w.cell? ⟨D, j, none⟩ = some (.bool dj) ∧ w.cell? ⟨B, j * 4, none⟩ = some (.int .i64 xa) ∧ w.cell? ⟨B, j * 4 + 1, none⟩ = some (.int .i64 xn) ∧ w.cell? ⟨B, j * 4 + 2, none⟩ = some (.int .i64 xc) ∧ w.cell? ⟨B, j * 4 + 3, none⟩ = some (.int .i64 xh) ∧ w.cell? ⟨B, k * 4, none⟩ = some (.int .i64 ya) ∧ w.cell? ⟨B, k * 4 + 1, none⟩ = some (.int .i64 yn) ∧ w.cell? ⟨B, k * 4 + 2, none⟩ = some (.int .i64 yc) ∧ w.cell? ⟨B, k * 4 + 3, none⟩ = some (.int .i64 yh) :=
  ⟨h, h.1, h.2.1.1, h.2.1.2.1, h.2.1.2.2.1, h.2.1.2.2.2, h.2.2.1, h.2.2.2.1, h.2.2.2.2.1, h.2.2.2.2.2⟩
def sQ (w : World) (B D j X : Nat) (dj : Bool) (x y : R) : Prop := w.cell? ⟨D, j, none⟩ = some (.bool dj) ∧ At w B (j * 4) y ∧ Bx w X x
theorem sQ_of {w : World} {B D j X : Nat} {bs : List R} {ds : List Bool} {x : R} (h : Nin w B D bs ds) (hb : bs.length = 9) (hd : ds.length = 9) (hj : j < 9) (hx : Bx w X x) : sQ w B D j X (dn ds j) x (at' bs j) := ⟨h.2.at (by omega), h.1.at (by omega), hx⟩
theorem sQ.below {w w' : World} {B D j X : Nat} {dj : Bool} {x y : R} (h : sQ w B D j X dj x y) (hb : Below w.heap.size w w') : sQ w' B D j X dj x y :=
  ⟨(hb.cell (p := ⟨D, j, none⟩) (World.block_lt_of_cell? _ _ h.1)).trans h.1, h.2.1.below hb, h.2.2.below hb⟩
theorem sQc {w : World} {B D j X : Nat} {dj : Bool} {xa xn xc xh ya yn yc yh : Int} (h : sQ w B D j X dj ⟨xa, xn, xc, xh⟩ ⟨ya, yn, yc, yh⟩) : sQ w B D j X dj ⟨xa, xn, xc, xh⟩ ⟨ya, yn, yc, yh⟩ ∧ w.cell? ⟨D, j, none⟩ = some (.bool dj) ∧ w.cell? ⟨B, j * 4, none⟩ = some (.int .i64 ya) ∧ w.cell? ⟨B, j * 4 + 1, none⟩ = some (.int .i64 yn) ∧ w.cell? ⟨B, j * 4 + 2, none⟩ = some (.int .i64 yc) ∧ w.cell? ⟨B, j * 4 + 3, none⟩ = some (.int .i64 yh) ∧ w.cell? ⟨X, 0, none⟩ = some (.int .i64 xa) ∧ w.cell? ⟨X, 1, none⟩ = some (.int .i64 xn) ∧ w.cell? ⟨X, 2, none⟩ = some (.int .i64 xc) ∧ w.cell? ⟨X, 3, none⟩ = some (.int .i64 xh) :=
  ⟨h, h.1, h.2.1.1, h.2.1.2.1, h.2.1.2.2.1, h.2.1.2.2.2, h.2.2.1, h.2.2.2.1, h.2.2.2.2.1, h.2.2.2.2.2⟩
/-- A region of a function's text, by its number. -/
def regOf (n : Nat) : Code → Option Code
  | .region i ops d => match Nat.beq i n with
    | true => some (.region i ops d)
    | false => none
  | .loop c => regOf n c
  | .seq a b => match regOf n a with
    | some c => some c
    | none => regOf n b
  | .block _ c => regOf n c
  | .scope c => regOf n c
  | .cond _ a b => match regOf n a with
    | some c => some c
    | none => regOf n b
  | _ => none
noncomputable def reg (n : Nat) : Code := ((Tryz.f64.body.bind (regOf n)).getD .skip)
set_option maxHeartbeats 8000000 in
theorem r12a (KK : Act → World → Prop) (Q' : Exit → Act → World → Prop) (p0 p1 p2 p3 p4 p7 p10 p11 p12 p13 p14 p15 p16 p17 p18 p19 p20 p21 p22 p23 p24 p25 p26 p27 p28 p29 p30 p31 p32 p33 p34 p35 p36 p37 p38 p39 p40 p41 p42 p43 p44 p45 p46 p47 p48 p49 p50 p51 p52 p53 p54 p55 p56 p57 p58 p59 p60 p61 p62 p63 p64 p65 p66 p67 p68 p69 p70 p71 p72 p73 p74 p75 p76 p77 p78 p79 p80 p81 p82 p83 p84 p85 p86 p87 p88 p89 p90 p91 p92 p93 p94 p95 p96 p97 p98 p99 p100 p101 p102 p103 p104 p105 p106 p107 p108 p109 p110 p111 p112 p113 p114 p115 p116 p117 p118 p119 p120 p121 p122 p123 p124 p125 p126 p127 p128 p129 p130 p131 p132 p133 p134 p135 p136 p137 p138 p139 p140 : Value) (B D j k : Nat) (xa xn xc xh ya yn yc yh : Int) (w : World)
    (HSP : Hid (sP w B D j k true ⟨xa, xn, xc, xh⟩ ⟨ya, yn, yc, yh⟩)) (j0 : (0 : Int) ≤ (j : Int)) (j9 : (j : Int) < 9) (k0 : (0 : Int) ≤ (k : Int)) (k9 : (k : Int) < 9)
    (hKK : ∀ (r32 r33 r34 r35 r36 r37 r38 r39 r40 r41 r42 r43 r44 r45 r46 r47 r48 r49 r50 r51 r52 r53 r54 r55 r56 r57 r58 : Value) (wz : World), wz = w.drew → KK ⟨#[p0, p1, p2, p3, p4, .slice (some ⟨B, 0, none⟩) 9 9, .slice (some ⟨D, 0, none⟩) 9 9, p7, .int .i64 (k : Int), .int .i64 (j : Int), p10, p11, p12, p13, p14, p15, p16, p17, p18, p19, p20, p21, p22, p23, p24, p25, p26, p27, p28, p29, p30, p31, r32, r33, r34, r35, r36, r37, r38, r39, r40, r41, r42, r43, r44, r45, r46, r47, r48, r49, r50, r51, r52, r53, r54, r55, r56, r57, r58, .bool false, p60, p61, p62, p63, p64, p65, p66, p67, p68, p69, p70, p71, p72, p73, p74, p75, p76, p77, p78, p79, p80, p81, p82, p83, p84, p85, p86, p87, p88, p89, p90, p91, p92, p93, p94, p95, p96, p97, p98, p99, p100, p101, p102, p103, p104, p105, p106, p107, p108, p109, p110, p111, p112, p113, p114, p115, p116, p117, p118, p119, p120, p121, p122, p123, p124, p125, p126, p127, p128, p129, p130, p131, p132, p133, p134, p135, p136, p137, p138, p139, p140], []⟩ wz) :
    Code.wp Tryz.prog (reg 12) (Exit.then KK Q') ⟨#[p0, p1, p2, p3, p4, .slice (some ⟨B, 0, none⟩) 9 9, .slice (some ⟨D, 0, none⟩) 9 9, p7, .int .i64 (k : Int), .int .i64 (j : Int), p10, p11, p12, p13, p14, p15, p16, p17, p18, p19, p20, p21, p22, p23, p24, p25, p26, p27, p28, p29, p30, p31, p32, p33, p34, p35, p36, p37, p38, p39, p40, p41, p42, p43, p44, p45, p46, p47, p48, p49, p50, p51, p52, p53, p54, p55, p56, p57, p58, p59, p60, p61, p62, p63, p64, p65, p66, p67, p68, p69, p70, p71, p72, p73, p74, p75, p76, p77, p78, p79, p80, p81, p82, p83, p84, p85, p86, p87, p88, p89, p90, p91, p92, p93, p94, p95, p96, p97, p98, p99, p100, p101, p102, p103, p104, p105, p106, p107, p108, p109, p110, p111, p112, p113, p114, p115, p116, p117, p118, p119, p120, p121, p122, p123, p124, p125, p126, p127, p128, p129, p130, p131, p132, p133, p134, p135, p136, p137, p138, p139, p140], []⟩ w := by
  conv => arg 2; whnf
  refine wp_region_noPanic ?_
  refine wp_region_held_drew (S := fun w' => sP w' B D j k true ⟨xa, xn, xc, xh⟩ ⟨ya, yn, yc, yh⟩ ∧ w'.cell? ⟨D, j, none⟩ = some (.bool true) ∧ w'.cell? ⟨B, j * 4, none⟩ = some (.int .i64 xa) ∧ w'.cell? ⟨B, j * 4 + 1, none⟩ = some (.int .i64 xn) ∧ w'.cell? ⟨B, j * 4 + 2, none⟩ = some (.int .i64 xc) ∧ w'.cell? ⟨B, j * 4 + 3, none⟩ = some (.int .i64 xh) ∧ w'.cell? ⟨B, k * 4, none⟩ = some (.int .i64 ya) ∧ w'.cell? ⟨B, k * 4 + 1, none⟩ = some (.int .i64 yn) ∧ w'.cell? ⟨B, k * 4 + 2, none⟩ = some (.int .i64 yc) ∧ w'.cell? ⟨B, k * 4 + 3, none⟩ = some (.int .i64 yh)) (by kernel_rfl) (sPc (unhide HSP)) (fun hHeld => ?_)
  refine Rg.t 0 32 ?_
  refine Rg.t 1 33 ?_
  refine Rg.t 2 34 ?_
  refine Rg.t 3 35 ?_
  refine Rg.t 4 36 ?_
  refine Rg.t 5 37 ?_
  refine Rg.s 6 38 ?_
  refine Rg.s 7 39 ?_
  refine Rg.s 8 40 ?_
  refine Rg.s 9 41 ?_
  refine Rg.s 10 42 ?_
  refine Rg.s 11 43 ?_
  refine Rg.t 12 44 ?_
  refine Rg.t 13 45 ?_
  refine Rg.s 14 46 ?_
  refine Rg.s 15 47 ?_
  refine Rg.s 16 48 ?_
  refine Rg.s 17 49 ?_
  refine Rg.s 18 50 ?_
  refine Rg.s 19 51 ?_
  refine Rg.s 20 52 ?_
  refine Rg.s 21 53 ?_
  refine Rg.s 22 54 ?_
  refine Rg.s 23 55 ?_
  refine Rg.s 24 56 ?_
  refine Rg.s 25 57 ?_
  refine Rg.s 26 58 ?_
  refine Rg.t 27 59 ?_
  refine wpAnyH_done (by kernel_rfl) (NoPanic.normal ?_) _
  clear hHeld
  exact hKK _ _ _ _ _ _ _ _ _ _ _ _ _ _ _ _ _ _ _ _ _ _ _ _ _ _ _ _ rfl
set_option maxHeartbeats 8000000 in
theorem r12b (KK : Act → World → Prop) (Q' : Exit → Act → World → Prop) (p0 p1 p2 p3 p4 p7 p10 p11 p12 p13 p14 p15 p16 p17 p18 p19 p20 p21 p22 p23 p24 p25 p26 p27 p28 p29 p30 p31 p32 p33 p34 p35 p36 p37 p38 p39 p40 p41 p42 p43 p44 p45 p46 p47 p48 p49 p50 p51 p52 p53 p54 p55 p56 p57 p58 p59 p60 p61 p62 p63 p64 p65 p66 p67 p68 p69 p70 p71 p72 p73 p74 p75 p76 p77 p78 p79 p80 p81 p82 p83 p84 p85 p86 p87 p88 p89 p90 p91 p92 p93 p94 p95 p96 p97 p98 p99 p100 p101 p102 p103 p104 p105 p106 p107 p108 p109 p110 p111 p112 p113 p114 p115 p116 p117 p118 p119 p120 p121 p122 p123 p124 p125 p126 p127 p128 p129 p130 p131 p132 p133 p134 p135 p136 p137 p138 p139 p140 : Value) (B D j k : Nat) (xa xn xc xh ya yn yc yh : Int) (w : World)
    (HSP : Hid (sP w B D j k false ⟨xa, xn, xc, xh⟩ ⟨ya, yn, yc, yh⟩)) (j0 : (0 : Int) ≤ (j : Int)) (j9 : (j : Int) < 9) (k0 : (0 : Int) ≤ (k : Int)) (k9 : (k : Int) < 9) (hxd : decide (0 ≤ xc) = false)
    (hKK : ∀ (r32 r33 r34 r35 r36 r37 r38 r39 r40 r41 r42 r43 r44 r45 r46 r47 r48 r49 r50 r51 r52 r53 r54 r55 r56 r57 r58 : Value) (wz : World), wz = w.drew → KK ⟨#[p0, p1, p2, p3, p4, .slice (some ⟨B, 0, none⟩) 9 9, .slice (some ⟨D, 0, none⟩) 9 9, p7, .int .i64 (k : Int), .int .i64 (j : Int), p10, p11, p12, p13, p14, p15, p16, p17, p18, p19, p20, p21, p22, p23, p24, p25, p26, p27, p28, p29, p30, p31, r32, r33, r34, r35, r36, r37, r38, r39, r40, r41, r42, r43, r44, r45, r46, r47, r48, r49, r50, r51, r52, r53, r54, r55, r56, r57, r58, .bool false, p60, p61, p62, p63, p64, p65, p66, p67, p68, p69, p70, p71, p72, p73, p74, p75, p76, p77, p78, p79, p80, p81, p82, p83, p84, p85, p86, p87, p88, p89, p90, p91, p92, p93, p94, p95, p96, p97, p98, p99, p100, p101, p102, p103, p104, p105, p106, p107, p108, p109, p110, p111, p112, p113, p114, p115, p116, p117, p118, p119, p120, p121, p122, p123, p124, p125, p126, p127, p128, p129, p130, p131, p132, p133, p134, p135, p136, p137, p138, p139, p140], []⟩ wz) :
    Code.wp Tryz.prog (reg 12) (Exit.then KK Q') ⟨#[p0, p1, p2, p3, p4, .slice (some ⟨B, 0, none⟩) 9 9, .slice (some ⟨D, 0, none⟩) 9 9, p7, .int .i64 (k : Int), .int .i64 (j : Int), p10, p11, p12, p13, p14, p15, p16, p17, p18, p19, p20, p21, p22, p23, p24, p25, p26, p27, p28, p29, p30, p31, p32, p33, p34, p35, p36, p37, p38, p39, p40, p41, p42, p43, p44, p45, p46, p47, p48, p49, p50, p51, p52, p53, p54, p55, p56, p57, p58, p59, p60, p61, p62, p63, p64, p65, p66, p67, p68, p69, p70, p71, p72, p73, p74, p75, p76, p77, p78, p79, p80, p81, p82, p83, p84, p85, p86, p87, p88, p89, p90, p91, p92, p93, p94, p95, p96, p97, p98, p99, p100, p101, p102, p103, p104, p105, p106, p107, p108, p109, p110, p111, p112, p113, p114, p115, p116, p117, p118, p119, p120, p121, p122, p123, p124, p125, p126, p127, p128, p129, p130, p131, p132, p133, p134, p135, p136, p137, p138, p139, p140], []⟩ w := by
  conv => arg 2; whnf
  refine wp_region_noPanic ?_
  refine wp_region_held_drew (S := fun w' => sP w' B D j k false ⟨xa, xn, xc, xh⟩ ⟨ya, yn, yc, yh⟩ ∧ w'.cell? ⟨D, j, none⟩ = some (.bool false) ∧ w'.cell? ⟨B, j * 4, none⟩ = some (.int .i64 xa) ∧ w'.cell? ⟨B, j * 4 + 1, none⟩ = some (.int .i64 xn) ∧ w'.cell? ⟨B, j * 4 + 2, none⟩ = some (.int .i64 xc) ∧ w'.cell? ⟨B, j * 4 + 3, none⟩ = some (.int .i64 xh) ∧ w'.cell? ⟨B, k * 4, none⟩ = some (.int .i64 ya) ∧ w'.cell? ⟨B, k * 4 + 1, none⟩ = some (.int .i64 yn) ∧ w'.cell? ⟨B, k * 4 + 2, none⟩ = some (.int .i64 yc) ∧ w'.cell? ⟨B, k * 4 + 3, none⟩ = some (.int .i64 yh)) (by kernel_rfl) (sPc (unhide HSP)) (fun hHeld => ?_)
  refine Rg.t 0 32 ?_
  refine Rg.t 1 33 ?_
  refine Rg.t 2 34 ?_
  refine Rg.t 3 35 ?_
  refine Rg.t 4 36 ?_
  refine Rg.t 5 37 ?_
  refine Rg.t 6 38 ?_
  refine Rg.t 7 39 ?_
  refine Rg.t 8 40 ?_
  refine Rg.t 9 41 ?_
  refine Rg.t 10 42 ?_
  refine Rg.t 11 43 ?_
  refine Rg.t 12 44 ?_
  refine Rg.t 13 45 ?_
  refine Rg.s 14 46 ?_
  refine Rg.s 15 47 ?_
  refine Rg.s 16 48 ?_
  refine Rg.s 17 49 ?_
  refine Rg.s 18 50 ?_
  refine Rg.s 19 51 ?_
  refine Rg.s 20 52 ?_
  refine Rg.s 21 53 ?_
  refine Rg.s 22 54 ?_
  refine Rg.s 23 55 ?_
  refine Rg.s 24 56 ?_
  refine Rg.s 25 57 ?_
  refine Rg.s 26 58 ?_
  refine Rg.t 27 59 ?_
  refine wpAnyH_done (by kernel_rfl) (NoPanic.normal ?_) _
  clear hHeld
  exact hKK _ _ _ _ _ _ _ _ _ _ _ _ _ _ _ _ _ _ _ _ _ _ _ _ _ _ _ _ rfl
set_option maxHeartbeats 8000000 in
theorem r12c (KK : Act → World → Prop) (Q' : Exit → Act → World → Prop) (p0 p1 p2 p3 p4 p7 p10 p11 p12 p13 p14 p15 p16 p17 p18 p19 p20 p21 p22 p23 p24 p25 p26 p27 p28 p29 p30 p31 p32 p33 p34 p35 p36 p37 p38 p39 p40 p41 p42 p43 p44 p45 p46 p47 p48 p49 p50 p51 p52 p53 p54 p55 p56 p57 p58 p59 p60 p61 p62 p63 p64 p65 p66 p67 p68 p69 p70 p71 p72 p73 p74 p75 p76 p77 p78 p79 p80 p81 p82 p83 p84 p85 p86 p87 p88 p89 p90 p91 p92 p93 p94 p95 p96 p97 p98 p99 p100 p101 p102 p103 p104 p105 p106 p107 p108 p109 p110 p111 p112 p113 p114 p115 p116 p117 p118 p119 p120 p121 p122 p123 p124 p125 p126 p127 p128 p129 p130 p131 p132 p133 p134 p135 p136 p137 p138 p139 p140 : Value) (B D j k : Nat) (xa xn xc xh ya yn yc yh : Int) (w : World)
    (HSP : Hid (sP w B D j k false ⟨xa, xn, xc, xh⟩ ⟨ya, yn, yc, yh⟩)) (j0 : (0 : Int) ≤ (j : Int)) (j9 : (j : Int) < 9) (k0 : (0 : Int) ≤ (k : Int)) (k9 : (k : Int) < 9) (hxc : 0 ≤ xc) (hxd : decide (0 ≤ xc) = true) (hk' : ((k : Int) == 0) = true)
    (hKK : ∀ (r32 r33 r34 r35 r36 r37 r38 r39 r40 r41 r42 r43 r44 r45 r46 r47 r48 r49 r50 r51 r52 r53 r54 r55 r56 r57 r58 : Value) (wz : World), wz = w.drew → KK ⟨#[p0, p1, p2, p3, p4, .slice (some ⟨B, 0, none⟩) 9 9, .slice (some ⟨D, 0, none⟩) 9 9, p7, .int .i64 (k : Int), .int .i64 (j : Int), p10, p11, p12, p13, p14, p15, p16, p17, p18, p19, p20, p21, p22, p23, p24, p25, p26, p27, p28, p29, p30, p31, r32, r33, r34, r35, r36, r37, r38, r39, r40, r41, r42, r43, r44, r45, r46, r47, r48, r49, r50, r51, r52, r53, r54, r55, r56, r57, r58, .bool true, p60, p61, p62, p63, p64, p65, p66, p67, p68, p69, p70, p71, p72, p73, p74, p75, p76, p77, p78, p79, p80, p81, p82, p83, p84, p85, p86, p87, p88, p89, p90, p91, p92, p93, p94, p95, p96, p97, p98, p99, p100, p101, p102, p103, p104, p105, p106, p107, p108, p109, p110, p111, p112, p113, p114, p115, p116, p117, p118, p119, p120, p121, p122, p123, p124, p125, p126, p127, p128, p129, p130, p131, p132, p133, p134, p135, p136, p137, p138, p139, p140], []⟩ wz) :
    Code.wp Tryz.prog (reg 12) (Exit.then KK Q') ⟨#[p0, p1, p2, p3, p4, .slice (some ⟨B, 0, none⟩) 9 9, .slice (some ⟨D, 0, none⟩) 9 9, p7, .int .i64 (k : Int), .int .i64 (j : Int), p10, p11, p12, p13, p14, p15, p16, p17, p18, p19, p20, p21, p22, p23, p24, p25, p26, p27, p28, p29, p30, p31, p32, p33, p34, p35, p36, p37, p38, p39, p40, p41, p42, p43, p44, p45, p46, p47, p48, p49, p50, p51, p52, p53, p54, p55, p56, p57, p58, p59, p60, p61, p62, p63, p64, p65, p66, p67, p68, p69, p70, p71, p72, p73, p74, p75, p76, p77, p78, p79, p80, p81, p82, p83, p84, p85, p86, p87, p88, p89, p90, p91, p92, p93, p94, p95, p96, p97, p98, p99, p100, p101, p102, p103, p104, p105, p106, p107, p108, p109, p110, p111, p112, p113, p114, p115, p116, p117, p118, p119, p120, p121, p122, p123, p124, p125, p126, p127, p128, p129, p130, p131, p132, p133, p134, p135, p136, p137, p138, p139, p140], []⟩ w := by
  conv => arg 2; whnf
  refine wp_region_noPanic ?_
  refine wp_region_held_drew (S := fun w' => sP w' B D j k false ⟨xa, xn, xc, xh⟩ ⟨ya, yn, yc, yh⟩ ∧ w'.cell? ⟨D, j, none⟩ = some (.bool false) ∧ w'.cell? ⟨B, j * 4, none⟩ = some (.int .i64 xa) ∧ w'.cell? ⟨B, j * 4 + 1, none⟩ = some (.int .i64 xn) ∧ w'.cell? ⟨B, j * 4 + 2, none⟩ = some (.int .i64 xc) ∧ w'.cell? ⟨B, j * 4 + 3, none⟩ = some (.int .i64 xh) ∧ w'.cell? ⟨B, k * 4, none⟩ = some (.int .i64 ya) ∧ w'.cell? ⟨B, k * 4 + 1, none⟩ = some (.int .i64 yn) ∧ w'.cell? ⟨B, k * 4 + 2, none⟩ = some (.int .i64 yc) ∧ w'.cell? ⟨B, k * 4 + 3, none⟩ = some (.int .i64 yh)) (by kernel_rfl) (sPc (unhide HSP)) (fun hHeld => ?_)
  refine Rg.t 0 32 ?_
  refine Rg.t 1 33 ?_
  refine Rg.t 2 34 ?_
  refine Rg.t 3 35 ?_
  refine Rg.t 4 36 ?_
  refine Rg.t 5 37 ?_
  refine Rg.t 6 38 ?_
  refine Rg.t 7 39 ?_
  refine Rg.t 8 40 ?_
  refine Rg.t 9 41 ?_
  refine Rg.t 10 42 ?_
  refine Rg.t 11 43 ?_
  refine Rg.t 12 44 ?_
  refine Rg.t 13 45 ?_
  refine Rg.t 14 46 ?_
  refine Rg.t 15 47 ?_
  refine Rg.t 16 48 ?_
  refine Rg.s 17 49 ?_
  refine Rg.s 18 50 ?_
  refine Rg.s 19 51 ?_
  refine Rg.s 20 52 ?_
  refine Rg.s 21 53 ?_
  refine Rg.s 22 54 ?_
  refine Rg.s 23 55 ?_
  refine Rg.s 24 56 ?_
  refine Rg.s 25 57 ?_
  refine Rg.t 26 58 ?_
  refine Rg.t 27 59 ?_
  refine wpAnyH_done (by kernel_rfl) (NoPanic.normal ?_) _
  clear hHeld
  exact hKK _ _ _ _ _ _ _ _ _ _ _ _ _ _ _ _ _ _ _ _ _ _ _ _ _ _ _ _ rfl
set_option maxHeartbeats 8000000 in
theorem r12d (KK : Act → World → Prop) (Q' : Exit → Act → World → Prop) (p0 p1 p2 p3 p4 p7 p10 p11 p12 p13 p14 p15 p16 p17 p18 p19 p20 p21 p22 p23 p24 p25 p26 p27 p28 p29 p30 p31 p32 p33 p34 p35 p36 p37 p38 p39 p40 p41 p42 p43 p44 p45 p46 p47 p48 p49 p50 p51 p52 p53 p54 p55 p56 p57 p58 p59 p60 p61 p62 p63 p64 p65 p66 p67 p68 p69 p70 p71 p72 p73 p74 p75 p76 p77 p78 p79 p80 p81 p82 p83 p84 p85 p86 p87 p88 p89 p90 p91 p92 p93 p94 p95 p96 p97 p98 p99 p100 p101 p102 p103 p104 p105 p106 p107 p108 p109 p110 p111 p112 p113 p114 p115 p116 p117 p118 p119 p120 p121 p122 p123 p124 p125 p126 p127 p128 p129 p130 p131 p132 p133 p134 p135 p136 p137 p138 p139 p140 : Value) (B D j k : Nat) (xa xn xc xh ya yn yc yh : Int) (w : World)
    (HSP : Hid (sP w B D j k false ⟨xa, xn, xc, xh⟩ ⟨ya, yn, yc, yh⟩)) (j0 : (0 : Int) ≤ (j : Int)) (j9 : (j : Int) < 9) (k0 : (0 : Int) ≤ (k : Int)) (k9 : (k : Int) < 9) (hxc : 0 ≤ xc) (hxd : decide (0 ≤ xc) = true) (hk' : ((k : Int) == 0) = false)
    (hKK : ∀ (r32 r33 r34 r35 r36 r37 r38 r39 r40 r41 r42 r43 r44 r45 r46 r47 r48 r49 r50 r51 r52 r53 r54 r55 r56 r57 r58 : Value) (wz : World), Below w.heap.size w wz → KK ⟨#[p0, p1, p2, p3, p4, .slice (some ⟨B, 0, none⟩) 9 9, .slice (some ⟨D, 0, none⟩) 9 9, p7, .int .i64 (k : Int), .int .i64 (j : Int), p10, p11, p12, p13, p14, p15, p16, p17, p18, p19, p20, p21, p22, p23, p24, p25, p26, p27, p28, p29, p30, p31, r32, r33, r34, r35, r36, r37, r38, r39, r40, r41, r42, r43, r44, r45, r46, r47, r48, r49, r50, r51, r52, r53, r54, r55, r56, r57, r58, .bool (btB ⟨xa, xn, xc, xh⟩ ⟨ya, yn, yc, yh⟩), p60, p61, p62, p63, p64, p65, p66, p67, p68, p69, p70, p71, p72, p73, p74, p75, p76, p77, p78, p79, p80, p81, p82, p83, p84, p85, p86, p87, p88, p89, p90, p91, p92, p93, p94, p95, p96, p97, p98, p99, p100, p101, p102, p103, p104, p105, p106, p107, p108, p109, p110, p111, p112, p113, p114, p115, p116, p117, p118, p119, p120, p121, p122, p123, p124, p125, p126, p127, p128, p129, p130, p131, p132, p133, p134, p135, p136, p137, p138, p139, p140], []⟩ wz) :
    Code.wp Tryz.prog (reg 12) (Exit.then KK Q') ⟨#[p0, p1, p2, p3, p4, .slice (some ⟨B, 0, none⟩) 9 9, .slice (some ⟨D, 0, none⟩) 9 9, p7, .int .i64 (k : Int), .int .i64 (j : Int), p10, p11, p12, p13, p14, p15, p16, p17, p18, p19, p20, p21, p22, p23, p24, p25, p26, p27, p28, p29, p30, p31, p32, p33, p34, p35, p36, p37, p38, p39, p40, p41, p42, p43, p44, p45, p46, p47, p48, p49, p50, p51, p52, p53, p54, p55, p56, p57, p58, p59, p60, p61, p62, p63, p64, p65, p66, p67, p68, p69, p70, p71, p72, p73, p74, p75, p76, p77, p78, p79, p80, p81, p82, p83, p84, p85, p86, p87, p88, p89, p90, p91, p92, p93, p94, p95, p96, p97, p98, p99, p100, p101, p102, p103, p104, p105, p106, p107, p108, p109, p110, p111, p112, p113, p114, p115, p116, p117, p118, p119, p120, p121, p122, p123, p124, p125, p126, p127, p128, p129, p130, p131, p132, p133, p134, p135, p136, p137, p138, p139, p140], []⟩ w := by
  conv => arg 2; whnf
  obtain ⟨T, hT⟩ : ∃ T, btB (⟨xa, xn, xc, xh⟩ : R) ⟨ya, yn, yc, yh⟩ = T := ⟨_, rfl⟩
  rw [hT] at hKK
  have HBT := hide hT
  clear hT
  refine wp_region_noPanic ?_
  refine wp_region_held_drew (S := fun w' => sP w' B D j k false ⟨xa, xn, xc, xh⟩ ⟨ya, yn, yc, yh⟩ ∧ w'.cell? ⟨D, j, none⟩ = some (.bool false) ∧ w'.cell? ⟨B, j * 4, none⟩ = some (.int .i64 xa) ∧ w'.cell? ⟨B, j * 4 + 1, none⟩ = some (.int .i64 xn) ∧ w'.cell? ⟨B, j * 4 + 2, none⟩ = some (.int .i64 xc) ∧ w'.cell? ⟨B, j * 4 + 3, none⟩ = some (.int .i64 xh) ∧ w'.cell? ⟨B, k * 4, none⟩ = some (.int .i64 ya) ∧ w'.cell? ⟨B, k * 4 + 1, none⟩ = some (.int .i64 yn) ∧ w'.cell? ⟨B, k * 4 + 2, none⟩ = some (.int .i64 yc) ∧ w'.cell? ⟨B, k * 4 + 3, none⟩ = some (.int .i64 yh)) (by kernel_rfl) (sPc (unhide HSP)) (fun hHeld => ?_)
  refine Rg.t 0 32 ?_
  refine Rg.t 1 33 ?_
  refine Rg.t 2 34 ?_
  refine Rg.t 3 35 ?_
  refine Rg.t 4 36 ?_
  refine Rg.t 5 37 ?_
  refine Rg.t 6 38 ?_
  refine Rg.t 7 39 ?_
  refine Rg.t 8 40 ?_
  refine Rg.t 9 41 ?_
  refine Rg.t 10 42 ?_
  refine Rg.t 11 43 ?_
  refine Rg.t 12 44 ?_
  refine Rg.t 13 45 ?_
  refine Rg.t 14 46 ?_
  refine Rg.t 15 47 ?_
  refine Rg.t 16 48 ?_
  refine Rg.t 17 49 ?_
  refine Rg.t 18 50 ?_
  refine Rg.t 19 51 ?_
  refine Rg.t 20 52 ?_
  refine Rg.t 21 53 ?_
  refine Rg.t 22 54 ?_
  refine Rg.t 23 55 ?_
  refine Rg.t 24 56 ?_
  (refine Rg.o 25 (fun K hK => ?_); go_simp)
  refine (l11Less ⟨xa, xn, xc, xh⟩ ⟨ya, yn, yc, yh⟩ _).mono ?_
  rintro e w5 ⟨rfl, b5_⟩
  rw [unhide HBT]
  have b5 : Below w.heap.size w w5 := (Below.refl _ _).drew.trans b5_
  have HSP5 := hide ((unhide HSP).below b5)
  have HB5 := hide b5
  clear b5 b5_ hHeld HSP
  refine hK.out _ _ (sPc (unhide HSP5)) (fun hHeld => ?_)
  clear hK K
  (try simp only [Act.put, List.setIfInBounds_toArray, List.set_cons_zero, List.set_cons_succ])
  refine Rg.t 26 58 ?_
  refine Rg.t 27 59 ?_
  refine wpAnyH_done (by kernel_rfl) (NoPanic.normal ?_) _
  clear hHeld
  exact hKK _ _ _ _ _ _ _ _ _ _ _ _ _ _ _ _ _ _ _ _ _ _ _ _ _ _ _ _ (unhide HB5)
set_option maxHeartbeats 8000000 in
theorem r25a (KK : Act → World → Prop) (Q' : Exit → Act → World → Prop) (p0 p1 p2 p3 p4 p7 p8 p9 p10 p13 p14 p15 p16 p17 p18 p19 p20 p21 p22 p23 p24 p25 p26 p27 p28 p29 p30 p31 p32 p33 p34 p35 p36 p37 p38 p39 p40 p41 p42 p43 p44 p45 p46 p47 p48 p49 p50 p51 p52 p53 p54 p55 p56 p57 p58 p59 p60 p61 p62 p63 p64 p65 p66 p67 p68 p69 p70 p71 p72 p73 p74 p75 p76 p77 p78 p79 p80 p81 p82 p83 p84 p85 p86 p87 p88 p89 p90 p91 p92 p93 p94 p95 p96 p97 p98 p99 p100 p101 p102 p103 p104 p105 p106 p107 p108 p109 p110 p111 p112 p113 p114 p115 p116 p117 p118 p119 p120 p121 p122 p123 p124 p125 p126 p127 p128 p129 p130 p131 p132 p133 p134 p135 p136 p137 p138 p139 p140 : Value) (B D t X : Nat) (xa xn xc xh ya yn yc yh : Int) (w : World)
    (HSQ : Hid (sQ w B D t X true ⟨xa, xn, xc, xh⟩ ⟨ya, yn, yc, yh⟩)) (t0 : (0 : Int) ≤ (t : Int)) (t9 : (t : Int) < 9)
    (hKK : ∀ (r116 r117 r118 r119 r120 r121 r122 r123 r124 r125 r126 r127 r128 r129 r130 r131 r132 r133 r134 r135 : Value) (wz : World), wz = w.drew → KK ⟨#[p0, p1, p2, p3, p4, .slice (some ⟨B, 0, none⟩) 9 9, .slice (some ⟨D, 0, none⟩) 9 9, p7, p8, p9, p10, .int .i64 (t : Int), .pointer (some ⟨X, 0, none⟩), p13, p14, p15, p16, p17, p18, p19, p20, p21, p22, p23, p24, p25, p26, p27, p28, p29, p30, p31, p32, p33, p34, p35, p36, p37, p38, p39, p40, p41, p42, p43, p44, p45, p46, p47, p48, p49, p50, p51, p52, p53, p54, p55, p56, p57, p58, p59, p60, p61, p62, p63, p64, p65, p66, p67, p68, p69, p70, p71, p72, p73, p74, p75, p76, p77, p78, p79, p80, p81, p82, p83, p84, p85, p86, p87, p88, p89, p90, p91, p92, p93, p94, p95, p96, p97, p98, p99, p100, p101, p102, p103, p104, p105, p106, p107, p108, p109, p110, p111, p112, p113, p114, p115, r116, r117, r118, r119, r120, r121, r122, r123, r124, r125, r126, r127, r128, r129, r130, r131, r132, r133, r134, r135, .bool false, p137, p138, p139, p140], []⟩ wz) :
    Code.wp Tryz.prog (reg 25) (Exit.then KK Q') ⟨#[p0, p1, p2, p3, p4, .slice (some ⟨B, 0, none⟩) 9 9, .slice (some ⟨D, 0, none⟩) 9 9, p7, p8, p9, p10, .int .i64 (t : Int), .pointer (some ⟨X, 0, none⟩), p13, p14, p15, p16, p17, p18, p19, p20, p21, p22, p23, p24, p25, p26, p27, p28, p29, p30, p31, p32, p33, p34, p35, p36, p37, p38, p39, p40, p41, p42, p43, p44, p45, p46, p47, p48, p49, p50, p51, p52, p53, p54, p55, p56, p57, p58, p59, p60, p61, p62, p63, p64, p65, p66, p67, p68, p69, p70, p71, p72, p73, p74, p75, p76, p77, p78, p79, p80, p81, p82, p83, p84, p85, p86, p87, p88, p89, p90, p91, p92, p93, p94, p95, p96, p97, p98, p99, p100, p101, p102, p103, p104, p105, p106, p107, p108, p109, p110, p111, p112, p113, p114, p115, p116, p117, p118, p119, p120, p121, p122, p123, p124, p125, p126, p127, p128, p129, p130, p131, p132, p133, p134, p135, p136, p137, p138, p139, p140], []⟩ w := by
  conv => arg 2; whnf
  refine wp_region_noPanic ?_
  refine wp_region_held_drew (S := fun w' => sQ w' B D t X true ⟨xa, xn, xc, xh⟩ ⟨ya, yn, yc, yh⟩ ∧ w'.cell? ⟨D, t, none⟩ = some (.bool true) ∧ w'.cell? ⟨B, t * 4, none⟩ = some (.int .i64 ya) ∧ w'.cell? ⟨B, t * 4 + 1, none⟩ = some (.int .i64 yn) ∧ w'.cell? ⟨B, t * 4 + 2, none⟩ = some (.int .i64 yc) ∧ w'.cell? ⟨B, t * 4 + 3, none⟩ = some (.int .i64 yh) ∧ w'.cell? ⟨X, 0, none⟩ = some (.int .i64 xa) ∧ w'.cell? ⟨X, 1, none⟩ = some (.int .i64 xn) ∧ w'.cell? ⟨X, 2, none⟩ = some (.int .i64 xc) ∧ w'.cell? ⟨X, 3, none⟩ = some (.int .i64 xh)) (by kernel_rfl) (sQc (unhide HSQ)) (fun hHeld => ?_)
  refine Rg.t 0 116 ?_
  refine Rg.t 1 117 ?_
  refine Rg.t 2 118 ?_
  refine Rg.t 3 119 ?_
  refine Rg.t 4 120 ?_
  refine Rg.t 5 121 ?_
  refine Rg.s 6 122 ?_
  refine Rg.s 7 123 ?_
  refine Rg.s 8 124 ?_
  refine Rg.s 9 125 ?_
  refine Rg.s 10 126 ?_
  refine Rg.s 11 127 ?_
  refine Rg.s 12 128 ?_
  refine Rg.s 13 129 ?_
  refine Rg.s 14 130 ?_
  refine Rg.s 15 131 ?_
  refine Rg.s 16 132 ?_
  refine Rg.s 17 133 ?_
  refine Rg.s 18 134 ?_
  refine Rg.s 19 135 ?_
  refine Rg.t 20 136 ?_
  refine wpAnyH_done (by kernel_rfl) (NoPanic.normal ?_) _
  clear hHeld
  exact hKK _ _ _ _ _ _ _ _ _ _ _ _ _ _ _ _ _ _ _ _ _ rfl
set_option maxHeartbeats 8000000 in
theorem r25b (KK : Act → World → Prop) (Q' : Exit → Act → World → Prop) (p0 p1 p2 p3 p4 p7 p8 p9 p10 p13 p14 p15 p16 p17 p18 p19 p20 p21 p22 p23 p24 p25 p26 p27 p28 p29 p30 p31 p32 p33 p34 p35 p36 p37 p38 p39 p40 p41 p42 p43 p44 p45 p46 p47 p48 p49 p50 p51 p52 p53 p54 p55 p56 p57 p58 p59 p60 p61 p62 p63 p64 p65 p66 p67 p68 p69 p70 p71 p72 p73 p74 p75 p76 p77 p78 p79 p80 p81 p82 p83 p84 p85 p86 p87 p88 p89 p90 p91 p92 p93 p94 p95 p96 p97 p98 p99 p100 p101 p102 p103 p104 p105 p106 p107 p108 p109 p110 p111 p112 p113 p114 p115 p116 p117 p118 p119 p120 p121 p122 p123 p124 p125 p126 p127 p128 p129 p130 p131 p132 p133 p134 p135 p136 p137 p138 p139 p140 : Value) (B D t X : Nat) (xa xn xc xh ya yn yc yh : Int) (w : World)
    (HSQ : Hid (sQ w B D t X false ⟨xa, xn, xc, xh⟩ ⟨ya, yn, yc, yh⟩)) (t0 : (0 : Int) ≤ (t : Int)) (t9 : (t : Int) < 9) (hyc : yc < 0) (hyd : decide (yc < 0) = true)
    (hKK : ∀ (r116 r117 r118 r119 r120 r121 r122 r123 r124 r125 r126 r127 r128 r129 r130 r131 r132 r133 r134 r135 : Value) (wz : World), wz = w.drew → KK ⟨#[p0, p1, p2, p3, p4, .slice (some ⟨B, 0, none⟩) 9 9, .slice (some ⟨D, 0, none⟩) 9 9, p7, p8, p9, p10, .int .i64 (t : Int), .pointer (some ⟨X, 0, none⟩), p13, p14, p15, p16, p17, p18, p19, p20, p21, p22, p23, p24, p25, p26, p27, p28, p29, p30, p31, p32, p33, p34, p35, p36, p37, p38, p39, p40, p41, p42, p43, p44, p45, p46, p47, p48, p49, p50, p51, p52, p53, p54, p55, p56, p57, p58, p59, p60, p61, p62, p63, p64, p65, p66, p67, p68, p69, p70, p71, p72, p73, p74, p75, p76, p77, p78, p79, p80, p81, p82, p83, p84, p85, p86, p87, p88, p89, p90, p91, p92, p93, p94, p95, p96, p97, p98, p99, p100, p101, p102, p103, p104, p105, p106, p107, p108, p109, p110, p111, p112, p113, p114, p115, r116, r117, r118, r119, r120, r121, r122, r123, r124, r125, r126, r127, r128, r129, r130, r131, r132, r133, r134, r135, .bool true, p137, p138, p139, p140], []⟩ wz) :
    Code.wp Tryz.prog (reg 25) (Exit.then KK Q') ⟨#[p0, p1, p2, p3, p4, .slice (some ⟨B, 0, none⟩) 9 9, .slice (some ⟨D, 0, none⟩) 9 9, p7, p8, p9, p10, .int .i64 (t : Int), .pointer (some ⟨X, 0, none⟩), p13, p14, p15, p16, p17, p18, p19, p20, p21, p22, p23, p24, p25, p26, p27, p28, p29, p30, p31, p32, p33, p34, p35, p36, p37, p38, p39, p40, p41, p42, p43, p44, p45, p46, p47, p48, p49, p50, p51, p52, p53, p54, p55, p56, p57, p58, p59, p60, p61, p62, p63, p64, p65, p66, p67, p68, p69, p70, p71, p72, p73, p74, p75, p76, p77, p78, p79, p80, p81, p82, p83, p84, p85, p86, p87, p88, p89, p90, p91, p92, p93, p94, p95, p96, p97, p98, p99, p100, p101, p102, p103, p104, p105, p106, p107, p108, p109, p110, p111, p112, p113, p114, p115, p116, p117, p118, p119, p120, p121, p122, p123, p124, p125, p126, p127, p128, p129, p130, p131, p132, p133, p134, p135, p136, p137, p138, p139, p140], []⟩ w := by
  conv => arg 2; whnf
  refine wp_region_noPanic ?_
  refine wp_region_held_drew (S := fun w' => sQ w' B D t X false ⟨xa, xn, xc, xh⟩ ⟨ya, yn, yc, yh⟩ ∧ w'.cell? ⟨D, t, none⟩ = some (.bool false) ∧ w'.cell? ⟨B, t * 4, none⟩ = some (.int .i64 ya) ∧ w'.cell? ⟨B, t * 4 + 1, none⟩ = some (.int .i64 yn) ∧ w'.cell? ⟨B, t * 4 + 2, none⟩ = some (.int .i64 yc) ∧ w'.cell? ⟨B, t * 4 + 3, none⟩ = some (.int .i64 yh) ∧ w'.cell? ⟨X, 0, none⟩ = some (.int .i64 xa) ∧ w'.cell? ⟨X, 1, none⟩ = some (.int .i64 xn) ∧ w'.cell? ⟨X, 2, none⟩ = some (.int .i64 xc) ∧ w'.cell? ⟨X, 3, none⟩ = some (.int .i64 xh)) (by kernel_rfl) (sQc (unhide HSQ)) (fun hHeld => ?_)
  refine Rg.t 0 116 ?_
  refine Rg.t 1 117 ?_
  refine Rg.t 2 118 ?_
  refine Rg.t 3 119 ?_
  refine Rg.t 4 120 ?_
  refine Rg.t 5 121 ?_
  refine Rg.t 6 122 ?_
  refine Rg.t 7 123 ?_
  refine Rg.t 8 124 ?_
  refine Rg.t 9 125 ?_
  refine Rg.t 10 126 ?_
  refine Rg.t 11 127 ?_
  refine Rg.t 12 128 ?_
  refine Rg.s 13 129 ?_
  refine Rg.s 14 130 ?_
  refine Rg.s 15 131 ?_
  refine Rg.s 16 132 ?_
  refine Rg.s 17 133 ?_
  refine Rg.s 18 134 ?_
  refine Rg.t 19 135 ?_
  refine Rg.t 20 136 ?_
  refine wpAnyH_done (by kernel_rfl) (NoPanic.normal ?_) _
  clear hHeld
  exact hKK _ _ _ _ _ _ _ _ _ _ _ _ _ _ _ _ _ _ _ _ _ rfl
set_option maxHeartbeats 8000000 in
theorem r25c (KK : Act → World → Prop) (Q' : Exit → Act → World → Prop) (p0 p1 p2 p3 p4 p7 p8 p9 p10 p13 p14 p15 p16 p17 p18 p19 p20 p21 p22 p23 p24 p25 p26 p27 p28 p29 p30 p31 p32 p33 p34 p35 p36 p37 p38 p39 p40 p41 p42 p43 p44 p45 p46 p47 p48 p49 p50 p51 p52 p53 p54 p55 p56 p57 p58 p59 p60 p61 p62 p63 p64 p65 p66 p67 p68 p69 p70 p71 p72 p73 p74 p75 p76 p77 p78 p79 p80 p81 p82 p83 p84 p85 p86 p87 p88 p89 p90 p91 p92 p93 p94 p95 p96 p97 p98 p99 p100 p101 p102 p103 p104 p105 p106 p107 p108 p109 p110 p111 p112 p113 p114 p115 p116 p117 p118 p119 p120 p121 p122 p123 p124 p125 p126 p127 p128 p129 p130 p131 p132 p133 p134 p135 p136 p137 p138 p139 p140 : Value) (B D t X : Nat) (xa xn xc xh ya yn yc yh : Int) (w : World)
    (HSQ : Hid (sQ w B D t X false ⟨xa, xn, xc, xh⟩ ⟨ya, yn, yc, yh⟩)) (t0 : (0 : Int) ≤ (t : Int)) (t9 : (t : Int) < 9) (hyd : decide (yc < 0) = false)
    (hKK : ∀ (r116 r117 r118 r119 r120 r121 r122 r123 r124 r125 r126 r127 r128 r129 r130 r131 r132 r133 r134 r135 : Value) (wz : World), Below w.heap.size w wz → KK ⟨#[p0, p1, p2, p3, p4, .slice (some ⟨B, 0, none⟩) 9 9, .slice (some ⟨D, 0, none⟩) 9 9, p7, p8, p9, p10, .int .i64 (t : Int), .pointer (some ⟨X, 0, none⟩), p13, p14, p15, p16, p17, p18, p19, p20, p21, p22, p23, p24, p25, p26, p27, p28, p29, p30, p31, p32, p33, p34, p35, p36, p37, p38, p39, p40, p41, p42, p43, p44, p45, p46, p47, p48, p49, p50, p51, p52, p53, p54, p55, p56, p57, p58, p59, p60, p61, p62, p63, p64, p65, p66, p67, p68, p69, p70, p71, p72, p73, p74, p75, p76, p77, p78, p79, p80, p81, p82, p83, p84, p85, p86, p87, p88, p89, p90, p91, p92, p93, p94, p95, p96, p97, p98, p99, p100, p101, p102, p103, p104, p105, p106, p107, p108, p109, p110, p111, p112, p113, p114, p115, r116, r117, r118, r119, r120, r121, r122, r123, r124, r125, r126, r127, r128, r129, r130, r131, r132, r133, r134, r135, .bool (btB ⟨xa, xn, xc, xh⟩ ⟨ya, yn, yc, yh⟩), p137, p138, p139, p140], []⟩ wz) :
    Code.wp Tryz.prog (reg 25) (Exit.then KK Q') ⟨#[p0, p1, p2, p3, p4, .slice (some ⟨B, 0, none⟩) 9 9, .slice (some ⟨D, 0, none⟩) 9 9, p7, p8, p9, p10, .int .i64 (t : Int), .pointer (some ⟨X, 0, none⟩), p13, p14, p15, p16, p17, p18, p19, p20, p21, p22, p23, p24, p25, p26, p27, p28, p29, p30, p31, p32, p33, p34, p35, p36, p37, p38, p39, p40, p41, p42, p43, p44, p45, p46, p47, p48, p49, p50, p51, p52, p53, p54, p55, p56, p57, p58, p59, p60, p61, p62, p63, p64, p65, p66, p67, p68, p69, p70, p71, p72, p73, p74, p75, p76, p77, p78, p79, p80, p81, p82, p83, p84, p85, p86, p87, p88, p89, p90, p91, p92, p93, p94, p95, p96, p97, p98, p99, p100, p101, p102, p103, p104, p105, p106, p107, p108, p109, p110, p111, p112, p113, p114, p115, p116, p117, p118, p119, p120, p121, p122, p123, p124, p125, p126, p127, p128, p129, p130, p131, p132, p133, p134, p135, p136, p137, p138, p139, p140], []⟩ w := by
  conv => arg 2; whnf
  obtain ⟨T, hT⟩ : ∃ T, btB (⟨xa, xn, xc, xh⟩ : R) ⟨ya, yn, yc, yh⟩ = T := ⟨_, rfl⟩
  rw [hT] at hKK
  have HBT := hide hT
  clear hT
  refine wp_region_noPanic ?_
  refine wp_region_held_drew (S := fun w' => sQ w' B D t X false ⟨xa, xn, xc, xh⟩ ⟨ya, yn, yc, yh⟩ ∧ w'.cell? ⟨D, t, none⟩ = some (.bool false) ∧ w'.cell? ⟨B, t * 4, none⟩ = some (.int .i64 ya) ∧ w'.cell? ⟨B, t * 4 + 1, none⟩ = some (.int .i64 yn) ∧ w'.cell? ⟨B, t * 4 + 2, none⟩ = some (.int .i64 yc) ∧ w'.cell? ⟨B, t * 4 + 3, none⟩ = some (.int .i64 yh) ∧ w'.cell? ⟨X, 0, none⟩ = some (.int .i64 xa) ∧ w'.cell? ⟨X, 1, none⟩ = some (.int .i64 xn) ∧ w'.cell? ⟨X, 2, none⟩ = some (.int .i64 xc) ∧ w'.cell? ⟨X, 3, none⟩ = some (.int .i64 xh)) (by kernel_rfl) (sQc (unhide HSQ)) (fun hHeld => ?_)
  refine Rg.t 0 116 ?_
  refine Rg.t 1 117 ?_
  refine Rg.t 2 118 ?_
  refine Rg.t 3 119 ?_
  refine Rg.t 4 120 ?_
  refine Rg.t 5 121 ?_
  refine Rg.t 6 122 ?_
  refine Rg.t 7 123 ?_
  refine Rg.t 8 124 ?_
  refine Rg.t 9 125 ?_
  refine Rg.t 10 126 ?_
  refine Rg.t 11 127 ?_
  refine Rg.t 12 128 ?_
  refine Rg.t 13 129 ?_
  refine Rg.t 14 130 ?_
  refine Rg.t 15 131 ?_
  refine Rg.t 16 132 ?_
  refine Rg.t 17 133 ?_
  (refine Rg.o 18 (fun K hK => ?_); go_simp)
  refine (l11Less ⟨xa, xn, xc, xh⟩ ⟨ya, yn, yc, yh⟩ _).mono ?_
  rintro e w5 ⟨rfl, b5_⟩
  rw [unhide HBT]
  have b5 : Below w.heap.size w w5 := (Below.refl _ _).drew.trans b5_
  have HSQ5 := hide ((unhide HSQ).below b5)
  have HB5 := hide b5
  clear b5 b5_ hHeld HSQ
  refine hK.out _ _ (sQc (unhide HSQ5)) (fun hHeld => ?_)
  clear hK K
  (try simp only [Act.put, List.setIfInBounds_toArray, List.set_cons_zero, List.set_cons_succ])
  refine Rg.t 19 135 ?_
  refine Rg.t 20 136 ?_
  refine wpAnyH_done (by kernel_rfl) (NoPanic.normal ?_) _
  clear hHeld
  exact hKK _ _ _ _ _ _ _ _ _ _ _ _ _ _ _ _ _ _ _ _ _ (unhide HB5)
set_option maxHeartbeats 8000000 in
theorem r12 (KK : Act → World → Prop) (Q' : Exit → Act → World → Prop) (p0 p1 p2 p3 p4 p7 p10 p11 p12 p13 p14 p15 p16 p17 p18 p19 p20 p21 p22 p23 p24 p25 p26 p27 p28 p29 p30 p31 p32 p33 p34 p35 p36 p37 p38 p39 p40 p41 p42 p43 p44 p45 p46 p47 p48 p49 p50 p51 p52 p53 p54 p55 p56 p57 p58 p59 p60 p61 p62 p63 p64 p65 p66 p67 p68 p69 p70 p71 p72 p73 p74 p75 p76 p77 p78 p79 p80 p81 p82 p83 p84 p85 p86 p87 p88 p89 p90 p91 p92 p93 p94 p95 p96 p97 p98 p99 p100 p101 p102 p103 p104 p105 p106 p107 p108 p109 p110 p111 p112 p113 p114 p115 p116 p117 p118 p119 p120 p121 p122 p123 p124 p125 p126 p127 p128 p129 p130 p131 p132 p133 p134 p135 p136 p137 p138 p139 p140 : Value) (B D j k : Nat) (dj : Bool) (x y : R) (w : World)
    (HSP : Hid (sP w B D j k dj x y)) (j0 : (0 : Int) ≤ (j : Int)) (j9 : (j : Int) < 9) (k0 : (0 : Int) ≤ (k : Int)) (k9 : (k : Int) < 9)
    (hKK : ∀ (c : Bool), c = (!dj && decide (0 ≤ x.co) && (k == 0 || btB x y)) → ∀ (r32 r33 r34 r35 r36 r37 r38 r39 r40 r41 r42 r43 r44 r45 r46 r47 r48 r49 r50 r51 r52 r53 r54 r55 r56 r57 r58 : Value) (wz : World), Below w.heap.size w wz → KK ⟨#[p0, p1, p2, p3, p4, .slice (some ⟨B, 0, none⟩) 9 9, .slice (some ⟨D, 0, none⟩) 9 9, p7, .int .i64 (k : Int), .int .i64 (j : Int), p10, p11, p12, p13, p14, p15, p16, p17, p18, p19, p20, p21, p22, p23, p24, p25, p26, p27, p28, p29, p30, p31, r32, r33, r34, r35, r36, r37, r38, r39, r40, r41, r42, r43, r44, r45, r46, r47, r48, r49, r50, r51, r52, r53, r54, r55, r56, r57, r58, .bool c, p60, p61, p62, p63, p64, p65, p66, p67, p68, p69, p70, p71, p72, p73, p74, p75, p76, p77, p78, p79, p80, p81, p82, p83, p84, p85, p86, p87, p88, p89, p90, p91, p92, p93, p94, p95, p96, p97, p98, p99, p100, p101, p102, p103, p104, p105, p106, p107, p108, p109, p110, p111, p112, p113, p114, p115, p116, p117, p118, p119, p120, p121, p122, p123, p124, p125, p126, p127, p128, p129, p130, p131, p132, p133, p134, p135, p136, p137, p138, p139, p140], []⟩ wz) :
    Code.wp Tryz.prog (reg 12) (Exit.then KK Q') ⟨#[p0, p1, p2, p3, p4, .slice (some ⟨B, 0, none⟩) 9 9, .slice (some ⟨D, 0, none⟩) 9 9, p7, .int .i64 (k : Int), .int .i64 (j : Int), p10, p11, p12, p13, p14, p15, p16, p17, p18, p19, p20, p21, p22, p23, p24, p25, p26, p27, p28, p29, p30, p31, p32, p33, p34, p35, p36, p37, p38, p39, p40, p41, p42, p43, p44, p45, p46, p47, p48, p49, p50, p51, p52, p53, p54, p55, p56, p57, p58, p59, p60, p61, p62, p63, p64, p65, p66, p67, p68, p69, p70, p71, p72, p73, p74, p75, p76, p77, p78, p79, p80, p81, p82, p83, p84, p85, p86, p87, p88, p89, p90, p91, p92, p93, p94, p95, p96, p97, p98, p99, p100, p101, p102, p103, p104, p105, p106, p107, p108, p109, p110, p111, p112, p113, p114, p115, p116, p117, p118, p119, p120, p121, p122, p123, p124, p125, p126, p127, p128, p129, p130, p131, p132, p133, p134, p135, p136, p137, p138, p139, p140], []⟩ w := by
  have hd : Below w.heap.size w w.drew := (Below.refl _ _).drew
  obtain ⟨xa, xn, xc, xh⟩ := x
  obtain ⟨ya, yn, yc, yh⟩ := y
  dsimp only at hKK
  cases dj
  · by_cases hxc : 0 ≤ xc
    · by_cases hk : k = 0
      · exact r12c KK Q' p0 p1 p2 p3 p4 p7 p10 p11 p12 p13 p14 p15 p16 p17 p18 p19 p20 p21 p22 p23 p24 p25 p26 p27 p28 p29 p30 p31 p32 p33 p34 p35 p36 p37 p38 p39 p40 p41 p42 p43 p44 p45 p46 p47 p48 p49 p50 p51 p52 p53 p54 p55 p56 p57 p58 p59 p60 p61 p62 p63 p64 p65 p66 p67 p68 p69 p70 p71 p72 p73 p74 p75 p76 p77 p78 p79 p80 p81 p82 p83 p84 p85 p86 p87 p88 p89 p90 p91 p92 p93 p94 p95 p96 p97 p98 p99 p100 p101 p102 p103 p104 p105 p106 p107 p108 p109 p110 p111 p112 p113 p114 p115 p116 p117 p118 p119 p120 p121 p122 p123 p124 p125 p126 p127 p128 p129 p130 p131 p132 p133 p134 p135 p136 p137 p138 p139 p140 B D j k xa xn xc xh ya yn yc yh w HSP j0 j9 k0 k9 hxc (decide_eq_true hxc) (by simpa using hk) (fun r32 r33 r34 r35 r36 r37 r38 r39 r40 r41 r42 r43 r44 r45 r46 r47 r48 r49 r50 r51 r52 r53 r54 r55 r56 r57 r58 wz e => hKK true (by rw [decide_eq_true hxc, hk]; rfl) r32 r33 r34 r35 r36 r37 r38 r39 r40 r41 r42 r43 r44 r45 r46 r47 r48 r49 r50 r51 r52 r53 r54 r55 r56 r57 r58 wz (by rw [e]; exact hd))
      · exact r12d KK Q' p0 p1 p2 p3 p4 p7 p10 p11 p12 p13 p14 p15 p16 p17 p18 p19 p20 p21 p22 p23 p24 p25 p26 p27 p28 p29 p30 p31 p32 p33 p34 p35 p36 p37 p38 p39 p40 p41 p42 p43 p44 p45 p46 p47 p48 p49 p50 p51 p52 p53 p54 p55 p56 p57 p58 p59 p60 p61 p62 p63 p64 p65 p66 p67 p68 p69 p70 p71 p72 p73 p74 p75 p76 p77 p78 p79 p80 p81 p82 p83 p84 p85 p86 p87 p88 p89 p90 p91 p92 p93 p94 p95 p96 p97 p98 p99 p100 p101 p102 p103 p104 p105 p106 p107 p108 p109 p110 p111 p112 p113 p114 p115 p116 p117 p118 p119 p120 p121 p122 p123 p124 p125 p126 p127 p128 p129 p130 p131 p132 p133 p134 p135 p136 p137 p138 p139 p140 B D j k xa xn xc xh ya yn yc yh w HSP j0 j9 k0 k9 hxc (decide_eq_true hxc) (by simpa using hk) (fun r32 r33 r34 r35 r36 r37 r38 r39 r40 r41 r42 r43 r44 r45 r46 r47 r48 r49 r50 r51 r52 r53 r54 r55 r56 r57 r58 wz e => hKK _ (by rw [decide_eq_true hxc, show (k == 0) = false by simpa using hk]; simp) r32 r33 r34 r35 r36 r37 r38 r39 r40 r41 r42 r43 r44 r45 r46 r47 r48 r49 r50 r51 r52 r53 r54 r55 r56 r57 r58 wz e)
    · exact r12b KK Q' p0 p1 p2 p3 p4 p7 p10 p11 p12 p13 p14 p15 p16 p17 p18 p19 p20 p21 p22 p23 p24 p25 p26 p27 p28 p29 p30 p31 p32 p33 p34 p35 p36 p37 p38 p39 p40 p41 p42 p43 p44 p45 p46 p47 p48 p49 p50 p51 p52 p53 p54 p55 p56 p57 p58 p59 p60 p61 p62 p63 p64 p65 p66 p67 p68 p69 p70 p71 p72 p73 p74 p75 p76 p77 p78 p79 p80 p81 p82 p83 p84 p85 p86 p87 p88 p89 p90 p91 p92 p93 p94 p95 p96 p97 p98 p99 p100 p101 p102 p103 p104 p105 p106 p107 p108 p109 p110 p111 p112 p113 p114 p115 p116 p117 p118 p119 p120 p121 p122 p123 p124 p125 p126 p127 p128 p129 p130 p131 p132 p133 p134 p135 p136 p137 p138 p139 p140 B D j k xa xn xc xh ya yn yc yh w HSP j0 j9 k0 k9 (decide_eq_false hxc) (fun r32 r33 r34 r35 r36 r37 r38 r39 r40 r41 r42 r43 r44 r45 r46 r47 r48 r49 r50 r51 r52 r53 r54 r55 r56 r57 r58 wz e => hKK false (by rw [decide_eq_false hxc]; rfl) r32 r33 r34 r35 r36 r37 r38 r39 r40 r41 r42 r43 r44 r45 r46 r47 r48 r49 r50 r51 r52 r53 r54 r55 r56 r57 r58 wz (by rw [e]; exact hd))
  · exact r12a KK Q' p0 p1 p2 p3 p4 p7 p10 p11 p12 p13 p14 p15 p16 p17 p18 p19 p20 p21 p22 p23 p24 p25 p26 p27 p28 p29 p30 p31 p32 p33 p34 p35 p36 p37 p38 p39 p40 p41 p42 p43 p44 p45 p46 p47 p48 p49 p50 p51 p52 p53 p54 p55 p56 p57 p58 p59 p60 p61 p62 p63 p64 p65 p66 p67 p68 p69 p70 p71 p72 p73 p74 p75 p76 p77 p78 p79 p80 p81 p82 p83 p84 p85 p86 p87 p88 p89 p90 p91 p92 p93 p94 p95 p96 p97 p98 p99 p100 p101 p102 p103 p104 p105 p106 p107 p108 p109 p110 p111 p112 p113 p114 p115 p116 p117 p118 p119 p120 p121 p122 p123 p124 p125 p126 p127 p128 p129 p130 p131 p132 p133 p134 p135 p136 p137 p138 p139 p140 B D j k xa xn xc xh ya yn yc yh w HSP j0 j9 k0 k9 (fun r32 r33 r34 r35 r36 r37 r38 r39 r40 r41 r42 r43 r44 r45 r46 r47 r48 r49 r50 r51 r52 r53 r54 r55 r56 r57 r58 wz e => hKK false rfl r32 r33 r34 r35 r36 r37 r38 r39 r40 r41 r42 r43 r44 r45 r46 r47 r48 r49 r50 r51 r52 r53 r54 r55 r56 r57 r58 wz (by rw [e]; exact hd))
set_option maxHeartbeats 8000000 in
theorem r25 (KK : Act → World → Prop) (Q' : Exit → Act → World → Prop) (p0 p1 p2 p3 p4 p7 p8 p9 p10 p13 p14 p15 p16 p17 p18 p19 p20 p21 p22 p23 p24 p25 p26 p27 p28 p29 p30 p31 p32 p33 p34 p35 p36 p37 p38 p39 p40 p41 p42 p43 p44 p45 p46 p47 p48 p49 p50 p51 p52 p53 p54 p55 p56 p57 p58 p59 p60 p61 p62 p63 p64 p65 p66 p67 p68 p69 p70 p71 p72 p73 p74 p75 p76 p77 p78 p79 p80 p81 p82 p83 p84 p85 p86 p87 p88 p89 p90 p91 p92 p93 p94 p95 p96 p97 p98 p99 p100 p101 p102 p103 p104 p105 p106 p107 p108 p109 p110 p111 p112 p113 p114 p115 p116 p117 p118 p119 p120 p121 p122 p123 p124 p125 p126 p127 p128 p129 p130 p131 p132 p133 p134 p135 p136 p137 p138 p139 p140 : Value) (B D t X : Nat) (dj : Bool) (x y : R) (w : World)
    (HSQ : Hid (sQ w B D t X dj x y)) (t0 : (0 : Int) ≤ (t : Int)) (t9 : (t : Int) < 9)
    (hKK : ∀ (c : Bool), c = (!dj && (decide (y.co < 0) || btB x y)) → ∀ (r116 r117 r118 r119 r120 r121 r122 r123 r124 r125 r126 r127 r128 r129 r130 r131 r132 r133 r134 r135 : Value) (wz : World), Below w.heap.size w wz → KK ⟨#[p0, p1, p2, p3, p4, .slice (some ⟨B, 0, none⟩) 9 9, .slice (some ⟨D, 0, none⟩) 9 9, p7, p8, p9, p10, .int .i64 (t : Int), .pointer (some ⟨X, 0, none⟩), p13, p14, p15, p16, p17, p18, p19, p20, p21, p22, p23, p24, p25, p26, p27, p28, p29, p30, p31, p32, p33, p34, p35, p36, p37, p38, p39, p40, p41, p42, p43, p44, p45, p46, p47, p48, p49, p50, p51, p52, p53, p54, p55, p56, p57, p58, p59, p60, p61, p62, p63, p64, p65, p66, p67, p68, p69, p70, p71, p72, p73, p74, p75, p76, p77, p78, p79, p80, p81, p82, p83, p84, p85, p86, p87, p88, p89, p90, p91, p92, p93, p94, p95, p96, p97, p98, p99, p100, p101, p102, p103, p104, p105, p106, p107, p108, p109, p110, p111, p112, p113, p114, p115, r116, r117, r118, r119, r120, r121, r122, r123, r124, r125, r126, r127, r128, r129, r130, r131, r132, r133, r134, r135, .bool c, p137, p138, p139, p140], []⟩ wz) :
    Code.wp Tryz.prog (reg 25) (Exit.then KK Q') ⟨#[p0, p1, p2, p3, p4, .slice (some ⟨B, 0, none⟩) 9 9, .slice (some ⟨D, 0, none⟩) 9 9, p7, p8, p9, p10, .int .i64 (t : Int), .pointer (some ⟨X, 0, none⟩), p13, p14, p15, p16, p17, p18, p19, p20, p21, p22, p23, p24, p25, p26, p27, p28, p29, p30, p31, p32, p33, p34, p35, p36, p37, p38, p39, p40, p41, p42, p43, p44, p45, p46, p47, p48, p49, p50, p51, p52, p53, p54, p55, p56, p57, p58, p59, p60, p61, p62, p63, p64, p65, p66, p67, p68, p69, p70, p71, p72, p73, p74, p75, p76, p77, p78, p79, p80, p81, p82, p83, p84, p85, p86, p87, p88, p89, p90, p91, p92, p93, p94, p95, p96, p97, p98, p99, p100, p101, p102, p103, p104, p105, p106, p107, p108, p109, p110, p111, p112, p113, p114, p115, p116, p117, p118, p119, p120, p121, p122, p123, p124, p125, p126, p127, p128, p129, p130, p131, p132, p133, p134, p135, p136, p137, p138, p139, p140], []⟩ w := by
  have hd : Below w.heap.size w w.drew := (Below.refl _ _).drew
  obtain ⟨xa, xn, xc, xh⟩ := x
  obtain ⟨ya, yn, yc, yh⟩ := y
  dsimp only at hKK
  cases dj
  · by_cases hyc : yc < 0
    · exact r25b KK Q' p0 p1 p2 p3 p4 p7 p8 p9 p10 p13 p14 p15 p16 p17 p18 p19 p20 p21 p22 p23 p24 p25 p26 p27 p28 p29 p30 p31 p32 p33 p34 p35 p36 p37 p38 p39 p40 p41 p42 p43 p44 p45 p46 p47 p48 p49 p50 p51 p52 p53 p54 p55 p56 p57 p58 p59 p60 p61 p62 p63 p64 p65 p66 p67 p68 p69 p70 p71 p72 p73 p74 p75 p76 p77 p78 p79 p80 p81 p82 p83 p84 p85 p86 p87 p88 p89 p90 p91 p92 p93 p94 p95 p96 p97 p98 p99 p100 p101 p102 p103 p104 p105 p106 p107 p108 p109 p110 p111 p112 p113 p114 p115 p116 p117 p118 p119 p120 p121 p122 p123 p124 p125 p126 p127 p128 p129 p130 p131 p132 p133 p134 p135 p136 p137 p138 p139 p140 B D t X xa xn xc xh ya yn yc yh w HSQ t0 t9 hyc (decide_eq_true hyc) (fun r116 r117 r118 r119 r120 r121 r122 r123 r124 r125 r126 r127 r128 r129 r130 r131 r132 r133 r134 r135 wz e => hKK true (by rw [decide_eq_true hyc]; rfl) r116 r117 r118 r119 r120 r121 r122 r123 r124 r125 r126 r127 r128 r129 r130 r131 r132 r133 r134 r135 wz (by rw [e]; exact hd))
    · exact r25c KK Q' p0 p1 p2 p3 p4 p7 p8 p9 p10 p13 p14 p15 p16 p17 p18 p19 p20 p21 p22 p23 p24 p25 p26 p27 p28 p29 p30 p31 p32 p33 p34 p35 p36 p37 p38 p39 p40 p41 p42 p43 p44 p45 p46 p47 p48 p49 p50 p51 p52 p53 p54 p55 p56 p57 p58 p59 p60 p61 p62 p63 p64 p65 p66 p67 p68 p69 p70 p71 p72 p73 p74 p75 p76 p77 p78 p79 p80 p81 p82 p83 p84 p85 p86 p87 p88 p89 p90 p91 p92 p93 p94 p95 p96 p97 p98 p99 p100 p101 p102 p103 p104 p105 p106 p107 p108 p109 p110 p111 p112 p113 p114 p115 p116 p117 p118 p119 p120 p121 p122 p123 p124 p125 p126 p127 p128 p129 p130 p131 p132 p133 p134 p135 p136 p137 p138 p139 p140 B D t X xa xn xc xh ya yn yc yh w HSQ t0 t9 (decide_eq_false hyc) (fun r116 r117 r118 r119 r120 r121 r122 r123 r124 r125 r126 r127 r128 r129 r130 r131 r132 r133 r134 r135 wz e => hKK _ (by rw [decide_eq_false hyc]; simp) r116 r117 r118 r119 r120 r121 r122 r123 r124 r125 r126 r127 r128 r129 r130 r131 r132 r133 r134 r135 wz e)
  · exact r25a KK Q' p0 p1 p2 p3 p4 p7 p8 p9 p10 p13 p14 p15 p16 p17 p18 p19 p20 p21 p22 p23 p24 p25 p26 p27 p28 p29 p30 p31 p32 p33 p34 p35 p36 p37 p38 p39 p40 p41 p42 p43 p44 p45 p46 p47 p48 p49 p50 p51 p52 p53 p54 p55 p56 p57 p58 p59 p60 p61 p62 p63 p64 p65 p66 p67 p68 p69 p70 p71 p72 p73 p74 p75 p76 p77 p78 p79 p80 p81 p82 p83 p84 p85 p86 p87 p88 p89 p90 p91 p92 p93 p94 p95 p96 p97 p98 p99 p100 p101 p102 p103 p104 p105 p106 p107 p108 p109 p110 p111 p112 p113 p114 p115 p116 p117 p118 p119 p120 p121 p122 p123 p124 p125 p126 p127 p128 p129 p130 p131 p132 p133 p134 p135 p136 p137 p138 p139 p140 B D t X xa xn xc xh ya yn yc yh w HSQ t0 t9 (fun r116 r117 r118 r119 r120 r121 r122 r123 r124 r125 r126 r127 r128 r129 r130 r131 r132 r133 r134 r135 wz e => hKK false rfl r116 r117 r118 r119 r120 r121 r122 r123 r124 r125 r126 r127 r128 r129 r130 r131 r132 r133 r134 r135 wz (by rw [e]; exact hd))
def sK (w : World) (B k ga o : Nat) (bd bn bc bh val : Int) : Prop := At w B (k * 4) ⟨bd, bn, bc, bh⟩ ∧ w.cell? ⟨ga, o, none⟩ = some (.int .i64 val)
theorem sKc {w : World} {B k ga o : Nat} {bd bn bc bh val : Int} (h : sK w B k ga o bd bn bc bh val) : sK w B k ga o bd bn bc bh val ∧ w.cell? ⟨B, k * 4, none⟩ = some (.int .i64 bd) ∧ w.cell? ⟨B, k * 4 + 1, none⟩ = some (.int .i64 bn) ∧ w.cell? ⟨B, k * 4 + 2, none⟩ = some (.int .i64 bc) ∧ w.cell? ⟨B, k * 4 + 3, none⟩ = some (.int .i64 bh) ∧ w.cell? ⟨ga, o, none⟩ = some (.int .i64 val) := ⟨h, h.1.1, h.1.2.1, h.1.2.2.1, h.1.2.2.2, h.2⟩
theorem sK.below {w w' : World} {B k ga o : Nat} {bd bn bc bh val : Int} (h : sK w B k ga o bd bn bc bh val) (hb : Below w.heap.size w w') : sK w' B k ga o bd bn bc bh val := ⟨h.1.below hb, (hb.cell (p := ⟨ga, o, none⟩) (World.block_lt_of_cell? _ _ h.2)).trans h.2⟩
set_option maxHeartbeats 8000000 in
theorem r22 (KK : Act → World → Prop) (Q' : Exit → Act → World → Prop) (p1 p2 p3 p4 p6 p7 p9 p12 p13 p14 p15 p16 p17 p18 p19 p20 p21 p22 p23 p24 p25 p26 p27 p28 p29 p30 p31 p32 p33 p34 p35 p36 p37 p38 p39 p40 p41 p42 p43 p44 p45 p46 p47 p48 p49 p50 p51 p52 p53 p54 p55 p56 p57 p58 p59 p60 p61 p62 p63 p64 p65 p66 p67 p68 p69 p70 p71 p72 p73 p74 p75 p76 p77 p78 p79 p80 p81 p82 p83 p84 p85 p86 p87 p88 p89 p90 p91 p92 p93 p94 p95 p96 p97 p98 p99 p100 p101 p102 p103 p104 p105 p106 p107 p108 p109 p110 p111 p112 p113 p114 p115 p116 p117 p118 p119 p120 p121 p122 p123 p124 p125 p126 p127 p128 p129 p130 p131 p132 p133 p134 p135 p136 p137 p138 p139 p140 : Value) (ga off n cap B k i : Nat) (ti bd bn bc bh val : Int) (w : World)
    (HK : Hid (At w B (k * 4) ⟨bd, bn, bc, bh⟩)) (c2 : w.cell? ⟨ga, off + i * 3 + 2, none⟩ = some (.int .i64 val))
    (k0 : (0 : Int) ≤ (k : Int)) (k9 : (k : Int) < 9) (i0 : (0 : Int) ≤ (i : Int)) (hin : (i : Int) < (n : Int)) (h0 : 0 ≤ bc) (h1 : 0 ≤ val) (h2 : bc + val ≤ 9223372036854775807) (h3 : 0 ≤ bh) (h4 : bh ≤ 9)
    (hKK : ∀ (r87 r88 r89 r90 r91 r92 r93 r94 r95 r96 r97 r98 r99 r100 r101 r102 r103 r104 r105 r106 r107 r108 r109 r110 : Value) (wz : World), wz = (w.alloc (.cells #[.int .i64 ti, .int .i64 bn, .int .i64 (bc + val), .int .i64 (bh + 1)] 87)).drew → KK ⟨#[.slice (some ⟨ga, off, none⟩) n cap, p1, p2, p3, p4, .slice (some ⟨B, 0, none⟩) 9 9, p6, p7, .int .i64 (k : Int), p9, .int .i64 (i : Int), .int .i64 ti, .pointer (some ⟨w.heap.size, 0, none⟩), p13, p14, p15, p16, p17, p18, p19, p20, p21, p22, p23, p24, p25, p26, p27, p28, p29, p30, p31, p32, p33, p34, p35, p36, p37, p38, p39, p40, p41, p42, p43, p44, p45, p46, p47, p48, p49, p50, p51, p52, p53, p54, p55, p56, p57, p58, p59, p60, p61, p62, p63, p64, p65, p66, p67, p68, p69, p70, p71, p72, p73, p74, p75, p76, p77, p78, p79, p80, p81, p82, p83, p84, p85, p86, r87, r88, r89, r90, r91, r92, r93, r94, r95, r96, r97, r98, r99, r100, r101, r102, r103, r104, r105, r106, r107, r108, r109, r110, p111, p112, p113, p114, p115, p116, p117, p118, p119, p120, p121, p122, p123, p124, p125, p126, p127, p128, p129, p130, p131, p132, p133, p134, p135, p136, p137, p138, p139, p140], []⟩ wz) :
    Code.wp Tryz.prog (reg 22) (Exit.then KK Q') ⟨#[.slice (some ⟨ga, off, none⟩) n cap, p1, p2, p3, p4, .slice (some ⟨B, 0, none⟩) 9 9, p6, p7, .int .i64 (k : Int), p9, .int .i64 (i : Int), .int .i64 ti, p12, p13, p14, p15, p16, p17, p18, p19, p20, p21, p22, p23, p24, p25, p26, p27, p28, p29, p30, p31, p32, p33, p34, p35, p36, p37, p38, p39, p40, p41, p42, p43, p44, p45, p46, p47, p48, p49, p50, p51, p52, p53, p54, p55, p56, p57, p58, p59, p60, p61, p62, p63, p64, p65, p66, p67, p68, p69, p70, p71, p72, p73, p74, p75, p76, p77, p78, p79, p80, p81, p82, p83, p84, p85, p86, p87, p88, p89, p90, p91, p92, p93, p94, p95, p96, p97, p98, p99, p100, p101, p102, p103, p104, p105, p106, p107, p108, p109, p110, p111, p112, p113, p114, p115, p116, p117, p118, p119, p120, p121, p122, p123, p124, p125, p126, p127, p128, p129, p130, p131, p132, p133, p134, p135, p136, p137, p138, p139, p140], []⟩ w := by
  conv => arg 2; whnf
  have HS : Hid (sK w B k ga (off + i * 3 + 2) bd bn bc bh val) := hide ⟨unhide HK, c2⟩
  clear HK c2
  refine wp_region_noPanic ?_
  refine wp_region_held_drew (S := fun w' => sK w' B k ga (off + i * 3 + 2) bd bn bc bh val ∧ w'.cell? ⟨B, k * 4, none⟩ = some (.int .i64 bd) ∧ w'.cell? ⟨B, k * 4 + 1, none⟩ = some (.int .i64 bn) ∧ w'.cell? ⟨B, k * 4 + 2, none⟩ = some (.int .i64 bc) ∧ w'.cell? ⟨B, k * 4 + 3, none⟩ = some (.int .i64 bh) ∧ w'.cell? ⟨ga, off + i * 3 + 2, none⟩ = some (.int .i64 val)) (by kernel_rfl) (sKc (unhide HS)) (fun hHeld => ?_)
  refine Rg.t 0 87 ?_
  refine Rg.t 1 88 ?_
  refine Rg.t 2 89 ?_
  refine Rg.t 3 90 ?_
  refine Rg.t 4 91 ?_
  refine Rg.t 5 92 ?_
  refine Rg.t 6 93 ?_
  refine Rg.t 7 94 ?_
  refine Rg.t 8 95 ?_
  refine Rg.t 9 96 ?_
  refine Rg.t 10 97 ?_
  refine Rg.t 11 98 ?_
  refine Rg.t 12 99 ?_
  refine Rg.t 13 100 ?_
  refine Rg.t 14 101 ?_
  refine Rg.t 15 102 ?_
  refine Rg.t 16 103 ?_
  refine Rg.t 17 104 ?_
  refine Rg.t 18 105 ?_
  refine Rg.t 19 106 ?_
  refine Rg.t 20 107 ?_
  refine Rg.t 21 108 ?_
  refine Rg.t 22 109 ?_
  refine Rg.t 23 110 ?_
  (refine Rg.o 24 (fun K hK => ?_); go_simp)
  have HS2 := hide ((unhide HS).below (w' := (w.alloc (.cells #[.int .i64 0, .int .i64 0, .int .i64 0, .int .i64 0] 87)).drew) ((Below.refl _ _).alloc (Nat.le_refl _) _).drew)
  clear hHeld
  refine hK.out _ _ (sKc (unhide HS2)) (fun hHeld => ?_)
  clear hK K
  (try simp only [Act.put, List.setIfInBounds_toArray, List.set_cons_zero, List.set_cons_succ])
  (refine Rg.o 25 (fun K hK => ?_); go_simp)
  have HS3 := hide ((unhide HS).below (w' := (w.alloc (.cells #[.int .i64 ti, .int .i64 bn, .int .i64 (bc + val), .int .i64 (bh + 1)] 87)).drew) ((Below.refl _ _).alloc (Nat.le_refl _) _).drew)
  have e1 : IntKind.i64.wrap (bc + val) = bc + val := by rw [IntKind.wrap_i64]; omega
  have e2 : IntKind.i64.wrap (bh + 1) = bh + 1 := by rw [IntKind.wrap_i64]; omega
  rw [e1, e2]
  clear hHeld
  refine hK.out _ _ (sKc (unhide HS3)) (fun hHeld => ?_)
  clear hK K
  (try simp only [Act.put, List.setIfInBounds_toArray, List.set_cons_zero, List.set_cons_succ])
  refine wpAnyH_done (by kernel_rfl) (NoPanic.normal ?_) _
  exact hKK _ _ _ _ _ _ _ _ _ _ _ _ _ _ _ _ _ _ _ _ _ _ _ _ _ rfl
end Wd
end Go.Proofs.YtfooahhdikobeaaGreat
