/-
  Contract of the program's appendMessage: the bytes of a right message behind those that the slice owns.
-/
import Derived.Test.YtmelbilepfnmjaaDoorNum
import Derived.Lib.AppendStr

namespace Go.Proofs.YtmelbilepfnmjaaDoor
open Go.ChangeShapes Go.WideShapes Go.ChangeAt Go.RowKit
set_option linter.unusedVariables false
namespace Mi
open W1 Nu
theorem grown_trans {w w1 w2 : World} {r r' : Option Nat} (h : w.grownBy w1 r) (h' : w1.grownBy w2 r') (hr : r' = r ∨ ∃ k, r' = some k ∧ w.heap.size ≤ k) : w.grownBy w2 r :=
  ⟨h'.os.trans h.os, h'.tape.trans h.tape, h'.output.trans h.output, Nat.le_trans h.size h'.size, fun k hk hne =>
    (h'.block k (Nat.lt_of_lt_of_le hk h.size) (by
      rcases hr with rfl | ⟨j, rfl, hj⟩
      · exact hne
      · intro e; cases e; omega)).trans (h.block k hk hne)⟩
theorem grown_alloc {w w1 : World} {o : Obj} {r : Option Nat} (h : (w.alloc o).grownBy w1 r) : w.grownBy w1 r :=
  ⟨h.os, h.tape, h.output, by have := h.size; simp at this; omega, fun k hk hne => (h.block k (by simp; omega) hne).trans (Below.heap_alloc _ _ _ hk)⟩

theorem heap_new_at (w : World) (o : Obj) (n : Nat) (h : n = w.heap.size) : (w.alloc o).heap[n]? = some o := by subst h; exact heap_alloc_new w o

/-- wi is w with a box of its own at its end, and otherwise with new blocks and writes to the row alone; vi is a slice over the row or over a block behind the box. -/
structure Inv (w : World) (row : Option Nat) (box : Obj) (wi : World) (vi : Value) : Prop where
  grown : w.grownBy wi row
  far : vi.ownBlock = row ∨ ∃ g, vi.ownBlock = some g ∧ w.heap.size < g
  size : w.heap.size < wi.heap.size
  box : wi.heap[w.heap.size]? = some box
theorem Inv.start {w : World} {v : Value} (o : Obj) : Inv w v.ownBlock o (w.alloc o) v :=
  ⟨World.grownBy_alloc _ _ _, .inl rfl, by simp, heap_alloc_new w o⟩
theorem Inv.step {w wi wj : World} {row : Option Nat} {box : Obj} {vi : Value} (h : Inv w row box wi vi) (hrow : ∀ k, row = some k → k < w.heap.size) (hg : wi.grownBy wj vi.ownBlock) {g n cap : Nat} (hat : vi.ownBlock = some g ∨ wi.heap.size ≤ g) :
    Inv w row box wj (.slice (some ⟨g, 0, none⟩) n cap) := by
  have hne : some w.heap.size ≠ vi.ownBlock := by
    intro e
    rcases h.far with h1 | ⟨g, h1, h2⟩
    · have := hrow w.heap.size (by rw [← h1]; exact e.symm); omega
    · rw [h1] at e; cases e; omega
  refine ⟨grown_trans h.grown hg ?_, ?_, Nat.lt_of_lt_of_le h.size hg.size, (hg.block _ h.size hne).trans h.box⟩
  · rcases h.far with h1 | ⟨g, h1, h2⟩
    · exact .inl h1
    · exact .inr ⟨g, h1, by omega⟩
  · rcases hat with h3 | h3
    · rcases h.far with h1 | ⟨g', h1, h2⟩
      · left; show some g = row; rw [← h3]; exact h1
      · right; exact ⟨g', by show some g = _; rw [← h3]; exact h1, h2⟩
    · right; exact ⟨g, rfl, by have := h.size; omega⟩
theorem Inv.cells {w wi : World} {row : Option Nat} {vi : Value} {ty og sq hl hp : Int} {body : ByteArray} (h : Inv w row (.cells #[.int .i64 ty, .int .i64 og, .int .i64 sq, .int .i64 hl, .int .i64 hp, .string body] 24) wi vi) :
    wi.cell? ⟨w.heap.size, 0, none⟩ = some (.int .i64 ty) ∧ wi.cell? ⟨w.heap.size, 1, none⟩ = some (.int .i64 og) ∧ wi.cell? ⟨w.heap.size, 2, none⟩ = some (.int .i64 sq) ∧ wi.cell? ⟨w.heap.size, 3, none⟩ = some (.int .i64 hl) ∧ wi.cell? ⟨w.heap.size, 4, none⟩ = some (.int .i64 hp) ∧ wi.cell? ⟨w.heap.size, 5, none⟩ = some (.string body) := by
  have hb := h.box
  simp [World.cell?, hb]

set_option maxHeartbeats 2000000 in
theorem appendMessage (base : Nat) (v : Value) (n : Nat) (xs : List Value) (ty og sq hl hp : Int) (body : ByteArray) (w : World) (hown : w.ownsRow base 5 1 v n xs) (hn : n ≤ 1000000) (hb : base ≤ w.heap.size)
    (t0 : 0 ≤ ty) (t1 : ty ≤ 255) (o0 : 0 ≤ og) (o1 : og ≤ 255) (s0 : 0 ≤ sq) (s1 : sq ≤ 65535) (l0 : 0 ≤ hl) (l1 : hl ≤ 255) (p0 : 0 ≤ hp) (p1 : hp ≤ 255) (b1 : (body.size : Int) ≤ 120) :
    Calls Tryd.prog 14 #[v, .agg #[.int .i64 ty, .int .i64 og, .int .i64 sq, .int .i64 hl, .int .i64 hp, .string body]] w
      fun e w' => ∃ v', e = .returned v' ∧ w'.ownsRow base 5 1 v' (n + 8 + body.size) (xs ++ ([.int .u8 ty, .int .u8 ((8 + (body.size : Int)) / 256), .int .u8 ((8 + (body.size : Int)) % 256), .int .u8 og, .int .u8 (sq / 256), .int .u8 (sq % 256), .int .u8 hl, .int .u8 hp] ++ Lib.strCells body)) ∧ w.grownBy w' v.ownBlock := by
  obtain ⟨i0, hi, hz0, hz1, hz2⟩ := info5
  have hrow : ∀ k, v.ownBlock = some k → k < w.heap.size := fun k hk => (hown.lt k hk).2
  have Hrow := hide hrow
  have Hown := hide hown
  clear hown hrow
  go_enter Tryd.func14, Tryd.ntmps14
  go_wp2_with (first | (at_builtin; refine wpList_append_lies _ rfl _ _ 22 rfl base 5 i0 (.int .u8 0) 1 1 Tryd.underlying22 hi hz0 hz1 hz2 rfl (by decide) v (n) (xs) rfl (((unhide Hown).alloc _).alloc _) ⟨w.heap.size + 1, 0, none⟩ 1 1 [.int .u8 ty] rfl rfl (World.news_of_block (cs := #[.int .u8 ty]) (t := 5) (fr := (0, 0)) (heap_new_at _ _ _ (by simp))) (by simp [Value.oneCell']) (by omega) (by unfold maxLen; omega) (by omega) (by simp; omega) (w.heap.size + 1 + 1) (by simp) ?_; intro g1 cap1 w1 own1 grow1 hat1 hlt1; have I1 : Inv w v.ownBlock (.cells #[.int .i64 ty, .int .i64 og, .int .i64 sq, .int .i64 hl, .int .i64 hp, .string body] 24) w1 (.slice (some ⟨g1, 0, none⟩) (n + 1) cap1) := (Inv.start (v := v) _).step (unhide Hrow) (grown_alloc grow1) (by rcases hat1 with h | h; exact .inl h; exact .inr (by first | omega | (simp; omega))); obtain ⟨c0, c1, c2, c3, c4, c5⟩ := I1.cells; have OW1 := hide own1; have SZ1 : w.heap.size < w1.heap.size := I1.size; clear own1) | fail)
  refine (appendTwo base _ (n + 1) (xs ++ [.int .u8 ty]) (8 + (body.size : Int)) (by omega) (by omega) w1 (unhide OW1) (by omega) (by omega)).mono ?_
  rintro e w2 ⟨g2, cap2, rfl, own2, grow2, hat2⟩
  clear c0 c1 c2 c3 c4 c5
  have I2 : Inv w v.ownBlock (.cells #[.int .i64 ty, .int .i64 og, .int .i64 sq, .int .i64 hl, .int .i64 hp, .string body] 24) w2 (.slice (some ⟨g2, 0, none⟩) (n + 1 + 2) cap2) := I1.step (unhide Hrow) grow2 (by rcases hat2 with h | h; exact .inl h; exact .inr (by first | omega | (simp; omega)))
  obtain ⟨c0, c1, c2, c3, c4, c5⟩ := I2.cells; have OW2 := hide own2; have SZ2 : w.heap.size < w2.heap.size := I2.size; clear own2
  go_wp2_with (first | (at_builtin; refine wpList_append_lies _ rfl _ _ 22 rfl base 5 i0 (.int .u8 0) 1 1 Tryd.underlying22 hi hz0 hz1 hz2 rfl (by decide) _ (n + 1 + 2) (xs ++ [.int .u8 ty] ++ [.int .u8 ((8 + (body.size : Int)) / 256), .int .u8 ((8 + (body.size : Int)) % 256)]) rfl ((unhide OW2).alloc _) ⟨w2.heap.size, 0, none⟩ 1 1 [.int .u8 og] rfl rfl (World.news_of_block (cs := #[.int .u8 og]) (t := 5) (fr := (0, 0)) (heap_new_at _ _ _ (by simp))) (by simp [Value.oneCell']) (by omega) (by unfold maxLen; omega) (by omega) (by first | omega | (simp; omega)) (w2.heap.size + 1) (by simp) ?_; intro g3 cap3 w3 own3 grow3 hat3 hlt3; clear c0 c1 c2 c3 c4 c5; have I3 : Inv w v.ownBlock (.cells #[.int .i64 ty, .int .i64 og, .int .i64 sq, .int .i64 hl, .int .i64 hp, .string body] 24) w3 (.slice (some ⟨g3, 0, none⟩) (n + 1 + 2 + 1) cap3) := I2.step (unhide Hrow) (grown_alloc grow3) (by rcases hat3 with h | h; exact .inl h; exact .inr (by first | omega | (simp; omega))); obtain ⟨c0, c1, c2, c3, c4, c5⟩ := I3.cells; have OW3 := hide own3; have SZ3 : w.heap.size < w3.heap.size := I3.size; clear own3) | fail)
  refine (appendTwo base _ (n + 1 + 2 + 1) (xs ++ [.int .u8 ty] ++ [.int .u8 ((8 + (body.size : Int)) / 256), .int .u8 ((8 + (body.size : Int)) % 256)] ++ [.int .u8 og]) sq (by omega) (by omega) w3 (unhide OW3) (by omega) (by omega)).mono ?_
  rintro e w4 ⟨g4, cap4, rfl, own4, grow4, hat4⟩
  clear c0 c1 c2 c3 c4 c5
  have I4 : Inv w v.ownBlock (.cells #[.int .i64 ty, .int .i64 og, .int .i64 sq, .int .i64 hl, .int .i64 hp, .string body] 24) w4 (.slice (some ⟨g4, 0, none⟩) (n + 1 + 2 + 1 + 2) cap4) := I3.step (unhide Hrow) grow4 (by rcases hat4 with h | h; exact .inl h; exact .inr (by first | omega | (simp; omega)))
  obtain ⟨c0, c1, c2, c3, c4, c5⟩ := I4.cells; have OW4 := hide own4; have SZ4 : w.heap.size < w4.heap.size := I4.size; clear own4
  go_wp2_with (first | (at_builtin; refine wpList_append_lies _ rfl _ _ 22 rfl base 5 i0 (.int .u8 0) 1 1 Tryd.underlying22 hi hz0 hz1 hz2 rfl (by decide) _ (n + 1 + 2 + 1 + 2) (xs ++ [.int .u8 ty] ++ [.int .u8 ((8 + (body.size : Int)) / 256), .int .u8 ((8 + (body.size : Int)) % 256)] ++ [.int .u8 og] ++ [.int .u8 (sq / 256), .int .u8 (sq % 256)]) rfl ((unhide OW4).alloc _) ⟨w4.heap.size, 0, none⟩ 2 2 [.int .u8 hl, .int .u8 hp] rfl rfl (World.news_of_block (cs := #[.int .u8 hl, .int .u8 hp]) (t := 5) (fr := (0, 0)) (heap_new_at _ _ _ (by simp))) (by simp [Value.oneCell']) (by omega) (by unfold maxLen; omega) (by omega) (by first | omega | (simp; omega)) (w4.heap.size + 1) (by simp) ?_; intro g5 cap5 w5 own5 grow5 hat5 hlt5; clear c0 c1 c2 c3 c4 c5; have I5 : Inv w v.ownBlock (.cells #[.int .i64 ty, .int .i64 og, .int .i64 sq, .int .i64 hl, .int .i64 hp, .string body] 24) w5 (.slice (some ⟨g5, 0, none⟩) (n + 1 + 2 + 1 + 2 + 2) cap5) := I4.step (unhide Hrow) (grown_alloc grow5) (by rcases hat5 with h | h; exact .inl h; exact .inr (by first | omega | (simp; omega))); obtain ⟨c0, c1, c2, c3, c4, c5⟩ := I5.cells; have OW5 := hide own5; have SZ5 : w.heap.size < w5.heap.size := I5.size; clear own5) | (at_builtin; refine Lib.wpList_append_own_string _ rfl _ _ 22 9 rfl base 5 i0 Tryd.underlying22 Tryd.underlying9 hi hz0 hz1 hz2 (.slice (some ⟨g5, 0, none⟩) (n + 1 + 2 + 1 + 2 + 2) cap5) (n + 1 + 2 + 1 + 2 + 2) (xs ++ [.int .u8 ty] ++ [.int .u8 ((8 + (body.size : Int)) / 256), .int .u8 ((8 + (body.size : Int)) % 256)] ++ [.int .u8 og] ++ [.int .u8 (sq / 256), .int .u8 (sq % 256)] ++ [.int .u8 hl, .int .u8 hp]) rfl (unhide OW5) body rfl (by unfold maxLen; omega) (by omega) (by omega) ?_; intro v6 w6 own6 grow6 _) | fail)
  go_ret
  refine ⟨v6, rfl, ?_, ?_⟩
  · have e1 : n + 1 + 2 + 1 + 2 + 2 + body.size = n + 8 + body.size := by omega
    rw [e1] at own6
    simpa using own6
  · exact grown_trans I5.grown grow6 (by rcases I5.far with h | ⟨g, h, h2⟩; exact .inl h; exact .inr ⟨g, h, by omega⟩)
end Mi
end Go.Proofs.YtmelbilepfnmjaaDoor
