/-
  Contracts of the functions that lay a number into bytes: the program's appendTwo, onto a slice of bytes that the call owns; the model's l01Number for one byte and for two.
-/
import Derived.Test.YtmelbilepfnmjakWire1
import Derived.Deep.AppendLies
import Derived.Laws.BytesArg
namespace Go.Proofs.Ytmelbilepfnmjak
open Go.ChangeShapes Go.WideShapes Go.ChangeAt Go.RowKit
set_option linter.unusedVariables false
namespace Nu
open W1
theorem info5 : ∃ i, Try.prog.info? 5 = some i ∧ i.zero = some (.int .u8 0) ∧ i.size = 1 ∧ i.bytes = 1 := by
  have h : (Try.prog.info? 5).map (fun i => (i.zero, i.size, i.bytes)) = some (some (.int .u8 0), 1, 1) := by kernel_rfl
  obtain ⟨i, hi, he⟩ := Option.map_eq_some_iff.1 h
  simp only [Prod.mk.injEq] at he
  exact ⟨i, hi, he.1, he.2.1, he.2.2⟩
/-- Bytes as cells. -/
def cs (bs : List UInt8) : List Value := bs.map fun b => Value.int .u8 b.toNat

set_option maxHeartbeats 400000 in
theorem appendTwo (base : Nat) (v : Value) (n : Nat) (xs : List Value) (k : Int) (h0 : 0 ≤ k) (h1 : k ≤ 65535) (w : World) (hown : w.ownsRow base 5 1 v n xs) (hn : n ≤ 1048576) (hb : base ≤ w.heap.size) :
    Calls Try.prog 57 #[v, .int .i64 k] w fun e w' => ∃ g cap, e = .returned (.slice (some ⟨g, 0, none⟩) (n + 2) cap) ∧
      w'.ownsRow base 5 1 (.slice (some ⟨g, 0, none⟩) (n + 2) cap) (n + 2) (xs ++ [.int .u8 (k / 256), .int .u8 (k % 256)]) ∧ w.grownBy w' v.ownBlock ∧ (v.ownBlock = some g ∨ w.heap.size < g) := by
  obtain ⟨i0, hi, hz0, hz1, hz2⟩ := info5
  have Hown := hide hown
  clear hown
  go_enter Try.func57, Try.ntmps57
  go_wp2_with (first | (at_builtin; refine wpList_append_lies _ rfl _ _ 77 rfl base 5 i0 (.int .u8 0) 1 1 Try.underlying77 hi hz0 hz1 hz2 rfl (by decide) v n xs rfl ((unhide Hown).alloc _) ⟨w.heap.size, 0, none⟩ 2 2 [.int .u8 (k / 256), .int .u8 (k % 256)] rfl rfl (World.news_of_block (cs := #[.int .u8 (k / 256), .int .u8 (k % 256)]) (t := 5) (fr := (0, 0)) (heap_alloc_new w _)) (by simp [Value.oneCell']) (by omega) (by unfold maxLen; omega) (by omega) (by simp; omega) (w.heap.size + 1) (by simp) ?_; intro g cap w1 hown1 hgrow hat hlt) | fail)
  go_ret
  refine ⟨g, cap, rfl, hown1, ?_, ?_⟩
  · exact ⟨hgrow.os, hgrow.tape, hgrow.output, by have := hgrow.size; simp at this; omega, fun k hk hne => (hgrow.block k (by simp; omega) hne).trans (Below.heap_alloc _ _ _ hk)⟩
  · rcases hat with h | h
    · exact .inl h
    · exact .inr (by omega)

theorem two_cells {w : World} {base g cap : Nat} {a b : Int} (h : w.ownsRow base 5 1 (.slice (some ⟨g, 0, none⟩) 2 cap) 2 [.int .u8 a, .int .u8 b]) :
    ∀ i, i < 2 → w.cell? ⟨g, 0 + i, none⟩ = some (.int .u8 ([a, b].getD i 0)) := by
  intro i hi
  rw [Nat.zero_add, h.cellAt i (by omega)]
  match i, hi with
  | 0, _ => rfl
  | 1, _ => rfl
theorem one_cell {w : World} {base g cap : Nat} {a : Int} (h : w.ownsRow base 5 1 (.slice (some ⟨g, 0, none⟩) 1 cap) 1 [.int .u8 a]) :
    ∀ i, i < 1 → w.cell? ⟨g, 0 + i, none⟩ = some (.int .u8 ([a].getD i 0)) := by
  intro i hi
  rw [Nat.zero_add, h.cellAt i (by omega)]
  match i, hi with
  | 0, _ => rfl

set_option maxHeartbeats 1000000 in
theorem num1 (n : Int) (h0 : 0 ≤ n) (h1 : n ≤ 255) (w : World) :
    Calls Try.prog 74 #[.int .i64 n, .int .i64 1] w fun e w' => e = .returned (.string (strOfNums [n])) ∧ Below w.heap.size w w' := by
  obtain ⟨i0, hi, hz0, hz1, hz2⟩ := info5
  go_enter Try.func74, Try.ntmps74
  go_wp2
  go_loopw [5, 6] (fun v i wr => Below w.heap.size w wr ∧ ((i = .int .i64 0 ∧ wr.ownsRow w.heap.size 5 1 v 0 []) ∨ (i = .int .i64 (-1) ∧ ∃ g cap, v = .slice (some ⟨g, 0, none⟩) 1 cap ∧ wr.ownsRow w.heap.size 5 1 v 1 [.int .u8 n]))) (fun _ i _ => (intOf i + 1).toNat)
  case atStart => exact ⟨(Below.refl _ _).alloc (Nat.le_refl _) _, .inl ⟨rfl, World.ownsRow_lit _ #[] 0 (Nat.le_refl _) (by decide) rfl⟩⟩
  case round =>
    obtain ⟨hb, ⟨rfl, hown⟩ | ⟨rfl, g, cap, rfl, hown⟩⟩ := hrel
    · have Hown := hide hown
      clear hown
      go_wp2_with (first | (at_builtin; refine wpList_append_lies _ rfl _ _ 77 rfl w.heap.size 5 i0 (.int .u8 0) 1 1 Try.underlying77 hi hz0 hz1 hz2 rfl (by decide) u5 0 [] rfl ((unhide Hown).alloc _) ⟨wr.heap.size, 0, none⟩ 1 1 [.int .u8 n] rfl rfl (World.news_of_block (cs := #[.int .u8 n]) (t := 5) (fr := (0, 0)) (heap_alloc_new wr _)) (by simp [Value.oneCell']) (by omega) (by decide) (by decide) (by have := hb.size; simp; omega) (wr.heap.size + 1) (by simp) ?_; intro g1 cap1 w1 hown1 hgrow hat hlt) | fail)
      have hb1 : Below w.heap.size w w1 := ((hb.alloc hb.size _).grown hgrow (by have := hb.size; simp; omega) (fun k hk => ((unhide Hown).lt k hk).1))
      go_roundw
      case rel => exact ⟨hb1, .inr ⟨rfl, g1, cap1, rfl, hown1⟩⟩
      case measure => simp [intOf]
    · have hconv := run_convert_bytes_arg (P := Try.prog) wr 77 5 Try.underlying77 Try.underlying5 g 0 1 cap [n] rfl (one_cell hown) 9 Try.underlying9
      clear hown
      go_wp2
      go_ret
      exact ⟨rfl, hb⟩

set_option maxHeartbeats 1000000 in
theorem num2 (n : Int) (h0 : 0 ≤ n) (h1 : n ≤ 65535) (w : World) :
    Calls Try.prog 74 #[.int .i64 n, .int .i64 2] w fun e w' => e = .returned (.string (strOfNums [n / 256, n % 256])) ∧ Below w.heap.size w w' := by
  obtain ⟨i0, hi, hz0, hz1, hz2⟩ := info5
  go_enter Try.func74, Try.ntmps74
  go_wp2
  go_loopw [5, 6] (fun v i wr => Below w.heap.size w wr ∧ ((i = .int .i64 1 ∧ wr.ownsRow w.heap.size 5 1 v 0 []) ∨ (i = .int .i64 0 ∧ wr.ownsRow w.heap.size 5 1 v 1 [.int .u8 (n / 256)]) ∨ (i = .int .i64 (-1) ∧ ∃ g cap, v = .slice (some ⟨g, 0, none⟩) 2 cap ∧ wr.ownsRow w.heap.size 5 1 v 2 [.int .u8 (n / 256), .int .u8 (n % 256)]))) (fun _ i _ => (intOf i + 1).toNat)
  case atStart => exact ⟨(Below.refl _ _).alloc (Nat.le_refl _) _, .inl ⟨rfl, World.ownsRow_lit _ #[] 0 (Nat.le_refl _) (by decide) rfl⟩⟩
  case round =>
    obtain ⟨hb, ⟨rfl, hown⟩ | ⟨rfl, hown⟩ | ⟨rfl, g, cap, rfl, hown⟩⟩ := hrel
    · have Hown := hide hown
      clear hown
      go_wp2_with (first | (at_builtin; refine wpList_append_lies _ rfl _ _ 77 rfl w.heap.size 5 i0 (.int .u8 0) 1 1 Try.underlying77 hi hz0 hz1 hz2 rfl (by decide) u5 0 [] rfl ((unhide Hown).alloc _) ⟨wr.heap.size, 0, none⟩ 1 1 [.int .u8 (n / 256)] rfl rfl (World.news_of_block (cs := #[.int .u8 (n / 256)]) (t := 5) (fr := (0, 0)) (heap_alloc_new wr _)) (by simp [Value.oneCell']) (by omega) (by decide) (by decide) (by have := hb.size; simp; omega) (wr.heap.size + 1) (by simp) ?_; intro g1 cap1 w1 hown1 hgrow hat hlt) | fail)
      have hb1 : Below w.heap.size w w1 := ((hb.alloc hb.size _).grown hgrow (by have := hb.size; simp; omega) (fun k hk => ((unhide Hown).lt k hk).1))
      go_roundw
      case rel => exact ⟨hb1, .inr (.inl ⟨rfl, hown1⟩)⟩
      case measure => simp [intOf]
    · have Hown := hide hown
      clear hown
      go_wp2_with (first | (at_builtin; refine wpList_append_lies _ rfl _ _ 77 rfl w.heap.size 5 i0 (.int .u8 0) 1 1 Try.underlying77 hi hz0 hz1 hz2 rfl (by decide) u5 1 [.int .u8 (n / 256)] rfl ((unhide Hown).alloc _) ⟨wr.heap.size, 0, none⟩ 1 1 [.int .u8 (n % 256)] rfl rfl (World.news_of_block (cs := #[.int .u8 (n % 256)]) (t := 5) (fr := (0, 0)) (heap_alloc_new wr _)) (by simp [Value.oneCell']) (by omega) (by decide) (by decide) (by have := hb.size; simp; omega) (wr.heap.size + 1) (by simp) ?_; intro g1 cap1 w1 hown1 hgrow hat hlt) | fail)
      have hb1 : Below w.heap.size w w1 := ((hb.alloc hb.size _).grown hgrow (by have := hb.size; simp; omega) (fun k hk => ((unhide Hown).lt k hk).1))
      go_roundw
      case rel => exact ⟨hb1, .inr (.inr ⟨rfl, g1, cap1, rfl, hown1⟩)⟩
      case measure => simp [intOf]
    · have hconv := run_convert_bytes_arg (P := Try.prog) wr 77 5 Try.underlying77 Try.underlying5 g 0 2 cap [n / 256, n % 256] rfl (two_cells hown) 9 Try.underlying9
      clear hown
      go_wp2
      go_ret
      exact ⟨rfl, hb⟩
end Nu
end Go.Proofs.Ytmelbilepfnmjak
