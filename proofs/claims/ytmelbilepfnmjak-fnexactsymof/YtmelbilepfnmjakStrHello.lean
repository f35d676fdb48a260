/-
  Contracts of the laws over the program's Hello (written by mkstr.py): its size, its copy, whether two are alike, the marks, and what one that came in reads as.
-/
import Derived.Test.YtmelbilepfnmjakRecNeighbor
namespace Go.Proofs.Ytmelbilepfnmjak
open Go.ChangeShapes Go.WideShapes Go.ChangeAt Go.RowKit
set_option linter.unusedVariables false
set_option maxRecDepth 100000
set_option linter.unusedSimpArgs false
attribute [local go_sem ↓] Go.wp_at_zero Go.wp_at_succ
namespace Hs
open W1
set_option maxHeartbeats 1000000 in
theorem sz (x y : Int) (a : Option Addr) (n cap : Nat) (L : Int) (w : World) (hL : 0 ≤ L) (hL1 : L ≤ 1048576) (hm : n ≤ maxLen) :
    Calls Try.prog 16 #[.agg #[.int .i64 x, .int .i64 y, .slice a n cap], .int .i64 L] w fun e w' => ∃ r : Int, e = .returned (.int .i64 r) ∧ Below w.heap.size w w' ∧ (r < 0 ∨ (0 ≤ r ∧ r = L - n)) := by
  go_enter Try.func16, Try.ntmps16
  go_wp2_with fail
  refine (Nb.szS a n cap L _ hL hL1 hm).mono ?_
  rintro e w1 ⟨r, rfl, rfl, hr⟩
  rcases hr with hr | ⟨hr, hr1⟩
  · go_wp2_with fail
    go_ret
    exact ⟨_, rfl, (Below.refl _ _).alloc (Nat.le_refl _) _, .inl (by omega)⟩
  · have hnn : ¬ r < 0 := by omega
    have HR1 := hide hr1
    clear hr1
    go_wp2_with fail
    go_ret
    exact ⟨_, rfl, (Below.refl _ _).alloc (Nat.le_refl _) _, .inr ⟨hr, unhide HR1⟩⟩
theorem upto_set {w : World} {g n j : Nat} {ms : List Nb.R} {p : Addr} {v : Value} (h : Nb.Upto w g n j ms) (hne : p.block ≠ g) : Nb.Upto (w.setCell p v) g n j ms :=
  h.of_block (Below.heap_setCell _ _ _ _ (fun e => hne e.symm))
set_option maxHeartbeats 1000000 in
theorem to (x y : Int) (a : Option Addr) (ms : List Nb.R) (cap : Nat) (w : World) (hm : ms.length ≤ 1048576) (hr : Nb.RM w a ms) :
    Calls Try.prog 18 #[.agg #[.int .i64 x, .int .i64 y, .slice a ms.length cap]] w fun e w' => ∃ g, e = .returned (.agg #[.int .i64 x, .int .i64 y, .slice (some ⟨g, 0, none⟩) ms.length ms.length]) ∧ Below w.heap.size w w' ∧ w.heap.size ≤ g ∧ g < w'.heap.size ∧ Nb.Upto w' g ms.length ms.length ms := by
  have HR := hide hr
  clear hr
  go_enter Try.func18, Try.ntmps18
  go_wp2_with fail
  refine (Nb.toS a ms cap _ hm ((unhide HR).below (by repeat (first | exact Below.refl _ _ | refine Below.setCell ?_ (by simp <;> omega) _ | refine Below.alloc ?_ (by simp <;> omega) _)))).mono ?_
  rintro e w1 ⟨g, rfl, b1, hg, hz, u1⟩
  have U1 := hide u1
  clear u1
  obtain ⟨hc, hf⟩ := bcell b1
  have hz1 := b1.size
  simp at hz1 hg
  have B1 : Hid (Below w.heap.size w w1) := hide ((by repeat (first | exact Below.refl _ _ | refine Below.setCell ?_ (by simp <;> omega) _ | refine Below.alloc ?_ (by simp <;> omega) _) : Below w.heap.size w _).trans (b1.mono (by simp <;> omega)))
  clear b1
  go_wp2_with fail
  refine bodyPost_ret (v := .agg #[.int .i64 x, .int .i64 y, .slice (some ⟨g, 0, none⟩) ms.length ms.length]) (by simp [results, Try.results18, go_sem, hc, hz1]) rfl ⟨g, rfl, ?_, ?_, ?_, ?_⟩
  · have := unhide B1
    repeat (first | exact this | refine Below.setCell ?_ (by simp <;> omega) _)
  · omega
  · simp [World.setCell]; omega
  · have := unhide U1
    repeat (first | exact this | refine upto_set ?_ (by simp <;> omega))
set_option maxHeartbeats 1000000 in
theorem eq (x y : Int) (a b : Option Addr) (ms : List Nb.R) (ca cb : Nat) (w : World) (hm : ms.length ≤ 1048576) (hr : Nb.RM w a ms) (hr' : Nb.RM w b ms) :
    Calls Try.prog 20 #[.agg #[.int .i64 x, .int .i64 y, .slice a ms.length ca], .agg #[.int .i64 x, .int .i64 y, .slice b ms.length cb]] w fun e w' => e = .returned (.bool true) ∧ Below w.heap.size w w' := by
  have HR := hide hr
  have HR' := hide hr'
  clear hr hr'
  go_enter Try.func20, Try.ntmps20
  go_wp2_with fail
  refine (Nb.eqS a b ms ca cb _ hm ((unhide HR).below (by repeat (first | exact Below.refl _ _ | refine Below.alloc ?_ (by simp <;> omega) _))) ((unhide HR').below (by repeat (first | exact Below.refl _ _ | refine Below.alloc ?_ (by simp <;> omega) _)))).mono ?_
  rintro e w1 ⟨rfl, b1⟩
  have B1 : Hid (Below w.heap.size w w1) := hide ((by repeat (first | exact Below.refl _ _ | refine Below.alloc ?_ (by simp <;> omega) _) : Below w.heap.size w _).trans (b1.mono (by simp <;> omega)))
  clear b1
  go_wp2_with fail
  go_ret
  exact ⟨rfl, unhide B1⟩
set_option maxHeartbeats 1000000 in
theorem mark (x y : Int) (a : Option Addr) (c lo hi : Nat) (K : Int) (ms : List Nb.R) (w : World) (hK : 0 ≤ K) (hK1 : K ≤ 1073741824) (hn : ms.length ≤ 1048576) (h : Nb.Lst w a ms lo hi) :
    Calls Try.prog 25 #[.agg #[.int .i64 x, .int .i64 y, .slice a ms.length c], .int .i64 K] w fun e w' => e = .returned (.int .i64 (K + 4 * (ms.length : Int))) ∧ w.heap.size ≤ w'.heap.size ∧ Below (min lo w.heap.size) w w' ∧ Nb.Lst w' a (Nb.marks K ms.length) lo hi ∧ ∀ k, k < w.heap.size → (k < lo ∨ hi ≤ k) → w'.heap[k]? = w.heap[k]? := by
  have HL := hide h
  clear h
  go_enter Try.func25, Try.ntmps25
  go_wp2_with fail
  refine (Nb.markF a c lo hi K ms _ hK hK1 hn ((unhide HL).below ((Below.refl _ _).alloc (Nat.le_refl _) _))).mono ?_
  rintro e w1 ⟨rfl, hz, b1, f1, k1⟩
  have HZ := hide hz
  have B1 := hide b1
  have F1 := hide f1
  have K1 := hide k1
  clear hz b1 f1 k1
  go_wp2_with fail
  go_ret
  refine ⟨rfl, ?_, ?_, unhide F1, fun k hk hor => ?_⟩
  · have := unhide HZ; simp at this; omega
  · exact ((Below.refl _ _).alloc (Nat.min_le_right _ _) _).trans ((unhide B1).mono (by simp; omega))
  · exact (unhide K1 k (by simp; omega) hor).trans (((Below.refl w.heap.size w).alloc (Nat.le_refl _) _).block k hk)
set_option maxHeartbeats 1000000 in
theorem held (x y : Int) (a : Option Addr) (c n lo hi : Nat) (K : Int) (w : World) (hK : 0 ≤ K) (hK1 : K ≤ 1073741824) (hn : n ≤ 1048576) (h : Nb.Lst w a (Nb.marks K n) lo hi) :
    Calls Try.prog 26 #[.agg #[.int .i64 x, .int .i64 y, .slice a n c], .int .i64 K] w fun e w' => e = .returned (.int .i64 (K + 4 * (n : Int))) ∧ Below w.heap.size w w' := by
  have HL := hide h
  clear h
  go_enter Try.func26, Try.ntmps26
  go_wp2_with fail
  refine (Nb.heldF a c n lo hi K _ hK hK1 hn ((unhide HL).below ((Below.refl _ _).alloc (Nat.le_refl _) _))).mono ?_
  rintro e w1 ⟨rfl, rfl⟩
  have hnn : ¬ (K + 4 * (n : Int)) < 0 := by omega
  go_wp2_with fail
  go_ret
  exact ⟨rfl, (Below.refl _ _).alloc (Nat.le_refl _) _⟩
theorem cellsR : Try.prog.cellsOf 33 = 3 := by kernel_rfl
theorem cells_int : Try.prog.cellsOf 3 = 1 := by kernel_rfl
theorem cells_list : Try.prog.cellsOf 31 = 1 := by kernel_rfl
theorem listR {α : Type} {l : List α} (h : l.length = 3) : ∃ c0 c1 c2, l = [c0, c1, c2] := by
  match l, h with
  | [c0, c1, c2], _ => exact ⟨c0, c1, c2, rfl⟩
/-- One that came in by value. -/
theorem open_str {H : Type} {enc : TypeId × Value → H} {W : World} {r : Reach} {b0 : Nat} {v : Value} {d : DataW H} {p : List MemPlace}
    (hv : Value.okWide Try.prog W r b0 33 v) (h : DataW.Trod enc Try.prog W 0 (fun _ => true) true 33 v d p) :
    ∃ x y a len cap, ∃ ms : List Nb.R, v = .agg #[.int .i64 x, .int .i64 y, .slice a len cap] ∧ ms.length = len ∧ len ≤ maxLen ∧ Nb.RM W a ms := by
  obtain ⟨cs, rfl, hsz⟩ := okWide_struct Try.underlying33 hv
  obtain ⟨l⟩ := cs
  obtain ⟨c0, c1, c2, rfl⟩ := listR (hsz.trans cellsR)
  obtain ⟨fuel, hf⟩ := h
  obtain ⟨xs, n, _, _, _, hlen, hf⟩ := DataW.trod_struct Try.underlying33 hf
  obtain ⟨x0, x1, x2, rfl⟩ := listR hlen
  have k0 := hf 0 _ rfl
  have k1 := hf 1 _ rfl
  have k2 := hf 2 _ rfl
  simp [Value.cells, cells_int, cells_list] at k0 k1 k2
  obtain ⟨a0, e0, _, _⟩ := DataW.trod_int Try.underlying3 k0
  obtain ⟨a1, e1, _, _⟩ := DataW.trod_int Try.underlying3 k1
  simp at e0 e1
  subst e0 e1
  obtain ⟨a, len, cap, ms, rfl, h1, h2, h3⟩ := Nb.open_cell k2
  exact ⟨a0, a1, a, len, cap, ms, rfl, h1, h2, h3⟩
end Hs
end Go.Proofs.Ytmelbilepfnmjak
