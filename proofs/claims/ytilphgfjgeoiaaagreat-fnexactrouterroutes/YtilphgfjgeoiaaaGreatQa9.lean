/-
  Of the texts RtrM, RtrL, RtrA, RtrB: what this claim needs of them. (put together by mkprune.py)
-/
import Derived.Test.YtilphgfjgeoiaaaGreatQa8
namespace Go.Proofs.YtilphgfjgeoiaaaGreat
open Go.ChangeShapes Go.WideShapes Go.ChangeAt Go.RowKit
set_option linter.unusedVariables false
set_option linter.unusedSimpArgs false
set_option maxRecDepth 100000
attribute [local go_sem ↓] Go.wp_at_zero Go.wp_at_succ
namespace Rt
open W1
theorem RA.but {w w' : World} {b : Nat} {cs : List Value} (h : RA w b cs) (hb : w'.heap[b]? = w.heap[b]?) : RA w' b cs := by
  have c : ∀ q, w'.cell? ⟨b, q, none⟩ = w.cell? ⟨b, q, none⟩ := fun q => World.cell?_of_block (a := ⟨b, q, none⟩) hb
  have f : ∀ q, w'.frozen? ⟨b, q, none⟩ = w.frozen? ⟨b, q, none⟩ := fun q => World.frozen?_of_block (a := ⟨b, q, none⟩) hb
  exact ⟨fun j u hu => (c _).trans (h.1 j u hu), fun j hj => ⟨by rw [c]; exact (h.2.1 j hj).1, by rw [f]; exact (h.2.1 j hj).2⟩, h.2.2⟩
set_option maxHeartbeats 16000000 in
theorem markRt (x1 x2 x3 x4 x5 x6 : Int) (a1 a2 a3 a4 a5 a6 a7 : Option Addr) (c1 c2 c3 c4 c5 c6 c7 : Nat) (b0 b1 b2 b3 b4 b5 b6 b7 : Nat) (K0 K1 K2 K3 K4 K5 K6 K7 : Int) (ls : List Lk.R) (tw : List Tu.R) (se : List Tu.R) (du : List Tu.R) (ss : List So.R) (es : List Tu.R) (la : List Ed.R) (w : World) (hK : 0 ≤ K0) (hK1 : K0 ≤ 900000000) (hk1 : K1 = K0 + 6 * (ls.length : Int)) (hk2 : K2 = K1 + 3 * (tw.length : Int)) (hk3 : K3 = K2 + 3 * (se.length : Int)) (hk4 : K4 = K3 + 3 * (du.length : Int)) (hk5 : K5 = K4 + 3 * (ss.length : Int)) (hk6 : K6 = K5 + 3 * (es.length : Int)) (hk7 : K7 = K6 + 2 * (la.length : Int)) (hm1 : ls.length ≤ 1048576) (hm2 : tw.length ≤ 1048576) (hm3 : se.length ≤ 1048576) (hm4 : du.length ≤ 1048576) (hm5 : ss.length ≤ 1048576) (hm6 : es.length ≤ 1048576) (hm7 : la.length ≤ 1048576) (hb0 : b0 ≤ b1) (hb1 : b1 ≤ b2) (hb2 : b2 ≤ b3) (hb3 : b3 ≤ b4) (hb4 : b4 ≤ b5) (hb5 : b5 ≤ b6) (hb6 : b6 ≤ b7) (hb7 : b7 ≤ w.heap.size) (hl1 : Lk.Lst w a1 (ls) b0 b1) (hl2 : Tu.Lst w a2 (tw) b1 b2) (hl3 : Tu.Lst w a3 (se) b2 b3) (hl4 : Tu.Lst w a4 (du) b3 b4) (hl5 : So.Lst w a5 (ss) b4 b5) (hl6 : Tu.Lst w a6 (es) b5 b6) (hl7 : Ed.Lst w a7 (la) b6 b7) :
    Calls Tryz.prog 12 #[.agg #[.int .i64 x1, .int .i64 x2, .int .i64 x3, .int .i64 x4, .int .i64 x5, .slice a1 ls.length c1, .slice a2 tw.length c2, .slice a3 se.length c3, .slice a4 du.length c4, .slice a5 ss.length c5, .slice a6 es.length c6, .slice a7 la.length c7, .int .i64 x6], .int .i64 K0] w fun e w' => e = .returned (.int .i64 K7) ∧ w.heap.size ≤ w'.heap.size ∧ Below (min b0 w.heap.size) w w' ∧ (Lk.Lst w' a1 (Lk.marks K0 ls.length) b0 b1 ∧ Tu.Lst w' a2 (Tu.marks K1 tw.length) b1 b2 ∧ Tu.Lst w' a3 (Tu.marks K2 se.length) b2 b3 ∧ Tu.Lst w' a4 (Tu.marks K3 du.length) b3 b4 ∧ So.Lst w' a5 (So.marks K4 ss.length) b4 b5 ∧ Tu.Lst w' a6 (Tu.marks K5 es.length) b5 b6 ∧ Ed.Lst w' a7 (Ed.marks K6 la.length) b6 b7) ∧ ∀ k, k < w.heap.size → (k < b0 ∨ b7 ≤ k) → w'.heap[k]? = w.heap[k]? := by
  have HA : Hid (Below w.heap.size w (w.alloc (.cells #[.int .i64 x1, .int .i64 x2, .int .i64 x3, .int .i64 x4, .int .i64 x5, .slice a1 ls.length c1, .slice a2 tw.length c2, .slice a3 se.length c3, .slice a4 du.length c4, .slice a5 ss.length c5, .slice a6 es.length c6, .slice a7 la.length c7, .int .i64 x6] 43))) := hide ((Below.refl _ _).alloc (Nat.le_refl _) _)
  have HB0 : Hid (Below (min b0 w.heap.size) w (w.alloc (.cells #[.int .i64 x1, .int .i64 x2, .int .i64 x3, .int .i64 x4, .int .i64 x5, .slice a1 ls.length c1, .slice a2 tw.length c2, .slice a3 se.length c3, .slice a4 du.length c4, .slice a5 ss.length c5, .slice a6 es.length c6, .slice a7 la.length c7, .int .i64 x6] 43))) := hide ((unhide HA).mono (Nat.min_le_right _ _))
  have HX0 : Hid (RA (w.alloc (.cells #[.int .i64 x1, .int .i64 x2, .int .i64 x3, .int .i64 x4, .int .i64 x5, .slice a1 ls.length c1, .slice a2 tw.length c2, .slice a3 se.length c3, .slice a4 du.length c4, .slice a5 ss.length c5, .slice a6 es.length c6, .slice a7 la.length c7, .int .i64 x6] 43)) w.heap.size (rC x1 x2 x3 x4 x5 (.slice a1 ls.length c1) (.slice a2 tw.length c2) (.slice a3 se.length c3) (.slice a4 du.length c4) (.slice a5 ss.length c5) (.slice a6 es.length c6) (.slice a7 la.length c7) x6)) := hide (ra_new w _ rfl _)
  have hq0 : (w.alloc (.cells #[.int .i64 x1, .int .i64 x2, .int .i64 x3, .int .i64 x4, .int .i64 x5, .slice a1 ls.length c1, .slice a2 tw.length c2, .slice a3 se.length c3, .slice a4 du.length c4, .slice a5 ss.length c5, .slice a6 es.length c6, .slice a7 la.length c7, .int .i64 x6] 43)).heap.size = w.heap.size + 1 := by simp
  have U1_0 := hide (hl1.below (unhide HA))
  have U2_0 := hide (hl2.below (unhide HA))
  have U3_0 := hide (hl3.below (unhide HA))
  have U4_0 := hide (hl4.below (unhide HA))
  have U5_0 := hide (hl5.below (unhide HA))
  have U6_0 := hide (hl6.below (unhide HA))
  have U7_0 := hide (hl7.below (unhide HA))
  clear hl1 hl2 hl3 hl4 hl5 hl6 hl7
  have C0 := hide (fun W => Lk.markF a1 c1 b0 b1 K0 ls W (by omega) (by omega) hm1)
  rw [← hk1] at C0
  have C1 := hide (fun W => Tu.markF a2 c2 b1 b2 K1 tw W (by omega) (by omega) hm2)
  rw [← hk2] at C1
  have C2 := hide (fun W => Tu.markF a3 c3 b2 b3 K2 se W (by omega) (by omega) hm3)
  rw [← hk3] at C2
  have C3 := hide (fun W => Tu.markF a4 c4 b3 b4 K3 du W (by omega) (by omega) hm4)
  rw [← hk4] at C3
  have C4 := hide (fun W => Tq.mark a5 c5 a6 c6 b4 b5 b6 K4 ss es W (by omega) (by omega) hm5 hm6 (by omega) (by omega))
  rw [← hk5, ← hk6] at C4
  have C5 := hide (fun W => Ed.markF a7 c7 b6 b7 K6 la W (by omega) (by omega) hm7)
  rw [← hk7] at C5
  have HK1 := hide hk1
  have HK2 := hide hk2
  have HK3 := hide hk3
  have HK4 := hide hk4
  have HK5 := hide hk5
  have HK6 := hide hk6
  have HK7 := hide hk7
  clear hk1 hk2 hk3 hk4 hk5 hk6 hk7
  go_enter Tryz.func12, Tryz.ntmps12
  go_wp2_with fail
  generalize hW : w.alloc (.cells #[.int .i64 x1, .int .i64 x2, .int .i64 x3, .int .i64 x4, .int .i64 x5, .slice a1 ls.length c1, .slice a2 tw.length c2, .slice a3 se.length c3, .slice a4 du.length c4, .slice a5 ss.length c5, .slice a6 es.length c6, .slice a7 la.length c7, .int .i64 x6] 43) = V0 at *
  clear hW
  refine (unhide C0 _ (unhide U1_0)).mono ?_
  rintro e V1 ⟨rfl, hz0, d_, f_, k_⟩
  have HB1 := hide ((unhide HB0).trans (d_.mono (by omega)))
  have HX1 := hide ((unhide HX0).but (k_ w.heap.size (by omega) (.inr (by omega))))
  have U1_1 := hide f_
  have U2_1 := hide ((unhide U2_0).but (p := fun k => k < b0 ∨ b1 ≤ k) hz0 (fun k hk h => k_ k hk h) (fun k h1 h2 => by omega))
  have U3_1 := hide ((unhide U3_0).but (p := fun k => k < b0 ∨ b1 ≤ k) hz0 (fun k hk h => k_ k hk h) (fun k h1 h2 => by omega))
  have U4_1 := hide ((unhide U4_0).but (p := fun k => k < b0 ∨ b1 ≤ k) hz0 (fun k hk h => k_ k hk h) (fun k h1 h2 => by omega))
  have U5_1 := hide ((unhide U5_0).but (p := fun k => k < b0 ∨ b1 ≤ k) hz0 (fun k hk h => k_ k hk h) (fun k h1 h2 => by omega))
  have U6_1 := hide ((unhide U6_0).but (p := fun k => k < b0 ∨ b1 ≤ k) hz0 (fun k hk h => k_ k hk h) (fun k h1 h2 => by omega))
  have U7_1 := hide ((unhide U7_0).but (p := fun k => k < b0 ∨ b1 ≤ k) hz0 (fun k hk h => k_ k hk h) (fun k h1 h2 => by omega))
  have HQ0 := hide k_
  clear d_ f_ k_ HX0 U1_0 U2_0 U3_0 U4_0 U5_0 U6_0 U7_0
  have z6 := (unhide HX1).at (i := 6) rfl
  go_wp2_with fail
  clear z6
  refine (unhide C1 _ (unhide U2_1)).mono ?_
  rintro e V2 ⟨rfl, hz1, d_, f_, k_⟩
  have HB2 := hide ((unhide HB1).trans (d_.mono (by omega)))
  have HX2 := hide ((unhide HX1).but (k_ w.heap.size (by omega) (.inr (by omega))))
  have U1_2 := hide ((unhide U1_1).but (p := fun k => k < b1 ∨ b2 ≤ k) hz1 (fun k hk h => k_ k hk h) (fun k h1 h2 => by omega))
  have U2_2 := hide f_
  have U3_2 := hide ((unhide U3_1).but (p := fun k => k < b1 ∨ b2 ≤ k) hz1 (fun k hk h => k_ k hk h) (fun k h1 h2 => by omega))
  have U4_2 := hide ((unhide U4_1).but (p := fun k => k < b1 ∨ b2 ≤ k) hz1 (fun k hk h => k_ k hk h) (fun k h1 h2 => by omega))
  have U5_2 := hide ((unhide U5_1).but (p := fun k => k < b1 ∨ b2 ≤ k) hz1 (fun k hk h => k_ k hk h) (fun k h1 h2 => by omega))
  have U6_2 := hide ((unhide U6_1).but (p := fun k => k < b1 ∨ b2 ≤ k) hz1 (fun k hk h => k_ k hk h) (fun k h1 h2 => by omega))
  have U7_2 := hide ((unhide U7_1).but (p := fun k => k < b1 ∨ b2 ≤ k) hz1 (fun k hk h => k_ k hk h) (fun k h1 h2 => by omega))
  have HQ1 := hide k_
  clear d_ f_ k_ HX1 U1_1 U2_1 U3_1 U4_1 U5_1 U6_1 U7_1
  have z7 := (unhide HX2).at (i := 7) rfl
  go_wp2_with fail
  clear z7
  refine (unhide C2 _ (unhide U3_2)).mono ?_
  rintro e V3 ⟨rfl, hz2, d_, f_, k_⟩
  have HB3 := hide ((unhide HB2).trans (d_.mono (by omega)))
  have HX3 := hide ((unhide HX2).but (k_ w.heap.size (by omega) (.inr (by omega))))
  have U1_3 := hide ((unhide U1_2).but (p := fun k => k < b2 ∨ b3 ≤ k) hz2 (fun k hk h => k_ k hk h) (fun k h1 h2 => by omega))
  have U2_3 := hide ((unhide U2_2).but (p := fun k => k < b2 ∨ b3 ≤ k) hz2 (fun k hk h => k_ k hk h) (fun k h1 h2 => by omega))
  have U3_3 := hide f_
  have U4_3 := hide ((unhide U4_2).but (p := fun k => k < b2 ∨ b3 ≤ k) hz2 (fun k hk h => k_ k hk h) (fun k h1 h2 => by omega))
  have U5_3 := hide ((unhide U5_2).but (p := fun k => k < b2 ∨ b3 ≤ k) hz2 (fun k hk h => k_ k hk h) (fun k h1 h2 => by omega))
  have U6_3 := hide ((unhide U6_2).but (p := fun k => k < b2 ∨ b3 ≤ k) hz2 (fun k hk h => k_ k hk h) (fun k h1 h2 => by omega))
  have U7_3 := hide ((unhide U7_2).but (p := fun k => k < b2 ∨ b3 ≤ k) hz2 (fun k hk h => k_ k hk h) (fun k h1 h2 => by omega))
  have HQ2 := hide k_
  clear d_ f_ k_ HX2 U1_2 U2_2 U3_2 U4_2 U5_2 U6_2 U7_2
  have z8 := (unhide HX3).at (i := 8) rfl
  go_wp2_with fail
  clear z8
  refine (unhide C3 _ (unhide U4_3)).mono ?_
  rintro e V4 ⟨rfl, hz3, d_, f_, k_⟩
  have HB4 := hide ((unhide HB3).trans (d_.mono (by omega)))
  have HX4 := hide ((unhide HX3).but (k_ w.heap.size (by omega) (.inr (by omega))))
  have U1_4 := hide ((unhide U1_3).but (p := fun k => k < b3 ∨ b4 ≤ k) hz3 (fun k hk h => k_ k hk h) (fun k h1 h2 => by omega))
  have U2_4 := hide ((unhide U2_3).but (p := fun k => k < b3 ∨ b4 ≤ k) hz3 (fun k hk h => k_ k hk h) (fun k h1 h2 => by omega))
  have U3_4 := hide ((unhide U3_3).but (p := fun k => k < b3 ∨ b4 ≤ k) hz3 (fun k hk h => k_ k hk h) (fun k h1 h2 => by omega))
  have U4_4 := hide f_
  have U5_4 := hide ((unhide U5_3).but (p := fun k => k < b3 ∨ b4 ≤ k) hz3 (fun k hk h => k_ k hk h) (fun k h1 h2 => by omega))
  have U6_4 := hide ((unhide U6_3).but (p := fun k => k < b3 ∨ b4 ≤ k) hz3 (fun k hk h => k_ k hk h) (fun k h1 h2 => by omega))
  have U7_4 := hide ((unhide U7_3).but (p := fun k => k < b3 ∨ b4 ≤ k) hz3 (fun k hk h => k_ k hk h) (fun k h1 h2 => by omega))
  have HQ3 := hide k_
  clear d_ f_ k_ HX3 U1_3 U2_3 U3_3 U4_3 U5_3 U6_3 U7_3
  have z9 := (unhide HX4).at (i := 9) rfl
  have z10 := (unhide HX4).at (i := 10) rfl
  go_wp2_with fail
  clear z9 z10
  refine (unhide C4 _ (by omega) (unhide U5_4) (unhide U6_4)).mono ?_
  rintro e V5 ⟨rfl, hz4, d_, ⟨f_, g_⟩, k_⟩
  have HB5 := hide ((unhide HB4).trans (d_.mono (by omega)))
  have HX5 := hide ((unhide HX4).but (k_ w.heap.size (by omega) (.inr (by omega))))
  have U1_5 := hide ((unhide U1_4).but (p := fun k => k < b4 ∨ b6 ≤ k) hz4 (fun k hk h => k_ k hk h) (fun k h1 h2 => by omega))
  have U2_5 := hide ((unhide U2_4).but (p := fun k => k < b4 ∨ b6 ≤ k) hz4 (fun k hk h => k_ k hk h) (fun k h1 h2 => by omega))
  have U3_5 := hide ((unhide U3_4).but (p := fun k => k < b4 ∨ b6 ≤ k) hz4 (fun k hk h => k_ k hk h) (fun k h1 h2 => by omega))
  have U4_5 := hide ((unhide U4_4).but (p := fun k => k < b4 ∨ b6 ≤ k) hz4 (fun k hk h => k_ k hk h) (fun k h1 h2 => by omega))
  have U5_5 := hide f_
  have U6_5 := hide g_
  have U7_5 := hide ((unhide U7_4).but (p := fun k => k < b4 ∨ b6 ≤ k) hz4 (fun k hk h => k_ k hk h) (fun k h1 h2 => by omega))
  have HQ4 := hide k_
  clear d_ f_ k_ g_ HX4 U1_4 U2_4 U3_4 U4_4 U5_4 U6_4 U7_4
  have z11 := (unhide HX5).at (i := 11) rfl
  go_wp2_with fail
  clear z11
  refine (unhide C5 _ (unhide U7_5)).mono ?_
  rintro e V6 ⟨rfl, hz5, d_, f_, k_⟩
  have HB6 := hide ((unhide HB5).trans (d_.mono (by omega)))
  have HX6 := hide ((unhide HX5).but (k_ w.heap.size (by omega) (.inr (by omega))))
  have U1_6 := hide ((unhide U1_5).but (p := fun k => k < b6 ∨ b7 ≤ k) hz5 (fun k hk h => k_ k hk h) (fun k h1 h2 => by omega))
  have U2_6 := hide ((unhide U2_5).but (p := fun k => k < b6 ∨ b7 ≤ k) hz5 (fun k hk h => k_ k hk h) (fun k h1 h2 => by omega))
  have U3_6 := hide ((unhide U3_5).but (p := fun k => k < b6 ∨ b7 ≤ k) hz5 (fun k hk h => k_ k hk h) (fun k h1 h2 => by omega))
  have U4_6 := hide ((unhide U4_5).but (p := fun k => k < b6 ∨ b7 ≤ k) hz5 (fun k hk h => k_ k hk h) (fun k h1 h2 => by omega))
  have U5_6 := hide ((unhide U5_5).but (p := fun k => k < b6 ∨ b7 ≤ k) hz5 (fun k hk h => k_ k hk h) (fun k h1 h2 => by omega))
  have U6_6 := hide ((unhide U6_5).but (p := fun k => k < b6 ∨ b7 ≤ k) hz5 (fun k hk h => k_ k hk h) (fun k h1 h2 => by omega))
  have U7_6 := hide f_
  have HQ5 := hide k_
  clear d_ f_ k_ HX5 U1_5 U2_5 U3_5 U4_5 U5_5 U6_5 U7_5
  go_wp2_with fail
  go_ret
  refine ⟨rfl, by omega, unhide HB6, ⟨unhide U1_6, unhide U2_6, unhide U3_6, unhide U4_6, unhide U5_6, unhide U6_6, unhide U7_6⟩, fun k hk h => ?_⟩
  rw [unhide HQ5 k (by omega) (by omega), unhide HQ4 k (by omega) (by omega), unhide HQ3 k (by omega) (by omega), unhide HQ2 k (by omega) (by omega), unhide HQ1 k (by omega) (by omega), unhide HQ0 k (by omega) (by omega), (unhide HA).block k hk]
theorem cells13 : Tryz.prog.cellsOf 29 = 13 := by kernel_rfl
theorem cells_int : Tryz.prog.cellsOf 3 = 1 := by kernel_rfl
theorem cells_lk : Tryz.prog.cellsOf 22 = 1 := by kernel_rfl
theorem cells_tu : Tryz.prog.cellsOf 23 = 1 := by kernel_rfl
theorem cells_so : Tryz.prog.cellsOf 24 = 1 := by kernel_rfl
theorem cells_ed : Tryz.prog.cellsOf 27 = 1 := by kernel_rfl
theorem cells_top : Tryz.prog.cellsOf 26 = 2 := by kernel_rfl
theorem list13 {α : Type} {l : List α} (h : l.length = 13) : ∃ c0 c1 c2 c3 c4 c5 c6 c7 c8 c9 c10 c11 c12, l = [c0, c1, c2, c3, c4, c5, c6, c7, c8, c9, c10, c11, c12] := by
  match l, h with
  | [c0, c1, c2, c3, c4, c5, c6, c7, c8, c9, c10, c11, c12], _ => exact ⟨c0, c1, c2, c3, c4, c5, c6, c7, c8, c9, c10, c11, c12, rfl⟩
theorem list12 {α : Type} {l : List α} (h : l.length = 12) : ∃ x0 x1 x2 x3 x4 x5 x6 x7 x8 x9 x10 x11, l = [x0, x1, x2, x3, x4, x5, x6, x7, x8, x9, x10, x11] := by
  match l, h with
  | [x0, x1, x2, x3, x4, x5, x6, x7, x8, x9, x10, x11], _ => exact ⟨x0, x1, x2, x3, x4, x5, x6, x7, x8, x9, x10, x11, rfl⟩
set_option maxHeartbeats 4000000 in
/-- A router that came in by value. -/
theorem open_rtr {H : Type} {enc : TypeId × Value → H} {W : World} {r : Reach} {b0 : Nat} {v : Value} {d : DataW H} {p : List MemPlace}
    (hv : Value.okWide Tryz.prog W r b0 29 v) (h : DataW.Trod enc Tryz.prog W 0 (fun _ => true) true 29 v d p) :
    ∃ x1 x2 x3 x4 x5 x6 a1 a2 a3 a4 a5 a6 a7 c1 c2 c3 c4 c5 c6 c7, ∃ (ls : List Lk.R) (tw : List Tu.R) (se : List Tu.R) (du : List Tu.R) (ss : List So.R) (es : List Tu.R) (la : List Ed.R), v = .agg #[.int .i64 x1, .int .i64 x2, .int .i64 x3, .int .i64 x4, .int .i64 x5, .slice a1 ls.length c1, .slice a2 tw.length c2, .slice a3 se.length c3, .slice a4 du.length c4, .slice a5 ss.length c5, .slice a6 es.length c6, .slice a7 la.length c7, .int .i64 x6] ∧ (ls.length ≤ maxLen ∧ tw.length ≤ maxLen ∧ se.length ≤ maxLen ∧ du.length ≤ maxLen ∧ ss.length ≤ maxLen ∧ es.length ≤ maxLen ∧ la.length ≤ maxLen) ∧ Lk.RM W a1 ls ∧ Tu.RM W a2 tw ∧ Tu.RM W a3 se ∧ Tu.RM W a4 du ∧ So.RM W a5 ss ∧ Tu.RM W a6 es ∧ Ed.RM W a7 la := by
  obtain ⟨cs, rfl, hsz⟩ := okWide_struct Tryz.underlying29 hv
  obtain ⟨l⟩ := cs
  obtain ⟨c0, c1, c2, c3, c4, c5, c6, c7, c8, c9, c10, c11, c12, rfl⟩ := list13 (hsz.trans cells13)
  obtain ⟨fuel, hf⟩ := h
  obtain ⟨xs, n, _, _, _, hlen, hf⟩ := DataW.trod_struct Tryz.underlying29 hf
  obtain ⟨x0, x1, x2, x3, x4, x5, x6, x7, x8, x9, x10, x11, rfl⟩ := list12 hlen
  have k0 := hf 0 _ rfl
  have k1 := hf 1 _ rfl
  have k2 := hf 2 _ rfl
  have k3 := hf 3 _ rfl
  have k4 := hf 4 _ rfl
  have k5 := hf 5 _ rfl
  have k6 := hf 6 _ rfl
  have k7 := hf 7 _ rfl
  have k8 := hf 8 _ rfl
  have k9 := hf 9 _ rfl
  have k10 := hf 10 _ rfl
  have k11 := hf 11 _ rfl
  clear hf hsz hv hlen
  simp [Value.cells, cells_int, cells_lk, cells_tu, cells_ed, cells_top] at k0 k1 k2 k3 k4 k5 k6 k7 k8 k9 k10 k11
  obtain ⟨a0, e0, _, _⟩ := DataW.trod_int Tryz.underlying3 k0
  obtain ⟨a1, e1, _, _⟩ := DataW.trod_int Tryz.underlying3 k1
  obtain ⟨a2, e2, _, _⟩ := DataW.trod_int Tryz.underlying3 k2
  obtain ⟨a3, e3, _, _⟩ := DataW.trod_int Tryz.underlying3 k3
  obtain ⟨a4, e4, _, _⟩ := DataW.trod_int Tryz.underlying3 k4
  obtain ⟨a11, e11, _, _⟩ := DataW.trod_int Tryz.underlying3 k11
  simp at e0 e1 e2 e3 e4 e11
  subst e0 e1 e2 e3 e4 e11
  obtain ⟨ys, n', _, _, _, hlen', hg⟩ := DataW.trod_struct Tryz.underlying26 k9
  obtain ⟨y0, y1, rfl⟩ := Tq.listR hlen'
  have t0 := hg 0 _ rfl
  have t1 := hg 1 _ rfl
  simp [cells_so, cells_tu] at t0 t1
  obtain ⟨g1, l1, p1, m1, rfl, h1, j1, r1⟩ := Lk.open_cell k5
  obtain ⟨g2, l2, p2, m2, rfl, h2, j2, r2⟩ := Tq.open_cellT k6
  obtain ⟨g3, l3, p3, m3, rfl, h3, j3, r3⟩ := Tq.open_cellT k7
  obtain ⟨g4, l4, p4, m4, rfl, h4, j4, r4⟩ := Tq.open_cellT k8
  obtain ⟨g5, l5, p5, m5, rfl, h5, j5, r5⟩ := So.open_cell t0
  obtain ⟨g6, l6, p6, m6, rfl, h6, j6, r6⟩ := Tq.open_cellT t1
  obtain ⟨g7, l7, p7, m7, rfl, h7, j7, r7⟩ := Ed.open_cell k10
  subst h1 h2 h3 h4 h5 h6 h7
  exact ⟨a0, a1, a2, a3, a4, a11, g1, g2, g3, g4, g5, g6, g7, p1, p2, p3, p4, p5, p6, p7, m1, m2, m3, m4, m5, m6, m7, rfl, ⟨j1, j2, j3, j4, j5, j6, j7⟩, r1, r2, r3, r4, r5, r6, r7⟩
end Rt
end Go.Proofs.YtilphgfjgeoiaaaGreat
namespace Go.Proofs.YtilphgfjgeoiaaaGreat
open Go.ChangeShapes Go.WideShapes Go.ChangeAt Go.RowKit
set_option linter.unusedVariables false
set_option linter.unusedSimpArgs false
set_option maxRecDepth 100000
namespace Rt
open W1
/-- Seven lists that lie one behind the other between two bounds of the heap. -/
def RL (W : World) (lo hi : Nat) (a1 a2 a3 a4 a5 a6 a7 : Option Addr) (ls : List Lk.R) (tw : List Tu.R) (se : List Tu.R) (du : List Tu.R) (ss : List So.R) (es : List Tu.R) (la : List Ed.R) : Prop :=
  ∃ b1 b2 b3 b4 b5 b6 : Nat, (lo ≤ b1 ∧ b1 ≤ b2 ∧ b2 ≤ b3 ∧ b3 ≤ b4 ∧ b4 ≤ b5 ∧ b5 ≤ b6 ∧ b6 ≤ hi) ∧ Lk.Lst W a1 (ls) lo b1 ∧ Tu.Lst W a2 (tw) b1 b2 ∧ Tu.Lst W a3 (se) b2 b3 ∧ Tu.Lst W a4 (du) b3 b4 ∧ So.Lst W a5 (ss) b4 b5 ∧ Tu.Lst W a6 (es) b5 b6 ∧ Ed.Lst W a7 (la) b6 hi
theorem RL.below {W W' : World} {lo hi : Nat} {a1 a2 a3 a4 a5 a6 a7 : Option Addr} {ls : List Lk.R} {tw : List Tu.R} {se : List Tu.R} {du : List Tu.R} {ss : List So.R} {es : List Tu.R} {la : List Ed.R} (h : RL W lo hi a1 a2 a3 a4 a5 a6 a7 ls tw se du ss es la) (hb : Below W.heap.size W W') : RL W' lo hi a1 a2 a3 a4 a5 a6 a7 ls tw se du ss es la := by
  obtain ⟨b1, b2, b3, b4, b5, b6, ⟨o0, o1, o2, o3, o4, o5, o6⟩, h1, h2, h3, h4, h5, h6, h7⟩ := h
  exact ⟨b1, b2, b3, b4, b5, b6, ⟨o0, o1, o2, o3, o4, o5, o6⟩, h1.below hb, h2.below hb, h3.below hb, h4.below hb, h5.below hb, h6.below hb, h7.below hb⟩
theorem RL.but {W W' : World} {lo hi L H : Nat} {a1 a2 a3 a4 a5 a6 a7 : Option Addr} {ls : List Lk.R} {tw : List Tu.R} {se : List Tu.R} {du : List Tu.R} {ss : List So.R} {es : List Tu.R} {la : List Ed.R} (h : RL W lo hi a1 a2 a3 a4 a5 a6 a7 ls tw se du ss es la) (hs : W.heap.size ≤ W'.heap.size) (hb : ∀ k, k < W.heap.size → (k < L ∨ H ≤ k) → W'.heap[k]? = W.heap[k]?) (hd : hi ≤ L ∨ H ≤ lo) : RL W' lo hi a1 a2 a3 a4 a5 a6 a7 ls tw se du ss es la := by
  obtain ⟨b1, b2, b3, b4, b5, b6, ⟨o0, o1, o2, o3, o4, o5, o6⟩, h1, h2, h3, h4, h5, h6, h7⟩ := h
  exact ⟨b1, b2, b3, b4, b5, b6, ⟨o0, o1, o2, o3, o4, o5, o6⟩, h1.but (p := fun k => k < L ∨ H ≤ k) hs (fun k hk h => hb k hk h) (fun k h1 h2 => by omega), h2.but (p := fun k => k < L ∨ H ≤ k) hs (fun k hk h => hb k hk h) (fun k h1 h2 => by omega), h3.but (p := fun k => k < L ∨ H ≤ k) hs (fun k hk h => hb k hk h) (fun k h1 h2 => by omega), h4.but (p := fun k => k < L ∨ H ≤ k) hs (fun k hk h => hb k hk h) (fun k h1 h2 => by omega), h5.but (p := fun k => k < L ∨ H ≤ k) hs (fun k hk h => hb k hk h) (fun k h1 h2 => by omega), h6.but (p := fun k => k < L ∨ H ≤ k) hs (fun k hk h => hb k hk h) (fun k h1 h2 => by omega), h7.but (p := fun k => k < L ∨ H ≤ k) hs (fun k hk h => hb k hk h) (fun k h1 h2 => by omega)⟩
theorem RL.r1 {W : World} {lo hi : Nat} {a1 a2 a3 a4 a5 a6 a7 : Option Addr} {ls : List Lk.R} {tw : List Tu.R} {se : List Tu.R} {du : List Tu.R} {ss : List So.R} {es : List Tu.R} {la : List Ed.R} (h : RL W lo hi a1 a2 a3 a4 a5 a6 a7 ls tw se du ss es la) : Lk.RM W a1 ls := by obtain ⟨b1, b2, b3, b4, b5, b6, ⟨o0, o1, o2, o3, o4, o5, o6⟩, h1, h2, h3, h4, h5, h6, h7⟩ := h; exact h1.rm
theorem RL.r2 {W : World} {lo hi : Nat} {a1 a2 a3 a4 a5 a6 a7 : Option Addr} {ls : List Lk.R} {tw : List Tu.R} {se : List Tu.R} {du : List Tu.R} {ss : List So.R} {es : List Tu.R} {la : List Ed.R} (h : RL W lo hi a1 a2 a3 a4 a5 a6 a7 ls tw se du ss es la) : Tu.RM W a2 tw := by obtain ⟨b1, b2, b3, b4, b5, b6, ⟨o0, o1, o2, o3, o4, o5, o6⟩, h1, h2, h3, h4, h5, h6, h7⟩ := h; exact h2.rm
theorem RL.r3 {W : World} {lo hi : Nat} {a1 a2 a3 a4 a5 a6 a7 : Option Addr} {ls : List Lk.R} {tw : List Tu.R} {se : List Tu.R} {du : List Tu.R} {ss : List So.R} {es : List Tu.R} {la : List Ed.R} (h : RL W lo hi a1 a2 a3 a4 a5 a6 a7 ls tw se du ss es la) : Tu.RM W a3 se := by obtain ⟨b1, b2, b3, b4, b5, b6, ⟨o0, o1, o2, o3, o4, o5, o6⟩, h1, h2, h3, h4, h5, h6, h7⟩ := h; exact h3.rm
theorem RL.r4 {W : World} {lo hi : Nat} {a1 a2 a3 a4 a5 a6 a7 : Option Addr} {ls : List Lk.R} {tw : List Tu.R} {se : List Tu.R} {du : List Tu.R} {ss : List So.R} {es : List Tu.R} {la : List Ed.R} (h : RL W lo hi a1 a2 a3 a4 a5 a6 a7 ls tw se du ss es la) : Tu.RM W a4 du := by obtain ⟨b1, b2, b3, b4, b5, b6, ⟨o0, o1, o2, o3, o4, o5, o6⟩, h1, h2, h3, h4, h5, h6, h7⟩ := h; exact h4.rm
theorem RL.r5 {W : World} {lo hi : Nat} {a1 a2 a3 a4 a5 a6 a7 : Option Addr} {ls : List Lk.R} {tw : List Tu.R} {se : List Tu.R} {du : List Tu.R} {ss : List So.R} {es : List Tu.R} {la : List Ed.R} (h : RL W lo hi a1 a2 a3 a4 a5 a6 a7 ls tw se du ss es la) : So.RM W a5 ss := by obtain ⟨b1, b2, b3, b4, b5, b6, ⟨o0, o1, o2, o3, o4, o5, o6⟩, h1, h2, h3, h4, h5, h6, h7⟩ := h; exact h5.rm
theorem RL.r6 {W : World} {lo hi : Nat} {a1 a2 a3 a4 a5 a6 a7 : Option Addr} {ls : List Lk.R} {tw : List Tu.R} {se : List Tu.R} {du : List Tu.R} {ss : List So.R} {es : List Tu.R} {la : List Ed.R} (h : RL W lo hi a1 a2 a3 a4 a5 a6 a7 ls tw se du ss es la) : Tu.RM W a6 es := by obtain ⟨b1, b2, b3, b4, b5, b6, ⟨o0, o1, o2, o3, o4, o5, o6⟩, h1, h2, h3, h4, h5, h6, h7⟩ := h; exact h6.rm
theorem RL.r7 {W : World} {lo hi : Nat} {a1 a2 a3 a4 a5 a6 a7 : Option Addr} {ls : List Lk.R} {tw : List Tu.R} {se : List Tu.R} {du : List Tu.R} {ss : List So.R} {es : List Tu.R} {la : List Ed.R} (h : RL W lo hi a1 a2 a3 a4 a5 a6 a7 ls tw se du ss es la) : Ed.RM W a7 la := by obtain ⟨b1, b2, b3, b4, b5, b6, ⟨o0, o1, o2, o3, o4, o5, o6⟩, h1, h2, h3, h4, h5, h6, h7⟩ := h; exact h7.rm
theorem RL.le {W : World} {lo hi : Nat} {a1 a2 a3 a4 a5 a6 a7 : Option Addr} {ls : List Lk.R} {tw : List Tu.R} {se : List Tu.R} {du : List Tu.R} {ss : List So.R} {es : List Tu.R} {la : List Ed.R} (h : RL W lo hi a1 a2 a3 a4 a5 a6 a7 ls tw se du ss es la) : lo ≤ hi := by obtain ⟨b1, b2, b3, b4, b5, b6, ⟨o0, o1, o2, o3, o4, o5, o6⟩, h1, h2, h3, h4, h5, h6, h7⟩ := h; omega
theorem toRL (x1 x2 x3 x4 x5 x6 : Int) (a1 a2 a3 a4 a5 a6 a7 : Option Addr) (c1 c2 c3 c4 c5 c6 c7 : Nat) (ls : List Lk.R) (tw : List Tu.R) (se : List Tu.R) (du : List Tu.R) (ss : List So.R) (es : List Tu.R) (la : List Ed.R) (w : World) (hm1 : ls.length ≤ 1048576) (hm2 : tw.length ≤ 1048576) (hm3 : se.length ≤ 1048576) (hm4 : du.length ≤ 1048576) (hm5 : ss.length ≤ 1048576) (hm6 : es.length ≤ 1048576) (hm7 : la.length ≤ 1048576) (hr1 : Lk.RM w a1 ls) (hr2 : Tu.RM w a2 tw) (hr3 : Tu.RM w a3 se) (hr4 : Tu.RM w a4 du) (hr5 : So.RM w a5 ss) (hr6 : Tu.RM w a6 es) (hr7 : Ed.RM w a7 la) :
    Calls Tryz.prog 8 #[.agg #[.int .i64 x1, .int .i64 x2, .int .i64 x3, .int .i64 x4, .int .i64 x5, .slice a1 ls.length c1, .slice a2 tw.length c2, .slice a3 se.length c3, .slice a4 du.length c4, .slice a5 ss.length c5, .slice a6 es.length c6, .slice a7 la.length c7, .int .i64 x6]] w fun e w' => ∃ g1 g2 g3 g4 g5 g6 g7, e = .returned (.agg (rC x1 x2 x3 x4 x5 (.slice (some ⟨g1, 0, none⟩) ls.length ls.length) (.slice (some ⟨g2, 0, none⟩) tw.length tw.length) (.slice (some ⟨g3, 0, none⟩) se.length se.length) (.slice (some ⟨g4, 0, none⟩) du.length du.length) (.slice (some ⟨g5, 0, none⟩) ss.length ss.length) (.slice (some ⟨g6, 0, none⟩) es.length es.length) (.slice (some ⟨g7, 0, none⟩) la.length la.length) x6).toArray) ∧ Below w.heap.size w w' ∧ RL w' w.heap.size w'.heap.size (some ⟨g1, 0, none⟩) (some ⟨g2, 0, none⟩) (some ⟨g3, 0, none⟩) (some ⟨g4, 0, none⟩) (some ⟨g5, 0, none⟩) (some ⟨g6, 0, none⟩) (some ⟨g7, 0, none⟩) ls tw se du ss es la := by
  refine (toR x1 x2 x3 x4 x5 x6 a1 a2 a3 a4 a5 a6 a7 c1 c2 c3 c4 c5 c6 c7 ls tw se du ss es la w hm1 hm2 hm3 hm4 hm5 hm6 hm7 hr1 hr2 hr3 hr4 hr5 hr6 hr7).mono ?_
  rintro e w' ⟨g1, g2, g3, g4, g5, g6, g7, rfl, hb, ⟨o0, o1, o2, o3, o4, o5, o6, o7⟩, u1, u2, u3, u4, u5, u6, u7⟩
  refine ⟨g1, g2, g3, g4, g5, g6, g7, rfl, hb, g2, g3, g4, g5, g6, g7, ⟨by omega, by omega, by omega, by omega, by omega, by omega, by omega⟩, .inr ⟨g1, rfl, by omega, by omega, by omega, u1⟩, .inr ⟨g2, rfl, by omega, by omega, by omega, u2⟩, .inr ⟨g3, rfl, by omega, by omega, by omega, u3⟩, .inr ⟨g4, rfl, by omega, by omega, by omega, u4⟩, .inr ⟨g5, rfl, by omega, by omega, by omega, u5⟩, .inr ⟨g6, rfl, by omega, by omega, by omega, u6⟩, .inr ⟨g7, rfl, by omega, by omega, by omega, u7⟩⟩
theorem markRL (x1 x2 x3 x4 x5 x6 : Int) (a1 a2 a3 a4 a5 a6 a7 : Option Addr) (c1 c2 c3 c4 c5 c6 c7 : Nat) (lo hi : Nat) (K : Int) (ls : List Lk.R) (tw : List Tu.R) (se : List Tu.R) (du : List Tu.R) (ss : List So.R) (es : List Tu.R) (la : List Ed.R) (w : World) (hK : 0 ≤ K) (hK1 : K ≤ 900000000) (hm1 : ls.length ≤ 1048576) (hm2 : tw.length ≤ 1048576) (hm3 : se.length ≤ 1048576) (hm4 : du.length ≤ 1048576) (hm5 : ss.length ≤ 1048576) (hm6 : es.length ≤ 1048576) (hm7 : la.length ≤ 1048576) (hhi : hi ≤ w.heap.size) (h : RL w lo hi a1 a2 a3 a4 a5 a6 a7 ls tw se du ss es la) :
    Calls Tryz.prog 12 #[.agg #[.int .i64 x1, .int .i64 x2, .int .i64 x3, .int .i64 x4, .int .i64 x5, .slice a1 ls.length c1, .slice a2 tw.length c2, .slice a3 se.length c3, .slice a4 du.length c4, .slice a5 ss.length c5, .slice a6 es.length c6, .slice a7 la.length c7, .int .i64 x6], .int .i64 K] w fun e w' => ∃ K7 : Int, e = .returned (.int .i64 K7) ∧ Hid (K7 = K + 6 * (ls.length : Int) + 3 * (tw.length : Int) + 3 * (se.length : Int) + 3 * (du.length : Int) + 3 * (ss.length : Int) + 3 * (es.length : Int) + 2 * (la.length : Int)) ∧ w.heap.size ≤ w'.heap.size ∧ Below (min lo w.heap.size) w w' ∧ ∀ k, k < w.heap.size → (k < lo ∨ hi ≤ k) → w'.heap[k]? = w.heap[k]? := by
  obtain ⟨b1, b2, b3, b4, b5, b6, ⟨o0, o1, o2, o3, o4, o5, o6⟩, h1, h2, h3, h4, h5, h6, h7⟩ := h
  refine (markRt x1 x2 x3 x4 x5 x6 a1 a2 a3 a4 a5 a6 a7 c1 c2 c3 c4 c5 c6 c7 lo b1 b2 b3 b4 b5 b6 hi K (K + 6 * (ls.length : Int)) ((K + 6 * (ls.length : Int)) + 3 * (tw.length : Int)) (((K + 6 * (ls.length : Int)) + 3 * (tw.length : Int)) + 3 * (se.length : Int)) ((((K + 6 * (ls.length : Int)) + 3 * (tw.length : Int)) + 3 * (se.length : Int)) + 3 * (du.length : Int)) (((((K + 6 * (ls.length : Int)) + 3 * (tw.length : Int)) + 3 * (se.length : Int)) + 3 * (du.length : Int)) + 3 * (ss.length : Int)) ((((((K + 6 * (ls.length : Int)) + 3 * (tw.length : Int)) + 3 * (se.length : Int)) + 3 * (du.length : Int)) + 3 * (ss.length : Int)) + 3 * (es.length : Int)) (((((((K + 6 * (ls.length : Int)) + 3 * (tw.length : Int)) + 3 * (se.length : Int)) + 3 * (du.length : Int)) + 3 * (ss.length : Int)) + 3 * (es.length : Int)) + 2 * (la.length : Int)) ls tw se du ss es la w hK hK1 rfl rfl rfl rfl rfl rfl rfl hm1 hm2 hm3 hm4 hm5 hm6 hm7 o0 o1 o2 o3 o4 o5 o6 hhi h1 h2 h3 h4 h5 h6 h7).mono ?_
  rintro e w' ⟨rfl, hz, hb, _, hk⟩
  exact ⟨_, rfl, hide (by omega), hz, hb, hk⟩
theorem infoL : Tryz.prog.underlying 29 = some (Tryz.prog.underlying 29).get! ∧ ((Tryz.prog.underlying 29).get!).isRow = true ∧ (Tryz.prog.info? 29).map (·.size) = some 13 := ⟨by kernel_rfl, by kernel_rfl, by kernel_rfl⟩
/-- A router of the laws is read whole. -/
theorem wpList_loadL {ops : Array Oper} {rest : List Oper} {op : Oper} {a : Act} {w : World} {Q : Exit → Act → World → Prop} (x : Operand) (hgd : op.guard = none) (ho : op.op = .load 29 x) {b : Nat} {cs : List Value} (hx : a.eval x = .pointer (some ⟨b, 0, none⟩)) (h : RA w b cs)
    (hk : wpList Tryz.prog ops Q rest (a.put op.dst (.agg cs.toArray)) w) : wpList Tryz.prog ops Q (op :: rest) a w :=
  wpList_load_mid hgd 29 x ho b 0 hx cs _ h.1 infoL.1 infoL.2.1 (h.2.2 ▸ infoL.2.2) hk
theorem run_execL {op : Oper} {a : Act} {w : World} (x : Operand) (ho : op.op = .load 29 x) {b : Nat} {cs : List Value} (hx : a.eval x = .pointer (some ⟨b, 0, none⟩)) (h : RA w b cs) : (execOp a.eval op).run Tryz.prog w = .ok (.value (.agg cs.toArray)) w := by
  unfold execOp
  simp only [ho, hx, Instr.loadAt, Instr.sureAddr, Sem.run_bind, Sem.run_pure, Result.andThen_ok, run_loadVar_mid w b 0 29 cs _ h.1 infoL.1 infoL.2.1 (h.2.2 ▸ infoL.2.2)]
end Rt
end Go.Proofs.YtilphgfjgeoiaaaGreat
namespace Go.Proofs.YtilphgfjgeoiaaaGreat
open Go.ChangeShapes Go.WideShapes Go.ChangeAt Go.RowKit
set_option linter.unusedVariables false
set_option linter.unusedSimpArgs false
attribute [local go_sem ↓] Go.wp_at_zero Go.wp_at_succ
namespace Rt
open W1
def okN (x y z : Int) : Bool := inB x 1 8 && (inB y 0 7 && inB z 0 65535)
end Rt
end Go.Proofs.YtilphgfjgeoiaaaGreat
namespace Go.Proofs.YtilphgfjgeoiaaaGreat
open Go.ChangeShapes Go.WideShapes Go.ChangeAt Go.RowKit
set_option linter.unusedVariables false
set_option linter.unusedSimpArgs false
set_option maxRecDepth 100000
attribute [local go_sem ↓] Go.wp_at_zero Go.wp_at_succ
namespace Rt
open W1
theorem RA.alloc {w : World} {b : Nat} {cs : List Value} (h : RA w b cs) (ob : Obj) : RA (w.alloc ob) b cs := h.below ((Below.refl _ _).alloc (Nat.le_refl _) ob)
theorem bel_alloc {w w' : World} (h : Below w.heap.size w w') (ob : Obj) : Below w.heap.size w (w'.alloc ob) := h.alloc h.size ob
end Rt
end Go.Proofs.YtilphgfjgeoiaaaGreat
