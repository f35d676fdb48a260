/-
  Of the texts RtrS, LnkM, GraM, TopC, LnkC, SetG, SetP, SetK, SetX, SetY, SetGc: what this claim needs of them. (put together by mkprune.py)
-/
import Derived.Test.YtfooahhdikobeaaGreatQw3
import Derived.Deep.QuietTactic
import Derived.BigQuiet
import Derived.Deep.DeepCutAuto
import Derived.Lib.AppendZeros
import Derived.Laws.NewBlocks
namespace Go.Proofs.YtfooahhdikobeaaGreat
open Go.ChangeShapes Go.WideShapes Go.ChangeAt Go.RowKit
set_option linter.unusedVariables false
set_option linter.unusedSimpArgs false
set_option maxRecDepth 100000
attribute [local go_sem ↓] Go.wp_at_zero Go.wp_at_succ
namespace Rt
open W1
theorem RA.other {w : World} {b : Nat} {cs : List Value} (h : RA w b cs) {p : Addr} (hne : b ≠ p.block) (v : Value) : RA (w.setCell p v) b cs := by
  have hb : (w.setCell p v).heap[b]? = w.heap[b]? := Below.heap_setCell _ _ _ _ hne
  refine ⟨fun j u hu => ?_, fun j hj => ⟨?_, ?_⟩, h.2.2⟩
  · exact (World.cell?_of_block (a := ⟨b, 0 + j, none⟩) hb).trans (h.1 j u hu)
  · rw [World.cell?_of_block (a := ⟨b, 0 + j, none⟩) hb]; exact (h.2.1 j hj).1
  · rw [World.frozen?_setCell]; exact (h.2.1 j hj).2
set_option maxHeartbeats 8000000 in
theorem szR (x1 x2 x3 x4 x5 x6 : Int) (a1 a2 a3 a4 a5 a6 a7 : Option Addr) (n1 n2 n3 n4 n5 n6 n7 : Nat) (c1 c2 c3 c4 c5 c6 c7 : Nat) (L : Int) (w : World) (hL : 0 ≤ L) (hL1 : L ≤ 1048576) (h1 : n1 ≤ maxLen) (h2 : n2 ≤ maxLen) (h3 : n3 ≤ maxLen) (h4 : n4 ≤ maxLen) (h5 : n5 ≤ maxLen) (h6 : n6 ≤ maxLen) (h7 : n7 ≤ maxLen) :
    Calls Tryz.prog 81 #[.agg #[.int .i64 x1, .int .i64 x2, .int .i64 x3, .int .i64 x4, .int .i64 x5, .slice a1 n1 c1, .slice a2 n2 c2, .slice a3 n3 c3, .slice a4 n4 c4, .slice a5 n5 c5, .slice a6 n6 c6, .slice a7 n7 c7, .int .i64 x6], .int .i64 L] w fun e w' => ∃ r : Int, e = .returned (.int .i64 r) ∧ Below w.heap.size w w' ∧ (r < 0 ∨ (0 ≤ r ∧ r = L - n1 - n2 - n3 - n4 - n5 - n6 - n7)) := by
  have HX : Hid (RA (w.alloc (.cells #[.int .i64 x1, .int .i64 x2, .int .i64 x3, .int .i64 x4, .int .i64 x5, .slice a1 n1 c1, .slice a2 n2 c2, .slice a3 n3 c3, .slice a4 n4 c4, .slice a5 n5 c5, .slice a6 n6 c6, .slice a7 n7 c7, .int .i64 x6] 114)) w.heap.size (rC x1 x2 x3 x4 x5 (.slice a1 n1 c1) (.slice a2 n2 c2) (.slice a3 n3 c3) (.slice a4 n4 c4) (.slice a5 n5 c5) (.slice a6 n6 c6) (.slice a7 n7 c7) x6)) := hide (ra_new w _ rfl _)
  have HB0 : Hid (Below w.heap.size w (w.alloc (.cells #[.int .i64 x1, .int .i64 x2, .int .i64 x3, .int .i64 x4, .int .i64 x5, .slice a1 n1 c1, .slice a2 n2 c2, .slice a3 n3 c3, .slice a4 n4 c4, .slice a5 n5 c5, .slice a6 n6 c6, .slice a7 n7 c7, .int .i64 x6] 114))) := hide ((Below.refl _ _).alloc (Nat.le_refl _) _)
  obtain ⟨r0, hr0⟩ : ∃ r0, L = r0 := ⟨_, rfl⟩
  have HR0 := hide hr0.symm
  rw [hr0] at hL hL1 ⊢
  clear hr0
  go_enter Tryz.func81, Tryz.ntmps81
  go_wp2_with fail
  refine (Lk.szS a1 n1 c1 r0 _ hL hL1 h1).mono ?_
  rintro e w1 ⟨r1, rfl, hw1, hs⟩
  subst hw1
  rcases hs with hs | ⟨hs, hs1⟩
  · go_wp2_with fail
    go_ret
    exact ⟨_, rfl, unhide HB0, .inl (by omega)⟩
  have hn0 : ¬ r1 < 0 := by omega
  have hh0 : r1 ≤ 1048576 := by omega
  have HS0 := hide hs1
  clear hs1
  have hp0 := hs
  clear hs
  go_wp2_with fail
  refine (Tu.szS a2 n2 c2 r1 _ hp0 hh0 h2).mono ?_
  rintro e w2 ⟨r2, rfl, hw2, hs⟩
  subst hw2
  rcases hs with hs | ⟨hs, hs1⟩
  · go_wp2_with fail
    go_ret
    exact ⟨_, rfl, unhide HB0, .inl (by omega)⟩
  have hn1 : ¬ r2 < 0 := by omega
  have hh1 : r2 ≤ 1048576 := by omega
  have HS1 := hide hs1
  clear hs1
  have hp1 := hs
  clear hs
  go_wp2_with fail
  refine (Tu.szS a3 n3 c3 r2 _ hp1 hh1 h3).mono ?_
  rintro e w3 ⟨r3, rfl, hw3, hs⟩
  subst hw3
  rcases hs with hs | ⟨hs, hs1⟩
  · go_wp2_with fail
    go_ret
    exact ⟨_, rfl, unhide HB0, .inl (by omega)⟩
  have hn2 : ¬ r3 < 0 := by omega
  have hh2 : r3 ≤ 1048576 := by omega
  have HS2 := hide hs1
  clear hs1
  have hp2 := hs
  clear hs
  go_wp2_with fail
  refine (Tu.szS a4 n4 c4 r3 _ hp2 hh2 h4).mono ?_
  rintro e w4 ⟨r4, rfl, hw4, hs⟩
  subst hw4
  rcases hs with hs | ⟨hs, hs1⟩
  · go_wp2_with fail
    go_ret
    exact ⟨_, rfl, unhide HB0, .inl (by omega)⟩
  have hn3 : ¬ r4 < 0 := by omega
  have hh3 : r4 ≤ 1048576 := by omega
  have HS3 := hide hs1
  clear hs1
  have hp3 := hs
  clear hs
  go_wp2_with fail
  refine (Tq.sz a5 n5 c5 a6 n6 c6 r4 _ hp3 hh3 h5 h6).mono ?_
  rintro e w5 ⟨r5, rfl, b5, hs⟩
  have HB5 := hide ((unhide HB0).trans (b5.mono (unhide HB0).size))
  have z11 := ((unhide HX).below b5).at (i := 11) rfl
  clear b5
  rcases hs with hs | ⟨hs, hs1⟩
  · go_wp2_with fail
    go_ret
    exact ⟨_, rfl, unhide HB5, .inl (by omega)⟩
  have hn4 : ¬ r5 < 0 := by omega
  have hh4 : r5 ≤ 1048576 := by omega
  have HS4 := hide hs1
  clear hs1
  have hp4 := hs
  clear hs
  go_wp2_with fail
  clear z11
  refine (Ed.szS a7 n7 c7 r5 _ hp4 hh4 h7).mono ?_
  rintro e w6 ⟨r6, rfl, hw6, hs⟩
  subst hw6
  rcases hs with hs | ⟨hs, hs1⟩
  · go_wp2_with fail
    go_ret
    exact ⟨_, rfl, unhide HB5, .inl (by omega)⟩
  have hn5 : ¬ r6 < 0 := by omega
  have hh5 : r6 ≤ 1048576 := by omega
  have HS5 := hide hs1
  clear hs1
  have hp5 := hs
  clear hs
  go_wp2_with fail
  go_ret
  exact ⟨_, rfl, unhide HB5, .inr ⟨hp5, by have e0 := unhide HS0; have e1 := unhide HS1; have e2 := unhide HS2; have e3 := unhide HS3; have e4 := unhide HS4; have e5 := unhide HS5; omega⟩⟩
theorem uptoL_set {w : World} {g n j : Nat} {ms : List Lk.R} {p : Addr} {v : Value} (h : Lk.Upto w g n j ms) (hne : p.block ≠ g) : Lk.Upto (w.setCell p v) g n j ms :=
  h.of_block (Below.heap_setCell _ _ _ _ (fun e => hne e.symm))
theorem uptoE_set {w : World} {g n j : Nat} {ms : List Ed.R} {p : Addr} {v : Value} (h : Ed.Upto w g n j ms) (hne : p.block ≠ g) : Ed.Upto (w.setCell p v) g n j ms :=
  h.of_block (Below.heap_setCell _ _ _ _ (fun e => hne e.symm))
set_option maxHeartbeats 16000000 in
theorem toR (x1 x2 x3 x4 x5 x6 : Int) (a1 a2 a3 a4 a5 a6 a7 : Option Addr) (c1 c2 c3 c4 c5 c6 c7 : Nat) (ls : List Lk.R) (tw : List Tu.R) (se : List Tu.R) (du : List Tu.R) (ss : List So.R) (es : List Tu.R) (la : List Ed.R) (w : World) (hm1 : ls.length ≤ 1048576) (hm2 : tw.length ≤ 1048576) (hm3 : se.length ≤ 1048576) (hm4 : du.length ≤ 1048576) (hm5 : ss.length ≤ 1048576) (hm6 : es.length ≤ 1048576) (hm7 : la.length ≤ 1048576) (hr1 : Lk.RM w a1 ls) (hr2 : Tu.RM w a2 tw) (hr3 : Tu.RM w a3 se) (hr4 : Tu.RM w a4 du) (hr5 : So.RM w a5 ss) (hr6 : Tu.RM w a6 es) (hr7 : Ed.RM w a7 la) :
    Calls Tryz.prog 86 #[.agg #[.int .i64 x1, .int .i64 x2, .int .i64 x3, .int .i64 x4, .int .i64 x5, .slice a1 ls.length c1, .slice a2 tw.length c2, .slice a3 se.length c3, .slice a4 du.length c4, .slice a5 ss.length c5, .slice a6 es.length c6, .slice a7 la.length c7, .int .i64 x6]] w fun e w' => ∃ g1 g2 g3 g4 g5 g6 g7, e = .returned (.agg (rC x1 x2 x3 x4 x5 (.slice (some ⟨g1, 0, none⟩) ls.length ls.length) (.slice (some ⟨g2, 0, none⟩) tw.length tw.length) (.slice (some ⟨g3, 0, none⟩) se.length se.length) (.slice (some ⟨g4, 0, none⟩) du.length du.length) (.slice (some ⟨g5, 0, none⟩) ss.length ss.length) (.slice (some ⟨g6, 0, none⟩) es.length es.length) (.slice (some ⟨g7, 0, none⟩) la.length la.length) x6).toArray) ∧ Below w.heap.size w w' ∧ (w.heap.size ≤ g1 ∧ g1 < g2 ∧ g2 < g3 ∧ g3 < g4 ∧ g4 < g5 ∧ g5 < g6 ∧ g6 < g7 ∧ g7 < w'.heap.size) ∧ Lk.Upto w' g1 ls.length ls.length ls ∧ Tu.Upto w' g2 tw.length tw.length tw ∧ Tu.Upto w' g3 se.length se.length se ∧ Tu.Upto w' g4 du.length du.length du ∧ So.Upto w' g5 ss.length ss.length ss ∧ Tu.Upto w' g6 es.length es.length es ∧ Ed.Upto w' g7 la.length la.length la := by
  have HA1 : Hid (Below w.heap.size w (w.alloc (.cells #[.int .i64 x1, .int .i64 x2, .int .i64 x3, .int .i64 x4, .int .i64 x5, .slice a1 ls.length c1, .slice a2 tw.length c2, .slice a3 se.length c3, .slice a4 du.length c4, .slice a5 ss.length c5, .slice a6 es.length c6, .slice a7 la.length c7, .int .i64 x6] 114))) := hide ((Below.refl _ _).alloc (Nat.le_refl _) _)
  have HA2 : Hid (Below w.heap.size w ((w.alloc (.cells #[.int .i64 x1, .int .i64 x2, .int .i64 x3, .int .i64 x4, .int .i64 x5, .slice a1 ls.length c1, .slice a2 tw.length c2, .slice a3 se.length c3, .slice a4 du.length c4, .slice a5 ss.length c5, .slice a6 es.length c6, .slice a7 la.length c7, .int .i64 x6] 114)).alloc (.cells #[.int .i64 0, .int .i64 0, .int .i64 0, .int .i64 0, .int .i64 0, .slice none 0 0, .slice none 0 0, .slice none 0 0, .slice none 0 0, .slice none 0 0, .slice none 0 0, .slice none 0 0, .int .i64 0] 83))) := hide ((unhide HA1).alloc (unhide HA1).size _)
  have HB0 : Hid (Below w.heap.size w (((w.alloc (.cells #[.int .i64 x1, .int .i64 x2, .int .i64 x3, .int .i64 x4, .int .i64 x5, .slice a1 ls.length c1, .slice a2 tw.length c2, .slice a3 se.length c3, .slice a4 du.length c4, .slice a5 ss.length c5, .slice a6 es.length c6, .slice a7 la.length c7, .int .i64 x6] 114)).alloc (.cells #[.int .i64 0, .int .i64 0, .int .i64 0, .int .i64 0, .int .i64 0, .slice none 0 0, .slice none 0 0, .slice none 0 0, .slice none 0 0, .slice none 0 0, .slice none 0 0, .slice none 0 0, .int .i64 0] 83)).alloc (.cells #[.int .i64 x1, .int .i64 x2, .int .i64 x3, .int .i64 x4, .int .i64 x5, .slice none 0 0, .slice none 0 0, .slice none 0 0, .slice none 0 0, .slice none 0 0, .slice none 0 0, .slice none 0 0, .int .i64 0] 83))) := hide ((unhide HA2).alloc (unhide HA2).size _)
  have HX0 : Hid (RA (((w.alloc (.cells #[.int .i64 x1, .int .i64 x2, .int .i64 x3, .int .i64 x4, .int .i64 x5, .slice a1 ls.length c1, .slice a2 tw.length c2, .slice a3 se.length c3, .slice a4 du.length c4, .slice a5 ss.length c5, .slice a6 es.length c6, .slice a7 la.length c7, .int .i64 x6] 114)).alloc (.cells #[.int .i64 0, .int .i64 0, .int .i64 0, .int .i64 0, .int .i64 0, .slice none 0 0, .slice none 0 0, .slice none 0 0, .slice none 0 0, .slice none 0 0, .slice none 0 0, .slice none 0 0, .int .i64 0] 83)).alloc (.cells #[.int .i64 x1, .int .i64 x2, .int .i64 x3, .int .i64 x4, .int .i64 x5, .slice none 0 0, .slice none 0 0, .slice none 0 0, .slice none 0 0, .slice none 0 0, .slice none 0 0, .slice none 0 0, .int .i64 0] 83)) w.heap.size (rC x1 x2 x3 x4 x5 (.slice a1 ls.length c1) (.slice a2 tw.length c2) (.slice a3 se.length c3) (.slice a4 du.length c4) (.slice a5 ss.length c5) (.slice a6 es.length c6) (.slice a7 la.length c7) x6)) := hide (((ra_new w _ rfl _).below ((Below.refl _ _).alloc (Nat.le_refl _) _)).below ((Below.refl _ _).alloc (Nat.le_refl _) _))
  have HZ0 : Hid (RA (((w.alloc (.cells #[.int .i64 x1, .int .i64 x2, .int .i64 x3, .int .i64 x4, .int .i64 x5, .slice a1 ls.length c1, .slice a2 tw.length c2, .slice a3 se.length c3, .slice a4 du.length c4, .slice a5 ss.length c5, .slice a6 es.length c6, .slice a7 la.length c7, .int .i64 x6] 114)).alloc (.cells #[.int .i64 0, .int .i64 0, .int .i64 0, .int .i64 0, .int .i64 0, .slice none 0 0, .slice none 0 0, .slice none 0 0, .slice none 0 0, .slice none 0 0, .slice none 0 0, .slice none 0 0, .int .i64 0] 83)).alloc (.cells #[.int .i64 x1, .int .i64 x2, .int .i64 x3, .int .i64 x4, .int .i64 x5, .slice none 0 0, .slice none 0 0, .slice none 0 0, .slice none 0 0, .slice none 0 0, .slice none 0 0, .slice none 0 0, .int .i64 0] 83)) (w.heap.size + 1) (rC 0 0 0 0 0 (.slice none 0 0) (.slice none 0 0) (.slice none 0 0) (.slice none 0 0) (.slice none 0 0) (.slice none 0 0) (.slice none 0 0) 0)) := hide (by have := (ra_new (w.alloc (.cells #[.int .i64 x1, .int .i64 x2, .int .i64 x3, .int .i64 x4, .int .i64 x5, .slice a1 ls.length c1, .slice a2 tw.length c2, .slice a3 se.length c3, .slice a4 du.length c4, .slice a5 ss.length c5, .slice a6 es.length c6, .slice a7 la.length c7, .int .i64 x6] 114)) (rC 0 0 0 0 0 (.slice none 0 0) (.slice none 0 0) (.slice none 0 0) (.slice none 0 0) (.slice none 0 0) (.slice none 0 0) (.slice none 0 0) 0) rfl 83).below ((Below.refl _ _).alloc (Nat.le_refl _) (.cells #[.int .i64 x1, .int .i64 x2, .int .i64 x3, .int .i64 x4, .int .i64 x5, .slice none 0 0, .slice none 0 0, .slice none 0 0, .slice none 0 0, .slice none 0 0, .slice none 0 0, .slice none 0 0, .int .i64 0] 83)); rw [show (w.alloc (.cells #[.int .i64 x1, .int .i64 x2, .int .i64 x3, .int .i64 x4, .int .i64 x5, .slice a1 ls.length c1, .slice a2 tw.length c2, .slice a3 se.length c3, .slice a4 du.length c4, .slice a5 ss.length c5, .slice a6 es.length c6, .slice a7 la.length c7, .int .i64 x6] 114)).heap.size = w.heap.size + 1 by simp] at this; exact this)
  have HO0 : Hid (RA (((w.alloc (.cells #[.int .i64 x1, .int .i64 x2, .int .i64 x3, .int .i64 x4, .int .i64 x5, .slice a1 ls.length c1, .slice a2 tw.length c2, .slice a3 se.length c3, .slice a4 du.length c4, .slice a5 ss.length c5, .slice a6 es.length c6, .slice a7 la.length c7, .int .i64 x6] 114)).alloc (.cells #[.int .i64 0, .int .i64 0, .int .i64 0, .int .i64 0, .int .i64 0, .slice none 0 0, .slice none 0 0, .slice none 0 0, .slice none 0 0, .slice none 0 0, .slice none 0 0, .slice none 0 0, .int .i64 0] 83)).alloc (.cells #[.int .i64 x1, .int .i64 x2, .int .i64 x3, .int .i64 x4, .int .i64 x5, .slice none 0 0, .slice none 0 0, .slice none 0 0, .slice none 0 0, .slice none 0 0, .slice none 0 0, .slice none 0 0, .int .i64 0] 83)) (w.heap.size + 2) (rC x1 x2 x3 x4 x5 (.slice none 0 0) (.slice none 0 0) (.slice none 0 0) (.slice none 0 0) (.slice none 0 0) (.slice none 0 0) (.slice none 0 0) 0)) := hide (by have := ra_new ((w.alloc (.cells #[.int .i64 x1, .int .i64 x2, .int .i64 x3, .int .i64 x4, .int .i64 x5, .slice a1 ls.length c1, .slice a2 tw.length c2, .slice a3 se.length c3, .slice a4 du.length c4, .slice a5 ss.length c5, .slice a6 es.length c6, .slice a7 la.length c7, .int .i64 x6] 114)).alloc (.cells #[.int .i64 0, .int .i64 0, .int .i64 0, .int .i64 0, .int .i64 0, .slice none 0 0, .slice none 0 0, .slice none 0 0, .slice none 0 0, .slice none 0 0, .slice none 0 0, .slice none 0 0, .int .i64 0] 83)) (rC x1 x2 x3 x4 x5 (.slice none 0 0) (.slice none 0 0) (.slice none 0 0) (.slice none 0 0) (.slice none 0 0) (.slice none 0 0) (.slice none 0 0) 0) rfl 83; rw [show ((w.alloc (.cells #[.int .i64 x1, .int .i64 x2, .int .i64 x3, .int .i64 x4, .int .i64 x5, .slice a1 ls.length c1, .slice a2 tw.length c2, .slice a3 se.length c3, .slice a4 du.length c4, .slice a5 ss.length c5, .slice a6 es.length c6, .slice a7 la.length c7, .int .i64 x6] 114)).alloc (.cells #[.int .i64 0, .int .i64 0, .int .i64 0, .int .i64 0, .int .i64 0, .slice none 0 0, .slice none 0 0, .slice none 0 0, .slice none 0 0, .slice none 0 0, .slice none 0 0, .slice none 0 0, .int .i64 0] 83)).heap.size = w.heap.size + 2 by simp] at this; exact this)
  have hq0 : ((((w.alloc (.cells #[.int .i64 x1, .int .i64 x2, .int .i64 x3, .int .i64 x4, .int .i64 x5, .slice a1 ls.length c1, .slice a2 tw.length c2, .slice a3 se.length c3, .slice a4 du.length c4, .slice a5 ss.length c5, .slice a6 es.length c6, .slice a7 la.length c7, .int .i64 x6] 114)).alloc (.cells #[.int .i64 0, .int .i64 0, .int .i64 0, .int .i64 0, .int .i64 0, .slice none 0 0, .slice none 0 0, .slice none 0 0, .slice none 0 0, .slice none 0 0, .slice none 0 0, .slice none 0 0, .int .i64 0] 83)).alloc (.cells #[.int .i64 x1, .int .i64 x2, .int .i64 x3, .int .i64 x4, .int .i64 x5, .slice none 0 0, .slice none 0 0, .slice none 0 0, .slice none 0 0, .slice none 0 0, .slice none 0 0, .slice none 0 0, .int .i64 0] 83))).heap.size = w.heap.size + 3 := by simp
  have hp2 : w.heap.size ≤ w.heap.size + 2 := by omega
  have HR1 := hide hr1
  have HR2 := hide hr2
  have HR3 := hide hr3
  have HR4 := hide hr4
  have HR5 := hide hr5
  have HR6 := hide hr6
  have HR7 := hide hr7
  clear hr1 hr2 hr3 hr4 hr5 hr6 hr7 HA1 HA2
  go_enter Tryz.func86, Tryz.ntmps86
  go_wp2_with fail
  generalize hW : (((w.alloc (.cells #[.int .i64 x1, .int .i64 x2, .int .i64 x3, .int .i64 x4, .int .i64 x5, .slice a1 ls.length c1, .slice a2 tw.length c2, .slice a3 se.length c3, .slice a4 du.length c4, .slice a5 ss.length c5, .slice a6 es.length c6, .slice a7 la.length c7, .int .i64 x6] 114)).alloc (.cells #[.int .i64 0, .int .i64 0, .int .i64 0, .int .i64 0, .int .i64 0, .slice none 0 0, .slice none 0 0, .slice none 0 0, .slice none 0 0, .slice none 0 0, .slice none 0 0, .slice none 0 0, .int .i64 0] 83)).alloc (.cells #[.int .i64 x1, .int .i64 x2, .int .i64 x3, .int .i64 x4, .int .i64 x5, .slice none 0 0, .slice none 0 0, .slice none 0 0, .slice none 0 0, .slice none 0 0, .slice none 0 0, .slice none 0 0, .int .i64 0] 83)) = V0 at *
  clear hW
  refine (Lk.toS a1 ls c1 _ hm1 ((unhide HR1).below (unhide HB0))).mono ?_
  rintro e V1 ⟨g1, rfl, d1, hg1, hz1, u1⟩
  have HB1 := hide ((unhide HB0).trans (d1.mono (unhide HB0).size))
  have HX1 := hide ((unhide HX0).below d1)
  have HZ1 := hide ((unhide HZ0).below d1)
  have HO1 := hide ((unhide HO0).below d1)
  have hq1 := d1.size
  clear HX0 HZ0 HO0 
  have U1_1 := hide u1
  clear d1 u1
  obtain ⟨V2, hV2⟩ : ∃ V, (V1.setCell ⟨w.heap.size + 2, 5, none⟩ (.slice (some ⟨g1, 0, none⟩) ls.length ls.length)) = V := ⟨_, rfl⟩
  have HB2 : Hid (Below w.heap.size w V2) := hide (by rw [← hV2]; exact ((unhide HB1).setCell (p := ⟨w.heap.size + 2, 5, none⟩) hp2 (.slice (some ⟨g1, 0, none⟩) ls.length ls.length)))
  have HX2 : Hid (RA V2 w.heap.size (rC x1 x2 x3 x4 x5 (.slice a1 ls.length c1) (.slice a2 tw.length c2) (.slice a3 se.length c3) (.slice a4 du.length c4) (.slice a5 ss.length c5) (.slice a6 es.length c6) (.slice a7 la.length c7) x6)) := hide (by rw [← hV2]; exact (RA.other (unhide HX1) (p := ⟨w.heap.size + 2, 5, none⟩) (by show w.heap.size ≠ w.heap.size + 2; omega) (.slice (some ⟨g1, 0, none⟩) ls.length ls.length)))
  have HZ2 : Hid (RA V2 (w.heap.size + 1) (rC 0 0 0 0 0 (.slice none 0 0) (.slice none 0 0) (.slice none 0 0) (.slice none 0 0) (.slice none 0 0) (.slice none 0 0) (.slice none 0 0) 0)) := hide (by rw [← hV2]; exact (RA.other (unhide HZ1) (p := ⟨w.heap.size + 2, 5, none⟩) (by show w.heap.size + 1 ≠ w.heap.size + 2; omega) (.slice (some ⟨g1, 0, none⟩) ls.length ls.length)))
  have HO2 : Hid (RA V2 (w.heap.size + 2) (rC x1 x2 x3 x4 x5 (.slice (some ⟨g1, 0, none⟩) ls.length ls.length) (.slice none 0 0) (.slice none 0 0) (.slice none 0 0) (.slice none 0 0) (.slice none 0 0) (.slice none 0 0) 0)) := hide (by rw [← hV2]; exact (RA.set (unhide HO1) (k := 5) (by omega) (.slice (some ⟨g1, 0, none⟩) ls.length ls.length)))
  have U1_2 : Hid (Lk.Upto V2 g1 ls.length ls.length ls) := hide (by rw [← hV2]; exact (uptoL_set (p := ⟨w.heap.size + 2, 5, none⟩) (v := (.slice (some ⟨g1, 0, none⟩) ls.length ls.length)) (unhide U1_1) (by show w.heap.size + 2 ≠ g1; omega)))
  have hq2 : V2.heap.size = V1.heap.size := by rw [← hV2]; simp [World.setCell]
  have HV2 := hide hV2
  clear hV2
  have o5 := (unhide HO1).at (i := 5) rfl
  have f5 := (unhide HO1).free (i := 5) (by omega)
  have z6 := (unhide HX1).at (i := 6) rfl
  have hne : ¬ w.heap.size = w.heap.size + 2 := by omega
  go_wp2_with fail
  rw [unhide HV2]
  clear hne o5 f5 z6 HX1 HZ1 HO1 U1_1
  refine (Tu.toS a2 tw c2 _ hm2 ((unhide HR2).below (unhide HB2))).mono ?_
  rintro e V3 ⟨g2, rfl, d3, hg2, hz2, u3⟩
  have HB3 := hide ((unhide HB2).trans (d3.mono (unhide HB2).size))
  have HX3 := hide ((unhide HX2).below d3)
  have HZ3 := hide ((unhide HZ2).below d3)
  have HO3 := hide ((unhide HO2).below d3)
  have U1_3 := hide ((unhide U1_2).below d3 (by omega))
  have hq3 := d3.size
  clear HX2 HZ2 HO2 U1_2
  have U2_3 := hide u3
  clear d3 u3
  obtain ⟨V4, hV4⟩ : ∃ V, (V3.setCell ⟨w.heap.size + 2, 6, none⟩ (.slice (some ⟨g2, 0, none⟩) tw.length tw.length)) = V := ⟨_, rfl⟩
  have HB4 : Hid (Below w.heap.size w V4) := hide (by rw [← hV4]; exact ((unhide HB3).setCell (p := ⟨w.heap.size + 2, 6, none⟩) hp2 (.slice (some ⟨g2, 0, none⟩) tw.length tw.length)))
  have HX4 : Hid (RA V4 w.heap.size (rC x1 x2 x3 x4 x5 (.slice a1 ls.length c1) (.slice a2 tw.length c2) (.slice a3 se.length c3) (.slice a4 du.length c4) (.slice a5 ss.length c5) (.slice a6 es.length c6) (.slice a7 la.length c7) x6)) := hide (by rw [← hV4]; exact (RA.other (unhide HX3) (p := ⟨w.heap.size + 2, 6, none⟩) (by show w.heap.size ≠ w.heap.size + 2; omega) (.slice (some ⟨g2, 0, none⟩) tw.length tw.length)))
  have HZ4 : Hid (RA V4 (w.heap.size + 1) (rC 0 0 0 0 0 (.slice none 0 0) (.slice none 0 0) (.slice none 0 0) (.slice none 0 0) (.slice none 0 0) (.slice none 0 0) (.slice none 0 0) 0)) := hide (by rw [← hV4]; exact (RA.other (unhide HZ3) (p := ⟨w.heap.size + 2, 6, none⟩) (by show w.heap.size + 1 ≠ w.heap.size + 2; omega) (.slice (some ⟨g2, 0, none⟩) tw.length tw.length)))
  have HO4 : Hid (RA V4 (w.heap.size + 2) (rC x1 x2 x3 x4 x5 (.slice (some ⟨g1, 0, none⟩) ls.length ls.length) (.slice (some ⟨g2, 0, none⟩) tw.length tw.length) (.slice none 0 0) (.slice none 0 0) (.slice none 0 0) (.slice none 0 0) (.slice none 0 0) 0)) := hide (by rw [← hV4]; exact (RA.set (unhide HO3) (k := 6) (by omega) (.slice (some ⟨g2, 0, none⟩) tw.length tw.length)))
  have U1_4 : Hid (Lk.Upto V4 g1 ls.length ls.length ls) := hide (by rw [← hV4]; exact (uptoL_set (p := ⟨w.heap.size + 2, 6, none⟩) (v := (.slice (some ⟨g2, 0, none⟩) tw.length tw.length)) (unhide U1_3) (by show w.heap.size + 2 ≠ g1; omega)))
  have U2_4 : Hid (Tu.Upto V4 g2 tw.length tw.length tw) := hide (by rw [← hV4]; exact (Tq.uptoT_set (p := ⟨w.heap.size + 2, 6, none⟩) (v := (.slice (some ⟨g2, 0, none⟩) tw.length tw.length)) (unhide U2_3) (by show w.heap.size + 2 ≠ g2; omega)))
  have hq4 : V4.heap.size = V3.heap.size := by rw [← hV4]; simp [World.setCell]
  have HV4 := hide hV4
  clear hV4
  have o6 := (unhide HO3).at (i := 6) rfl
  have f6 := (unhide HO3).free (i := 6) (by omega)
  have z7 := (unhide HX3).at (i := 7) rfl
  have hne : ¬ w.heap.size = w.heap.size + 2 := by omega
  go_wp2_with fail
  rw [unhide HV4]
  clear hne o6 f6 z7 HX3 HZ3 HO3 U1_3 U2_3
  refine (Tu.toS a3 se c3 _ hm3 ((unhide HR3).below (unhide HB4))).mono ?_
  rintro e V5 ⟨g3, rfl, d5, hg3, hz3, u5⟩
  have HB5 := hide ((unhide HB4).trans (d5.mono (unhide HB4).size))
  have HX5 := hide ((unhide HX4).below d5)
  have HZ5 := hide ((unhide HZ4).below d5)
  have HO5 := hide ((unhide HO4).below d5)
  have U1_5 := hide ((unhide U1_4).below d5 (by omega))
  have U2_5 := hide ((unhide U2_4).below d5 (by omega))
  have hq5 := d5.size
  clear HX4 HZ4 HO4 U1_4 U2_4
  have U3_5 := hide u5
  clear d5 u5
  obtain ⟨V6, hV6⟩ : ∃ V, (V5.setCell ⟨w.heap.size + 2, 7, none⟩ (.slice (some ⟨g3, 0, none⟩) se.length se.length)) = V := ⟨_, rfl⟩
  have HB6 : Hid (Below w.heap.size w V6) := hide (by rw [← hV6]; exact ((unhide HB5).setCell (p := ⟨w.heap.size + 2, 7, none⟩) hp2 (.slice (some ⟨g3, 0, none⟩) se.length se.length)))
  have HX6 : Hid (RA V6 w.heap.size (rC x1 x2 x3 x4 x5 (.slice a1 ls.length c1) (.slice a2 tw.length c2) (.slice a3 se.length c3) (.slice a4 du.length c4) (.slice a5 ss.length c5) (.slice a6 es.length c6) (.slice a7 la.length c7) x6)) := hide (by rw [← hV6]; exact (RA.other (unhide HX5) (p := ⟨w.heap.size + 2, 7, none⟩) (by show w.heap.size ≠ w.heap.size + 2; omega) (.slice (some ⟨g3, 0, none⟩) se.length se.length)))
  have HZ6 : Hid (RA V6 (w.heap.size + 1) (rC 0 0 0 0 0 (.slice none 0 0) (.slice none 0 0) (.slice none 0 0) (.slice none 0 0) (.slice none 0 0) (.slice none 0 0) (.slice none 0 0) 0)) := hide (by rw [← hV6]; exact (RA.other (unhide HZ5) (p := ⟨w.heap.size + 2, 7, none⟩) (by show w.heap.size + 1 ≠ w.heap.size + 2; omega) (.slice (some ⟨g3, 0, none⟩) se.length se.length)))
  have HO6 : Hid (RA V6 (w.heap.size + 2) (rC x1 x2 x3 x4 x5 (.slice (some ⟨g1, 0, none⟩) ls.length ls.length) (.slice (some ⟨g2, 0, none⟩) tw.length tw.length) (.slice (some ⟨g3, 0, none⟩) se.length se.length) (.slice none 0 0) (.slice none 0 0) (.slice none 0 0) (.slice none 0 0) 0)) := hide (by rw [← hV6]; exact (RA.set (unhide HO5) (k := 7) (by omega) (.slice (some ⟨g3, 0, none⟩) se.length se.length)))
  have U1_6 : Hid (Lk.Upto V6 g1 ls.length ls.length ls) := hide (by rw [← hV6]; exact (uptoL_set (p := ⟨w.heap.size + 2, 7, none⟩) (v := (.slice (some ⟨g3, 0, none⟩) se.length se.length)) (unhide U1_5) (by show w.heap.size + 2 ≠ g1; omega)))
  have U2_6 : Hid (Tu.Upto V6 g2 tw.length tw.length tw) := hide (by rw [← hV6]; exact (Tq.uptoT_set (p := ⟨w.heap.size + 2, 7, none⟩) (v := (.slice (some ⟨g3, 0, none⟩) se.length se.length)) (unhide U2_5) (by show w.heap.size + 2 ≠ g2; omega)))
  have U3_6 : Hid (Tu.Upto V6 g3 se.length se.length se) := hide (by rw [← hV6]; exact (Tq.uptoT_set (p := ⟨w.heap.size + 2, 7, none⟩) (v := (.slice (some ⟨g3, 0, none⟩) se.length se.length)) (unhide U3_5) (by show w.heap.size + 2 ≠ g3; omega)))
  have hq6 : V6.heap.size = V5.heap.size := by rw [← hV6]; simp [World.setCell]
  have HV6 := hide hV6
  clear hV6
  have o7 := (unhide HO5).at (i := 7) rfl
  have f7 := (unhide HO5).free (i := 7) (by omega)
  have z8 := (unhide HX5).at (i := 8) rfl
  have hne : ¬ w.heap.size = w.heap.size + 2 := by omega
  go_wp2_with fail
  rw [unhide HV6]
  clear hne o7 f7 z8 HX5 HZ5 HO5 U1_5 U2_5 U3_5
  refine (Tu.toS a4 du c4 _ hm4 ((unhide HR4).below (unhide HB6))).mono ?_
  rintro e V7 ⟨g4, rfl, d7, hg4, hz4, u7⟩
  have HB7 := hide ((unhide HB6).trans (d7.mono (unhide HB6).size))
  have HX7 := hide ((unhide HX6).below d7)
  have HZ7 := hide ((unhide HZ6).below d7)
  have HO7 := hide ((unhide HO6).below d7)
  have U1_7 := hide ((unhide U1_6).below d7 (by omega))
  have U2_7 := hide ((unhide U2_6).below d7 (by omega))
  have U3_7 := hide ((unhide U3_6).below d7 (by omega))
  have hq7 := d7.size
  clear HX6 HZ6 HO6 U1_6 U2_6 U3_6
  have U4_7 := hide u7
  clear d7 u7
  obtain ⟨V8, hV8⟩ : ∃ V, (V7.setCell ⟨w.heap.size + 2, 8, none⟩ (.slice (some ⟨g4, 0, none⟩) du.length du.length)) = V := ⟨_, rfl⟩
  have HB8 : Hid (Below w.heap.size w V8) := hide (by rw [← hV8]; exact ((unhide HB7).setCell (p := ⟨w.heap.size + 2, 8, none⟩) hp2 (.slice (some ⟨g4, 0, none⟩) du.length du.length)))
  have HX8 : Hid (RA V8 w.heap.size (rC x1 x2 x3 x4 x5 (.slice a1 ls.length c1) (.slice a2 tw.length c2) (.slice a3 se.length c3) (.slice a4 du.length c4) (.slice a5 ss.length c5) (.slice a6 es.length c6) (.slice a7 la.length c7) x6)) := hide (by rw [← hV8]; exact (RA.other (unhide HX7) (p := ⟨w.heap.size + 2, 8, none⟩) (by show w.heap.size ≠ w.heap.size + 2; omega) (.slice (some ⟨g4, 0, none⟩) du.length du.length)))
  have HZ8 : Hid (RA V8 (w.heap.size + 1) (rC 0 0 0 0 0 (.slice none 0 0) (.slice none 0 0) (.slice none 0 0) (.slice none 0 0) (.slice none 0 0) (.slice none 0 0) (.slice none 0 0) 0)) := hide (by rw [← hV8]; exact (RA.other (unhide HZ7) (p := ⟨w.heap.size + 2, 8, none⟩) (by show w.heap.size + 1 ≠ w.heap.size + 2; omega) (.slice (some ⟨g4, 0, none⟩) du.length du.length)))
  have HO8 : Hid (RA V8 (w.heap.size + 2) (rC x1 x2 x3 x4 x5 (.slice (some ⟨g1, 0, none⟩) ls.length ls.length) (.slice (some ⟨g2, 0, none⟩) tw.length tw.length) (.slice (some ⟨g3, 0, none⟩) se.length se.length) (.slice (some ⟨g4, 0, none⟩) du.length du.length) (.slice none 0 0) (.slice none 0 0) (.slice none 0 0) 0)) := hide (by rw [← hV8]; exact (RA.set (unhide HO7) (k := 8) (by omega) (.slice (some ⟨g4, 0, none⟩) du.length du.length)))
  have U1_8 : Hid (Lk.Upto V8 g1 ls.length ls.length ls) := hide (by rw [← hV8]; exact (uptoL_set (p := ⟨w.heap.size + 2, 8, none⟩) (v := (.slice (some ⟨g4, 0, none⟩) du.length du.length)) (unhide U1_7) (by show w.heap.size + 2 ≠ g1; omega)))
  have U2_8 : Hid (Tu.Upto V8 g2 tw.length tw.length tw) := hide (by rw [← hV8]; exact (Tq.uptoT_set (p := ⟨w.heap.size + 2, 8, none⟩) (v := (.slice (some ⟨g4, 0, none⟩) du.length du.length)) (unhide U2_7) (by show w.heap.size + 2 ≠ g2; omega)))
  have U3_8 : Hid (Tu.Upto V8 g3 se.length se.length se) := hide (by rw [← hV8]; exact (Tq.uptoT_set (p := ⟨w.heap.size + 2, 8, none⟩) (v := (.slice (some ⟨g4, 0, none⟩) du.length du.length)) (unhide U3_7) (by show w.heap.size + 2 ≠ g3; omega)))
  have U4_8 : Hid (Tu.Upto V8 g4 du.length du.length du) := hide (by rw [← hV8]; exact (Tq.uptoT_set (p := ⟨w.heap.size + 2, 8, none⟩) (v := (.slice (some ⟨g4, 0, none⟩) du.length du.length)) (unhide U4_7) (by show w.heap.size + 2 ≠ g4; omega)))
  have hq8 : V8.heap.size = V7.heap.size := by rw [← hV8]; simp [World.setCell]
  have HV8 := hide hV8
  clear hV8
  have o8 := (unhide HO7).at (i := 8) rfl
  have f8 := (unhide HO7).free (i := 8) (by omega)
  have z9 := (unhide HX7).at (i := 9) rfl
  have z10 := (unhide HX7).at (i := 10) rfl
  have hne : ¬ w.heap.size = w.heap.size + 2 := by omega
  go_wp2_with fail
  rw [unhide HV8]
  clear hne o8 f8 z9 z10 HX7 HZ7 HO7 U1_7 U2_7 U3_7 U4_7
  refine (Tq.toV a5 ss c5 a6 es c6 _ hm5 hm6 ((unhide HR5).below (unhide HB8)) ((unhide HR6).below (unhide HB8))).mono ?_
  rintro e V9 ⟨g5, g6, rfl, d9, hg5, u9, v9⟩
  have HB9 := hide ((unhide HB8).trans (d9.mono (unhide HB8).size))
  have HX9 := hide ((unhide HX8).below d9)
  have HZ9 := hide ((unhide HZ8).below d9)
  have HO9 := hide ((unhide HO8).below d9)
  have U1_9 := hide ((unhide U1_8).below d9 (by omega))
  have U2_9 := hide ((unhide U2_8).below d9 (by omega))
  have U3_9 := hide ((unhide U3_8).below d9 (by omega))
  have U4_9 := hide ((unhide U4_8).below d9 (by omega))
  have hq9 := d9.size
  clear HX8 HZ8 HO8 U1_8 U2_8 U3_8 U4_8
  have U5_9 := hide u9
  have U6_9 := hide v9
  clear d9 u9 v9
  obtain ⟨V10, hV10⟩ : ∃ V, ((V9.setCell ⟨w.heap.size + 2, 9, none⟩ (.slice (some ⟨g5, 0, none⟩) ss.length ss.length)).setCell ⟨w.heap.size + 2, 10, none⟩ (.slice (some ⟨g6, 0, none⟩) es.length es.length)) = V := ⟨_, rfl⟩
  have HB10 : Hid (Below w.heap.size w V10) := hide (by rw [← hV10]; exact (((unhide HB9).setCell (p := ⟨w.heap.size + 2, 9, none⟩) hp2 (.slice (some ⟨g5, 0, none⟩) ss.length ss.length)).setCell (p := ⟨w.heap.size + 2, 10, none⟩) hp2 (.slice (some ⟨g6, 0, none⟩) es.length es.length)))
  have HX10 : Hid (RA V10 w.heap.size (rC x1 x2 x3 x4 x5 (.slice a1 ls.length c1) (.slice a2 tw.length c2) (.slice a3 se.length c3) (.slice a4 du.length c4) (.slice a5 ss.length c5) (.slice a6 es.length c6) (.slice a7 la.length c7) x6)) := hide (by rw [← hV10]; exact (RA.other (RA.other (unhide HX9) (p := ⟨w.heap.size + 2, 9, none⟩) (by show w.heap.size ≠ w.heap.size + 2; omega) (.slice (some ⟨g5, 0, none⟩) ss.length ss.length)) (p := ⟨w.heap.size + 2, 10, none⟩) (by show w.heap.size ≠ w.heap.size + 2; omega) (.slice (some ⟨g6, 0, none⟩) es.length es.length)))
  have HZ10 : Hid (RA V10 (w.heap.size + 1) (rC 0 0 0 0 0 (.slice none 0 0) (.slice none 0 0) (.slice none 0 0) (.slice none 0 0) (.slice none 0 0) (.slice none 0 0) (.slice none 0 0) 0)) := hide (by rw [← hV10]; exact (RA.other (RA.other (unhide HZ9) (p := ⟨w.heap.size + 2, 9, none⟩) (by show w.heap.size + 1 ≠ w.heap.size + 2; omega) (.slice (some ⟨g5, 0, none⟩) ss.length ss.length)) (p := ⟨w.heap.size + 2, 10, none⟩) (by show w.heap.size + 1 ≠ w.heap.size + 2; omega) (.slice (some ⟨g6, 0, none⟩) es.length es.length)))
  have HO10 : Hid (RA V10 (w.heap.size + 2) (rC x1 x2 x3 x4 x5 (.slice (some ⟨g1, 0, none⟩) ls.length ls.length) (.slice (some ⟨g2, 0, none⟩) tw.length tw.length) (.slice (some ⟨g3, 0, none⟩) se.length se.length) (.slice (some ⟨g4, 0, none⟩) du.length du.length) (.slice (some ⟨g5, 0, none⟩) ss.length ss.length) (.slice (some ⟨g6, 0, none⟩) es.length es.length) (.slice none 0 0) 0)) := hide (by rw [← hV10]; exact (RA.set (RA.set (unhide HO9) (k := 9) (by omega) (.slice (some ⟨g5, 0, none⟩) ss.length ss.length)) (k := 10) (by omega) (.slice (some ⟨g6, 0, none⟩) es.length es.length)))
  have U1_10 : Hid (Lk.Upto V10 g1 ls.length ls.length ls) := hide (by rw [← hV10]; exact (uptoL_set (p := ⟨w.heap.size + 2, 10, none⟩) (v := (.slice (some ⟨g6, 0, none⟩) es.length es.length)) (uptoL_set (p := ⟨w.heap.size + 2, 9, none⟩) (v := (.slice (some ⟨g5, 0, none⟩) ss.length ss.length)) (unhide U1_9) (by show w.heap.size + 2 ≠ g1; omega)) (by show w.heap.size + 2 ≠ g1; omega)))
  have U2_10 : Hid (Tu.Upto V10 g2 tw.length tw.length tw) := hide (by rw [← hV10]; exact (Tq.uptoT_set (p := ⟨w.heap.size + 2, 10, none⟩) (v := (.slice (some ⟨g6, 0, none⟩) es.length es.length)) (Tq.uptoT_set (p := ⟨w.heap.size + 2, 9, none⟩) (v := (.slice (some ⟨g5, 0, none⟩) ss.length ss.length)) (unhide U2_9) (by show w.heap.size + 2 ≠ g2; omega)) (by show w.heap.size + 2 ≠ g2; omega)))
  have U3_10 : Hid (Tu.Upto V10 g3 se.length se.length se) := hide (by rw [← hV10]; exact (Tq.uptoT_set (p := ⟨w.heap.size + 2, 10, none⟩) (v := (.slice (some ⟨g6, 0, none⟩) es.length es.length)) (Tq.uptoT_set (p := ⟨w.heap.size + 2, 9, none⟩) (v := (.slice (some ⟨g5, 0, none⟩) ss.length ss.length)) (unhide U3_9) (by show w.heap.size + 2 ≠ g3; omega)) (by show w.heap.size + 2 ≠ g3; omega)))
  have U4_10 : Hid (Tu.Upto V10 g4 du.length du.length du) := hide (by rw [← hV10]; exact (Tq.uptoT_set (p := ⟨w.heap.size + 2, 10, none⟩) (v := (.slice (some ⟨g6, 0, none⟩) es.length es.length)) (Tq.uptoT_set (p := ⟨w.heap.size + 2, 9, none⟩) (v := (.slice (some ⟨g5, 0, none⟩) ss.length ss.length)) (unhide U4_9) (by show w.heap.size + 2 ≠ g4; omega)) (by show w.heap.size + 2 ≠ g4; omega)))
  have U5_10 : Hid (So.Upto V10 g5 ss.length ss.length ss) := hide (by rw [← hV10]; exact (Tq.uptoS_set (p := ⟨w.heap.size + 2, 10, none⟩) (v := (.slice (some ⟨g6, 0, none⟩) es.length es.length)) (Tq.uptoS_set (p := ⟨w.heap.size + 2, 9, none⟩) (v := (.slice (some ⟨g5, 0, none⟩) ss.length ss.length)) (unhide U5_9) (by show w.heap.size + 2 ≠ g5; omega)) (by show w.heap.size + 2 ≠ g5; omega)))
  have U6_10 : Hid (Tu.Upto V10 g6 es.length es.length es) := hide (by rw [← hV10]; exact (Tq.uptoT_set (p := ⟨w.heap.size + 2, 10, none⟩) (v := (.slice (some ⟨g6, 0, none⟩) es.length es.length)) (Tq.uptoT_set (p := ⟨w.heap.size + 2, 9, none⟩) (v := (.slice (some ⟨g5, 0, none⟩) ss.length ss.length)) (unhide U6_9) (by show w.heap.size + 2 ≠ g6; omega)) (by show w.heap.size + 2 ≠ g6; omega)))
  have hq10 : V10.heap.size = V9.heap.size := by rw [← hV10]; simp [World.setCell]
  have HV10 := hide hV10
  clear hV10
  have o9 := (unhide HO9).at (i := 9) rfl
  have f9 := (unhide HO9).free (i := 9) (by omega)
  have o10 := (unhide HO9).at (i := 10) rfl
  have f10 := (unhide HO9).free (i := 10) (by omega)
  have z11 := (unhide HX9).at (i := 11) rfl
  have hne : ¬ w.heap.size = w.heap.size + 2 := by omega
  go_wp2_with fail
  rw [unhide HV10]
  clear hne o9 f9 o10 f10 z11 HX9 HZ9 HO9 U1_9 U2_9 U3_9 U4_9 U5_9 U6_9
  refine (Ed.toS a7 la c7 _ hm7 ((unhide HR7).below (unhide HB10))).mono ?_
  rintro e V11 ⟨g7, rfl, d11, hg7, hz7, u11⟩
  have HB11 := hide ((unhide HB10).trans (d11.mono (unhide HB10).size))
  have HX11 := hide ((unhide HX10).below d11)
  have HZ11 := hide ((unhide HZ10).below d11)
  have HO11 := hide ((unhide HO10).below d11)
  have U1_11 := hide ((unhide U1_10).below d11 (by omega))
  have U2_11 := hide ((unhide U2_10).below d11 (by omega))
  have U3_11 := hide ((unhide U3_10).below d11 (by omega))
  have U4_11 := hide ((unhide U4_10).below d11 (by omega))
  have U5_11 := hide ((unhide U5_10).below d11 (by omega))
  have U6_11 := hide ((unhide U6_10).below d11 (by omega))
  have hq11 := d11.size
  clear HX10 HZ10 HO10 U1_10 U2_10 U3_10 U4_10 U5_10 U6_10
  have U7_11 := hide u11
  clear d11 u11
  obtain ⟨V12, hV12⟩ : ∃ V, ((V11.setCell ⟨w.heap.size + 2, 11, none⟩ (.slice (some ⟨g7, 0, none⟩) la.length la.length)).setCell ⟨w.heap.size + 2, 12, none⟩ (.int .i64 x6)) = V := ⟨_, rfl⟩
  have HB12 : Hid (Below w.heap.size w V12) := hide (by rw [← hV12]; exact (((unhide HB11).setCell (p := ⟨w.heap.size + 2, 11, none⟩) hp2 (.slice (some ⟨g7, 0, none⟩) la.length la.length)).setCell (p := ⟨w.heap.size + 2, 12, none⟩) hp2 (.int .i64 x6)))
  have HX12 : Hid (RA V12 w.heap.size (rC x1 x2 x3 x4 x5 (.slice a1 ls.length c1) (.slice a2 tw.length c2) (.slice a3 se.length c3) (.slice a4 du.length c4) (.slice a5 ss.length c5) (.slice a6 es.length c6) (.slice a7 la.length c7) x6)) := hide (by rw [← hV12]; exact (RA.other (RA.other (unhide HX11) (p := ⟨w.heap.size + 2, 11, none⟩) (by show w.heap.size ≠ w.heap.size + 2; omega) (.slice (some ⟨g7, 0, none⟩) la.length la.length)) (p := ⟨w.heap.size + 2, 12, none⟩) (by show w.heap.size ≠ w.heap.size + 2; omega) (.int .i64 x6)))
  have HZ12 : Hid (RA V12 (w.heap.size + 1) (rC 0 0 0 0 0 (.slice none 0 0) (.slice none 0 0) (.slice none 0 0) (.slice none 0 0) (.slice none 0 0) (.slice none 0 0) (.slice none 0 0) 0)) := hide (by rw [← hV12]; exact (RA.other (RA.other (unhide HZ11) (p := ⟨w.heap.size + 2, 11, none⟩) (by show w.heap.size + 1 ≠ w.heap.size + 2; omega) (.slice (some ⟨g7, 0, none⟩) la.length la.length)) (p := ⟨w.heap.size + 2, 12, none⟩) (by show w.heap.size + 1 ≠ w.heap.size + 2; omega) (.int .i64 x6)))
  have HO12 : Hid (RA V12 (w.heap.size + 2) (rC x1 x2 x3 x4 x5 (.slice (some ⟨g1, 0, none⟩) ls.length ls.length) (.slice (some ⟨g2, 0, none⟩) tw.length tw.length) (.slice (some ⟨g3, 0, none⟩) se.length se.length) (.slice (some ⟨g4, 0, none⟩) du.length du.length) (.slice (some ⟨g5, 0, none⟩) ss.length ss.length) (.slice (some ⟨g6, 0, none⟩) es.length es.length) (.slice (some ⟨g7, 0, none⟩) la.length la.length) x6)) := hide (by rw [← hV12]; exact (RA.set (RA.set (unhide HO11) (k := 11) (by omega) (.slice (some ⟨g7, 0, none⟩) la.length la.length)) (k := 12) (by omega) (.int .i64 x6)))
  have U1_12 : Hid (Lk.Upto V12 g1 ls.length ls.length ls) := hide (by rw [← hV12]; exact (uptoL_set (p := ⟨w.heap.size + 2, 12, none⟩) (v := (.int .i64 x6)) (uptoL_set (p := ⟨w.heap.size + 2, 11, none⟩) (v := (.slice (some ⟨g7, 0, none⟩) la.length la.length)) (unhide U1_11) (by show w.heap.size + 2 ≠ g1; omega)) (by show w.heap.size + 2 ≠ g1; omega)))
  have U2_12 : Hid (Tu.Upto V12 g2 tw.length tw.length tw) := hide (by rw [← hV12]; exact (Tq.uptoT_set (p := ⟨w.heap.size + 2, 12, none⟩) (v := (.int .i64 x6)) (Tq.uptoT_set (p := ⟨w.heap.size + 2, 11, none⟩) (v := (.slice (some ⟨g7, 0, none⟩) la.length la.length)) (unhide U2_11) (by show w.heap.size + 2 ≠ g2; omega)) (by show w.heap.size + 2 ≠ g2; omega)))
  have U3_12 : Hid (Tu.Upto V12 g3 se.length se.length se) := hide (by rw [← hV12]; exact (Tq.uptoT_set (p := ⟨w.heap.size + 2, 12, none⟩) (v := (.int .i64 x6)) (Tq.uptoT_set (p := ⟨w.heap.size + 2, 11, none⟩) (v := (.slice (some ⟨g7, 0, none⟩) la.length la.length)) (unhide U3_11) (by show w.heap.size + 2 ≠ g3; omega)) (by show w.heap.size + 2 ≠ g3; omega)))
  have U4_12 : Hid (Tu.Upto V12 g4 du.length du.length du) := hide (by rw [← hV12]; exact (Tq.uptoT_set (p := ⟨w.heap.size + 2, 12, none⟩) (v := (.int .i64 x6)) (Tq.uptoT_set (p := ⟨w.heap.size + 2, 11, none⟩) (v := (.slice (some ⟨g7, 0, none⟩) la.length la.length)) (unhide U4_11) (by show w.heap.size + 2 ≠ g4; omega)) (by show w.heap.size + 2 ≠ g4; omega)))
  have U5_12 : Hid (So.Upto V12 g5 ss.length ss.length ss) := hide (by rw [← hV12]; exact (Tq.uptoS_set (p := ⟨w.heap.size + 2, 12, none⟩) (v := (.int .i64 x6)) (Tq.uptoS_set (p := ⟨w.heap.size + 2, 11, none⟩) (v := (.slice (some ⟨g7, 0, none⟩) la.length la.length)) (unhide U5_11) (by show w.heap.size + 2 ≠ g5; omega)) (by show w.heap.size + 2 ≠ g5; omega)))
  have U6_12 : Hid (Tu.Upto V12 g6 es.length es.length es) := hide (by rw [← hV12]; exact (Tq.uptoT_set (p := ⟨w.heap.size + 2, 12, none⟩) (v := (.int .i64 x6)) (Tq.uptoT_set (p := ⟨w.heap.size + 2, 11, none⟩) (v := (.slice (some ⟨g7, 0, none⟩) la.length la.length)) (unhide U6_11) (by show w.heap.size + 2 ≠ g6; omega)) (by show w.heap.size + 2 ≠ g6; omega)))
  have U7_12 : Hid (Ed.Upto V12 g7 la.length la.length la) := hide (by rw [← hV12]; exact (uptoE_set (p := ⟨w.heap.size + 2, 12, none⟩) (v := (.int .i64 x6)) (uptoE_set (p := ⟨w.heap.size + 2, 11, none⟩) (v := (.slice (some ⟨g7, 0, none⟩) la.length la.length)) (unhide U7_11) (by show w.heap.size + 2 ≠ g7; omega)) (by show w.heap.size + 2 ≠ g7; omega)))
  have hq12 : V12.heap.size = V11.heap.size := by rw [← hV12]; simp [World.setCell]
  have HV12 := hide hV12
  clear hV12
  have o11 := (unhide HO11).at (i := 11) rfl
  have f11 := (unhide HO11).free (i := 11) (by omega)
  have o12 := (unhide HO11).at (i := 12) rfl
  have f12 := (unhide HO11).free (i := 12) (by omega)
  have z12 := (unhide HX11).at (i := 12) rfl
  have hne : ¬ w.heap.size = w.heap.size + 2 := by omega
  have HOF : Hid (RA ((V11.setCell ⟨w.heap.size + 2, 11, none⟩ (.slice (some ⟨g7, 0, none⟩) la.length la.length)).setCell ⟨w.heap.size + 2, 12, none⟩ (.int .i64 x6)) (w.heap.size + 2) (rC x1 x2 x3 x4 x5 (.slice (some ⟨g1, 0, none⟩) ls.length ls.length) (.slice (some ⟨g2, 0, none⟩) tw.length tw.length) (.slice (some ⟨g3, 0, none⟩) se.length se.length) (.slice (some ⟨g4, 0, none⟩) du.length du.length) (.slice (some ⟨g5, 0, none⟩) ss.length ss.length) (.slice (some ⟨g6, 0, none⟩) es.length es.length) (.slice (some ⟨g7, 0, none⟩) la.length la.length) x6)) := hide (by rw [unhide HV12]; exact unhide HO12)
  have HZF : Hid (((V11.setCell ⟨w.heap.size + 2, 11, none⟩ (.slice (some ⟨g7, 0, none⟩) la.length la.length)).setCell ⟨w.heap.size + 2, 12, none⟩ (.int .i64 x6)).there (w.heap.size + 1) 0 13) := hide (by rw [unhide HV12]; exact (unhide HZ12).2.1)
  go_wp2_with (first | (refine wpList_loadR _ rfl rfl rfl (unhide HOF) ?_) | (refine wpList_storeR2 _ _ rfl rfl (rC x1 x2 x3 x4 x5 (.slice (some ⟨g1, 0, none⟩) ls.length ls.length) (.slice (some ⟨g2, 0, none⟩) tw.length tw.length) (.slice (some ⟨g3, 0, none⟩) se.length se.length) (.slice (some ⟨g4, 0, none⟩) du.length du.length) (.slice (some ⟨g5, 0, none⟩) ss.length ss.length) (.slice (some ⟨g6, 0, none⟩) es.length es.length) (.slice (some ⟨g7, 0, none⟩) la.length la.length) x6) (rC_ones rfl rfl rfl rfl rfl rfl rfl) rfl rfl (unhide HZF) ?_; rw [unhide HV12]; intro VF raF bbF hsF kkF; have HRF := hide raF; have HBF := hide (bbF _ _ (unhide HB12) (by omega)); have HUF := hide kkF; have hqF := hsF; clear raF bbF hsF kkF))
  refine bodyPost_ret (resultsR rfl _ _ rfl (unhide HRF)) rfl ⟨g1, g2, g3, g4, g5, g6, g7, rfl, unhide HBF, ⟨by omega, by omega, by omega, by omega, by omega, by omega, by omega, by omega⟩, (unhide U1_12).of_block (unhide HUF _ (by omega)), (unhide U2_12).of_block (unhide HUF _ (by omega)), (unhide U3_12).of_block (unhide HUF _ (by omega)), (unhide U4_12).of_block (unhide HUF _ (by omega)), (unhide U5_12).of_block (unhide HUF _ (by omega)), (unhide U6_12).of_block (unhide HUF _ (by omega)), (unhide U7_12).of_block (unhide HUF _ (by omega))⟩
set_option maxHeartbeats 16000000 in
theorem eqR (x1 x2 x3 x4 x5 x6 : Int) (a1 a2 a3 a4 a5 a6 a7 : Option Addr) (c1 c2 c3 c4 c5 c6 c7 : Nat) (b1 b2 b3 b4 b5 b6 b7 : Option Addr) (d1 d2 d3 d4 d5 d6 d7 : Nat) (ls : List Lk.R) (tw : List Tu.R) (se : List Tu.R) (du : List Tu.R) (ss : List So.R) (es : List Tu.R) (la : List Ed.R) (w : World) (hm1 : ls.length ≤ 1048576) (hm2 : tw.length ≤ 1048576) (hm3 : se.length ≤ 1048576) (hm4 : du.length ≤ 1048576) (hm5 : ss.length ≤ 1048576) (hm6 : es.length ≤ 1048576) (hm7 : la.length ≤ 1048576) (hr1 : Lk.RM w a1 ls) (hr2 : Tu.RM w a2 tw) (hr3 : Tu.RM w a3 se) (hr4 : Tu.RM w a4 du) (hr5 : So.RM w a5 ss) (hr6 : Tu.RM w a6 es) (hr7 : Ed.RM w a7 la) (hs1 : Lk.RM w b1 ls) (hs2 : Tu.RM w b2 tw) (hs3 : Tu.RM w b3 se) (hs4 : Tu.RM w b4 du) (hs5 : So.RM w b5 ss) (hs6 : Tu.RM w b6 es) (hs7 : Ed.RM w b7 la) :
    Calls Tryz.prog 96 #[.agg #[.int .i64 x1, .int .i64 x2, .int .i64 x3, .int .i64 x4, .int .i64 x5, .slice a1 ls.length c1, .slice a2 tw.length c2, .slice a3 se.length c3, .slice a4 du.length c4, .slice a5 ss.length c5, .slice a6 es.length c6, .slice a7 la.length c7, .int .i64 x6], .agg #[.int .i64 x1, .int .i64 x2, .int .i64 x3, .int .i64 x4, .int .i64 x5, .slice b1 ls.length d1, .slice b2 tw.length d2, .slice b3 se.length d3, .slice b4 du.length d4, .slice b5 ss.length d5, .slice b6 es.length d6, .slice b7 la.length d7, .int .i64 x6]] w fun e w' => e = .returned (.bool true) ∧ Below w.heap.size w w' := by
  have HA1 : Hid (Below w.heap.size w (w.alloc (.cells #[.int .i64 x1, .int .i64 x2, .int .i64 x3, .int .i64 x4, .int .i64 x5, .slice a1 ls.length c1, .slice a2 tw.length c2, .slice a3 se.length c3, .slice a4 du.length c4, .slice a5 ss.length c5, .slice a6 es.length c6, .slice a7 la.length c7, .int .i64 x6] 83))) := hide ((Below.refl _ _).alloc (Nat.le_refl _) _)
  have HB0 : Hid (Below w.heap.size w ((w.alloc (.cells #[.int .i64 x1, .int .i64 x2, .int .i64 x3, .int .i64 x4, .int .i64 x5, .slice a1 ls.length c1, .slice a2 tw.length c2, .slice a3 se.length c3, .slice a4 du.length c4, .slice a5 ss.length c5, .slice a6 es.length c6, .slice a7 la.length c7, .int .i64 x6] 83)).alloc (.cells #[.int .i64 x1, .int .i64 x2, .int .i64 x3, .int .i64 x4, .int .i64 x5, .slice b1 ls.length d1, .slice b2 tw.length d2, .slice b3 se.length d3, .slice b4 du.length d4, .slice b5 ss.length d5, .slice b6 es.length d6, .slice b7 la.length d7, .int .i64 x6] 83))) := hide ((unhide HA1).alloc (unhide HA1).size _)
  have HX0 : Hid (RA ((w.alloc (.cells #[.int .i64 x1, .int .i64 x2, .int .i64 x3, .int .i64 x4, .int .i64 x5, .slice a1 ls.length c1, .slice a2 tw.length c2, .slice a3 se.length c3, .slice a4 du.length c4, .slice a5 ss.length c5, .slice a6 es.length c6, .slice a7 la.length c7, .int .i64 x6] 83)).alloc (.cells #[.int .i64 x1, .int .i64 x2, .int .i64 x3, .int .i64 x4, .int .i64 x5, .slice b1 ls.length d1, .slice b2 tw.length d2, .slice b3 se.length d3, .slice b4 du.length d4, .slice b5 ss.length d5, .slice b6 es.length d6, .slice b7 la.length d7, .int .i64 x6] 83)) w.heap.size (rC x1 x2 x3 x4 x5 (.slice a1 ls.length c1) (.slice a2 tw.length c2) (.slice a3 se.length c3) (.slice a4 du.length c4) (.slice a5 ss.length c5) (.slice a6 es.length c6) (.slice a7 la.length c7) x6)) := hide ((ra_new w _ rfl _).below ((Below.refl _ _).alloc (Nat.le_refl _) _))
  have HY0 : Hid (RA ((w.alloc (.cells #[.int .i64 x1, .int .i64 x2, .int .i64 x3, .int .i64 x4, .int .i64 x5, .slice a1 ls.length c1, .slice a2 tw.length c2, .slice a3 se.length c3, .slice a4 du.length c4, .slice a5 ss.length c5, .slice a6 es.length c6, .slice a7 la.length c7, .int .i64 x6] 83)).alloc (.cells #[.int .i64 x1, .int .i64 x2, .int .i64 x3, .int .i64 x4, .int .i64 x5, .slice b1 ls.length d1, .slice b2 tw.length d2, .slice b3 se.length d3, .slice b4 du.length d4, .slice b5 ss.length d5, .slice b6 es.length d6, .slice b7 la.length d7, .int .i64 x6] 83)) (w.heap.size + 1) (rC x1 x2 x3 x4 x5 (.slice b1 ls.length d1) (.slice b2 tw.length d2) (.slice b3 se.length d3) (.slice b4 du.length d4) (.slice b5 ss.length d5) (.slice b6 es.length d6) (.slice b7 la.length d7) x6)) := hide (by have := ra_new (w.alloc (.cells #[.int .i64 x1, .int .i64 x2, .int .i64 x3, .int .i64 x4, .int .i64 x5, .slice a1 ls.length c1, .slice a2 tw.length c2, .slice a3 se.length c3, .slice a4 du.length c4, .slice a5 ss.length c5, .slice a6 es.length c6, .slice a7 la.length c7, .int .i64 x6] 83)) (rC x1 x2 x3 x4 x5 (.slice b1 ls.length d1) (.slice b2 tw.length d2) (.slice b3 se.length d3) (.slice b4 du.length d4) (.slice b5 ss.length d5) (.slice b6 es.length d6) (.slice b7 la.length d7) x6) rfl 83; rw [show (w.alloc (.cells #[.int .i64 x1, .int .i64 x2, .int .i64 x3, .int .i64 x4, .int .i64 x5, .slice a1 ls.length c1, .slice a2 tw.length c2, .slice a3 se.length c3, .slice a4 du.length c4, .slice a5 ss.length c5, .slice a6 es.length c6, .slice a7 la.length c7, .int .i64 x6] 83)).heap.size = w.heap.size + 1 by simp] at this; exact this)
  have HR1 := hide hr1
  have HS1 := hide hs1
  have HR2 := hide hr2
  have HS2 := hide hs2
  have HR3 := hide hr3
  have HS3 := hide hs3
  have HR4 := hide hr4
  have HS4 := hide hs4
  have HR5 := hide hr5
  have HS5 := hide hs5
  have HR6 := hide hr6
  have HS6 := hide hs6
  have HR7 := hide hr7
  have HS7 := hide hs7
  clear hr1 hs1 hr2 hs2 hr3 hs3 hr4 hs4 hr5 hs5 hr6 hs6 hr7 hs7 HA1
  have hx1 : (x1 != x1) = false := by simp
  have hx2 : (x2 != x2) = false := by simp
  have hx3 : (x3 != x3) = false := by simp
  have hx4 : (x4 != x4) = false := by simp
  have hx5 : (x5 != x5) = false := by simp
  have hx6 : (x6 != x6) = false := by simp
  go_enter Tryz.func96, Tryz.ntmps96
  go_wp2_with fail
  generalize hW : ((w.alloc (.cells #[.int .i64 x1, .int .i64 x2, .int .i64 x3, .int .i64 x4, .int .i64 x5, .slice a1 ls.length c1, .slice a2 tw.length c2, .slice a3 se.length c3, .slice a4 du.length c4, .slice a5 ss.length c5, .slice a6 es.length c6, .slice a7 la.length c7, .int .i64 x6] 83)).alloc (.cells #[.int .i64 x1, .int .i64 x2, .int .i64 x3, .int .i64 x4, .int .i64 x5, .slice b1 ls.length d1, .slice b2 tw.length d2, .slice b3 se.length d3, .slice b4 du.length d4, .slice b5 ss.length d5, .slice b6 es.length d6, .slice b7 la.length d7, .int .i64 x6] 83)) = V0 at *
  clear hW
  refine (Lk.eqS a1 b1 ls c1 d1 _ hm1 ((unhide HR1).below (unhide HB0)) ((unhide HS1).below (unhide HB0))).mono ?_
  rintro e V1 ⟨rfl, d_⟩
  have HB1 := hide ((unhide HB0).trans (d_.mono (unhide HB0).size))
  have HX1 := hide ((unhide HX0).below d_)
  have HY1 := hide ((unhide HY0).below d_)
  clear d_ HX0 HY0
  have z6 := (unhide HX1).at (i := 6) rfl
  have y6 := (unhide HY1).at (i := 6) rfl
  go_wp2_with fail
  clear z6 y6
  refine (Tu.eqS a2 b2 tw c2 d2 _ hm2 ((unhide HR2).below (unhide HB1)) ((unhide HS2).below (unhide HB1))).mono ?_
  rintro e V2 ⟨rfl, d_⟩
  have HB2 := hide ((unhide HB1).trans (d_.mono (unhide HB1).size))
  have HX2 := hide ((unhide HX1).below d_)
  have HY2 := hide ((unhide HY1).below d_)
  clear d_ HX1 HY1
  have z7 := (unhide HX2).at (i := 7) rfl
  have y7 := (unhide HY2).at (i := 7) rfl
  go_wp2_with fail
  clear z7 y7
  refine (Tu.eqS a3 b3 se c3 d3 _ hm3 ((unhide HR3).below (unhide HB2)) ((unhide HS3).below (unhide HB2))).mono ?_
  rintro e V3 ⟨rfl, d_⟩
  have HB3 := hide ((unhide HB2).trans (d_.mono (unhide HB2).size))
  have HX3 := hide ((unhide HX2).below d_)
  have HY3 := hide ((unhide HY2).below d_)
  clear d_ HX2 HY2
  have z8 := (unhide HX3).at (i := 8) rfl
  have y8 := (unhide HY3).at (i := 8) rfl
  go_wp2_with fail
  clear z8 y8
  refine (Tu.eqS a4 b4 du c4 d4 _ hm4 ((unhide HR4).below (unhide HB3)) ((unhide HS4).below (unhide HB3))).mono ?_
  rintro e V4 ⟨rfl, d_⟩
  have HB4 := hide ((unhide HB3).trans (d_.mono (unhide HB3).size))
  have HX4 := hide ((unhide HX3).below d_)
  have HY4 := hide ((unhide HY3).below d_)
  clear d_ HX3 HY3
  have z9 := (unhide HX4).at (i := 9) rfl
  have y9 := (unhide HY4).at (i := 9) rfl
  have z10 := (unhide HX4).at (i := 10) rfl
  have y10 := (unhide HY4).at (i := 10) rfl
  go_wp2_with fail
  clear z9 y9 z10 y10
  refine (Tq.eq a5 ss c5 a6 es c6 b5 d5 b6 d6 _ hm5 hm6 ((unhide HR5).below (unhide HB4)) ((unhide HR6).below (unhide HB4)) ((unhide HS5).below (unhide HB4)) ((unhide HS6).below (unhide HB4))).mono ?_
  rintro e V5 ⟨rfl, d_⟩
  have HB5 := hide ((unhide HB4).trans (d_.mono (unhide HB4).size))
  have HX5 := hide ((unhide HX4).below d_)
  have HY5 := hide ((unhide HY4).below d_)
  clear d_ HX4 HY4
  have z11 := (unhide HX5).at (i := 11) rfl
  have y11 := (unhide HY5).at (i := 11) rfl
  go_wp2_with fail
  clear z11 y11
  refine (Ed.eqS a7 b7 la c7 d7 _ hm7 ((unhide HR7).below (unhide HB5)) ((unhide HS7).below (unhide HB5))).mono ?_
  rintro e V6 ⟨rfl, d_⟩
  have HB6 := hide ((unhide HB5).trans (d_.mono (unhide HB5).size))
  have HX6 := hide ((unhide HX5).below d_)
  have HY6 := hide ((unhide HY5).below d_)
  clear d_ HX5 HY5
  have z12 := (unhide HX6).at (i := 12) rfl
  have y12 := (unhide HY6).at (i := 12) rfl
  go_wp2_with fail
  go_ret
  exact ⟨rfl, unhide HB6⟩
end Rt
end Go.Proofs.YtfooahhdikobeaaGreat
namespace Go.Proofs.YtfooahhdikobeaaGreat
open Go.ChangeShapes Go.WideShapes Go.ChangeAt Go.RowKit
set_option linter.unusedVariables false
set_option linter.unusedSimpArgs false
attribute [local go_sem ↓] Go.wp_at_zero Go.wp_at_succ
namespace Ln
open W1 Lk
def okL (m : R) : Bool := inB m.ad 1 8 && (inB m.hd 0 1073741824 && (inB m.sy 0 1073741824 && (inB m.ci 1 256 && (inB m.co 0 16744448 && inB m.wl 0 7))))
abbrev allL (ms : List R) (j : Nat) : Bool := Ri.all R.zero okL R.ad ms j
/-- Whether links are right. -/
def linksB (ms : List R) : Bool := allL ms ms.length
/-- The code of a list of links: too long, not right, or none. -/
def codeL (ms : List R) : Int := if 4096 < ms.length then 2 else if linksB ms = true then 0 else 1
/-- A link's status at a time. -/
def statusV (m : R) (now : Int) : Int := if m.hd ≤ now then 0 else if now < m.sy then 2 else 1
theorem ok_ad {m : R} (h : okL m = true) : 1 ≤ m.ad ∧ m.ad ≤ 8 := by
  unfold okL inB at h; simp at h; exact h.1
theorem ok_sy {m : R} (h : okL m = true) : 0 ≤ m.sy ∧ m.sy ≤ 1073741824 := by
  unfold okL inB at h; simp at h; exact h.2.2.1
theorem ok_co {m : R} (h : okL m = true) : 0 ≤ m.co ∧ m.co ≤ 16744448 := by
  unfold okL inB at h; simp at h; exact h.2.2.2.2.1
theorem links_len {ms : List R} (h : linksB ms = true) : ms.length ≤ 8 := by
  have := Ri.all_long (lo := 1) (hi := 8) (fun m hm => ok_ad hm) h; omega
theorem code_long {ms : List R} (h : 4096 < ms.length) : codeL ms = 2 := by unfold codeL; rw [if_pos h]
theorem code_bad {ms : List R} (h : ¬ 4096 < ms.length) (hs : linksB ms = false) : codeL ms = 1 := by unfold codeL; rw [if_neg h, if_neg (by simp [hs])]
theorem code_zero {ms : List R} (h : linksB ms = true) : codeL ms = 0 := by
  have := links_len h
  unfold codeL; rw [if_neg (by omega), if_pos h]
set_option maxHeartbeats 1000000 in
theorem l06Link (ad hd sy ci co wl : Int) (w : World) :
    Calls Tryz.prog 177 #[.agg #[.int .i64 ad, .int .i64 hd, .int .i64 sy, .int .i64 ci, .int .i64 co, .int .i64 wl]] w fun e w' => e = .returned (.bool (okL ⟨ad, hd, sy, ci, co, wl⟩)) ∧ Below w.heap.size w w' := by
  have E : Hid (okL ⟨ad, hd, sy, ci, co, wl⟩ = (inB ad 1 8 && (inB hd 0 1073741824 && (inB sy 0 1073741824 && (inB ci 1 256 && (inB co 0 16744448 && inB wl 0 7)))))) := hide rfl
  cases h1 : inB ad 1 8
  rotate_left
  cases h2 : inB hd 0 1073741824
  rotate_left
  cases h3 : inB sy 0 1073741824
  rotate_left
  cases h4 : inB ci 1 256
  rotate_left
  cases h5 : inB co 0 16744448
  rotate_left
  cases h6 : inB wl 0 7
  all_goals
    go_enter Tryz.func177, Tryz.ntmps177
    go_wp2_with (first | (go_at_call 43; refine (l01In _ _ _ _).mono ?_; rintro e w' ⟨rfl, rfl⟩) | (go_at_call 124; refine (l01Addr _ _).mono ?_; rintro e w' ⟨rfl, rfl⟩))
    go_ret
    exact ⟨ret_bool (by rw [unhide E]; simp [*]), (Below.refl _ _).alloc (Nat.le_refl _) _⟩
set_option maxHeartbeats 1000000 in
theorem l06Status (ad hd sy ci co wl now : Int) (w : World) :
    Calls Tryz.prog 196 #[.agg #[.int .i64 ad, .int .i64 hd, .int .i64 sy, .int .i64 ci, .int .i64 co, .int .i64 wl], .int .i64 now] w fun e w' => e = .returned (.int .i64 (statusV ⟨ad, hd, sy, ci, co, wl⟩ now)) ∧ Below w.heap.size w w' := by
  have E : Hid (statusV ⟨ad, hd, sy, ci, co, wl⟩ now = if hd ≤ now then 0 else if now < sy then 2 else 1) := hide rfl
  by_cases h1 : hd ≤ now
  · go_enter Tryz.func196, Tryz.ntmps196
    go_wp2
    go_ret
    exact ⟨ret_int (by rw [unhide E, if_pos (by omega)]), (Below.refl _ _).alloc (Nat.le_refl _) _⟩
  · by_cases h2 : now < sy
    · go_enter Tryz.func196, Tryz.ntmps196
      go_wp2
      go_ret
      exact ⟨ret_int (by rw [unhide E, if_neg (by omega), if_pos (by omega)]), (Below.refl _ _).alloc (Nat.le_refl _) _⟩
    · go_enter Tryz.func196, Tryz.ntmps196
      go_wp2
      go_ret
      exact ⟨ret_int (by rw [unhide E, if_neg (by omega), if_neg (by omega)]), (Below.refl _ _).alloc (Nat.le_refl _) _⟩
theorem isWill (n : Int) (w : World) : Calls Tryz.prog 110 #[.int .i64 n] w fun e w' => e = .returned (.bool (inB n 0 7)) ∧ w' = w := by
  go_enter Tryz.func110, Tryz.ntmps110
  go_wp2_with (go_at_call 88; refine (within _ _ _ _).mono ?_; rintro e w' ⟨rfl, rfl⟩)
  go_ret
  exact ⟨rfl, rfl⟩
theorem isIn (n : Int) (w : World) : Calls Tryz.prog 219 #[.int .i64 n] w fun e w' => e = .returned (.bool (inB n 1 256)) ∧ w' = w := by
  go_enter Tryz.func219, Tryz.ntmps219
  go_wp2_with (go_at_call 88; refine (within _ _ _ _).mono ?_; rintro e w' ⟨rfl, rfl⟩)
  go_ret
  exact ⟨rfl, rfl⟩
set_option maxHeartbeats 1000000 in
theorem isLink (ad hd sy ci co wl : Int) (w : World) :
    Calls Tryz.prog 212 #[.agg #[.int .i64 ad, .int .i64 hd, .int .i64 sy, .int .i64 ci, .int .i64 co, .int .i64 wl]] w fun e w' => e = .returned (.bool (okL ⟨ad, hd, sy, ci, co, wl⟩)) ∧ Below w.heap.size w w' := by
  have E : Hid (okL ⟨ad, hd, sy, ci, co, wl⟩ = (inB ad 1 8 && (inB hd 0 1073741824 && (inB sy 0 1073741824 && (inB ci 1 256 && (inB co 0 16744448 && inB wl 0 7)))))) := hide rfl
  cases h1 : inB ad 1 8
  rotate_left
  cases h2 : inB hd 0 1073741824
  rotate_left
  cases h3 : inB sy 0 1073741824
  rotate_left
  cases h4 : inB ci 1 256
  rotate_left
  cases h5 : inB co 0 16744448
  rotate_left
  cases h6 : inB wl 0 7
  all_goals
    go_enter Tryz.func212, Tryz.ntmps212
    go_wp2_with (first | (go_at_call 88; refine (within _ _ _ _).mono ?_; rintro e w' ⟨rfl, rfl⟩) | (go_at_call 109; refine (isAddress _ _).mono ?_; rintro e w' ⟨rfl, rfl⟩) | (go_at_call 219; refine (isIn _ _).mono ?_; rintro e w' ⟨rfl, rfl⟩) | (go_at_call 110; refine (isWill _ _).mono ?_; rintro e w' ⟨rfl, rfl⟩))
    go_ret
    exact ⟨ret_bool (by rw [unhide E]; simp [*]), (Below.refl _ _).alloc (Nat.le_refl _) _⟩
set_option maxHeartbeats 1000000 in
theorem implStatus (ad hd sy ci co wl now : Int) (w : World) :
    Calls Tryz.prog 172 #[.agg #[.int .i64 ad, .int .i64 hd, .int .i64 sy, .int .i64 ci, .int .i64 co, .int .i64 wl], .int .i64 now] w fun e w' => e = .returned (.int .i64 (statusV ⟨ad, hd, sy, ci, co, wl⟩ now)) ∧ Below w.heap.size w w' := by
  have E : Hid (statusV ⟨ad, hd, sy, ci, co, wl⟩ now = if hd ≤ now then 0 else if now < sy then 2 else 1) := hide rfl
  by_cases h1 : hd ≤ now
  · go_enter Tryz.func172, Tryz.ntmps172
    go_wp2
    go_ret
    exact ⟨ret_int (by rw [unhide E, if_pos (by omega)]), (Below.refl _ _).alloc (Nat.le_refl _) _⟩
  · by_cases h2 : now < sy
    · go_enter Tryz.func172, Tryz.ntmps172
      go_wp2
      go_ret
      exact ⟨ret_int (by rw [unhide E, if_neg (by omega), if_pos (by omega)]), (Below.refl _ _).alloc (Nat.le_refl _) _⟩
    · go_enter Tryz.func172, Tryz.ntmps172
      go_wp2
      go_ret
      exact ⟨ret_int (by rw [unhide E, if_neg (by omega), if_neg (by omega)]), (Below.refl _ _).alloc (Nat.le_refl _) _⟩
end Ln
end Go.Proofs.YtfooahhdikobeaaGreat
namespace Go.Proofs.YtfooahhdikobeaaGreat
set_option linter.unusedVariables false
set_option linter.unusedSimpArgs false
namespace Gr
open W1 Tu St Tw
def lkOn (me now : Int) (x : Lk.R) : Bool := (x.ad != me) && (decide (0 < x.co) && (Ln.statusV x now == 2))
def lkT (me : Int) (x : Lk.R) : R := ⟨100 * me + x.ad, 0, x.co⟩
def grL (me now : Int) (ls : List Lk.R) (j : Nat) : List R := (ls.take j).foldl (fun L x => if lkOn me now x = true then putL L (lkT me x) else L) []
def edOn (me now : Int) (e : R) : Bool := decide (now < e.til) && ((hv e != me) && (ha e != me))
def edT (e : R) : R := ⟨e.key, 0, e.val⟩
def grE (me now : Int) (L es : List R) (j : Nat) : List R := (es.take j).foldl (fun L e => if edOn me now e = true then putL L (edT e) else L) L
def graph (me : Int) (ls : List Lk.R) (es : List R) (now : Int) : List R := grE me now (grL me now ls ls.length) es es.length
def graB (me : Int) (ls : List Lk.R) (ss : List So.R) (es : List R) : Bool := Ln.linksB ls && (inB me 1 8 && Tp.topB ss es)
def graC (me : Int) (ls : List Lk.R) (ss : List So.R) (es : List R) : Int := if 4096 < ls.length then 2 else if graB me ls ss es = true then 0 else 1
def graA (me : Int) (ls : List Lk.R) (ss : List So.R) (es : List R) (now : Int) : List R := if graC me ls ss es = 0 then graph me ls es now else []
theorem lk_take {ls : List Lk.R} {j : Nat} (h : j < ls.length) : ls.take (j + 1) = ls.take j ++ [ls.getD j Lk.R.zero] := by
  rw [List.take_add_one, List.getElem?_eq_getElem h, List.getD_eq_getElem?_getD, List.getElem?_eq_getElem h]; rfl
theorem grL_yes {me now : Int} {ls : List Lk.R} {j : Nat} (hj : j < ls.length) (h : lkOn me now (ls.getD j Lk.R.zero) = true) : grL me now ls (j + 1) = putL (grL me now ls j) (lkT me (ls.getD j Lk.R.zero)) := by
  unfold grL; rw [lk_take hj, List.foldl_append, List.foldl_cons, List.foldl_nil, if_pos h]
theorem grL_no {me now : Int} {ls : List Lk.R} {j : Nat} (hj : j < ls.length) (h : lkOn me now (ls.getD j Lk.R.zero) = false) : grL me now ls (j + 1) = grL me now ls j := by
  unfold grL; rw [lk_take hj, List.foldl_append, List.foldl_cons, List.foldl_nil, if_neg (by rw [h]; simp)]
theorem grE_yes {me now : Int} {L es : List R} {j : Nat} (hj : j < es.length) (h : edOn me now (es.getD j R.zero) = true) : grE me now L es (j + 1) = putL (grE me now L es j) (edT (es.getD j R.zero)) := by
  unfold grE; rw [take_one hj, List.foldl_append, List.foldl_cons, List.foldl_nil, if_pos h]
theorem grE_no {me now : Int} {L es : List R} {j : Nat} (hj : j < es.length) (h : edOn me now (es.getD j R.zero) = false) : grE me now L es (j + 1) = grE me now L es j := by
  unfold grE; rw [take_one hj, List.foldl_append, List.foldl_cons, List.foldl_nil, if_neg (by rw [h]; simp)]
theorem lkT_ok {me now : Int} {x : Lk.R} (hm : 1 ≤ me ∧ me ≤ 8) (ho : Ln.okL x = true) (h : lkOn me now x = true) :
    okR (lkT me x) = true ∧ okK (lkT me x) = true ∧ hv (lkT me x) = me ∧ ha (lkT me x) = x.ad := by
  have had := Ln.ok_ad ho
  have hco := Ln.ok_co ho
  have hne : x.ad ≠ me := by unfold lkOn at h; simp at h; exact h.1
  obtain ⟨e1, e2⟩ := hop_mk (v := me) (a := x.ad) (t := 0) (u := x.co) (by omega) (by omega) (by omega)
  refine ⟨?_, ?_, e1, e2⟩
  · unfold okR lkT inB; simp; omega
  · unfold okK lkT; rw [e1, e2]; unfold inB; simp; omega
theorem edT_ok {e : R} (ho : okR e = true) (hk : okK e = true) : okR (edT e) = true ∧ okK (edT e) = true ∧ hv (edT e) = hv e ∧ ha (edT e) = ha e := by
  have h := ok_bounds ho
  refine ⟨?_, hk, rfl, rfl⟩
  unfold okR edT inB; simp; omega
theorem two_nil : twoB [] = true := rfl
theorem grL_two {me now : Int} {ls : List Lk.R} (hm : 1 ≤ me ∧ me ≤ 8) (ho : Ln.linksB ls = true) : ∀ j, j ≤ ls.length → twoB (grL me now ls j) = true
  | 0, _ => two_nil
  | j + 1, hj => by
    have ih := grL_two hm ho (now := now) j (by omega)
    cases h : lkOn me now (ls.getD j Lk.R.zero)
    · rw [grL_no (by omega) h]; exact ih
    · obtain ⟨q1, q2, _⟩ := lkT_ok hm (Ri.all_ok ho (by omega)) h
      rw [grL_yes (by omega) h]; exact two_put ih q1 q2
theorem grE_two {me now : Int} {L es : List R} (hL : twoB L = true) (ho : twoB es = true) : ∀ j, j ≤ es.length → twoB (grE me now L es j) = true
  | 0, _ => hL
  | j + 1, hj => by
    have ih := grE_two hL ho (me := me) (now := now) j (by omega)
    cases h : edOn me now (es.getD j R.zero)
    · rw [grE_no (by omega) h]; exact ih
    · obtain ⟨q1, q2, _⟩ := edT_ok (setB_ok (two_set ho) (by omega)) (two_ok ho _ (Tu.getD_mem (show j < es.length by omega)))
      rw [grE_yes (by omega) h]; exact two_put ih q1 q2
theorem gra_zero {me : Int} {ls : List Lk.R} {ss : List So.R} {es : List R} (h : graC me ls ss es = 0) : Ln.linksB ls = true ∧ (1 ≤ me ∧ me ≤ 8) ∧ Tp.topB ss es = true := by
  unfold graC at h
  split at h
  · cases h
  · split at h
    · rename_i _ hb
      unfold graB inB at hb
      simp at hb
      exact ⟨hb.1, hb.2.1, hb.2.2⟩
    · cases h
theorem graph_two {me now : Int} {ls : List Lk.R} {ss : List So.R} {es : List R} (h : graC me ls ss es = 0) : twoB (graph me ls es now) = true := by
  obtain ⟨h1, h2, h3⟩ := gra_zero h
  exact grE_two (grL_two h2 h1 _ (Nat.le_refl _)) (Tp.top_two h3) _ (Nat.le_refl _)
theorem gra_bad {me : Int} {ls : List Lk.R} {ss : List So.R} {es : List R} (h : ¬ 4096 < ls.length) (hb : Ln.linksB ls = false ∨ inB me 1 8 = false ∨ Tp.topB ss es = false) : graC me ls ss es = 1 := by
  unfold graC graB; rw [if_neg h]
  rcases hb with hb | hb | hb <;> (rw [hb]; simp)
theorem gra_ok {me : Int} {ls : List Lk.R} {ss : List So.R} {es : List R} (h1 : Ln.linksB ls = true) (h2 : inB me 1 8 = true) (h3 : Tp.topB ss es = true) : graC me ls ss es = 0 := by
  have := Ln.links_len h1
  unfold graC graB; rw [if_neg (by omega), h1, h2, h3]; rfl
theorem gra_none {me : Int} {ls : List Lk.R} {ss : List So.R} {es : List R} {now : Int} (h : graC me ls ss es ≠ 0) : graA me ls ss es now = [] := by unfold graA; rw [if_neg h]
theorem gra_yes {me : Int} {ls : List Lk.R} {ss : List So.R} {es : List R} {now : Int} (h : graC me ls ss es = 0) : graA me ls ss es now = graph me ls es now := by unfold graA; rw [if_pos h]
end Gr
end Go.Proofs.YtfooahhdikobeaaGreat
namespace Go.Proofs.YtfooahhdikobeaaGreat
open Go.ChangeShapes Go.WideShapes Go.ChangeAt Go.RowKit
set_option linter.unusedVariables false
set_option linter.unusedSimpArgs false
set_option maxRecDepth 100000
attribute [local go_sem ↓] Go.wp_at_zero Go.wp_at_succ
namespace Tp
open W1 Tu St Tw
theorem sS1 {w : World} {g o B : Nat} {ad an til : Int} {x y : Value} (h : So.At w g o ⟨ad, an, til⟩) (hB : Bx2 w B x y) : (So.At w g o ⟨ad, an, til⟩ ∧ Bx2 w B x y) ∧ w.cell? ⟨g, o, none⟩ = some (.int .i64 ad) ∧ w.cell? ⟨g, o + 1, none⟩ = some (.int .i64 an) ∧ w.cell? ⟨g, o + 2, none⟩ = some (.int .i64 til) ∧ w.cell? ⟨B, 0, none⟩ = some x := ⟨⟨h, hB⟩, h.1, h.2.1, h.2.2, hB.1⟩
theorem sS2 {w : World} {g o p B : Nat} {ad an til : Int} {m : So.R} {x y : Value} (h : So.At w g o ⟨ad, an, til⟩) (h' : So.At w g p m) (hB : Bx2 w B x y) : ((So.At w g o ⟨ad, an, til⟩ ∧ So.At w g p m) ∧ Bx2 w B x y) ∧ w.cell? ⟨g, o, none⟩ = some (.int .i64 ad) ∧ w.cell? ⟨g, o + 1, none⟩ = some (.int .i64 an) ∧ w.cell? ⟨g, o + 2, none⟩ = some (.int .i64 til) ∧ w.cell? ⟨g, p, none⟩ = some (.int .i64 m.ad) ∧ w.cell? ⟨B, 0, none⟩ = some x := ⟨⟨⟨h, h'⟩, hB⟩, h.1, h.2.1, h.2.2, h'.1, hB.1⟩
theorem sE1 {w : World} {g o B : Nat} {m : R} {x y : Value} (h : Tu.At w g o m) (hB : Bx2 w B x y) : (Tu.At w g o m ∧ Bx2 w B x y) ∧ w.cell? ⟨g, o, none⟩ = some (.int .i64 m.key) ∧ w.cell? ⟨B, 0, none⟩ = some x ∧ w.cell? ⟨B, 1, none⟩ = some y := ⟨⟨h, hB⟩, h.1, hB.1, hB.2⟩
set_option maxHeartbeats 8000000 in
theorem specOK (a : Option Addr) (ss : List So.R) (ca : Nat) (b : Option Addr) (es : List R) (cb : Nat) (w : World) (hm : ss.length ≤ 1048576) (hl : es.length ≤ 1048576) (hr : So.RM w a ss) (hr' : RM w b es) :
    Calls Tryz.prog 137 #[.agg #[.slice a ss.length ca, .slice b es.length cb]] w fun e w' => e = .returned (.bool (topB ss es)) ∧ Below w.heap.size w w' := by
  obtain ⟨A, hA⟩ : ∃ A, topB ss es = A := ⟨_, rfl⟩
  have HTA := hide hA
  rw [hA]
  clear hA
  obtain ⟨n, hN⟩ : ∃ n, es.length = n := ⟨_, rfl⟩
  have HN := hide hN
  obtain ⟨k, hK⟩ : ∃ k, ss.length = k := ⟨_, rfl⟩
  have HK := hide hK
  rw [hN, hK]
  rw [hN] at hl
  rw [hK] at hm
  clear hN hK
  have HA : Hid (Below w.heap.size w (w.alloc (.cells #[.slice a k ca, .slice b n cb] 80))) := hide ((Below.refl _ _).alloc (Nat.le_refl _) _)
  have HX : Hid (Bx2 (w.alloc (.cells #[.slice a k ca, .slice b n cb] 80)) w.heap.size (.slice a k ca) (.slice b n cb)) := hide (bx2_new w _ _ _)
  have HR := hide (hr.below (unhide HA))
  have HE := hide (hr'.below (unhide HA))
  have hxw : w.heap.size < (w.alloc (.cells #[.slice a k ca, .slice b n cb] 80)).heap.size := by simp
  clear hr hr'
  go_enter Tryz.func137, Tryz.ntmps137
  go_wp2_with fail
  generalize hW : w.alloc (.cells #[.slice a k ca, .slice b n cb] 80) = W0 at *
  clear hW
  go_loopw [3] (fun i wr => ∃ j : Nat, j ≤ k ∧ i = .int .i64 j ∧ Hid (allS ss j = true) ∧ Hid (Below W0.heap.size W0 wr)) (fun i _ => k - (intOf i).toNat)
  case atStart => exact ⟨0, by omega, rfl, hide Ri.all_zero, hide (Below.refl _ _)⟩
  case round =>
    obtain ⟨j, hj, rfl, hrl, hbl⟩ := hrel
    have HXr := hide ((unhide HX).below (unhide hbl))
    obtain ⟨z0, z1⟩ := unhide HXr
    by_cases hlt : (j : Int) < (k : Int)
    · have k0 : (0 : Int) ≤ (j : Int) := by omega
      have hlen : j < ss.length := by rw [unhide HK]; omega
      obtain ⟨g, off, rfl⟩ := (unhide HR).form (by omega)
      have hc := fun i (hi : i < ss.length) => ((unhide HR).below (unhide hbl)).at hi
      have HL := hide hlen
      have hA := hc j hlen
      cases hk : okS (ss.getD j So.R.zero)
      · clear hc
        have HST : Hid (A = false) := hide (by rw [← unhide HTA]; exact top_nosrc (Ri.all_no hlen (Ri.step_bad (key := So.R.ad) hk)))
        have HKK := hide hk
        clear hk
        generalize ss.getD j So.R.zero = m at *
        obtain ⟨ad, an, til⟩ := m
        go_wp2_with fail
        refine wp_region_noPanic ?_
        refine wp_region_held_drew (S := fun w' => (So.At w' g (off + j * 3) ⟨ad, an, til⟩ ∧ Bx2 w' w.heap.size (.slice (some ⟨g, off, none⟩) k ca) (.slice b n cb)) ∧ w'.cell? ⟨g, off + j * 3, none⟩ = some (.int .i64 ad) ∧ w'.cell? ⟨g, off + j * 3 + 1, none⟩ = some (.int .i64 an) ∧ w'.cell? ⟨g, off + j * 3 + 2, none⟩ = some (.int .i64 til) ∧ w'.cell? ⟨w.heap.size, 0, none⟩ = some (.slice (some ⟨g, off, none⟩) k ca)) (by kernel_rfl) (sS1 (hA.drew) ((unhide HXr).drew)) (fun hHeld => ?_)
        refine Rg.t 0 14 ?_
        refine Rg.t 1 15 ?_
        refine Rg.t 2 16 ?_
        refine Rg.t 3 17 ?_
        refine Rg.t 4 18 ?_
        (refine Rg.o 5 (fun K hK => ?_); go_simp)
        refine (l09Source ad an til _).mono ?_
        rintro e w4 ⟨rfl, b4⟩
        rw [unhide HKK]
        refine hK.out _ _ (sS1 (hA.drew.below b4) ((unhide HXr).drew.below b4)) (fun hHeld => ?_)
        clear hK K
        (try simp only [Act.put, List.setIfInBounds_toArray, List.set_cons_zero, List.set_cons_succ])
        refine Rg.t 6 20 ?_
        refine Rg.t 7 21 ?_
        refine Rg.s 8 22 ?_
        refine Rg.s 9 23 ?_
        refine Rg.s 10 24 ?_
        refine Rg.s 11 25 ?_
        refine Rg.s 12 26 ?_
        refine Rg.s 13 27 ?_
        refine Rg.s 14 28 ?_
        refine Rg.s 15 29 ?_
        refine Rg.s 16 30 ?_
        refine Rg.s 17 31 ?_
        refine Rg.s 18 32 ?_
        refine Rg.s 19 33 ?_
        refine Rg.s 20 34 ?_
        refine Rg.s 21 35 ?_
        refine Rg.s 22 36 ?_
        refine Rg.s 23 37 ?_
        refine Rg.s 24 38 ?_
        refine Rg.s 25 39 ?_
        refine Rg.t 26 40 ?_
        refine wpAnyH_done (by kernel_rfl) (NoPanic.normal ?_) _
        have hb4 := hide ((unhide hbl).drew.trans (b4.mono (by show W0.heap.size ≤ wr.heap.size; exact (unhide hbl).size)))
        clear b4 hHeld
        obtain ⟨z0, z1⟩ := (unhide HX).below (unhide hb4)
        go_wp2_with fail
        go_ret
        exact ⟨ret_bool (unhide HST).symm, (unhide HA).trans ((unhide hb4).mono (unhide HA).size)⟩
      have HKK := hide hk
      clear hk
      by_cases hj0 : j = 0
      · subst hj0
        clear hc
        rw [Nat.zero_mul, Nat.add_zero] at hA
        have HST := hide (Ri.all_succ (unhide hrl) (Ri.step_zero (key := So.R.ad) (unhide HKK)))
        generalize ss.getD 0 So.R.zero = m at *
        obtain ⟨ad, an, til⟩ := m
        go_wp2_with fail
        refine wp_region_noPanic ?_
        refine wp_region_held_drew (S := fun w' => (So.At w' g off ⟨ad, an, til⟩ ∧ Bx2 w' w.heap.size (.slice (some ⟨g, off, none⟩) k ca) (.slice b n cb)) ∧ w'.cell? ⟨g, off, none⟩ = some (.int .i64 ad) ∧ w'.cell? ⟨g, off + 1, none⟩ = some (.int .i64 an) ∧ w'.cell? ⟨g, off + 2, none⟩ = some (.int .i64 til) ∧ w'.cell? ⟨w.heap.size, 0, none⟩ = some (.slice (some ⟨g, off, none⟩) k ca)) (by kernel_rfl) (sS1 (hA.drew) ((unhide HXr).drew)) (fun hHeld => ?_)
        refine Rg.t 0 14 ?_
        refine Rg.t 1 15 ?_
        refine Rg.t 2 16 ?_
        refine Rg.t 3 17 ?_
        refine Rg.t 4 18 ?_
        (refine Rg.o 5 (fun K hK => ?_); go_simp)
        refine (l09Source ad an til _).mono ?_
        rintro e w4 ⟨rfl, b4⟩
        rw [unhide HKK]
        refine hK.out _ _ (sS1 (hA.drew.below b4) ((unhide HXr).drew.below b4)) (fun hHeld => ?_)
        clear hK K
        (try simp only [Act.put, List.setIfInBounds_toArray, List.set_cons_zero, List.set_cons_succ])
        refine Rg.t 6 20 ?_
        refine Rg.t 7 21 ?_
        refine Rg.t 8 22 ?_
        refine Rg.t 9 23 ?_
        refine Rg.t 10 24 ?_
        refine Rg.s 11 25 ?_
        refine Rg.s 12 26 ?_
        refine Rg.s 13 27 ?_
        refine Rg.s 14 28 ?_
        refine Rg.s 15 29 ?_
        refine Rg.s 16 30 ?_
        refine Rg.s 17 31 ?_
        refine Rg.s 18 32 ?_
        refine Rg.s 19 33 ?_
        refine Rg.s 20 34 ?_
        refine Rg.s 21 35 ?_
        refine Rg.s 22 36 ?_
        refine Rg.s 23 37 ?_
        refine Rg.s 24 38 ?_
        refine Rg.t 25 39 ?_
        refine Rg.t 26 40 ?_
        refine wpAnyH_done (by kernel_rfl) (NoPanic.normal ?_) _
        have hb4 := hide ((unhide hbl).drew.trans (b4.mono (by show W0.heap.size ≤ wr.heap.size; exact (unhide hbl).size)))
        clear b4 hHeld
        obtain ⟨z0, z1⟩ := (unhide HX).below (unhide hb4)
        go_wp2_with fail
        go_roundw
        case rel => exact ⟨0 + 1, by omega, by go_num, HST, hb4⟩
        case measure => simp [intOf]; omega
      · obtain ⟨i, hji⟩ : ∃ i, j = i + 1 := ⟨j - 1, by omega⟩
        have HJ := hide hji
        have e1 : (j : Int) - 1 = (i : Int) := by omega
        have i0 : (0 : Int) ≤ (i : Int) := by omega
        have wi : IntKind.i64.wrap (i : Int) = (i : Int) := by rw [IntKind.wrap_i64]; omega
        have i1 : (i : Int) < (k : Int) := by omega
        have j1 : (0 : Int) < (j : Int) := by omega
        have j2 : 0 < j := by omega
        have hP := hc i (by have := unhide HL; omega)
        have EJ : ss.getD j So.R.zero = ss.getD (i + 1) So.R.zero := by rw [hji]
        clear hc hji
        by_cases hk : (ss.getD i So.R.zero).ad < (ss.getD j So.R.zero).ad
        · have HST : Hid (allS ss (j + 1) = true) := hide (Ri.all_succ (unhide hrl) (by rw [unhide HJ]; exact Ri.step_lt (by rw [← EJ]; exact unhide HKK) (by rw [← EJ]; exact hk)))
          clear EJ
          generalize ss.getD j So.R.zero = m at *
          generalize ss.getD i So.R.zero = m0 at *
          obtain ⟨ad, an, til⟩ := m
          obtain ⟨ad0, an0, til0⟩ := m0
          dsimp only at hk
          go_wp2_with fail
          refine wp_region_noPanic ?_
          refine wp_region_held_drew (S := fun w' => ((So.At w' g (off + j * 3) ⟨ad, an, til⟩ ∧ So.At w' g (off + i * 3) ⟨ad0, an0, til0⟩) ∧ Bx2 w' w.heap.size (.slice (some ⟨g, off, none⟩) k ca) (.slice b n cb)) ∧ w'.cell? ⟨g, off + j * 3, none⟩ = some (.int .i64 ad) ∧ w'.cell? ⟨g, off + j * 3 + 1, none⟩ = some (.int .i64 an) ∧ w'.cell? ⟨g, off + j * 3 + 2, none⟩ = some (.int .i64 til) ∧ w'.cell? ⟨g, off + i * 3, none⟩ = some (.int .i64 ad0) ∧ w'.cell? ⟨w.heap.size, 0, none⟩ = some (.slice (some ⟨g, off, none⟩) k ca)) (by kernel_rfl) (sS2 (hA.drew) (hP.drew) ((unhide HXr).drew)) (fun hHeld => ?_)
          refine Rg.t 0 14 ?_
          refine Rg.t 1 15 ?_
          refine Rg.t 2 16 ?_
          refine Rg.t 3 17 ?_
          refine Rg.t 4 18 ?_
          (refine Rg.o 5 (fun K hK => ?_); go_simp)
          refine (l09Source ad an til _).mono ?_
          rintro e w4 ⟨rfl, b4⟩
          rw [unhide HKK]
          refine hK.out _ _ (sS2 (hA.drew.below b4) (hP.drew.below b4) ((unhide HXr).drew.below b4)) (fun hHeld => ?_)
          clear hK K
          (try simp only [Act.put, List.setIfInBounds_toArray, List.set_cons_zero, List.set_cons_succ])
          refine Rg.t 6 20 ?_
          refine Rg.t 7 21 ?_
          refine Rg.t 8 22 ?_
          refine Rg.t 9 23 ?_
          refine Rg.t 10 24 ?_
          refine Rg.t 11 25 ?_
          refine Rg.t 12 26 ?_
          refine Rg.t 13 27 ?_
          refine Rg.t 14 28 ?_
          refine Rg.t 15 29 ?_
          refine Rg.t 16 30 ?_
          refine Rg.t 17 31 ?_
          refine Rg.t 18 32 ?_
          refine Rg.t 19 33 ?_
          refine Rg.t 20 34 ?_
          refine Rg.t 21 35 ?_
          refine Rg.t 22 36 ?_
          refine Rg.t 23 37 ?_
          refine Rg.t 24 38 ?_
          refine Rg.t 25 39 ?_
          refine Rg.t 26 40 ?_
          refine wpAnyH_done (by kernel_rfl) (NoPanic.normal ?_) _
          have hb4 := hide ((unhide hbl).drew.trans (b4.mono (by show W0.heap.size ≤ wr.heap.size; exact (unhide hbl).size)))
          clear b4 hHeld
          obtain ⟨z0, z1⟩ := (unhide HX).below (unhide hb4)
          go_wp2_with fail
          go_roundw
          case rel => exact ⟨j + 1, by omega, by go_num, HST, hb4⟩
          case measure => simp [intOf]; omega
        · have HST : Hid (A = false) := hide (by rw [← unhide HTA]; exact top_nosrc (Ri.all_no (unhide HL) (show Ri.step So.R.zero okS So.R.ad ss j = false by rw [unhide HJ]; exact Ri.step_ge (by rw [← EJ]; omega))))
          clear EJ
          generalize ss.getD j So.R.zero = m at *
          generalize ss.getD i So.R.zero = m0 at *
          obtain ⟨ad, an, til⟩ := m
          obtain ⟨ad0, an0, til0⟩ := m0
          dsimp only at hk
          go_wp2_with fail
          refine wp_region_noPanic ?_
          refine wp_region_held_drew (S := fun w' => ((So.At w' g (off + j * 3) ⟨ad, an, til⟩ ∧ So.At w' g (off + i * 3) ⟨ad0, an0, til0⟩) ∧ Bx2 w' w.heap.size (.slice (some ⟨g, off, none⟩) k ca) (.slice b n cb)) ∧ w'.cell? ⟨g, off + j * 3, none⟩ = some (.int .i64 ad) ∧ w'.cell? ⟨g, off + j * 3 + 1, none⟩ = some (.int .i64 an) ∧ w'.cell? ⟨g, off + j * 3 + 2, none⟩ = some (.int .i64 til) ∧ w'.cell? ⟨g, off + i * 3, none⟩ = some (.int .i64 ad0) ∧ w'.cell? ⟨w.heap.size, 0, none⟩ = some (.slice (some ⟨g, off, none⟩) k ca)) (by kernel_rfl) (sS2 (hA.drew) (hP.drew) ((unhide HXr).drew)) (fun hHeld => ?_)
          refine Rg.t 0 14 ?_
          refine Rg.t 1 15 ?_
          refine Rg.t 2 16 ?_
          refine Rg.t 3 17 ?_
          refine Rg.t 4 18 ?_
          (refine Rg.o 5 (fun K hK => ?_); go_simp)
          refine (l09Source ad an til _).mono ?_
          rintro e w4 ⟨rfl, b4⟩
          rw [unhide HKK]
          refine hK.out _ _ (sS2 (hA.drew.below b4) (hP.drew.below b4) ((unhide HXr).drew.below b4)) (fun hHeld => ?_)
          clear hK K
          (try simp only [Act.put, List.setIfInBounds_toArray, List.set_cons_zero, List.set_cons_succ])
          refine Rg.t 6 20 ?_
          refine Rg.t 7 21 ?_
          refine Rg.t 8 22 ?_
          refine Rg.t 9 23 ?_
          refine Rg.t 10 24 ?_
          refine Rg.t 11 25 ?_
          refine Rg.t 12 26 ?_
          refine Rg.t 13 27 ?_
          refine Rg.t 14 28 ?_
          refine Rg.t 15 29 ?_
          refine Rg.t 16 30 ?_
          refine Rg.t 17 31 ?_
          refine Rg.t 18 32 ?_
          refine Rg.t 19 33 ?_
          refine Rg.t 20 34 ?_
          refine Rg.t 21 35 ?_
          refine Rg.t 22 36 ?_
          refine Rg.t 23 37 ?_
          refine Rg.t 24 38 ?_
          refine Rg.t 25 39 ?_
          refine Rg.t 26 40 ?_
          refine wpAnyH_done (by kernel_rfl) (NoPanic.normal ?_) _
          have hb4 := hide ((unhide hbl).drew.trans (b4.mono (by show W0.heap.size ≤ wr.heap.size; exact (unhide hbl).size)))
          clear b4 hHeld
          obtain ⟨z0, z1⟩ := (unhide HX).below (unhide hb4)
          go_wp2_with fail
          go_ret
          exact ⟨ret_bool (unhide HST).symm, (unhide HA).trans ((unhide hb4).mono (unhide HA).size)⟩
    · obtain rfl : j = k := by omega
      have hok : srcB ss = true := by unfold srcB; rw [unhide HK]; exact unhide hrl
      have h8 := src_len hok
      have h8' : (j : Int) ≤ 8 := by have := unhide HK; omega
      have HS := hide hok
      clear hok h8 hrl
      have HBX := hide ((unhide HA).trans ((unhide hbl).mono (unhide HA).size))
      have HR1 := hide ((unhide HR).below (unhide hbl))
      have HE1 := hide ((unhide HE).below (unhide hbl))
      clear HR HE HX HA hbl
      generalize hwq : wr = wq at *
      clear hwq
      go_wp2_with fail
      clear z0 z1
      go_loopw [4] (fun i wr => ∃ t : Nat, t ≤ n ∧ i = .int .i64 t ∧ Hid (edgB ss es t = true ∨ twoB es = false) ∧ Hid (Below wq.heap.size wq wr)) (fun i _ => n - (intOf i).toNat)
      case atStart => exact ⟨0, by omega, rfl, hide (.inl (edg_zero ss es)), hide (Below.refl _ _)⟩
      case round =>
        obtain ⟨t, ht, rfl, hed, hbl⟩ := hrel
        have HXr2 := hide ((unhide HXr).below (unhide hbl))
        obtain ⟨z0, z1⟩ := unhide HXr2
        have HBW := hide ((unhide HBX).trans ((unhide hbl).mono (unhide HBX).size))
        by_cases hlt : (t : Int) < (n : Int)
        · have k0 : (0 : Int) ≤ (t : Int) := by omega
          have hlen : t < es.length := by rw [unhide HN]; omega
          obtain ⟨g, off, rfl⟩ := (unhide HE1).form (by omega)
          have hA := ((unhide HE1).below (unhide hbl)).at hlen
          have HAt := hide hA
          have HR2 := hide ((unhide HR1).below (unhide hbl))
          obtain ⟨v, hv'⟩ : ∃ v, IntKind.i64.wrap ((es.getD t R.zero).key.tdiv 100) = v := ⟨_, rfl⟩
          obtain ⟨HF, HC⟩ := edge_check (ss := ss) hlen hv' (unhide hed)
          rw [unhide HTA] at HF
          have HF := hide HF
          have HC := hide HC
          generalize es.getD t R.zero = m at *
          obtain ⟨key, til, val⟩ := m
          obtain ⟨c0, c1, c2⟩ := hA
          dsimp only at c0 c1 c2 hv' HF HC
          obtain ⟨E, hE⟩ : ∃ E, hasS ss v = E := ⟨_, rfl⟩
          have HE2 := hide hE
          rw [hE] at HF HC
          clear hE
          obtain ⟨qa, qn, qt, hq⟩ : ∃ qa qn qt, fS ss v = ⟨qa, qn, qt⟩ := ⟨_, _, _, rfl⟩
          have HQV : Hid ((fS ss v).value = .agg #[.int .i64 qa, .int .i64 qn, .int .i64 qt]) := hide (by rw [hq]; rfl)
          clear hq
          go_wp2_with fail
          go_cut [6] (fun q wx => q = .bool E ∧ Hid (Below wr.heap.size wr wx))
          case first =>
            refine wp_region_noPanic ?_
            refine wp_region_held_drew (S := fun w' => (Tu.At w' g (off + t * 3) ⟨key, til, val⟩ ∧ Bx2 w' w.heap.size (.slice a j ca) (.slice (some ⟨g, off, none⟩) n cb)) ∧ w'.cell? ⟨g, off + t * 3, none⟩ = some (.int .i64 key) ∧ w'.cell? ⟨w.heap.size, 0, none⟩ = some (.slice a j ca) ∧ w'.cell? ⟨w.heap.size, 1, none⟩ = some (.slice (some ⟨g, off, none⟩) n cb)) (by kernel_rfl) (sE1 (unhide HAt).drew (unhide HXr2).drew) (fun hHeld => ?_)
            refine Rg.t 0 49 ?_
            refine Rg.t 1 50 ?_
            refine Rg.t 2 51 ?_
            refine Rg.t 3 52 ?_
            refine Rg.t 4 53 ?_
            refine Rg.t 5 54 ?_
            refine Rg.t 6 55 ?_
            refine Rg.t (v := .int .i64 v) 7 56 ?_
            (refine wpAnyH_ready (rs := [8, 12]) (by kernel_rfl) (by simp) ?_; refine AllReadyH.cons (o := _) rfl (fun K hK => ?_) (AllReadyH.cons (o := _) rfl (fun K hK => ?_) AllReadyH.nil))
            · go_simp
              refine (l09FindL _ ss j ca _ v _ (unhide HK) (by omega) (unhide HR2).drew).mono ?_
              rintro e w4 ⟨rfl, b4_⟩
              rw [unhide HE2, unhide HQV]
              have b4 : Below wr.heap.size wr w4 := (Below.refl _ _).drew.trans b4_
              clear b4_ hHeld
              refine hK.out _ _ (sE1 ((unhide HAt).below b4) ((unhide HXr2).below b4)) (fun hHeld => ?_)
              clear hK K
              (try simp only [Act.put, List.setIfInBounds_toArray, List.set_cons_zero, List.set_cons_succ])
              refine Rg.t 9 48 ?_
              refine Rg.t 10 58 ?_
              refine Rg.t 11 59 ?_
              (refine Rg.o 12 (fun K hK => ?_); go_simp)
              have b5 := b4.alloc b4.size (.cells #[.int .i64 0, .int .i64 0, .int .i64 0] 170)
              clear hHeld
              refine hK.out _ _ (sE1 ((unhide HAt).below b5) ((unhide HXr2).below b5)) (fun hHeld => ?_)
              clear hK K
              (try simp only [Act.put, List.setIfInBounds_toArray, List.set_cons_zero, List.set_cons_succ])
              (refine Rg.o 13 (fun K hK => ?_); go_simp)
              have b6 := b4.alloc b4.size (.cells #[.int .i64 qa, .int .i64 qn, .int .i64 qt] 170)
              clear hHeld
              refine hK.out _ _ (sE1 ((unhide HAt).below b6) ((unhide HXr2).below b6)) (fun hHeld => ?_)
              clear hK K
              (try simp only [Act.put, List.setIfInBounds_toArray, List.set_cons_zero, List.set_cons_succ])
              refine Rg.t 14 6 ?_
              refine wpAnyH_done (by kernel_rfl) (NoPanic.normal ?_) _
              clear hHeld
              go_wp2_with fail
              go_meet
              case rel => exact ⟨rfl, hide b6⟩
            · go_simp
              have b4 : Below wr.heap.size wr (wr.drew.alloc (.cells #[.int .i64 0, .int .i64 0, .int .i64 0] 170)) := (Below.refl _ _).drew.alloc (Nat.le_refl _) _
              have HV4 : Hid (SV (wr.drew.alloc (.cells #[.int .i64 0, .int .i64 0, .int .i64 0] 170)) wr.heap.size So.R.zero) := hide (sv_new wr.drew So.R.zero)
              clear hHeld
              refine hK.out _ _ (sE1 ((unhide HAt).below b4) ((unhide HXr2).below b4)) (fun hHeld => ?_)
              clear hK K
              (try simp only [Act.put, List.setIfInBounds_toArray, List.set_cons_zero, List.set_cons_succ])
              (refine Rg.o 8 (fun K hK => ?_); go_simp)
              refine (l09FindL _ ss j ca _ v _ (unhide HK) (by omega) ((unhide HR2).below b4)).mono ?_
              rintro e w5 ⟨rfl, b5_⟩
              rw [unhide HE2, unhide HQV]
              have b5 := b4.trans (b5_.mono b4.size)
              have HV5 := hide ((unhide HV4).below b5_)
              clear b5_ hHeld
              refine hK.out _ _ (sE1 ((unhide HAt).below b5) ((unhide HXr2).below b5)) (fun hHeld => ?_)
              clear hK K
              (try simp only [Act.put, List.setIfInBounds_toArray, List.set_cons_zero, List.set_cons_succ])
              refine Rg.t 9 48 ?_
              refine Rg.t 10 58 ?_
              refine Rg.t 11 59 ?_
              obtain ⟨x0, x1, x2⟩ := (unhide HV5).cells
              simp only [Nat.zero_add] at x1 x2
              have y0 := (unhide HV5).free 0
              have y1 := (unhide HV5).free 1
              have y2 := (unhide HV5).free 2
              unfold So.R.zero at x0 x1 x2
              dsimp only at x0 x1 x2
              (refine Rg.o 13 (fun K hK => ?_); go_simp)
              have b6 := ((b5.setCell (p := ⟨wr.heap.size, 0, none⟩) (Nat.le_refl _) (.int .i64 qa)).setCell (p := ⟨wr.heap.size, 1, none⟩) (Nat.le_refl _) (.int .i64 qn)).setCell (p := ⟨wr.heap.size, 2, none⟩) (Nat.le_refl _) (.int .i64 qt)
              clear hHeld
              refine hK.out _ _ (sE1 ((unhide HAt).below b6) ((unhide HXr2).below b6)) (fun hHeld => ?_)
              clear hK K
              (try simp only [Act.put, List.setIfInBounds_toArray, List.set_cons_zero, List.set_cons_succ])
              refine Rg.t 14 6 ?_
              refine wpAnyH_done (by kernel_rfl) (NoPanic.normal ?_) _
              clear hHeld x0 x1 x2 y0 y1 y2
              go_wp2_with fail
              go_meet
              case rel => exact ⟨rfl, hide b6⟩
          case rest =>
            obtain ⟨rfl, hbx⟩ := hcut
            rename World => wx
            have HXx := hide ((unhide HXr2).below (unhide hbx))
            obtain ⟨z0, z1⟩ := unhide HXx
            obtain ⟨c0, c1, c2⟩ := (unhide HAt).below (unhide hbx)
            dsimp only at c0 c1 c2
            have HBx := hide ((unhide HBW).trans ((unhide hbx).mono (unhide HBW).size))
            have HBq := hide ((unhide hbl).trans ((unhide hbx).mono (unhide hbl).size))
            cases E
            · have HF0 := hide (unhide HF rfl)
              go_wp2_with fail
              go_ret
              exact ⟨ret_bool (unhide HF0).symm, unhide HBx⟩
            · by_cases hv1 : val < 1
              · have HF0 := hide (unhide HF (by rw [decide_eq_false (by omega)]; rfl))
                go_wp2_with fail
                go_ret
                exact ⟨ret_bool (unhide HF0).symm, unhide HBx⟩
              · have HC0 := hide (unhide HC (by rw [decide_eq_true (by omega)]; rfl))
                go_wp2_with fail
                go_roundw
                case rel => exact ⟨t + 1, by omega, by go_num, HC0, HBq⟩
                case measure => simp [intOf]; omega
        · obtain rfl : t = n := by omega
          have HF : Hid (twoB es = A) := hide (by
            rw [← unhide HTA]
            rcases unhide hed with h | h
            · exact (edg_all (unhide HS) (by rw [unhide HN]; exact h)).symm
            · rw [h, top_notwo h])
          have HE3 := hide ((unhide HE1).below (unhide hbl))
          go_wp2_with fail
          rw [← unhide HN]
          refine (l07OK _ es cb _ (by rw [unhide HN]; omega) (unhide HE3)).mono ?_
          rintro e w4 ⟨rfl, b4⟩
          rw [unhide HF]
          have HB4 := hide ((unhide HBW).trans (b4.mono (unhide HBW).size))
          clear b4
          go_wp2_with fail
          go_ret
          exact ⟨rfl, unhide HB4⟩
end Tp
end Go.Proofs.YtfooahhdikobeaaGreat
namespace Go.Proofs.YtfooahhdikobeaaGreat
open Go.ChangeShapes Go.WideShapes Go.ChangeAt Go.RowKit
set_option linter.unusedVariables false
set_option linter.unusedSimpArgs false
attribute [local go_sem ↓] Go.wp_at_zero Go.wp_at_succ
namespace Ln
open W1 Lk
theorem sOne {w : World} {g o : Nat} {ad hd sy ci co wl : Int} (h : At w g o ⟨ad, hd, sy, ci, co, wl⟩) : At w g o ⟨ad, hd, sy, ci, co, wl⟩ ∧ w.cell? ⟨g, o, none⟩ = some (.int .i64 ad) ∧ w.cell? ⟨g, o + 1, none⟩ = some (.int .i64 hd) ∧ w.cell? ⟨g, o + 2, none⟩ = some (.int .i64 sy) ∧ w.cell? ⟨g, o + 3, none⟩ = some (.int .i64 ci) ∧ w.cell? ⟨g, o + 4, none⟩ = some (.int .i64 co) ∧ w.cell? ⟨g, o + 5, none⟩ = some (.int .i64 wl) := ⟨h, h⟩
theorem sTwo {w : World} {g o p : Nat} {m : R} {ad hd sy ci co wl : Int} (h : At w g o ⟨ad, hd, sy, ci, co, wl⟩) (h' : At w g p m) :
    (At w g o ⟨ad, hd, sy, ci, co, wl⟩ ∧ At w g p m) ∧ w.cell? ⟨g, o, none⟩ = some (.int .i64 ad) ∧ w.cell? ⟨g, o + 1, none⟩ = some (.int .i64 hd) ∧ w.cell? ⟨g, o + 2, none⟩ = some (.int .i64 sy) ∧ w.cell? ⟨g, o + 3, none⟩ = some (.int .i64 ci) ∧ w.cell? ⟨g, o + 4, none⟩ = some (.int .i64 co) ∧ w.cell? ⟨g, o + 5, none⟩ = some (.int .i64 wl) ∧ w.cell? ⟨g, p, none⟩ = some (.int .i64 m.ad) := ⟨⟨h, h'⟩, h.1, h.2.1, h.2.2.1, h.2.2.2.1, h.2.2.2.2.1, h.2.2.2.2.2, h'.1⟩
set_option maxRecDepth 100000 in
set_option maxHeartbeats 4000000 in
theorem specOK (a : Option Addr) (ms : List R) (cap : Nat) (w : World) (hm : ms.length ≤ 1048576) (hr : RM w a ms) :
    Calls Tryz.prog 134 #[.slice a ms.length cap] w fun e w' => e = .returned (.bool (linksB ms)) ∧ Below w.heap.size w w' := by
  by_cases hbig : (4096 : Int) < ms.length
  · have hf : Hid (linksB ms = false) := hide (by cases hh : linksB ms; rfl; have := links_len hh; omega)
    go_enter Tryz.func134, Tryz.ntmps134
    go_wp2
    go_ret
    exact ⟨ret_bool (unhide hf).symm, Below.refl _ _⟩
  have HR := hide hr
  clear hr
  generalize hN : ms.length = n at *
  have HN := hide hN
  clear hN
  go_enter Tryz.func134, Tryz.ntmps134
  go_wp2
  go_loopw [3] (fun i wr => ∃ j : Nat, j ≤ n ∧ i = .int .i64 j ∧ Hid (allL ms j = true) ∧ Hid (Below w.heap.size w wr)) (fun i _ => n - (intOf i).toNat)
  case atStart => exact ⟨0, by omega, rfl, hide (Ri.all_zero), hide (Below.refl _ _)⟩
  case round =>
    obtain ⟨j, hj, rfl, hrl, hbl⟩ := hrel
    by_cases hlt : (j : Int) < (n : Int)
    · have k0 : (0 : Int) ≤ (j : Int) := by omega
      have hlen : j < ms.length := by rw [unhide HN]; omega
      rcases (unhide HR).below (by exact (unhide hbl)) with e0 | ⟨g, off, rfl, hc⟩
      · exfalso; rw [e0] at hlen; simp at hlen
      have HL := hide hlen
      have hA := hc j hlen
      cases hk : okL (ms.getD j R.zero)
      · clear hc
        have HST := hide (Ri.all_no hlen (Ri.step_bad (key := R.ad) hk))
        have HK := hide hk
        clear hk
        generalize ms.getD j R.zero = m at *
        obtain ⟨ad, hd, sy, ci, co, wl⟩ := m
        go_wp2_with fail
        refine wp_region_noPanic ?_
        refine wp_region_held_drew (S := fun w' => At w' g (off + j * 6) ⟨ad, hd, sy, ci, co, wl⟩ ∧ w'.cell? ⟨g, off + j * 6, none⟩ = some (.int .i64 ad) ∧ w'.cell? ⟨g, off + j * 6 + 1, none⟩ = some (.int .i64 hd) ∧ w'.cell? ⟨g, off + j * 6 + 2, none⟩ = some (.int .i64 sy) ∧ w'.cell? ⟨g, off + j * 6 + 3, none⟩ = some (.int .i64 ci) ∧ w'.cell? ⟨g, off + j * 6 + 4, none⟩ = some (.int .i64 co) ∧ w'.cell? ⟨g, off + j * 6 + 5, none⟩ = some (.int .i64 wl)) (by kernel_rfl) (sOne hA.drew) (fun hHeld => ?_)
        refine Rg.t 0 13 ?_
        refine Rg.t 1 14 ?_
        refine Rg.t 2 15 ?_
        refine Rg.t 3 16 ?_
        (refine Rg.o 4 (fun K hK => ?_); go_simp)
        refine (l06Link ad hd sy ci co wl _).mono ?_
        rintro e w1 ⟨rfl, b1⟩
        rw [unhide HK]
        refine hK.out _ _ (sOne (hA.drew.below b1)) (fun hHeld => ?_)
        clear hK K
        (try simp only [Act.put, List.setIfInBounds_toArray, List.set_cons_zero, List.set_cons_succ])
        refine Rg.t 5 18 ?_
        refine Rg.t 6 19 ?_
        refine Rg.s 7 20 ?_
        refine Rg.s 8 21 ?_
        refine Rg.s 9 22 ?_
        refine Rg.s 10 23 ?_
        refine Rg.s 11 24 ?_
        refine Rg.s 12 25 ?_
        refine Rg.s 13 26 ?_
        refine Rg.s 14 27 ?_
        refine Rg.s 15 28 ?_
        refine Rg.s 16 29 ?_
        refine Rg.s 17 30 ?_
        refine Rg.s 18 31 ?_
        refine Rg.s 19 32 ?_
        refine Rg.s 20 33 ?_
        refine Rg.s 21 34 ?_
        refine Rg.s 22 35 ?_
        refine Rg.t 23 36 ?_
        refine wpAnyH_done (by kernel_rfl) (NoPanic.normal ?_) _
        have hb1 := hide ((unhide hbl).drew.trans (b1.mono (by show w.heap.size ≤ wr.heap.size; exact (unhide hbl).size)))
        go_wp2_with fail
        go_ret
        exact ⟨ret_bool (unhide HST).symm, unhide hb1⟩
      have HK := hide hk
      clear hk
      by_cases hj0 : j = 0
      · subst hj0
        clear hc
        rw [Nat.zero_mul, Nat.add_zero] at hA
        have HST := hide (Ri.all_succ (unhide hrl) (Ri.step_zero (key := R.ad) (unhide HK)))
        generalize ms.getD 0 R.zero = m at *
        obtain ⟨ad, hd, sy, ci, co, wl⟩ := m
        go_wp2_with fail
        refine wp_region_noPanic ?_
        refine wp_region_held_drew (S := fun w' => At w' g off ⟨ad, hd, sy, ci, co, wl⟩ ∧ w'.cell? ⟨g, off, none⟩ = some (.int .i64 ad) ∧ w'.cell? ⟨g, off + 1, none⟩ = some (.int .i64 hd) ∧ w'.cell? ⟨g, off + 2, none⟩ = some (.int .i64 sy) ∧ w'.cell? ⟨g, off + 3, none⟩ = some (.int .i64 ci) ∧ w'.cell? ⟨g, off + 4, none⟩ = some (.int .i64 co) ∧ w'.cell? ⟨g, off + 5, none⟩ = some (.int .i64 wl)) (by kernel_rfl) (sOne hA.drew) (fun hHeld => ?_)
        refine Rg.t 0 13 ?_
        refine Rg.t 1 14 ?_
        refine Rg.t 2 15 ?_
        refine Rg.t 3 16 ?_
        (refine Rg.o 4 (fun K hK => ?_); go_simp)
        refine (l06Link ad hd sy ci co wl _).mono ?_
        rintro e w1 ⟨rfl, b1⟩
        rw [unhide HK]
        refine hK.out _ _ (sOne (hA.drew.below b1)) (fun hHeld => ?_)
        clear hK K
        (try simp only [Act.put, List.setIfInBounds_toArray, List.set_cons_zero, List.set_cons_succ])
        refine Rg.t 5 18 ?_
        refine Rg.t 6 19 ?_
        refine Rg.t 7 20 ?_
        refine Rg.t 8 21 ?_
        refine Rg.t 9 22 ?_
        refine Rg.s 10 23 ?_
        refine Rg.s 11 24 ?_
        refine Rg.s 12 25 ?_
        refine Rg.s 13 26 ?_
        refine Rg.s 14 27 ?_
        refine Rg.s 15 28 ?_
        refine Rg.s 16 29 ?_
        refine Rg.s 17 30 ?_
        refine Rg.s 18 31 ?_
        refine Rg.s 19 32 ?_
        refine Rg.s 20 33 ?_
        refine Rg.s 21 34 ?_
        refine Rg.t 22 35 ?_
        refine Rg.t 23 36 ?_
        refine wpAnyH_done (by kernel_rfl) (NoPanic.normal ?_) _
        have hb1 := hide ((unhide hbl).drew.trans (b1.mono (by show w.heap.size ≤ wr.heap.size; exact (unhide hbl).size)))
        go_wp2_with fail
        go_roundw
        case rel => exact ⟨0 + 1, by omega, by go_num, HST, hb1⟩
        case measure => simp [intOf]; omega
      · obtain ⟨i, hji⟩ : ∃ i, j = i + 1 := ⟨j - 1, by omega⟩
        have HJ := hide hji
        have e1 : (j : Int) - 1 = (i : Int) := by omega
        have i0 : (0 : Int) ≤ (i : Int) := by omega
        have wi : IntKind.i64.wrap (i : Int) = (i : Int) := by rw [IntKind.wrap_i64]; omega
        have i1 : (i : Int) < (n : Int) := by omega
        have j1 : (0 : Int) < (j : Int) := by omega
        have j2 : 0 < j := by omega
        have hP := hc i (by omega)
        have EJ : ms.getD j R.zero = ms.getD (i + 1) R.zero := by rw [hji]
        clear hc hji
        by_cases hk : (ms.getD i R.zero).ad < (ms.getD j R.zero).ad
        · have HST : Hid (allL ms (j + 1) = true) := hide (Ri.all_succ (unhide hrl) (by rw [unhide HJ]; exact Ri.step_lt (by rw [← EJ]; exact unhide HK) (by rw [← EJ]; exact hk)))
          clear EJ
          generalize ms.getD j R.zero = m at *
          generalize ms.getD i R.zero = m0 at *
          obtain ⟨ad, hd, sy, ci, co, wl⟩ := m
          obtain ⟨ad0, hd0, sy0, ci0, co0, wl0⟩ := m0
          dsimp only at hk
          go_wp2_with fail
          refine wp_region_noPanic ?_
          refine wp_region_held_drew (S := fun w' => (At w' g (off + j * 6) ⟨ad, hd, sy, ci, co, wl⟩ ∧ At w' g (off + i * 6) ⟨ad0, hd0, sy0, ci0, co0, wl0⟩) ∧ w'.cell? ⟨g, off + j * 6, none⟩ = some (.int .i64 ad) ∧ w'.cell? ⟨g, off + j * 6 + 1, none⟩ = some (.int .i64 hd) ∧ w'.cell? ⟨g, off + j * 6 + 2, none⟩ = some (.int .i64 sy) ∧ w'.cell? ⟨g, off + j * 6 + 3, none⟩ = some (.int .i64 ci) ∧ w'.cell? ⟨g, off + j * 6 + 4, none⟩ = some (.int .i64 co) ∧ w'.cell? ⟨g, off + j * 6 + 5, none⟩ = some (.int .i64 wl) ∧ w'.cell? ⟨g, off + i * 6, none⟩ = some (.int .i64 ad0)) (by kernel_rfl) (sTwo hA.drew hP.drew) (fun hHeld => ?_)
          refine Rg.t 0 13 ?_
          refine Rg.t 1 14 ?_
          refine Rg.t 2 15 ?_
          refine Rg.t 3 16 ?_
          (refine Rg.o 4 (fun K hK => ?_); go_simp)
          refine (l06Link ad hd sy ci co wl _).mono ?_
          rintro e w1 ⟨rfl, b1⟩
          rw [unhide HK]
          refine hK.out _ _ (sTwo (hA.drew.below b1) (hP.drew.below b1)) (fun hHeld => ?_)
          clear hK K
          (try simp only [Act.put, List.setIfInBounds_toArray, List.set_cons_zero, List.set_cons_succ])
          refine Rg.t 5 18 ?_
          refine Rg.t 6 19 ?_
          refine Rg.t 7 20 ?_
          refine Rg.t 8 21 ?_
          refine Rg.t 9 22 ?_
          refine Rg.t 10 23 ?_
          refine Rg.t 11 24 ?_
          refine Rg.t 12 25 ?_
          refine Rg.t 13 26 ?_
          refine Rg.t 14 27 ?_
          refine Rg.t 15 28 ?_
          refine Rg.t 16 29 ?_
          refine Rg.t 17 30 ?_
          refine Rg.t 18 31 ?_
          refine Rg.t 19 32 ?_
          refine Rg.t 20 33 ?_
          refine Rg.t 21 34 ?_
          refine Rg.t 22 35 ?_
          refine Rg.t 23 36 ?_
          refine wpAnyH_done (by kernel_rfl) (NoPanic.normal ?_) _
          have hb1 := hide ((unhide hbl).drew.trans (b1.mono (by show w.heap.size ≤ wr.heap.size; exact (unhide hbl).size)))
          go_wp2_with fail
          go_roundw
          case rel => exact ⟨j + 1, by omega, by go_num, HST, hb1⟩
          case measure => simp [intOf]; omega
        · have HST : Hid (linksB ms = false) := hide (Ri.all_no (unhide HL) (show Ri.step R.zero okL R.ad ms j = false by rw [unhide HJ]; exact Ri.step_ge (by rw [← EJ]; omega)))
          clear EJ
          generalize ms.getD j R.zero = m at *
          generalize ms.getD i R.zero = m0 at *
          obtain ⟨ad, hd, sy, ci, co, wl⟩ := m
          obtain ⟨ad0, hd0, sy0, ci0, co0, wl0⟩ := m0
          dsimp only at hk
          go_wp2_with fail
          refine wp_region_noPanic ?_
          refine wp_region_held_drew (S := fun w' => (At w' g (off + j * 6) ⟨ad, hd, sy, ci, co, wl⟩ ∧ At w' g (off + i * 6) ⟨ad0, hd0, sy0, ci0, co0, wl0⟩) ∧ w'.cell? ⟨g, off + j * 6, none⟩ = some (.int .i64 ad) ∧ w'.cell? ⟨g, off + j * 6 + 1, none⟩ = some (.int .i64 hd) ∧ w'.cell? ⟨g, off + j * 6 + 2, none⟩ = some (.int .i64 sy) ∧ w'.cell? ⟨g, off + j * 6 + 3, none⟩ = some (.int .i64 ci) ∧ w'.cell? ⟨g, off + j * 6 + 4, none⟩ = some (.int .i64 co) ∧ w'.cell? ⟨g, off + j * 6 + 5, none⟩ = some (.int .i64 wl) ∧ w'.cell? ⟨g, off + i * 6, none⟩ = some (.int .i64 ad0)) (by kernel_rfl) (sTwo hA.drew hP.drew) (fun hHeld => ?_)
          refine Rg.t 0 13 ?_
          refine Rg.t 1 14 ?_
          refine Rg.t 2 15 ?_
          refine Rg.t 3 16 ?_
          (refine Rg.o 4 (fun K hK => ?_); go_simp)
          refine (l06Link ad hd sy ci co wl _).mono ?_
          rintro e w1 ⟨rfl, b1⟩
          rw [unhide HK]
          refine hK.out _ _ (sTwo (hA.drew.below b1) (hP.drew.below b1)) (fun hHeld => ?_)
          clear hK K
          (try simp only [Act.put, List.setIfInBounds_toArray, List.set_cons_zero, List.set_cons_succ])
          refine Rg.t 5 18 ?_
          refine Rg.t 6 19 ?_
          refine Rg.t 7 20 ?_
          refine Rg.t 8 21 ?_
          refine Rg.t 9 22 ?_
          refine Rg.t 10 23 ?_
          refine Rg.t 11 24 ?_
          refine Rg.t 12 25 ?_
          refine Rg.t 13 26 ?_
          refine Rg.t 14 27 ?_
          refine Rg.t 15 28 ?_
          refine Rg.t 16 29 ?_
          refine Rg.t 17 30 ?_
          refine Rg.t 18 31 ?_
          refine Rg.t 19 32 ?_
          refine Rg.t 20 33 ?_
          refine Rg.t 21 34 ?_
          refine Rg.t 22 35 ?_
          refine Rg.t 23 36 ?_
          refine wpAnyH_done (by kernel_rfl) (NoPanic.normal ?_) _
          have hb1 := hide ((unhide hbl).drew.trans (b1.mono (by show w.heap.size ≤ wr.heap.size; exact (unhide hbl).size)))
          go_wp2_with fail
          go_ret
          exact ⟨ret_bool (unhide HST).symm, unhide hb1⟩
    · obtain rfl : j = n := by omega
      have hok : linksB ms = true := by unfold linksB; rw [unhide HN]; exact unhide hrl
      have h8 := links_len hok
      have h8' : (j : Int) ≤ 8 := by have := unhide HN; omega
      have HO := hide hok
      clear hok h8
      go_wp2
      go_ret
      exact ⟨ret_bool (unhide HO).symm, unhide hbl⟩
end Ln
end Go.Proofs.YtfooahhdikobeaaGreat
namespace Go.Proofs.YtfooahhdikobeaaGreat
open Go.ChangeShapes Go.WideShapes Go.ChangeAt Go.RowKit
set_option linter.unusedVariables false
set_option linter.unusedSimpArgs false
attribute [local go_sem ↓] Go.wp_at_zero Go.wp_at_succ
namespace St
open W1 Tu
end St
end Go.Proofs.YtfooahhdikobeaaGreat
namespace Go.Proofs.YtfooahhdikobeaaGreat
open Go.ChangeShapes Go.WideShapes Go.ChangeAt Go.RowKit
set_option linter.unusedVariables false
set_option linter.unusedSimpArgs false
attribute [local go_sem ↓] Go.wp_at_zero Go.wp_at_succ
namespace St
open W1 Tu
theorem up_at {ms : List R} (h : setB ms = true) (k : Int) : ∀ i j, i < j → j < ms.length → atKey k (ms.getD i R.zero) = true → atKey k (ms.getD j R.zero) = true := by
  intro i j hij hj hi
  have := rises h j i hij hj
  unfold atKey at *
  exact decide_eq_true (by have := of_decide_eq_true hi; omega)
end St
end Go.Proofs.YtfooahhdikobeaaGreat
namespace Go.Proofs.YtfooahhdikobeaaGreat
open Go.ChangeShapes Go.WideShapes Go.ChangeAt Go.RowKit
set_option linter.unusedVariables false
set_option linter.unusedSimpArgs false
attribute [local go_sem ↓] Go.wp_at_zero Go.wp_at_succ
namespace St
open W1 Tu
theorem there_no {ms : List R} {k : Int} {p : Nat} (e : place ms k = p) (h : ms.length ≤ p) : thereB ms k = false := by unfold thereB; rw [e, decide_eq_false (by omega)]; rfl
theorem there_ne {ms : List R} {k : Int} {p : Nat} (e : place ms k = p) (h : ¬ (ms.getD p R.zero).key = k) : thereB ms k = false := by unfold thereB; rw [e, decide_eq_false h, Bool.and_false]
theorem there_yes {ms : List R} {k : Int} {p : Nat} (e : place ms k = p) (hl : p < ms.length) (h : (ms.getD p R.zero).key = k) : thereB ms k = true := by unfold thereB; rw [e, decide_eq_true hl, decide_eq_true h]; rfl
end St
end Go.Proofs.YtfooahhdikobeaaGreat
namespace Go.Proofs.YtfooahhdikobeaaGreat
open Go.ChangeShapes Go.WideShapes Go.ChangeAt Go.RowKit
set_option linter.unusedVariables false
set_option linter.unusedSimpArgs false
attribute [local go_sem ↓] Go.wp_at_zero Go.wp_at_succ
namespace St
open W1 Tu
theorem take_zero_off {w : World} {g off : Nat} {ms : List R} (h : RM w (some ⟨g, off, none⟩) ms) (n : Nat) : RM w (some ⟨g, off, none⟩) (ms.take n) := by
  have := h.part 0 n
  rw [List.drop_zero, Nat.zero_mul, Nat.add_zero] at this; exact this
theorem drop_off {w : World} {g off : Nat} {ms : List R} (h : RM w (some ⟨g, off, none⟩) ms) (i : Nat) : RM w (some ⟨g, off + i * 3, none⟩) (ms.drop i) := by
  have := h.part i ms.length
  rw [List.take_of_length_le (by simp)] at this; exact this
end St
end Go.Proofs.YtfooahhdikobeaaGreat
namespace Go.Proofs.YtfooahhdikobeaaGreat
open Go.ChangeShapes Go.WideShapes Go.ChangeAt Go.RowKit
set_option linter.unusedVariables false
set_option linter.unusedSimpArgs false
attribute [local go_sem ↓] Go.wp_at_zero Go.wp_at_succ
namespace St
open W1 Tu
theorem Upto.set {w : World} {g n p : Nat} {ms : List R} (x : R) (h : Upto w g n n ms) (hn : n = ms.length) (hp : p < n) : Upto (put w g (p * 3) x) g n n (ms.set p x) := by
  refine ⟨fun i hi => ?_, fun i hi => ⟨put_some _ _ _ _ _ _ (h.2 i hi).1, by rw [put_frozen]; exact (h.2 i hi).2⟩⟩
  by_cases e : i = p
  · subst e
    have : (ms.set i x).getD i R.zero = x := by rw [List.getD_eq_getElem?_getD, List.getElem?_set_self (by omega)]; rfl
    rw [this]
    exact put_at _ _ _ _ (fun k hk => (h.2 _ (by omega)).1)
  · have : (ms.set p x).getD i R.zero = ms.getD i R.zero := by rw [List.getD_eq_getElem?_getD, List.getD_eq_getElem?_getD, List.getElem?_set_ne (by omega)]
    rw [this]
    obtain ⟨h0, h1, h2⟩ := h.1 i (by omega)
    exact ⟨(put_far _ _ _ _ (by omega)).trans h0, (put_far _ _ _ _ (by omega)).trans h1, (put_far _ _ _ _ (by omega)).trans h2⟩
theorem set_parts (ms : List R) (p : Nat) (x : R) (h : p < ms.length) : ms.set p x = ms.take p ++ [x] ++ ms.drop (p + 1) := by
  rw [List.set_eq_take_append_cons_drop, if_pos h, List.append_assoc]; rfl
/-- The model's own copy, in a row that is there even if it is empty. -/
theorem l03OwnG (g off : Nat) (ms : List R) (cap n : Nat) (w : World) (hn : ms.length = n) (hm : ms.length ≤ 4096) (hr : RM w (some ⟨g, off, none⟩) ms) :
    Calls Tryz.prog 143 #[.slice (some ⟨g, off, none⟩) n cap] w fun e w' => ∃ b c, e = .returned (.slice (some ⟨b, 0, none⟩) n c) ∧ Below w.heap.size w w' ∧ w.heap.size ≤ b ∧ b < w'.heap.size ∧ n ≤ c ∧ c ≤ maxLen ∧ Upto w' b n n ms := by
  have HR := hide (hr.below ((Below.refl _ _).alloc (Nat.le_refl _) (.cells #[] 99)))
  have O0 := hide (own_empty w w.heap.size (Nat.le_refl _))
  have HN := hide hn
  clear hr hn
  obtain ⟨i0, hi, hz0, hz1, hz2⟩ := infoR
  have hm' : n ≤ 4096 := by rw [← unhide HN]; exact hm
  go_enter Tryz.func143, Tryz.ntmps143
  go_wp2_with (at_builtin; refine wpList_append_own _ rfl _ _ _ rfl w.heap.size 99 i0 _ 3 24 Tryz.underlying77 hi hz0 hz1 hz2 rfl (by decide) _ 0 (flat []) rfl (unhide O0) ⟨g, off, none⟩ n cap (flat ms) rfl (by rw [flat_len, unhide HN]) (unhide HR).cells (fun u hu => flat_one_cell hu) (by unfold maxLen; omega) (by omega) (by simp) ?_; intro v' w' ho hg hiff; have HO := hide ho; have HB := hide (below_own ((Below.refl _ _).alloc (Nat.le_refl _) _) (unhide O0) hg (Nat.le_refl _) (by simp)); have HI := hide hiff; clear ho hg hiff)
  go_ret
  have ho := unhide HO
  rw [Nat.zero_add, show flat [] ++ flat ms = flat ms from rfl] at ho
  obtain ⟨hl, ⟨e0, _⟩ | ⟨b, c, cur, e0, h1, h2, h3, h4, _, _⟩⟩ := (⟨ho.1, ho.2⟩ : _ ∧ _)
  · exact absurd ((unhide HI).1 e0).1 (fun h => by cases h)
  · subst e0
    have hlt : b < w'.heap.size := by
      rcases Nat.lt_or_ge b w'.heap.size with h | h
      · exact h
      · rw [Array.getElem?_eq_none h] at h2; cases h2
    exact ⟨_, _, rfl, unhide HB, h1, hlt, h3, h4, upto_own (unhide HN).symm ho⟩
theorem rm_grown {w w' : World} {b : Nat} {row : Option Nat} {ms : List R} (h : RM w (some ⟨b, 0, none⟩) ms) (hg : w.grownBy w' row) (hne : some b ≠ row) : RM w' (some ⟨b, 0, none⟩) ms := by
  rcases h with h | ⟨g, off, e, hc⟩
  · exact .inl h
  · cases e
    refine .inr ⟨_, _, rfl, fun i hi => ?_⟩
    obtain ⟨h0, h1, h2⟩ := hc i hi
    exact ⟨hg.cell h0 hne, hg.cell h1 hne, hg.cell h2 hne⟩
theorem sPut {w : World} {b : Nat} {key til val : Int} {g o : Nat} {m : R} (h : Bx w b ⟨key, til, val⟩) (h' : At w g o m) : Bx w b ⟨key, til, val⟩ ∧ w.cell? ⟨b, 0, none⟩ = some (.int .i64 key) ∧ w.cell? ⟨g, o, none⟩ = some (.int .i64 m.key) := ⟨h, h.1, h'.1⟩
end St
end Go.Proofs.YtfooahhdikobeaaGreat
namespace Go.Proofs.YtfooahhdikobeaaGreat
open Go.ChangeShapes Go.WideShapes Go.ChangeAt Go.RowKit
set_option linter.unusedVariables false
set_option linter.unusedSimpArgs false
attribute [local go_sem ↓] Go.wp_at_zero Go.wp_at_succ
namespace St
open W1 Tu
/-- What a slice of one's own looks like: its capacity, and where it lies. -/
def Shp (v : Value) : Prop := ∃ a n c, v = .slice a n c ∧ n ≤ c ∧ c ≤ maxLen ∧ (a = none ∨ ∃ g, a = some ⟨g, 0, none⟩)
theorem shp_nil : Shp (.slice none 0 0) := ⟨none, 0, 0, rfl, Nat.le_refl _, Nat.zero_le _, .inl rfl⟩
theorem shp_own {w : World} {base e size n : Nat} {v : Value} {xs : List Value} (h : w.ownsRow base e size v n xs) : Shp v := by
  obtain ⟨_, ⟨rfl, _⟩ | ⟨g, cap, cur, rfl, _, _, h1, h2, _, _⟩⟩ := h
  · exact shp_nil
  · exact ⟨_, _, _, rfl, h1, h2, .inr ⟨g, rfl⟩⟩
theorem Shp.at {a : Option Addr} {n c : Nat} (h : Shp (.slice a n c)) : n ≤ c ∧ c ≤ maxLen ∧ (a = none ∨ ∃ g, a = some ⟨g, 0, none⟩) := by
  obtain ⟨a', n', c', e, h⟩ := h
  cases e
  exact h
end St
end Go.Proofs.YtfooahhdikobeaaGreat
