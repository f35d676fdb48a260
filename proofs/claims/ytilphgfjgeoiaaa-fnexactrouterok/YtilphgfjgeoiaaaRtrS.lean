/-
  The laws over a Router: its size, its copy, whether two are alike. (written by mkrts.py)
-/
import Derived.Test.YtilphgfjgeoiaaaRtrV
import Derived.Test.YtilphgfjgeoiaaaStrTop
import Derived.Test.YtilphgfjgeoiaaaRecLink
import Derived.Test.YtilphgfjgeoiaaaRecEdge
namespace Go.Proofs.Ytilphgfjgeoiaaa
open Go.ChangeShapes Go.WideShapes Go.ChangeAt Go.RowKit
set_option linter.unusedVariables false
set_option linter.unusedSimpArgs false
set_option maxRecDepth 100000
attribute [local go_sem ↓] Go.wp_at_zero Go.wp_at_succ
namespace Rt
open W1
theorem RA.other {w : World} {b : Nat} {cs : List Value} (h : RA w b cs) {p : Addr} (hne : b ≠ p.block) (v : Value) : RA (w.setCell p v) b cs := by
  have hb : (w.setCell p v).heap[b]? = w.heap[b]? := Below.heap_setCell _ _ _ _ hne
  refine ⟨fun j u hu => ?_, fun j hj => ⟨?_, ?_⟩, h.2.2⟩
  · exact (World.cell?_of_block (a := ⟨b, 0 + j, none⟩) hb).trans (h.1 j u hu)
  · rw [World.cell?_of_block (a := ⟨b, 0 + j, none⟩) hb]; exact (h.2.1 j hj).1
  · rw [World.frozen?_setCell]; exact (h.2.1 j hj).2
set_option maxHeartbeats 8000000 in
theorem szR (x1 x2 x3 x4 x5 x6 : Int) (a1 a2 a3 a4 a5 a6 a7 : Option Addr) (n1 n2 n3 n4 n5 n6 n7 : Nat) (c1 c2 c3 c4 c5 c6 c7 : Nat) (L : Int) (w : World) (hL : 0 ≤ L) (hL1 : L ≤ 1048576) (h1 : n1 ≤ maxLen) (h2 : n2 ≤ maxLen) (h3 : n3 ≤ maxLen) (h4 : n4 ≤ maxLen) (h5 : n5 ≤ maxLen) (h6 : n6 ≤ maxLen) (h7 : n7 ≤ maxLen) :
    Calls Try.prog 16 #[.agg #[.int .i64 x1, .int .i64 x2, .int .i64 x3, .int .i64 x4, .int .i64 x5, .slice a1 n1 c1, .slice a2 n2 c2, .slice a3 n3 c3, .slice a4 n4 c4, .slice a5 n5 c5, .slice a6 n6 c6, .slice a7 n7 c7, .int .i64 x6], .int .i64 L] w fun e w' => ∃ r : Int, e = .returned (.int .i64 r) ∧ Below w.heap.size w w' ∧ (r < 0 ∨ (0 ≤ r ∧ r = L - n1 - n2 - n3 - n4 - n5 - n6 - n7)) := by
  have HX : Hid (RA (w.alloc (.cells #[.int .i64 x1, .int .i64 x2, .int .i64 x3, .int .i64 x4, .int .i64 x5, .slice a1 n1 c1, .slice a2 n2 c2, .slice a3 n3 c3, .slice a4 n4 c4, .slice a5 n5 c5, .slice a6 n6 c6, .slice a7 n7 c7, .int .i64 x6] 56)) w.heap.size (rC x1 x2 x3 x4 x5 (.slice a1 n1 c1) (.slice a2 n2 c2) (.slice a3 n3 c3) (.slice a4 n4 c4) (.slice a5 n5 c5) (.slice a6 n6 c6) (.slice a7 n7 c7) x6)) := hide (ra_new w _ rfl _)
  have HB0 : Hid (Below w.heap.size w (w.alloc (.cells #[.int .i64 x1, .int .i64 x2, .int .i64 x3, .int .i64 x4, .int .i64 x5, .slice a1 n1 c1, .slice a2 n2 c2, .slice a3 n3 c3, .slice a4 n4 c4, .slice a5 n5 c5, .slice a6 n6 c6, .slice a7 n7 c7, .int .i64 x6] 56))) := hide ((Below.refl _ _).alloc (Nat.le_refl _) _)
  obtain ⟨r0, hr0⟩ : ∃ r0, L = r0 := ⟨_, rfl⟩
  have HR0 := hide hr0.symm
  rw [hr0] at hL hL1 ⊢
  clear hr0
  go_enter Try.func16, Try.ntmps16
  go_wp2_with fail
  refine (Lk.szS a1 n1 c1 r0 _ hL hL1 h1).mono ?_
  rintro e w1 ⟨r1, rfl, hw1, hs⟩
  subst hw1
  rcases hs with hs | ⟨hs, hs1⟩
  · go_wp2_with fail
    go_ret
    exact ⟨_, rfl, unhide HB0, .inl (by omega)⟩
  have hn0 : ¬ r1 < 0 := by omega
  have hh0 : r1 ≤ 1048576 := by omega
  have HS0 := hide hs1
  clear hs1
  have hp0 := hs
  clear hs
  go_wp2_with fail
  refine (Tu.szS a2 n2 c2 r1 _ hp0 hh0 h2).mono ?_
  rintro e w2 ⟨r2, rfl, hw2, hs⟩
  subst hw2
  rcases hs with hs | ⟨hs, hs1⟩
  · go_wp2_with fail
    go_ret
    exact ⟨_, rfl, unhide HB0, .inl (by omega)⟩
  have hn1 : ¬ r2 < 0 := by omega
  have hh1 : r2 ≤ 1048576 := by omega
  have HS1 := hide hs1
  clear hs1
  have hp1 := hs
  clear hs
  go_wp2_with fail
  refine (Tu.szS a3 n3 c3 r2 _ hp1 hh1 h3).mono ?_
  rintro e w3 ⟨r3, rfl, hw3, hs⟩
  subst hw3
  rcases hs with hs | ⟨hs, hs1⟩
  · go_wp2_with fail
    go_ret
    exact ⟨_, rfl, unhide HB0, .inl (by omega)⟩
  have hn2 : ¬ r3 < 0 := by omega
  have hh2 : r3 ≤ 1048576 := by omega
  have HS2 := hide hs1
  clear hs1
  have hp2 := hs
  clear hs
  go_wp2_with fail
  refine (Tu.szS a4 n4 c4 r3 _ hp2 hh2 h4).mono ?_
  rintro e w4 ⟨r4, rfl, hw4, hs⟩
  subst hw4
  rcases hs with hs | ⟨hs, hs1⟩
  · go_wp2_with fail
    go_ret
    exact ⟨_, rfl, unhide HB0, .inl (by omega)⟩
  have hn3 : ¬ r4 < 0 := by omega
  have hh3 : r4 ≤ 1048576 := by omega
  have HS3 := hide hs1
  clear hs1
  have hp3 := hs
  clear hs
  go_wp2_with fail
  refine (Tq.sz a5 n5 c5 a6 n6 c6 r4 _ hp3 hh3 h5 h6).mono ?_
  rintro e w5 ⟨r5, rfl, b5, hs⟩
  have HB5 := hide ((unhide HB0).trans (b5.mono (unhide HB0).size))
  have z11 := ((unhide HX).below b5).at (i := 11) rfl
  clear b5
  rcases hs with hs | ⟨hs, hs1⟩
  · go_wp2_with fail
    go_ret
    exact ⟨_, rfl, unhide HB5, .inl (by omega)⟩
  have hn4 : ¬ r5 < 0 := by omega
  have hh4 : r5 ≤ 1048576 := by omega
  have HS4 := hide hs1
  clear hs1
  have hp4 := hs
  clear hs
  go_wp2_with fail
  clear z11
  refine (Ed.szS a7 n7 c7 r5 _ hp4 hh4 h7).mono ?_
  rintro e w6 ⟨r6, rfl, hw6, hs⟩
  subst hw6
  rcases hs with hs | ⟨hs, hs1⟩
  · go_wp2_with fail
    go_ret
    exact ⟨_, rfl, unhide HB5, .inl (by omega)⟩
  have hn5 : ¬ r6 < 0 := by omega
  have hh5 : r6 ≤ 1048576 := by omega
  have HS5 := hide hs1
  clear hs1
  have hp5 := hs
  clear hs
  go_wp2_with fail
  go_ret
  exact ⟨_, rfl, unhide HB5, .inr ⟨hp5, by have e0 := unhide HS0; have e1 := unhide HS1; have e2 := unhide HS2; have e3 := unhide HS3; have e4 := unhide HS4; have e5 := unhide HS5; omega⟩⟩
theorem uptoL_set {w : World} {g n j : Nat} {ms : List Lk.R} {p : Addr} {v : Value} (h : Lk.Upto w g n j ms) (hne : p.block ≠ g) : Lk.Upto (w.setCell p v) g n j ms :=
  h.of_block (Below.heap_setCell _ _ _ _ (fun e => hne e.symm))
theorem uptoE_set {w : World} {g n j : Nat} {ms : List Ed.R} {p : Addr} {v : Value} (h : Ed.Upto w g n j ms) (hne : p.block ≠ g) : Ed.Upto (w.setCell p v) g n j ms :=
  h.of_block (Below.heap_setCell _ _ _ _ (fun e => hne e.symm))
set_option maxHeartbeats 16000000 in
theorem toR (x1 x2 x3 x4 x5 x6 : Int) (a1 a2 a3 a4 a5 a6 a7 : Option Addr) (c1 c2 c3 c4 c5 c6 c7 : Nat) (ls : List Lk.R) (tw : List Tu.R) (se : List Tu.R) (du : List Tu.R) (ss : List So.R) (es : List Tu.R) (la : List Ed.R) (w : World) (hm1 : ls.length ≤ 1048576) (hm2 : tw.length ≤ 1048576) (hm3 : se.length ≤ 1048576) (hm4 : du.length ≤ 1048576) (hm5 : ss.length ≤ 1048576) (hm6 : es.length ≤ 1048576) (hm7 : la.length ≤ 1048576) (hr1 : Lk.RM w a1 ls) (hr2 : Tu.RM w a2 tw) (hr3 : Tu.RM w a3 se) (hr4 : Tu.RM w a4 du) (hr5 : So.RM w a5 ss) (hr6 : Tu.RM w a6 es) (hr7 : Ed.RM w a7 la) :
    Calls Try.prog 18 #[.agg #[.int .i64 x1, .int .i64 x2, .int .i64 x3, .int .i64 x4, .int .i64 x5, .slice a1 ls.length c1, .slice a2 tw.length c2, .slice a3 se.length c3, .slice a4 du.length c4, .slice a5 ss.length c5, .slice a6 es.length c6, .slice a7 la.length c7, .int .i64 x6]] w fun e w' => ∃ g1 g2 g3 g4 g5 g6 g7, e = .returned (.agg (rC x1 x2 x3 x4 x5 (.slice (some ⟨g1, 0, none⟩) ls.length ls.length) (.slice (some ⟨g2, 0, none⟩) tw.length tw.length) (.slice (some ⟨g3, 0, none⟩) se.length se.length) (.slice (some ⟨g4, 0, none⟩) du.length du.length) (.slice (some ⟨g5, 0, none⟩) ss.length ss.length) (.slice (some ⟨g6, 0, none⟩) es.length es.length) (.slice (some ⟨g7, 0, none⟩) la.length la.length) x6).toArray) ∧ Below w.heap.size w w' ∧ (w.heap.size ≤ g1 ∧ g1 < g2 ∧ g2 < g3 ∧ g3 < g4 ∧ g4 < g5 ∧ g5 < g6 ∧ g6 < g7 ∧ g7 < w'.heap.size) ∧ Lk.Upto w' g1 ls.length ls.length ls ∧ Tu.Upto w' g2 tw.length tw.length tw ∧ Tu.Upto w' g3 se.length se.length se ∧ Tu.Upto w' g4 du.length du.length du ∧ So.Upto w' g5 ss.length ss.length ss ∧ Tu.Upto w' g6 es.length es.length es ∧ Ed.Upto w' g7 la.length la.length la := by
  have HA1 : Hid (Below w.heap.size w (w.alloc (.cells #[.int .i64 x1, .int .i64 x2, .int .i64 x3, .int .i64 x4, .int .i64 x5, .slice a1 ls.length c1, .slice a2 tw.length c2, .slice a3 se.length c3, .slice a4 du.length c4, .slice a5 ss.length c5, .slice a6 es.length c6, .slice a7 la.length c7, .int .i64 x6] 56))) := hide ((Below.refl _ _).alloc (Nat.le_refl _) _)
  have HA2 : Hid (Below w.heap.size w ((w.alloc (.cells #[.int .i64 x1, .int .i64 x2, .int .i64 x3, .int .i64 x4, .int .i64 x5, .slice a1 ls.length c1, .slice a2 tw.length c2, .slice a3 se.length c3, .slice a4 du.length c4, .slice a5 ss.length c5, .slice a6 es.length c6, .slice a7 la.length c7, .int .i64 x6] 56)).alloc (.cells #[.int .i64 0, .int .i64 0, .int .i64 0, .int .i64 0, .int .i64 0, .slice none 0 0, .slice none 0 0, .slice none 0 0, .slice none 0 0, .slice none 0 0, .slice none 0 0, .slice none 0 0, .int .i64 0] 61))) := hide ((unhide HA1).alloc (unhide HA1).size _)
  have HB0 : Hid (Below w.heap.size w (((w.alloc (.cells #[.int .i64 x1, .int .i64 x2, .int .i64 x3, .int .i64 x4, .int .i64 x5, .slice a1 ls.length c1, .slice a2 tw.length c2, .slice a3 se.length c3, .slice a4 du.length c4, .slice a5 ss.length c5, .slice a6 es.length c6, .slice a7 la.length c7, .int .i64 x6] 56)).alloc (.cells #[.int .i64 0, .int .i64 0, .int .i64 0, .int .i64 0, .int .i64 0, .slice none 0 0, .slice none 0 0, .slice none 0 0, .slice none 0 0, .slice none 0 0, .slice none 0 0, .slice none 0 0, .int .i64 0] 61)).alloc (.cells #[.int .i64 x1, .int .i64 x2, .int .i64 x3, .int .i64 x4, .int .i64 x5, .slice none 0 0, .slice none 0 0, .slice none 0 0, .slice none 0 0, .slice none 0 0, .slice none 0 0, .slice none 0 0, .int .i64 0] 61))) := hide ((unhide HA2).alloc (unhide HA2).size _)
  have HX0 : Hid (RA (((w.alloc (.cells #[.int .i64 x1, .int .i64 x2, .int .i64 x3, .int .i64 x4, .int .i64 x5, .slice a1 ls.length c1, .slice a2 tw.length c2, .slice a3 se.length c3, .slice a4 du.length c4, .slice a5 ss.length c5, .slice a6 es.length c6, .slice a7 la.length c7, .int .i64 x6] 56)).alloc (.cells #[.int .i64 0, .int .i64 0, .int .i64 0, .int .i64 0, .int .i64 0, .slice none 0 0, .slice none 0 0, .slice none 0 0, .slice none 0 0, .slice none 0 0, .slice none 0 0, .slice none 0 0, .int .i64 0] 61)).alloc (.cells #[.int .i64 x1, .int .i64 x2, .int .i64 x3, .int .i64 x4, .int .i64 x5, .slice none 0 0, .slice none 0 0, .slice none 0 0, .slice none 0 0, .slice none 0 0, .slice none 0 0, .slice none 0 0, .int .i64 0] 61)) w.heap.size (rC x1 x2 x3 x4 x5 (.slice a1 ls.length c1) (.slice a2 tw.length c2) (.slice a3 se.length c3) (.slice a4 du.length c4) (.slice a5 ss.length c5) (.slice a6 es.length c6) (.slice a7 la.length c7) x6)) := hide (((ra_new w _ rfl _).below ((Below.refl _ _).alloc (Nat.le_refl _) _)).below ((Below.refl _ _).alloc (Nat.le_refl _) _))
  have HZ0 : Hid (RA (((w.alloc (.cells #[.int .i64 x1, .int .i64 x2, .int .i64 x3, .int .i64 x4, .int .i64 x5, .slice a1 ls.length c1, .slice a2 tw.length c2, .slice a3 se.length c3, .slice a4 du.length c4, .slice a5 ss.length c5, .slice a6 es.length c6, .slice a7 la.length c7, .int .i64 x6] 56)).alloc (.cells #[.int .i64 0, .int .i64 0, .int .i64 0, .int .i64 0, .int .i64 0, .slice none 0 0, .slice none 0 0, .slice none 0 0, .slice none 0 0, .slice none 0 0, .slice none 0 0, .slice none 0 0, .int .i64 0] 61)).alloc (.cells #[.int .i64 x1, .int .i64 x2, .int .i64 x3, .int .i64 x4, .int .i64 x5, .slice none 0 0, .slice none 0 0, .slice none 0 0, .slice none 0 0, .slice none 0 0, .slice none 0 0, .slice none 0 0, .int .i64 0] 61)) (w.heap.size + 1) (rC 0 0 0 0 0 (.slice none 0 0) (.slice none 0 0) (.slice none 0 0) (.slice none 0 0) (.slice none 0 0) (.slice none 0 0) (.slice none 0 0) 0)) := hide (by have := (ra_new (w.alloc (.cells #[.int .i64 x1, .int .i64 x2, .int .i64 x3, .int .i64 x4, .int .i64 x5, .slice a1 ls.length c1, .slice a2 tw.length c2, .slice a3 se.length c3, .slice a4 du.length c4, .slice a5 ss.length c5, .slice a6 es.length c6, .slice a7 la.length c7, .int .i64 x6] 56)) (rC 0 0 0 0 0 (.slice none 0 0) (.slice none 0 0) (.slice none 0 0) (.slice none 0 0) (.slice none 0 0) (.slice none 0 0) (.slice none 0 0) 0) rfl 61).below ((Below.refl _ _).alloc (Nat.le_refl _) (.cells #[.int .i64 x1, .int .i64 x2, .int .i64 x3, .int .i64 x4, .int .i64 x5, .slice none 0 0, .slice none 0 0, .slice none 0 0, .slice none 0 0, .slice none 0 0, .slice none 0 0, .slice none 0 0, .int .i64 0] 61)); rw [show (w.alloc (.cells #[.int .i64 x1, .int .i64 x2, .int .i64 x3, .int .i64 x4, .int .i64 x5, .slice a1 ls.length c1, .slice a2 tw.length c2, .slice a3 se.length c3, .slice a4 du.length c4, .slice a5 ss.length c5, .slice a6 es.length c6, .slice a7 la.length c7, .int .i64 x6] 56)).heap.size = w.heap.size + 1 by simp] at this; exact this)
  have HO0 : Hid (RA (((w.alloc (.cells #[.int .i64 x1, .int .i64 x2, .int .i64 x3, .int .i64 x4, .int .i64 x5, .slice a1 ls.length c1, .slice a2 tw.length c2, .slice a3 se.length c3, .slice a4 du.length c4, .slice a5 ss.length c5, .slice a6 es.length c6, .slice a7 la.length c7, .int .i64 x6] 56)).alloc (.cells #[.int .i64 0, .int .i64 0, .int .i64 0, .int .i64 0, .int .i64 0, .slice none 0 0, .slice none 0 0, .slice none 0 0, .slice none 0 0, .slice none 0 0, .slice none 0 0, .slice none 0 0, .int .i64 0] 61)).alloc (.cells #[.int .i64 x1, .int .i64 x2, .int .i64 x3, .int .i64 x4, .int .i64 x5, .slice none 0 0, .slice none 0 0, .slice none 0 0, .slice none 0 0, .slice none 0 0, .slice none 0 0, .slice none 0 0, .int .i64 0] 61)) (w.heap.size + 2) (rC x1 x2 x3 x4 x5 (.slice none 0 0) (.slice none 0 0) (.slice none 0 0) (.slice none 0 0) (.slice none 0 0) (.slice none 0 0) (.slice none 0 0) 0)) := hide (by have := ra_new ((w.alloc (.cells #[.int .i64 x1, .int .i64 x2, .int .i64 x3, .int .i64 x4, .int .i64 x5, .slice a1 ls.length c1, .slice a2 tw.length c2, .slice a3 se.length c3, .slice a4 du.length c4, .slice a5 ss.length c5, .slice a6 es.length c6, .slice a7 la.length c7, .int .i64 x6] 56)).alloc (.cells #[.int .i64 0, .int .i64 0, .int .i64 0, .int .i64 0, .int .i64 0, .slice none 0 0, .slice none 0 0, .slice none 0 0, .slice none 0 0, .slice none 0 0, .slice none 0 0, .slice none 0 0, .int .i64 0] 61)) (rC x1 x2 x3 x4 x5 (.slice none 0 0) (.slice none 0 0) (.slice none 0 0) (.slice none 0 0) (.slice none 0 0) (.slice none 0 0) (.slice none 0 0) 0) rfl 61; rw [show ((w.alloc (.cells #[.int .i64 x1, .int .i64 x2, .int .i64 x3, .int .i64 x4, .int .i64 x5, .slice a1 ls.length c1, .slice a2 tw.length c2, .slice a3 se.length c3, .slice a4 du.length c4, .slice a5 ss.length c5, .slice a6 es.length c6, .slice a7 la.length c7, .int .i64 x6] 56)).alloc (.cells #[.int .i64 0, .int .i64 0, .int .i64 0, .int .i64 0, .int .i64 0, .slice none 0 0, .slice none 0 0, .slice none 0 0, .slice none 0 0, .slice none 0 0, .slice none 0 0, .slice none 0 0, .int .i64 0] 61)).heap.size = w.heap.size + 2 by simp] at this; exact this)
  have hq0 : ((((w.alloc (.cells #[.int .i64 x1, .int .i64 x2, .int .i64 x3, .int .i64 x4, .int .i64 x5, .slice a1 ls.length c1, .slice a2 tw.length c2, .slice a3 se.length c3, .slice a4 du.length c4, .slice a5 ss.length c5, .slice a6 es.length c6, .slice a7 la.length c7, .int .i64 x6] 56)).alloc (.cells #[.int .i64 0, .int .i64 0, .int .i64 0, .int .i64 0, .int .i64 0, .slice none 0 0, .slice none 0 0, .slice none 0 0, .slice none 0 0, .slice none 0 0, .slice none 0 0, .slice none 0 0, .int .i64 0] 61)).alloc (.cells #[.int .i64 x1, .int .i64 x2, .int .i64 x3, .int .i64 x4, .int .i64 x5, .slice none 0 0, .slice none 0 0, .slice none 0 0, .slice none 0 0, .slice none 0 0, .slice none 0 0, .slice none 0 0, .int .i64 0] 61))).heap.size = w.heap.size + 3 := by simp
  have hp2 : w.heap.size ≤ w.heap.size + 2 := by omega
  have HR1 := hide hr1
  have HR2 := hide hr2
  have HR3 := hide hr3
  have HR4 := hide hr4
  have HR5 := hide hr5
  have HR6 := hide hr6
  have HR7 := hide hr7
  clear hr1 hr2 hr3 hr4 hr5 hr6 hr7 HA1 HA2
  go_enter Try.func18, Try.ntmps18
  go_wp2_with fail
  generalize hW : (((w.alloc (.cells #[.int .i64 x1, .int .i64 x2, .int .i64 x3, .int .i64 x4, .int .i64 x5, .slice a1 ls.length c1, .slice a2 tw.length c2, .slice a3 se.length c3, .slice a4 du.length c4, .slice a5 ss.length c5, .slice a6 es.length c6, .slice a7 la.length c7, .int .i64 x6] 56)).alloc (.cells #[.int .i64 0, .int .i64 0, .int .i64 0, .int .i64 0, .int .i64 0, .slice none 0 0, .slice none 0 0, .slice none 0 0, .slice none 0 0, .slice none 0 0, .slice none 0 0, .slice none 0 0, .int .i64 0] 61)).alloc (.cells #[.int .i64 x1, .int .i64 x2, .int .i64 x3, .int .i64 x4, .int .i64 x5, .slice none 0 0, .slice none 0 0, .slice none 0 0, .slice none 0 0, .slice none 0 0, .slice none 0 0, .slice none 0 0, .int .i64 0] 61)) = V0 at *
  clear hW
  refine (Lk.toS a1 ls c1 _ hm1 ((unhide HR1).below (unhide HB0))).mono ?_
  rintro e V1 ⟨g1, rfl, d1, hg1, hz1, u1⟩
  have HB1 := hide ((unhide HB0).trans (d1.mono (unhide HB0).size))
  have HX1 := hide ((unhide HX0).below d1)
  have HZ1 := hide ((unhide HZ0).below d1)
  have HO1 := hide ((unhide HO0).below d1)
  have hq1 := d1.size
  clear HX0 HZ0 HO0 
  have U1_1 := hide u1
  clear d1 u1
  obtain ⟨V2, hV2⟩ : ∃ V, (V1.setCell ⟨w.heap.size + 2, 5, none⟩ (.slice (some ⟨g1, 0, none⟩) ls.length ls.length)) = V := ⟨_, rfl⟩
  have HB2 : Hid (Below w.heap.size w V2) := hide (by rw [← hV2]; exact ((unhide HB1).setCell (p := ⟨w.heap.size + 2, 5, none⟩) hp2 (.slice (some ⟨g1, 0, none⟩) ls.length ls.length)))
  have HX2 : Hid (RA V2 w.heap.size (rC x1 x2 x3 x4 x5 (.slice a1 ls.length c1) (.slice a2 tw.length c2) (.slice a3 se.length c3) (.slice a4 du.length c4) (.slice a5 ss.length c5) (.slice a6 es.length c6) (.slice a7 la.length c7) x6)) := hide (by rw [← hV2]; exact (RA.other (unhide HX1) (p := ⟨w.heap.size + 2, 5, none⟩) (by show w.heap.size ≠ w.heap.size + 2; omega) (.slice (some ⟨g1, 0, none⟩) ls.length ls.length)))
  have HZ2 : Hid (RA V2 (w.heap.size + 1) (rC 0 0 0 0 0 (.slice none 0 0) (.slice none 0 0) (.slice none 0 0) (.slice none 0 0) (.slice none 0 0) (.slice none 0 0) (.slice none 0 0) 0)) := hide (by rw [← hV2]; exact (RA.other (unhide HZ1) (p := ⟨w.heap.size + 2, 5, none⟩) (by show w.heap.size + 1 ≠ w.heap.size + 2; omega) (.slice (some ⟨g1, 0, none⟩) ls.length ls.length)))
  have HO2 : Hid (RA V2 (w.heap.size + 2) (rC x1 x2 x3 x4 x5 (.slice (some ⟨g1, 0, none⟩) ls.length ls.length) (.slice none 0 0) (.slice none 0 0) (.slice none 0 0) (.slice none 0 0) (.slice none 0 0) (.slice none 0 0) 0)) := hide (by rw [← hV2]; exact (RA.set (unhide HO1) (k := 5) (by omega) (.slice (some ⟨g1, 0, none⟩) ls.length ls.length)))
  have U1_2 : Hid (Lk.Upto V2 g1 ls.length ls.length ls) := hide (by rw [← hV2]; exact (uptoL_set (p := ⟨w.heap.size + 2, 5, none⟩) (v := (.slice (some ⟨g1, 0, none⟩) ls.length ls.length)) (unhide U1_1) (by show w.heap.size + 2 ≠ g1; omega)))
  have hq2 : V2.heap.size = V1.heap.size := by rw [← hV2]; simp [World.setCell]
  have HV2 := hide hV2
  clear hV2
  have o5 := (unhide HO1).at (i := 5) rfl
  have f5 := (unhide HO1).free (i := 5) (by omega)
  have z6 := (unhide HX1).at (i := 6) rfl
  have hne : ¬ w.heap.size = w.heap.size + 2 := by omega
  go_wp2_with fail
  rw [unhide HV2]
  clear hne o5 f5 z6 HX1 HZ1 HO1 U1_1
  refine (Tu.toS a2 tw c2 _ hm2 ((unhide HR2).below (unhide HB2))).mono ?_
  rintro e V3 ⟨g2, rfl, d3, hg2, hz2, u3⟩
  have HB3 := hide ((unhide HB2).trans (d3.mono (unhide HB2).size))
  have HX3 := hide ((unhide HX2).below d3)
  have HZ3 := hide ((unhide HZ2).below d3)
  have HO3 := hide ((unhide HO2).below d3)
  have U1_3 := hide ((unhide U1_2).below d3 (by omega))
  have hq3 := d3.size
  clear HX2 HZ2 HO2 U1_2
  have U2_3 := hide u3
  clear d3 u3
  obtain ⟨V4, hV4⟩ : ∃ V, (V3.setCell ⟨w.heap.size + 2, 6, none⟩ (.slice (some ⟨g2, 0, none⟩) tw.length tw.length)) = V := ⟨_, rfl⟩
  have HB4 : Hid (Below w.heap.size w V4) := hide (by rw [← hV4]; exact ((unhide HB3).setCell (p := ⟨w.heap.size + 2, 6, none⟩) hp2 (.slice (some ⟨g2, 0, none⟩) tw.length tw.length)))
  have HX4 : Hid (RA V4 w.heap.size (rC x1 x2 x3 x4 x5 (.slice a1 ls.length c1) (.slice a2 tw.length c2) (.slice a3 se.length c3) (.slice a4 du.length c4) (.slice a5 ss.length c5) (.slice a6 es.length c6) (.slice a7 la.length c7) x6)) := hide (by rw [← hV4]; exact (RA.other (unhide HX3) (p := ⟨w.heap.size + 2, 6, none⟩) (by show w.heap.size ≠ w.heap.size + 2; omega) (.slice (some ⟨g2, 0, none⟩) tw.length tw.length)))
  have HZ4 : Hid (RA V4 (w.heap.size + 1) (rC 0 0 0 0 0 (.slice none 0 0) (.slice none 0 0) (.slice none 0 0) (.slice none 0 0) (.slice none 0 0) (.slice none 0 0) (.slice none 0 0) 0)) := hide (by rw [← hV4]; exact (RA.other (unhide HZ3) (p := ⟨w.heap.size + 2, 6, none⟩) (by show w.heap.size + 1 ≠ w.heap.size + 2; omega) (.slice (some ⟨g2, 0, none⟩) tw.length tw.length)))
  have HO4 : Hid (RA V4 (w.heap.size + 2) (rC x1 x2 x3 x4 x5 (.slice (some ⟨g1, 0, none⟩) ls.length ls.length) (.slice (some ⟨g2, 0, none⟩) tw.length tw.length) (.slice none 0 0) (.slice none 0 0) (.slice none 0 0) (.slice none 0 0) (.slice none 0 0) 0)) := hide (by rw [← hV4]; exact (RA.set (unhide HO3) (k := 6) (by omega) (.slice (some ⟨g2, 0, none⟩) tw.length tw.length)))
  have U1_4 : Hid (Lk.Upto V4 g1 ls.length ls.length ls) := hide (by rw [← hV4]; exact (uptoL_set (p := ⟨w.heap.size + 2, 6, none⟩) (v := (.slice (some ⟨g2, 0, none⟩) tw.length tw.length)) (unhide U1_3) (by show w.heap.size + 2 ≠ g1; omega)))
  have U2_4 : Hid (Tu.Upto V4 g2 tw.length tw.length tw) := hide (by rw [← hV4]; exact (Tq.uptoT_set (p := ⟨w.heap.size + 2, 6, none⟩) (v := (.slice (some ⟨g2, 0, none⟩) tw.length tw.length)) (unhide U2_3) (by show w.heap.size + 2 ≠ g2; omega)))
  have hq4 : V4.heap.size = V3.heap.size := by rw [← hV4]; simp [World.setCell]
  have HV4 := hide hV4
  clear hV4
  have o6 := (unhide HO3).at (i := 6) rfl
  have f6 := (unhide HO3).free (i := 6) (by omega)
  have z7 := (unhide HX3).at (i := 7) rfl
  have hne : ¬ w.heap.size = w.heap.size + 2 := by omega
  go_wp2_with fail
  rw [unhide HV4]
  clear hne o6 f6 z7 HX3 HZ3 HO3 U1_3 U2_3
  refine (Tu.toS a3 se c3 _ hm3 ((unhide HR3).below (unhide HB4))).mono ?_
  rintro e V5 ⟨g3, rfl, d5, hg3, hz3, u5⟩
  have HB5 := hide ((unhide HB4).trans (d5.mono (unhide HB4).size))
  have HX5 := hide ((unhide HX4).below d5)
  have HZ5 := hide ((unhide HZ4).below d5)
  have HO5 := hide ((unhide HO4).below d5)
  have U1_5 := hide ((unhide U1_4).below d5 (by omega))
  have U2_5 := hide ((unhide U2_4).below d5 (by omega))
  have hq5 := d5.size
  clear HX4 HZ4 HO4 U1_4 U2_4
  have U3_5 := hide u5
  clear d5 u5
  obtain ⟨V6, hV6⟩ : ∃ V, (V5.setCell ⟨w.heap.size + 2, 7, none⟩ (.slice (some ⟨g3, 0, none⟩) se.length se.length)) = V := ⟨_, rfl⟩
  have HB6 : Hid (Below w.heap.size w V6) := hide (by rw [← hV6]; exact ((unhide HB5).setCell (p := ⟨w.heap.size + 2, 7, none⟩) hp2 (.slice (some ⟨g3, 0, none⟩) se.length se.length)))
  have HX6 : Hid (RA V6 w.heap.size (rC x1 x2 x3 x4 x5 (.slice a1 ls.length c1) (.slice a2 tw.length c2) (.slice a3 se.length c3) (.slice a4 du.length c4) (.slice a5 ss.length c5) (.slice a6 es.length c6) (.slice a7 la.length c7) x6)) := hide (by rw [← hV6]; exact (RA.other (unhide HX5) (p := ⟨w.heap.size + 2, 7, none⟩) (by show w.heap.size ≠ w.heap.size + 2; omega) (.slice (some ⟨g3, 0, none⟩) se.length se.length)))
  have HZ6 : Hid (RA V6 (w.heap.size + 1) (rC 0 0 0 0 0 (.slice none 0 0) (.slice none 0 0) (.slice none 0 0) (.slice none 0 0) (.slice none 0 0) (.slice none 0 0) (.slice none 0 0) 0)) := hide (by rw [← hV6]; exact (RA.other (unhide HZ5) (p := ⟨w.heap.size + 2, 7, none⟩) (by show w.heap.size + 1 ≠ w.heap.size + 2; omega) (.slice (some ⟨g3, 0, none⟩) se.length se.length)))
  have HO6 : Hid (RA V6 (w.heap.size + 2) (rC x1 x2 x3 x4 x5 (.slice (some ⟨g1, 0, none⟩) ls.length ls.length) (.slice (some ⟨g2, 0, none⟩) tw.length tw.length) (.slice (some ⟨g3, 0, none⟩) se.length se.length) (.slice none 0 0) (.slice none 0 0) (.slice none 0 0) (.slice none 0 0) 0)) := hide (by rw [← hV6]; exact (RA.set (unhide HO5) (k := 7) (by omega) (.slice (some ⟨g3, 0, none⟩) se.length se.length)))
  have U1_6 : Hid (Lk.Upto V6 g1 ls.length ls.length ls) := hide (by rw [← hV6]; exact (uptoL_set (p := ⟨w.heap.size + 2, 7, none⟩) (v := (.slice (some ⟨g3, 0, none⟩) se.length se.length)) (unhide U1_5) (by show w.heap.size + 2 ≠ g1; omega)))
  have U2_6 : Hid (Tu.Upto V6 g2 tw.length tw.length tw) := hide (by rw [← hV6]; exact (Tq.uptoT_set (p := ⟨w.heap.size + 2, 7, none⟩) (v := (.slice (some ⟨g3, 0, none⟩) se.length se.length)) (unhide U2_5) (by show w.heap.size + 2 ≠ g2; omega)))
  have U3_6 : Hid (Tu.Upto V6 g3 se.length se.length se) := hide (by rw [← hV6]; exact (Tq.uptoT_set (p := ⟨w.heap.size + 2, 7, none⟩) (v := (.slice (some ⟨g3, 0, none⟩) se.length se.length)) (unhide U3_5) (by show w.heap.size + 2 ≠ g3; omega)))
  have hq6 : V6.heap.size = V5.heap.size := by rw [← hV6]; simp [World.setCell]
  have HV6 := hide hV6
  clear hV6
  have o7 := (unhide HO5).at (i := 7) rfl
  have f7 := (unhide HO5).free (i := 7) (by omega)
  have z8 := (unhide HX5).at (i := 8) rfl
  have hne : ¬ w.heap.size = w.heap.size + 2 := by omega
  go_wp2_with fail
  rw [unhide HV6]
  clear hne o7 f7 z8 HX5 HZ5 HO5 U1_5 U2_5 U3_5
  refine (Tu.toS a4 du c4 _ hm4 ((unhide HR4).below (unhide HB6))).mono ?_
  rintro e V7 ⟨g4, rfl, d7, hg4, hz4, u7⟩
  have HB7 := hide ((unhide HB6).trans (d7.mono (unhide HB6).size))
  have HX7 := hide ((unhide HX6).below d7)
  have HZ7 := hide ((unhide HZ6).below d7)
  have HO7 := hide ((unhide HO6).below d7)
  have U1_7 := hide ((unhide U1_6).below d7 (by omega))
  have U2_7 := hide ((unhide U2_6).below d7 (by omega))
  have U3_7 := hide ((unhide U3_6).below d7 (by omega))
  have hq7 := d7.size
  clear HX6 HZ6 HO6 U1_6 U2_6 U3_6
  have U4_7 := hide u7
  clear d7 u7
  obtain ⟨V8, hV8⟩ : ∃ V, (V7.setCell ⟨w.heap.size + 2, 8, none⟩ (.slice (some ⟨g4, 0, none⟩) du.length du.length)) = V := ⟨_, rfl⟩
  have HB8 : Hid (Below w.heap.size w V8) := hide (by rw [← hV8]; exact ((unhide HB7).setCell (p := ⟨w.heap.size + 2, 8, none⟩) hp2 (.slice (some ⟨g4, 0, none⟩) du.length du.length)))
  have HX8 : Hid (RA V8 w.heap.size (rC x1 x2 x3 x4 x5 (.slice a1 ls.length c1) (.slice a2 tw.length c2) (.slice a3 se.length c3) (.slice a4 du.length c4) (.slice a5 ss.length c5) (.slice a6 es.length c6) (.slice a7 la.length c7) x6)) := hide (by rw [← hV8]; exact (RA.other (unhide HX7) (p := ⟨w.heap.size + 2, 8, none⟩) (by show w.heap.size ≠ w.heap.size + 2; omega) (.slice (some ⟨g4, 0, none⟩) du.length du.length)))
  have HZ8 : Hid (RA V8 (w.heap.size + 1) (rC 0 0 0 0 0 (.slice none 0 0) (.slice none 0 0) (.slice none 0 0) (.slice none 0 0) (.slice none 0 0) (.slice none 0 0) (.slice none 0 0) 0)) := hide (by rw [← hV8]; exact (RA.other (unhide HZ7) (p := ⟨w.heap.size + 2, 8, none⟩) (by show w.heap.size + 1 ≠ w.heap.size + 2; omega) (.slice (some ⟨g4, 0, none⟩) du.length du.length)))
  have HO8 : Hid (RA V8 (w.heap.size + 2) (rC x1 x2 x3 x4 x5 (.slice (some ⟨g1, 0, none⟩) ls.length ls.length) (.slice (some ⟨g2, 0, none⟩) tw.length tw.length) (.slice (some ⟨g3, 0, none⟩) se.length se.length) (.slice (some ⟨g4, 0, none⟩) du.length du.length) (.slice none 0 0) (.slice none 0 0) (.slice none 0 0) 0)) := hide (by rw [← hV8]; exact (RA.set (unhide HO7) (k := 8) (by omega) (.slice (some ⟨g4, 0, none⟩) du.length du.length)))
  have U1_8 : Hid (Lk.Upto V8 g1 ls.length ls.length ls) := hide (by rw [← hV8]; exact (uptoL_set (p := ⟨w.heap.size + 2, 8, none⟩) (v := (.slice (some ⟨g4, 0, none⟩) du.length du.length)) (unhide U1_7) (by show w.heap.size + 2 ≠ g1; omega)))
  have U2_8 : Hid (Tu.Upto V8 g2 tw.length tw.length tw) := hide (by rw [← hV8]; exact (Tq.uptoT_set (p := ⟨w.heap.size + 2, 8, none⟩) (v := (.slice (some ⟨g4, 0, none⟩) du.length du.length)) (unhide U2_7) (by show w.heap.size + 2 ≠ g2; omega)))
  have U3_8 : Hid (Tu.Upto V8 g3 se.length se.length se) := hide (by rw [← hV8]; exact (Tq.uptoT_set (p := ⟨w.heap.size + 2, 8, none⟩) (v := (.slice (some ⟨g4, 0, none⟩) du.length du.length)) (unhide U3_7) (by show w.heap.size + 2 ≠ g3; omega)))
  have U4_8 : Hid (Tu.Upto V8 g4 du.length du.length du) := hide (by rw [← hV8]; exact (Tq.uptoT_set (p := ⟨w.heap.size + 2, 8, none⟩) (v := (.slice (some ⟨g4, 0, none⟩) du.length du.length)) (unhide U4_7) (by show w.heap.size + 2 ≠ g4; omega)))
  have hq8 : V8.heap.size = V7.heap.size := by rw [← hV8]; simp [World.setCell]
  have HV8 := hide hV8
  clear hV8
  have o8 := (unhide HO7).at (i := 8) rfl
  have f8 := (unhide HO7).free (i := 8) (by omega)
  have z9 := (unhide HX7).at (i := 9) rfl
  have z10 := (unhide HX7).at (i := 10) rfl
  have hne : ¬ w.heap.size = w.heap.size + 2 := by omega
  go_wp2_with fail
  rw [unhide HV8]
  clear hne o8 f8 z9 z10 HX7 HZ7 HO7 U1_7 U2_7 U3_7 U4_7
  refine (Tq.to a5 ss c5 a6 es c6 _ hm5 hm6 ((unhide HR5).below (unhide HB8)) ((unhide HR6).below (unhide HB8))).mono ?_
  rintro e V9 ⟨g5, g6, rfl, d9, hg5, u9, v9⟩
  have HB9 := hide ((unhide HB8).trans (d9.mono (unhide HB8).size))
  have HX9 := hide ((unhide HX8).below d9)
  have HZ9 := hide ((unhide HZ8).below d9)
  have HO9 := hide ((unhide HO8).below d9)
  have U1_9 := hide ((unhide U1_8).below d9 (by omega))
  have U2_9 := hide ((unhide U2_8).below d9 (by omega))
  have U3_9 := hide ((unhide U3_8).below d9 (by omega))
  have U4_9 := hide ((unhide U4_8).below d9 (by omega))
  have hq9 := d9.size
  clear HX8 HZ8 HO8 U1_8 U2_8 U3_8 U4_8
  have U5_9 := hide u9
  have U6_9 := hide v9
  clear d9 u9 v9
  obtain ⟨V10, hV10⟩ : ∃ V, ((V9.setCell ⟨w.heap.size + 2, 9, none⟩ (.slice (some ⟨g5, 0, none⟩) ss.length ss.length)).setCell ⟨w.heap.size + 2, 10, none⟩ (.slice (some ⟨g6, 0, none⟩) es.length es.length)) = V := ⟨_, rfl⟩
  have HB10 : Hid (Below w.heap.size w V10) := hide (by rw [← hV10]; exact (((unhide HB9).setCell (p := ⟨w.heap.size + 2, 9, none⟩) hp2 (.slice (some ⟨g5, 0, none⟩) ss.length ss.length)).setCell (p := ⟨w.heap.size + 2, 10, none⟩) hp2 (.slice (some ⟨g6, 0, none⟩) es.length es.length)))
  have HX10 : Hid (RA V10 w.heap.size (rC x1 x2 x3 x4 x5 (.slice a1 ls.length c1) (.slice a2 tw.length c2) (.slice a3 se.length c3) (.slice a4 du.length c4) (.slice a5 ss.length c5) (.slice a6 es.length c6) (.slice a7 la.length c7) x6)) := hide (by rw [← hV10]; exact (RA.other (RA.other (unhide HX9) (p := ⟨w.heap.size + 2, 9, none⟩) (by show w.heap.size ≠ w.heap.size + 2; omega) (.slice (some ⟨g5, 0, none⟩) ss.length ss.length)) (p := ⟨w.heap.size + 2, 10, none⟩) (by show w.heap.size ≠ w.heap.size + 2; omega) (.slice (some ⟨g6, 0, none⟩) es.length es.length)))
  have HZ10 : Hid (RA V10 (w.heap.size + 1) (rC 0 0 0 0 0 (.slice none 0 0) (.slice none 0 0) (.slice none 0 0) (.slice none 0 0) (.slice none 0 0) (.slice none 0 0) (.slice none 0 0) 0)) := hide (by rw [← hV10]; exact (RA.other (RA.other (unhide HZ9) (p := ⟨w.heap.size + 2, 9, none⟩) (by show w.heap.size + 1 ≠ w.heap.size + 2; omega) (.slice (some ⟨g5, 0, none⟩) ss.length ss.length)) (p := ⟨w.heap.size + 2, 10, none⟩) (by show w.heap.size + 1 ≠ w.heap.size + 2; omega) (.slice (some ⟨g6, 0, none⟩) es.length es.length)))
  have HO10 : Hid (RA V10 (w.heap.size + 2) (rC x1 x2 x3 x4 x5 (.slice (some ⟨g1, 0, none⟩) ls.length ls.length) (.slice (some ⟨g2, 0, none⟩) tw.length tw.length) (.slice (some ⟨g3, 0, none⟩) se.length se.length) (.slice (some ⟨g4, 0, none⟩) du.length du.length) (.slice (some ⟨g5, 0, none⟩) ss.length ss.length) (.slice (some ⟨g6, 0, none⟩) es.length es.length) (.slice none 0 0) 0)) := hide (by rw [← hV10]; exact (RA.set (RA.set (unhide HO9) (k := 9) (by omega) (.slice (some ⟨g5, 0, none⟩) ss.length ss.length)) (k := 10) (by omega) (.slice (some ⟨g6, 0, none⟩) es.length es.length)))
  have U1_10 : Hid (Lk.Upto V10 g1 ls.length ls.length ls) := hide (by rw [← hV10]; exact (uptoL_set (p := ⟨w.heap.size + 2, 10, none⟩) (v := (.slice (some ⟨g6, 0, none⟩) es.length es.length)) (uptoL_set (p := ⟨w.heap.size + 2, 9, none⟩) (v := (.slice (some ⟨g5, 0, none⟩) ss.length ss.length)) (unhide U1_9) (by show w.heap.size + 2 ≠ g1; omega)) (by show w.heap.size + 2 ≠ g1; omega)))
  have U2_10 : Hid (Tu.Upto V10 g2 tw.length tw.length tw) := hide (by rw [← hV10]; exact (Tq.uptoT_set (p := ⟨w.heap.size + 2, 10, none⟩) (v := (.slice (some ⟨g6, 0, none⟩) es.length es.length)) (Tq.uptoT_set (p := ⟨w.heap.size + 2, 9, none⟩) (v := (.slice (some ⟨g5, 0, none⟩) ss.length ss.length)) (unhide U2_9) (by show w.heap.size + 2 ≠ g2; omega)) (by show w.heap.size + 2 ≠ g2; omega)))
  have U3_10 : Hid (Tu.Upto V10 g3 se.length se.length se) := hide (by rw [← hV10]; exact (Tq.uptoT_set (p := ⟨w.heap.size + 2, 10, none⟩) (v := (.slice (some ⟨g6, 0, none⟩) es.length es.length)) (Tq.uptoT_set (p := ⟨w.heap.size + 2, 9, none⟩) (v := (.slice (some ⟨g5, 0, none⟩) ss.length ss.length)) (unhide U3_9) (by show w.heap.size + 2 ≠ g3; omega)) (by show w.heap.size + 2 ≠ g3; omega)))
  have U4_10 : Hid (Tu.Upto V10 g4 du.length du.length du) := hide (by rw [← hV10]; exact (Tq.uptoT_set (p := ⟨w.heap.size + 2, 10, none⟩) (v := (.slice (some ⟨g6, 0, none⟩) es.length es.length)) (Tq.uptoT_set (p := ⟨w.heap.size + 2, 9, none⟩) (v := (.slice (some ⟨g5, 0, none⟩) ss.length ss.length)) (unhide U4_9) (by show w.heap.size + 2 ≠ g4; omega)) (by show w.heap.size + 2 ≠ g4; omega)))
  have U5_10 : Hid (So.Upto V10 g5 ss.length ss.length ss) := hide (by rw [← hV10]; exact (Tq.uptoS_set (p := ⟨w.heap.size + 2, 10, none⟩) (v := (.slice (some ⟨g6, 0, none⟩) es.length es.length)) (Tq.uptoS_set (p := ⟨w.heap.size + 2, 9, none⟩) (v := (.slice (some ⟨g5, 0, none⟩) ss.length ss.length)) (unhide U5_9) (by show w.heap.size + 2 ≠ g5; omega)) (by show w.heap.size + 2 ≠ g5; omega)))
  have U6_10 : Hid (Tu.Upto V10 g6 es.length es.length es) := hide (by rw [← hV10]; exact (Tq.uptoT_set (p := ⟨w.heap.size + 2, 10, none⟩) (v := (.slice (some ⟨g6, 0, none⟩) es.length es.length)) (Tq.uptoT_set (p := ⟨w.heap.size + 2, 9, none⟩) (v := (.slice (some ⟨g5, 0, none⟩) ss.length ss.length)) (unhide U6_9) (by show w.heap.size + 2 ≠ g6; omega)) (by show w.heap.size + 2 ≠ g6; omega)))
  have hq10 : V10.heap.size = V9.heap.size := by rw [← hV10]; simp [World.setCell]
  have HV10 := hide hV10
  clear hV10
  have o9 := (unhide HO9).at (i := 9) rfl
  have f9 := (unhide HO9).free (i := 9) (by omega)
  have o10 := (unhide HO9).at (i := 10) rfl
  have f10 := (unhide HO9).free (i := 10) (by omega)
  have z11 := (unhide HX9).at (i := 11) rfl
  have hne : ¬ w.heap.size = w.heap.size + 2 := by omega
  go_wp2_with fail
  rw [unhide HV10]
  clear hne o9 f9 o10 f10 z11 HX9 HZ9 HO9 U1_9 U2_9 U3_9 U4_9 U5_9 U6_9
  refine (Ed.toS a7 la c7 _ hm7 ((unhide HR7).below (unhide HB10))).mono ?_
  rintro e V11 ⟨g7, rfl, d11, hg7, hz7, u11⟩
  have HB11 := hide ((unhide HB10).trans (d11.mono (unhide HB10).size))
  have HX11 := hide ((unhide HX10).below d11)
  have HZ11 := hide ((unhide HZ10).below d11)
  have HO11 := hide ((unhide HO10).below d11)
  have U1_11 := hide ((unhide U1_10).below d11 (by omega))
  have U2_11 := hide ((unhide U2_10).below d11 (by omega))
  have U3_11 := hide ((unhide U3_10).below d11 (by omega))
  have U4_11 := hide ((unhide U4_10).below d11 (by omega))
  have U5_11 := hide ((unhide U5_10).below d11 (by omega))
  have U6_11 := hide ((unhide U6_10).below d11 (by omega))
  have hq11 := d11.size
  clear HX10 HZ10 HO10 U1_10 U2_10 U3_10 U4_10 U5_10 U6_10
  have U7_11 := hide u11
  clear d11 u11
  obtain ⟨V12, hV12⟩ : ∃ V, ((V11.setCell ⟨w.heap.size + 2, 11, none⟩ (.slice (some ⟨g7, 0, none⟩) la.length la.length)).setCell ⟨w.heap.size + 2, 12, none⟩ (.int .i64 x6)) = V := ⟨_, rfl⟩
  have HB12 : Hid (Below w.heap.size w V12) := hide (by rw [← hV12]; exact (((unhide HB11).setCell (p := ⟨w.heap.size + 2, 11, none⟩) hp2 (.slice (some ⟨g7, 0, none⟩) la.length la.length)).setCell (p := ⟨w.heap.size + 2, 12, none⟩) hp2 (.int .i64 x6)))
  have HX12 : Hid (RA V12 w.heap.size (rC x1 x2 x3 x4 x5 (.slice a1 ls.length c1) (.slice a2 tw.length c2) (.slice a3 se.length c3) (.slice a4 du.length c4) (.slice a5 ss.length c5) (.slice a6 es.length c6) (.slice a7 la.length c7) x6)) := hide (by rw [← hV12]; exact (RA.other (RA.other (unhide HX11) (p := ⟨w.heap.size + 2, 11, none⟩) (by show w.heap.size ≠ w.heap.size + 2; omega) (.slice (some ⟨g7, 0, none⟩) la.length la.length)) (p := ⟨w.heap.size + 2, 12, none⟩) (by show w.heap.size ≠ w.heap.size + 2; omega) (.int .i64 x6)))
  have HZ12 : Hid (RA V12 (w.heap.size + 1) (rC 0 0 0 0 0 (.slice none 0 0) (.slice none 0 0) (.slice none 0 0) (.slice none 0 0) (.slice none 0 0) (.slice none 0 0) (.slice none 0 0) 0)) := hide (by rw [← hV12]; exact (RA.other (RA.other (unhide HZ11) (p := ⟨w.heap.size + 2, 11, none⟩) (by show w.heap.size + 1 ≠ w.heap.size + 2; omega) (.slice (some ⟨g7, 0, none⟩) la.length la.length)) (p := ⟨w.heap.size + 2, 12, none⟩) (by show w.heap.size + 1 ≠ w.heap.size + 2; omega) (.int .i64 x6)))
  have HO12 : Hid (RA V12 (w.heap.size + 2) (rC x1 x2 x3 x4 x5 (.slice (some ⟨g1, 0, none⟩) ls.length ls.length) (.slice (some ⟨g2, 0, none⟩) tw.length tw.length) (.slice (some ⟨g3, 0, none⟩) se.length se.length) (.slice (some ⟨g4, 0, none⟩) du.length du.length) (.slice (some ⟨g5, 0, none⟩) ss.length ss.length) (.slice (some ⟨g6, 0, none⟩) es.length es.length) (.slice (some ⟨g7, 0, none⟩) la.length la.length) x6)) := hide (by rw [← hV12]; exact (RA.set (RA.set (unhide HO11) (k := 11) (by omega) (.slice (some ⟨g7, 0, none⟩) la.length la.length)) (k := 12) (by omega) (.int .i64 x6)))
  have U1_12 : Hid (Lk.Upto V12 g1 ls.length ls.length ls) := hide (by rw [← hV12]; exact (uptoL_set (p := ⟨w.heap.size + 2, 12, none⟩) (v := (.int .i64 x6)) (uptoL_set (p := ⟨w.heap.size + 2, 11, none⟩) (v := (.slice (some ⟨g7, 0, none⟩) la.length la.length)) (unhide U1_11) (by show w.heap.size + 2 ≠ g1; omega)) (by show w.heap.size + 2 ≠ g1; omega)))
  have U2_12 : Hid (Tu.Upto V12 g2 tw.length tw.length tw) := hide (by rw [← hV12]; exact (Tq.uptoT_set (p := ⟨w.heap.size + 2, 12, none⟩) (v := (.int .i64 x6)) (Tq.uptoT_set (p := ⟨w.heap.size + 2, 11, none⟩) (v := (.slice (some ⟨g7, 0, none⟩) la.length la.length)) (unhide U2_11) (by show w.heap.size + 2 ≠ g2; omega)) (by show w.heap.size + 2 ≠ g2; omega)))
  have U3_12 : Hid (Tu.Upto V12 g3 se.length se.length se) := hide (by rw [← hV12]; exact (Tq.uptoT_set (p := ⟨w.heap.size + 2, 12, none⟩) (v := (.int .i64 x6)) (Tq.uptoT_set (p := ⟨w.heap.size + 2, 11, none⟩) (v := (.slice (some ⟨g7, 0, none⟩) la.length la.length)) (unhide U3_11) (by show w.heap.size + 2 ≠ g3; omega)) (by show w.heap.size + 2 ≠ g3; omega)))
  have U4_12 : Hid (Tu.Upto V12 g4 du.length du.length du) := hide (by rw [← hV12]; exact (Tq.uptoT_set (p := ⟨w.heap.size + 2, 12, none⟩) (v := (.int .i64 x6)) (Tq.uptoT_set (p := ⟨w.heap.size + 2, 11, none⟩) (v := (.slice (some ⟨g7, 0, none⟩) la.length la.length)) (unhide U4_11) (by show w.heap.size + 2 ≠ g4; omega)) (by show w.heap.size + 2 ≠ g4; omega)))
  have U5_12 : Hid (So.Upto V12 g5 ss.length ss.length ss) := hide (by rw [← hV12]; exact (Tq.uptoS_set (p := ⟨w.heap.size + 2, 12, none⟩) (v := (.int .i64 x6)) (Tq.uptoS_set (p := ⟨w.heap.size + 2, 11, none⟩) (v := (.slice (some ⟨g7, 0, none⟩) la.length la.length)) (unhide U5_11) (by show w.heap.size + 2 ≠ g5; omega)) (by show w.heap.size + 2 ≠ g5; omega)))
  have U6_12 : Hid (Tu.Upto V12 g6 es.length es.length es) := hide (by rw [← hV12]; exact (Tq.uptoT_set (p := ⟨w.heap.size + 2, 12, none⟩) (v := (.int .i64 x6)) (Tq.uptoT_set (p := ⟨w.heap.size + 2, 11, none⟩) (v := (.slice (some ⟨g7, 0, none⟩) la.length la.length)) (unhide U6_11) (by show w.heap.size + 2 ≠ g6; omega)) (by show w.heap.size + 2 ≠ g6; omega)))
  have U7_12 : Hid (Ed.Upto V12 g7 la.length la.length la) := hide (by rw [← hV12]; exact (uptoE_set (p := ⟨w.heap.size + 2, 12, none⟩) (v := (.int .i64 x6)) (uptoE_set (p := ⟨w.heap.size + 2, 11, none⟩) (v := (.slice (some ⟨g7, 0, none⟩) la.length la.length)) (unhide U7_11) (by show w.heap.size + 2 ≠ g7; omega)) (by show w.heap.size + 2 ≠ g7; omega)))
  have hq12 : V12.heap.size = V11.heap.size := by rw [← hV12]; simp [World.setCell]
  have HV12 := hide hV12
  clear hV12
  have o11 := (unhide HO11).at (i := 11) rfl
  have f11 := (unhide HO11).free (i := 11) (by omega)
  have o12 := (unhide HO11).at (i := 12) rfl
  have f12 := (unhide HO11).free (i := 12) (by omega)
  have z12 := (unhide HX11).at (i := 12) rfl
  have hne : ¬ w.heap.size = w.heap.size + 2 := by omega
  have HOF : Hid (RA ((V11.setCell ⟨w.heap.size + 2, 11, none⟩ (.slice (some ⟨g7, 0, none⟩) la.length la.length)).setCell ⟨w.heap.size + 2, 12, none⟩ (.int .i64 x6)) (w.heap.size + 2) (rC x1 x2 x3 x4 x5 (.slice (some ⟨g1, 0, none⟩) ls.length ls.length) (.slice (some ⟨g2, 0, none⟩) tw.length tw.length) (.slice (some ⟨g3, 0, none⟩) se.length se.length) (.slice (some ⟨g4, 0, none⟩) du.length du.length) (.slice (some ⟨g5, 0, none⟩) ss.length ss.length) (.slice (some ⟨g6, 0, none⟩) es.length es.length) (.slice (some ⟨g7, 0, none⟩) la.length la.length) x6)) := hide (by rw [unhide HV12]; exact unhide HO12)
  have HZF : Hid (((V11.setCell ⟨w.heap.size + 2, 11, none⟩ (.slice (some ⟨g7, 0, none⟩) la.length la.length)).setCell ⟨w.heap.size + 2, 12, none⟩ (.int .i64 x6)).there (w.heap.size + 1) 0 13) := hide (by rw [unhide HV12]; exact (unhide HZ12).2.1)
  go_wp2_with (first | (refine wpList_loadR _ rfl rfl rfl (unhide HOF) ?_) | (refine wpList_storeR2 _ _ rfl rfl (rC x1 x2 x3 x4 x5 (.slice (some ⟨g1, 0, none⟩) ls.length ls.length) (.slice (some ⟨g2, 0, none⟩) tw.length tw.length) (.slice (some ⟨g3, 0, none⟩) se.length se.length) (.slice (some ⟨g4, 0, none⟩) du.length du.length) (.slice (some ⟨g5, 0, none⟩) ss.length ss.length) (.slice (some ⟨g6, 0, none⟩) es.length es.length) (.slice (some ⟨g7, 0, none⟩) la.length la.length) x6) (rC_ones rfl rfl rfl rfl rfl rfl rfl) rfl rfl (unhide HZF) ?_; rw [unhide HV12]; intro VF raF bbF hsF kkF; have HRF := hide raF; have HBF := hide (bbF _ _ (unhide HB12) (by omega)); have HUF := hide kkF; have hqF := hsF; clear raF bbF hsF kkF))
  refine bodyPost_ret (resultsR rfl _ _ rfl (unhide HRF)) rfl ⟨g1, g2, g3, g4, g5, g6, g7, rfl, unhide HBF, ⟨by omega, by omega, by omega, by omega, by omega, by omega, by omega, by omega⟩, (unhide U1_12).of_block (unhide HUF _ (by omega)), (unhide U2_12).of_block (unhide HUF _ (by omega)), (unhide U3_12).of_block (unhide HUF _ (by omega)), (unhide U4_12).of_block (unhide HUF _ (by omega)), (unhide U5_12).of_block (unhide HUF _ (by omega)), (unhide U6_12).of_block (unhide HUF _ (by omega)), (unhide U7_12).of_block (unhide HUF _ (by omega))⟩
set_option maxHeartbeats 16000000 in
theorem eqR (x1 x2 x3 x4 x5 x6 : Int) (a1 a2 a3 a4 a5 a6 a7 : Option Addr) (c1 c2 c3 c4 c5 c6 c7 : Nat) (b1 b2 b3 b4 b5 b6 b7 : Option Addr) (d1 d2 d3 d4 d5 d6 d7 : Nat) (ls : List Lk.R) (tw : List Tu.R) (se : List Tu.R) (du : List Tu.R) (ss : List So.R) (es : List Tu.R) (la : List Ed.R) (w : World) (hm1 : ls.length ≤ 1048576) (hm2 : tw.length ≤ 1048576) (hm3 : se.length ≤ 1048576) (hm4 : du.length ≤ 1048576) (hm5 : ss.length ≤ 1048576) (hm6 : es.length ≤ 1048576) (hm7 : la.length ≤ 1048576) (hr1 : Lk.RM w a1 ls) (hr2 : Tu.RM w a2 tw) (hr3 : Tu.RM w a3 se) (hr4 : Tu.RM w a4 du) (hr5 : So.RM w a5 ss) (hr6 : Tu.RM w a6 es) (hr7 : Ed.RM w a7 la) (hs1 : Lk.RM w b1 ls) (hs2 : Tu.RM w b2 tw) (hs3 : Tu.RM w b3 se) (hs4 : Tu.RM w b4 du) (hs5 : So.RM w b5 ss) (hs6 : Tu.RM w b6 es) (hs7 : Ed.RM w b7 la) :
    Calls Try.prog 20 #[.agg #[.int .i64 x1, .int .i64 x2, .int .i64 x3, .int .i64 x4, .int .i64 x5, .slice a1 ls.length c1, .slice a2 tw.length c2, .slice a3 se.length c3, .slice a4 du.length c4, .slice a5 ss.length c5, .slice a6 es.length c6, .slice a7 la.length c7, .int .i64 x6], .agg #[.int .i64 x1, .int .i64 x2, .int .i64 x3, .int .i64 x4, .int .i64 x5, .slice b1 ls.length d1, .slice b2 tw.length d2, .slice b3 se.length d3, .slice b4 du.length d4, .slice b5 ss.length d5, .slice b6 es.length d6, .slice b7 la.length d7, .int .i64 x6]] w fun e w' => e = .returned (.bool true) ∧ Below w.heap.size w w' := by
  have HA1 : Hid (Below w.heap.size w (w.alloc (.cells #[.int .i64 x1, .int .i64 x2, .int .i64 x3, .int .i64 x4, .int .i64 x5, .slice a1 ls.length c1, .slice a2 tw.length c2, .slice a3 se.length c3, .slice a4 du.length c4, .slice a5 ss.length c5, .slice a6 es.length c6, .slice a7 la.length c7, .int .i64 x6] 61))) := hide ((Below.refl _ _).alloc (Nat.le_refl _) _)
  have HB0 : Hid (Below w.heap.size w ((w.alloc (.cells #[.int .i64 x1, .int .i64 x2, .int .i64 x3, .int .i64 x4, .int .i64 x5, .slice a1 ls.length c1, .slice a2 tw.length c2, .slice a3 se.length c3, .slice a4 du.length c4, .slice a5 ss.length c5, .slice a6 es.length c6, .slice a7 la.length c7, .int .i64 x6] 61)).alloc (.cells #[.int .i64 x1, .int .i64 x2, .int .i64 x3, .int .i64 x4, .int .i64 x5, .slice b1 ls.length d1, .slice b2 tw.length d2, .slice b3 se.length d3, .slice b4 du.length d4, .slice b5 ss.length d5, .slice b6 es.length d6, .slice b7 la.length d7, .int .i64 x6] 61))) := hide ((unhide HA1).alloc (unhide HA1).size _)
  have HX0 : Hid (RA ((w.alloc (.cells #[.int .i64 x1, .int .i64 x2, .int .i64 x3, .int .i64 x4, .int .i64 x5, .slice a1 ls.length c1, .slice a2 tw.length c2, .slice a3 se.length c3, .slice a4 du.length c4, .slice a5 ss.length c5, .slice a6 es.length c6, .slice a7 la.length c7, .int .i64 x6] 61)).alloc (.cells #[.int .i64 x1, .int .i64 x2, .int .i64 x3, .int .i64 x4, .int .i64 x5, .slice b1 ls.length d1, .slice b2 tw.length d2, .slice b3 se.length d3, .slice b4 du.length d4, .slice b5 ss.length d5, .slice b6 es.length d6, .slice b7 la.length d7, .int .i64 x6] 61)) w.heap.size (rC x1 x2 x3 x4 x5 (.slice a1 ls.length c1) (.slice a2 tw.length c2) (.slice a3 se.length c3) (.slice a4 du.length c4) (.slice a5 ss.length c5) (.slice a6 es.length c6) (.slice a7 la.length c7) x6)) := hide ((ra_new w _ rfl _).below ((Below.refl _ _).alloc (Nat.le_refl _) _))
  have HY0 : Hid (RA ((w.alloc (.cells #[.int .i64 x1, .int .i64 x2, .int .i64 x3, .int .i64 x4, .int .i64 x5, .slice a1 ls.length c1, .slice a2 tw.length c2, .slice a3 se.length c3, .slice a4 du.length c4, .slice a5 ss.length c5, .slice a6 es.length c6, .slice a7 la.length c7, .int .i64 x6] 61)).alloc (.cells #[.int .i64 x1, .int .i64 x2, .int .i64 x3, .int .i64 x4, .int .i64 x5, .slice b1 ls.length d1, .slice b2 tw.length d2, .slice b3 se.length d3, .slice b4 du.length d4, .slice b5 ss.length d5, .slice b6 es.length d6, .slice b7 la.length d7, .int .i64 x6] 61)) (w.heap.size + 1) (rC x1 x2 x3 x4 x5 (.slice b1 ls.length d1) (.slice b2 tw.length d2) (.slice b3 se.length d3) (.slice b4 du.length d4) (.slice b5 ss.length d5) (.slice b6 es.length d6) (.slice b7 la.length d7) x6)) := hide (by have := ra_new (w.alloc (.cells #[.int .i64 x1, .int .i64 x2, .int .i64 x3, .int .i64 x4, .int .i64 x5, .slice a1 ls.length c1, .slice a2 tw.length c2, .slice a3 se.length c3, .slice a4 du.length c4, .slice a5 ss.length c5, .slice a6 es.length c6, .slice a7 la.length c7, .int .i64 x6] 61)) (rC x1 x2 x3 x4 x5 (.slice b1 ls.length d1) (.slice b2 tw.length d2) (.slice b3 se.length d3) (.slice b4 du.length d4) (.slice b5 ss.length d5) (.slice b6 es.length d6) (.slice b7 la.length d7) x6) rfl 61; rw [show (w.alloc (.cells #[.int .i64 x1, .int .i64 x2, .int .i64 x3, .int .i64 x4, .int .i64 x5, .slice a1 ls.length c1, .slice a2 tw.length c2, .slice a3 se.length c3, .slice a4 du.length c4, .slice a5 ss.length c5, .slice a6 es.length c6, .slice a7 la.length c7, .int .i64 x6] 61)).heap.size = w.heap.size + 1 by simp] at this; exact this)
  have HR1 := hide hr1
  have HS1 := hide hs1
  have HR2 := hide hr2
  have HS2 := hide hs2
  have HR3 := hide hr3
  have HS3 := hide hs3
  have HR4 := hide hr4
  have HS4 := hide hs4
  have HR5 := hide hr5
  have HS5 := hide hs5
  have HR6 := hide hr6
  have HS6 := hide hs6
  have HR7 := hide hr7
  have HS7 := hide hs7
  clear hr1 hs1 hr2 hs2 hr3 hs3 hr4 hs4 hr5 hs5 hr6 hs6 hr7 hs7 HA1
  have hx1 : (x1 != x1) = false := by simp
  have hx2 : (x2 != x2) = false := by simp
  have hx3 : (x3 != x3) = false := by simp
  have hx4 : (x4 != x4) = false := by simp
  have hx5 : (x5 != x5) = false := by simp
  have hx6 : (x6 != x6) = false := by simp
  go_enter Try.func20, Try.ntmps20
  go_wp2_with fail
  generalize hW : ((w.alloc (.cells #[.int .i64 x1, .int .i64 x2, .int .i64 x3, .int .i64 x4, .int .i64 x5, .slice a1 ls.length c1, .slice a2 tw.length c2, .slice a3 se.length c3, .slice a4 du.length c4, .slice a5 ss.length c5, .slice a6 es.length c6, .slice a7 la.length c7, .int .i64 x6] 61)).alloc (.cells #[.int .i64 x1, .int .i64 x2, .int .i64 x3, .int .i64 x4, .int .i64 x5, .slice b1 ls.length d1, .slice b2 tw.length d2, .slice b3 se.length d3, .slice b4 du.length d4, .slice b5 ss.length d5, .slice b6 es.length d6, .slice b7 la.length d7, .int .i64 x6] 61)) = V0 at *
  clear hW
  refine (Lk.eqS a1 b1 ls c1 d1 _ hm1 ((unhide HR1).below (unhide HB0)) ((unhide HS1).below (unhide HB0))).mono ?_
  rintro e V1 ⟨rfl, d_⟩
  have HB1 := hide ((unhide HB0).trans (d_.mono (unhide HB0).size))
  have HX1 := hide ((unhide HX0).below d_)
  have HY1 := hide ((unhide HY0).below d_)
  clear d_ HX0 HY0
  have z6 := (unhide HX1).at (i := 6) rfl
  have y6 := (unhide HY1).at (i := 6) rfl
  go_wp2_with fail
  clear z6 y6
  refine (Tu.eqS a2 b2 tw c2 d2 _ hm2 ((unhide HR2).below (unhide HB1)) ((unhide HS2).below (unhide HB1))).mono ?_
  rintro e V2 ⟨rfl, d_⟩
  have HB2 := hide ((unhide HB1).trans (d_.mono (unhide HB1).size))
  have HX2 := hide ((unhide HX1).below d_)
  have HY2 := hide ((unhide HY1).below d_)
  clear d_ HX1 HY1
  have z7 := (unhide HX2).at (i := 7) rfl
  have y7 := (unhide HY2).at (i := 7) rfl
  go_wp2_with fail
  clear z7 y7
  refine (Tu.eqS a3 b3 se c3 d3 _ hm3 ((unhide HR3).below (unhide HB2)) ((unhide HS3).below (unhide HB2))).mono ?_
  rintro e V3 ⟨rfl, d_⟩
  have HB3 := hide ((unhide HB2).trans (d_.mono (unhide HB2).size))
  have HX3 := hide ((unhide HX2).below d_)
  have HY3 := hide ((unhide HY2).below d_)
  clear d_ HX2 HY2
  have z8 := (unhide HX3).at (i := 8) rfl
  have y8 := (unhide HY3).at (i := 8) rfl
  go_wp2_with fail
  clear z8 y8
  refine (Tu.eqS a4 b4 du c4 d4 _ hm4 ((unhide HR4).below (unhide HB3)) ((unhide HS4).below (unhide HB3))).mono ?_
  rintro e V4 ⟨rfl, d_⟩
  have HB4 := hide ((unhide HB3).trans (d_.mono (unhide HB3).size))
  have HX4 := hide ((unhide HX3).below d_)
  have HY4 := hide ((unhide HY3).below d_)
  clear d_ HX3 HY3
  have z9 := (unhide HX4).at (i := 9) rfl
  have y9 := (unhide HY4).at (i := 9) rfl
  have z10 := (unhide HX4).at (i := 10) rfl
  have y10 := (unhide HY4).at (i := 10) rfl
  go_wp2_with fail
  clear z9 y9 z10 y10
  refine (Tq.eq a5 ss c5 a6 es c6 b5 d5 b6 d6 _ hm5 hm6 ((unhide HR5).below (unhide HB4)) ((unhide HR6).below (unhide HB4)) ((unhide HS5).below (unhide HB4)) ((unhide HS6).below (unhide HB4))).mono ?_
  rintro e V5 ⟨rfl, d_⟩
  have HB5 := hide ((unhide HB4).trans (d_.mono (unhide HB4).size))
  have HX5 := hide ((unhide HX4).below d_)
  have HY5 := hide ((unhide HY4).below d_)
  clear d_ HX4 HY4
  have z11 := (unhide HX5).at (i := 11) rfl
  have y11 := (unhide HY5).at (i := 11) rfl
  go_wp2_with fail
  clear z11 y11
  refine (Ed.eqS a7 b7 la c7 d7 _ hm7 ((unhide HR7).below (unhide HB5)) ((unhide HS7).below (unhide HB5))).mono ?_
  rintro e V6 ⟨rfl, d_⟩
  have HB6 := hide ((unhide HB5).trans (d_.mono (unhide HB5).size))
  have HX6 := hide ((unhide HX5).below d_)
  have HY6 := hide ((unhide HY5).below d_)
  clear d_ HX5 HY5
  have z12 := (unhide HX6).at (i := 12) rfl
  have y12 := (unhide HY6).at (i := 12) rfl
  go_wp2_with fail
  go_ret
  exact ⟨rfl, unhide HB6⟩
end Rt
end Go.Proofs.Ytilphgfjgeoiaaa
