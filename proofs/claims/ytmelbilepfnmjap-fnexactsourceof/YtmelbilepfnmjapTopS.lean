/-
  SourceOf, the model's and the program's. (written by mktops.py)
-/
import Derived.Test.YtmelbilepfnmjapTopC
namespace Go.Proofs.Ytmelbilepfnmjap
open Go.ChangeShapes Go.WideShapes Go.ChangeAt Go.RowKit
set_option linter.unusedVariables false
set_option linter.unusedSimpArgs false
set_option maxRecDepth 100000
attribute [local go_sem ↓] Go.wp_at_zero Go.wp_at_succ
namespace Tp
open W1 Tu St Tw
theorem sv_put {w : World} {b : Nat} {m : So.R} (h : SV w b m) (x y z : Int) : SV (((w.setCell ⟨b, 0, none⟩ (.int .i64 x)).setCell ⟨b, 1, none⟩ (.int .i64 y)).setCell ⟨b, 2, none⟩ (.int .i64 z)) b ⟨x, y, z⟩ := by
  have h1 := heap_set (i := 0) (.int .i64 x) h
  have h2 := heap_set (i := 1) (.int .i64 y) h1
  exact heap_set (i := 2) (.int .i64 z) h2
set_option maxHeartbeats 4000000 in
theorem specSource (a : Option Addr) (ss : List So.R) (ca : Nat) (b : Option Addr) (es : List R) (cb : Nat) (frm : Int) (w : World) (hm : ss.length ≤ 1048576) (hl : es.length ≤ 1048576) (hr : So.RM w a ss) (hr' : RM w b es) :
    Calls Try.prog 37 #[.agg #[.slice a ss.length ca, .slice b es.length cb], .int .i64 frm] w fun e w' => e = .returned (.tuple #[(srcA ss es frm).value, .int .i64 (srcE ss es frm)]) ∧ Below w.heap.size w w' := by
  have HA0 : Hid (Below w.heap.size w (w.alloc (.cells #[.slice a ss.length ca, .slice b es.length cb] 42))) := hide ((Below.refl _ _).alloc (Nat.le_refl _) _)
  have HA : Hid (Below w.heap.size w ((w.alloc (.cells #[.slice a ss.length ca, .slice b es.length cb] 42)).alloc (.cells #[.int .i64 0, .int .i64 0, .int .i64 0] 67))) := hide ((unhide HA0).alloc (unhide HA0).size _)
  have HX : Hid (Bx2 ((w.alloc (.cells #[.slice a ss.length ca, .slice b es.length cb] 42)).alloc (.cells #[.int .i64 0, .int .i64 0, .int .i64 0] 67)) w.heap.size (.slice a ss.length ca) (.slice b es.length cb)) := hide ((bx2_new w _ _ _).below ((Below.refl _ _).alloc (Nat.le_refl _) _))
  have HV : Hid (SV ((w.alloc (.cells #[.slice a ss.length ca, .slice b es.length cb] 42)).alloc (.cells #[.int .i64 0, .int .i64 0, .int .i64 0] 67)) (w.heap.size + 1) So.R.zero) := hide (by have := sv_new (w.alloc (.cells #[.slice a ss.length ca, .slice b es.length cb] 42)) So.R.zero; rw [show (w.alloc (.cells #[.slice a ss.length ca, .slice b es.length cb] 42)).heap.size = w.heap.size + 1 by simp] at this; exact this)
  have HR := hide (hr.below (unhide HA))
  have HE := hide (hr'.below (unhide HA))
  have hsz : w.heap.size ≤ w.heap.size + 1 := by omega
  clear hr hr' HA0
  cases ht : topB ss es
  · have h1 : srcA ss es frm = So.R.zero := by unfold srcA; rw [if_neg (by rw [ht]; simp)]
    have h2 : srcE ss es frm = 1 := by unfold srcE; rw [if_neg (by rw [ht]; simp)]
    rw [h1, h2]
    have HT := hide ht
    clear h1 h2 ht
    go_enter Try.func37, Try.ntmps37
    go_wp2_with fail
    refine (specOK _ ss ca _ es cb _ hm hl (unhide HR) (unhide HE)).mono ?_
    rintro e w1 ⟨rfl, b1⟩
    rw [unhide HT]
    have HB1 := hide ((unhide HA).trans (b1.mono (unhide HA).size))
    have HX1 := hide ((unhide HX).below b1)
    have HV1 := hide ((unhide HV).below b1)
    have HR1 := hide ((unhide HR).below b1)
    clear b1
    obtain ⟨x0, x1, x2⟩ := (unhide HV1).cells
    simp only [Nat.zero_add] at x1 x2
    have y0 := (unhide HV1).free 0
    have y1 := (unhide HV1).free 1
    have y2 := (unhide HV1).free 2
    unfold So.R.zero at x0 x1 x2
    dsimp only at x0 x1 x2
    go_wp2_with fail
    refine bodyPost_ret (v := .tuple #[.agg #[.int .i64 0, .int .i64 0, .int .i64 0], .int .i64 1]) (by simp [results, Try.results37, go_sem, x0, x1, x2]) rfl ⟨rfl, ?_⟩
    have hB := unhide HB1
    (repeat (first | (with_reducible exact hB) | (with_reducible refine Below.drew ?_) | (with_reducible refine Below.setCell ?_ ?_ _; rotate_left; (first | exact Nat.le_refl _ | (simp; done) | (dsimp only; omega))) | (with_reducible refine Below.alloc ?_ ?_ _; rotate_left; (first | exact Nat.le_refl _ | omega | (simp [World.setCell]; omega)))))
  have h1 : srcA ss es frm = fS ss frm := by unfold srcA; rw [if_pos ht]
  have h2 : srcE ss es frm = if hasS ss frm = true then 0 else 5 := by unfold srcE; rw [if_pos ht]
  rw [h1, h2]
  have HT := hide ht
  have HS := hide (top_src ht)
  have h8 := src_len (top_src ht)
  clear h1 h2 ht
  obtain ⟨qa, qn, qt, hq⟩ : ∃ qa qn qt, fS ss frm = ⟨qa, qn, qt⟩ := ⟨_, _, _, rfl⟩
  have HQV : Hid ((fS ss frm).value = .agg #[.int .i64 qa, .int .i64 qn, .int .i64 qt]) := hide (by rw [hq]; rfl)
  rw [show (fS ss frm).value = .agg #[.int .i64 qa, .int .i64 qn, .int .i64 qt] from unhide HQV]
  cases hh : hasS ss frm
  · have hz := fS_none hh
    rw [hq] at hz
    obtain ⟨rfl, rfl, rfl⟩ : qa = 0 ∧ qn = 0 ∧ qt = 0 := by cases hz; exact ⟨rfl, rfl, rfl⟩
    have HH := hide hh
    clear hz hq hh
    go_enter Try.func37, Try.ntmps37
    go_wp2_with fail
    refine (specOK _ ss ca _ es cb _ hm hl (unhide HR) (unhide HE)).mono ?_
    rintro e w1 ⟨rfl, b1⟩
    rw [unhide HT]
    have HB1 := hide ((unhide HA).trans (b1.mono (unhide HA).size))
    have HX1 := hide ((unhide HX).below b1)
    have HV1 := hide ((unhide HV).below b1)
    have HR1 := hide ((unhide HR).below b1)
    clear b1
    obtain ⟨z0, z1⟩ := unhide HX1
    go_wp2_with fail
    clear z0 z1
    refine (l09Find _ ss ca _ frm _ hm (unhide HR1)).mono ?_
    rintro e w2 ⟨rfl, b2⟩
    rw [unhide HQV, unhide HH]
    have HB2 := hide ((unhide HB1).trans (b2.mono (unhide HB1).size))
    have HV2 := hide ((unhide HV1).below b2)
    have hlt2 := (unhide HV2).lt
    clear b2
    obtain ⟨x0, x1, x2⟩ := (unhide HV2).cells
    simp only [Nat.zero_add] at x1 x2
    have y0 := (unhide HV2).free 0
    have y1 := (unhide HV2).free 1
    have y2 := (unhide HV2).free 2
    unfold So.R.zero at x0 x1 x2
    dsimp only at x0 x1 x2
    have HVF : Hid (SV ((((w2.setCell ⟨w.heap.size + 1, 0, none⟩ (.int .i64 0)).setCell ⟨w.heap.size + 1, 1, none⟩ (.int .i64 0)).setCell ⟨w.heap.size + 1, 2, none⟩ (.int .i64 0)).alloc (.cells #[.int .i64 0, .int .i64 0, .int .i64 0] 67)) (w.heap.size + 1) ⟨0, 0, 0⟩) := hide ((sv_put (unhide HV2) 0 0 0).below ((Below.refl _ _).alloc (Nat.le_refl _) _))
    obtain ⟨v0, v1, v2⟩ := (unhide HVF).cells
    simp only [Nat.zero_add] at v1 v2
    dsimp only at v0 v1 v2
    go_wp2_with fail
    refine bodyPost_ret (v := .tuple #[.agg #[.int .i64 0, .int .i64 0, .int .i64 0], .int .i64 5]) (by simp [results, Try.results37, go_sem, x0, x1, x2, v0, v1, v2]) rfl ⟨rfl, ?_⟩
    have hB := unhide HB2
    (repeat (first | (with_reducible exact hB) | (with_reducible refine Below.drew ?_) | (with_reducible refine Below.setCell ?_ ?_ _; rotate_left; (first | exact Nat.le_refl _ | (simp; done) | (dsimp only; omega))) | (with_reducible refine Below.alloc ?_ ?_ _; rotate_left; (first | exact Nat.le_refl _ | omega | (simp [World.setCell]; omega)))))
  · have HH := hide hh
    clear hq hh
    go_enter Try.func37, Try.ntmps37
    go_wp2_with fail
    refine (specOK _ ss ca _ es cb _ hm hl (unhide HR) (unhide HE)).mono ?_
    rintro e w1 ⟨rfl, b1⟩
    rw [unhide HT]
    have HB1 := hide ((unhide HA).trans (b1.mono (unhide HA).size))
    have HX1 := hide ((unhide HX).below b1)
    have HV1 := hide ((unhide HV).below b1)
    have HR1 := hide ((unhide HR).below b1)
    clear b1
    obtain ⟨z0, z1⟩ := unhide HX1
    go_wp2_with fail
    clear z0 z1
    refine (l09Find _ ss ca _ frm _ hm (unhide HR1)).mono ?_
    rintro e w2 ⟨rfl, b2⟩
    rw [unhide HQV, unhide HH]
    have HB2 := hide ((unhide HB1).trans (b2.mono (unhide HB1).size))
    have HV2 := hide ((unhide HV1).below b2)
    have hlt2 := (unhide HV2).lt
    clear b2
    obtain ⟨x0, x1, x2⟩ := (unhide HV2).cells
    simp only [Nat.zero_add] at x1 x2
    have y0 := (unhide HV2).free 0
    have y1 := (unhide HV2).free 1
    have y2 := (unhide HV2).free 2
    unfold So.R.zero at x0 x1 x2
    dsimp only at x0 x1 x2
    have HVF : Hid (SV ((((w2.setCell ⟨w.heap.size + 1, 0, none⟩ (.int .i64 qa)).setCell ⟨w.heap.size + 1, 1, none⟩ (.int .i64 qn)).setCell ⟨w.heap.size + 1, 2, none⟩ (.int .i64 qt)).alloc (.cells #[.int .i64 qa, .int .i64 qn, .int .i64 qt] 67)) (w.heap.size + 1) ⟨qa, qn, qt⟩) := hide ((sv_put (unhide HV2) qa qn qt).below ((Below.refl _ _).alloc (Nat.le_refl _) _))
    obtain ⟨v0, v1, v2⟩ := (unhide HVF).cells
    simp only [Nat.zero_add] at v1 v2
    dsimp only at v0 v1 v2
    go_wp2_with fail
    refine bodyPost_ret (v := .tuple #[.agg #[.int .i64 qa, .int .i64 qn, .int .i64 qt], .int .i64 0]) (by simp [results, Try.results37, go_sem, x0, x1, x2, v0, v1, v2]) rfl ⟨rfl, ?_⟩
    have hB := unhide HB2
    (repeat (first | (with_reducible exact hB) | (with_reducible refine Below.drew ?_) | (with_reducible refine Below.setCell ?_ ?_ _; rotate_left; (first | exact Nat.le_refl _ | (simp; done) | (dsimp only; omega))) | (with_reducible refine Below.alloc ?_ ?_ _; rotate_left; (first | exact Nat.le_refl _ | omega | (simp [World.setCell]; omega)))))
set_option maxHeartbeats 4000000 in
theorem implSource (a : Option Addr) (ss : List So.R) (ca : Nat) (b : Option Addr) (es : List R) (cb : Nat) (frm : Int) (w : World) (hm : ss.length ≤ 1048576) (hl : es.length ≤ 1048576) (hr : So.RM w a ss) (hr' : RM w b es) :
    Calls Try.prog 38 #[.agg #[.slice a ss.length ca, .slice b es.length cb], .int .i64 frm] w fun e w' => e = .returned (.tuple #[(srcA ss es frm).value, .int .i64 (srcE ss es frm)]) ∧ Below w.heap.size w w' := by
  have HA0 : Hid (Below w.heap.size w (w.alloc (.cells #[.slice a ss.length ca, .slice b es.length cb] 42))) := hide ((Below.refl _ _).alloc (Nat.le_refl _) _)
  have HA : Hid (Below w.heap.size w ((w.alloc (.cells #[.slice a ss.length ca, .slice b es.length cb] 42)).alloc (.cells #[.int .i64 0, .int .i64 0, .int .i64 0] 67))) := hide ((unhide HA0).alloc (unhide HA0).size _)
  have HX : Hid (Bx2 ((w.alloc (.cells #[.slice a ss.length ca, .slice b es.length cb] 42)).alloc (.cells #[.int .i64 0, .int .i64 0, .int .i64 0] 67)) w.heap.size (.slice a ss.length ca) (.slice b es.length cb)) := hide ((bx2_new w _ _ _).below ((Below.refl _ _).alloc (Nat.le_refl _) _))
  have HV : Hid (SV ((w.alloc (.cells #[.slice a ss.length ca, .slice b es.length cb] 42)).alloc (.cells #[.int .i64 0, .int .i64 0, .int .i64 0] 67)) (w.heap.size + 1) So.R.zero) := hide (by have := sv_new (w.alloc (.cells #[.slice a ss.length ca, .slice b es.length cb] 42)) So.R.zero; rw [show (w.alloc (.cells #[.slice a ss.length ca, .slice b es.length cb] 42)).heap.size = w.heap.size + 1 by simp] at this; exact this)
  have HR := hide (hr.below (unhide HA))
  have HE := hide (hr'.below (unhide HA))
  have hsz : w.heap.size ≤ w.heap.size + 1 := by omega
  clear hr hr' HA0
  cases ht : topB ss es
  · have h1 : srcA ss es frm = So.R.zero := by unfold srcA; rw [if_neg (by rw [ht]; simp)]
    have h2 : srcE ss es frm = 1 := by unfold srcE; rw [if_neg (by rw [ht]; simp)]
    rw [h1, h2]
    have HT := hide ht
    clear h1 h2 ht
    go_enter Try.func38, Try.ntmps38
    go_wp2_with fail
    refine (implOK _ ss ca _ es cb _ hm hl (unhide HR) (unhide HE)).mono ?_
    rintro e w1 ⟨rfl, b1⟩
    rw [unhide HT]
    have HB1 := hide ((unhide HA).trans (b1.mono (unhide HA).size))
    have HX1 := hide ((unhide HX).below b1)
    have HV1 := hide ((unhide HV).below b1)
    have HR1 := hide ((unhide HR).below b1)
    clear b1
    obtain ⟨x0, x1, x2⟩ := (unhide HV1).cells
    simp only [Nat.zero_add] at x1 x2
    have y0 := (unhide HV1).free 0
    have y1 := (unhide HV1).free 1
    have y2 := (unhide HV1).free 2
    unfold So.R.zero at x0 x1 x2
    dsimp only at x0 x1 x2
    go_wp2_with fail
    refine bodyPost_ret (v := .tuple #[.agg #[.int .i64 0, .int .i64 0, .int .i64 0], .int .i64 1]) (by simp [results, Try.results38, go_sem, x0, x1, x2]) rfl ⟨rfl, ?_⟩
    have hB := unhide HB1
    (repeat (first | (with_reducible exact hB) | (with_reducible refine Below.drew ?_) | (with_reducible refine Below.setCell ?_ ?_ _; rotate_left; (first | exact Nat.le_refl _ | (simp; done) | (dsimp only; omega))) | (with_reducible refine Below.alloc ?_ ?_ _; rotate_left; (first | exact Nat.le_refl _ | omega | (simp [World.setCell]; omega)))))
  have h1 : srcA ss es frm = fS ss frm := by unfold srcA; rw [if_pos ht]
  have h2 : srcE ss es frm = if hasS ss frm = true then 0 else 5 := by unfold srcE; rw [if_pos ht]
  rw [h1, h2]
  have HT := hide ht
  have HS := hide (top_src ht)
  have h8 := src_len (top_src ht)
  clear h1 h2 ht
  have HU := hide (up_src (unhide HS))
  have hht := has_there (unhide HU) frm
  cases hh : thereS ss frm
  · rw [hh] at hht
    have hz := fS_none hht
    rw [hz, hht]
    have HH := hide hh
    clear hz hh hht
    go_enter Try.func38, Try.ntmps38
    go_wp2_with fail
    refine (implOK _ ss ca _ es cb _ hm hl (unhide HR) (unhide HE)).mono ?_
    rintro e w1 ⟨rfl, b1⟩
    rw [unhide HT]
    have HB1 := hide ((unhide HA).trans (b1.mono (unhide HA).size))
    have HX1 := hide ((unhide HX).below b1)
    have HV1 := hide ((unhide HV).below b1)
    have HR1 := hide ((unhide HR).below b1)
    clear b1
    obtain ⟨z0, z1⟩ := unhide HX1
    go_wp2_with fail
    clear z0 z1
    refine (sourcePlace _ ss ca frm _ (unhide HR1) (unhide HU) (by omega)).mono ?_
    rintro e w2 ⟨rfl, b2⟩
    rw [unhide HH]
    have HB2 := hide ((unhide HB1).trans (b2.mono (unhide HB1).size))
    have HV2 := hide ((unhide HV1).below b2)
    have HX2 := hide ((unhide HX1).below b2)
    have HR2 := hide ((unhide HR1).below b2)
    clear b2
    obtain ⟨x0, x1, x2⟩ := (unhide HV2).cells
    simp only [Nat.zero_add] at x1 x2
    have y0 := (unhide HV2).free 0
    have y1 := (unhide HV2).free 1
    have y2 := (unhide HV2).free 2
    unfold So.R.zero at x0 x1 x2
    dsimp only at x0 x1 x2
    go_wp2_with fail
    refine bodyPost_ret (v := .tuple #[.agg #[.int .i64 0, .int .i64 0, .int .i64 0], .int .i64 5]) (by simp [results, Try.results38, go_sem, x0, x1, x2]) rfl ⟨rfl, ?_⟩
    have hB := unhide HB2
    (repeat (first | (with_reducible exact hB) | (with_reducible refine Below.drew ?_) | (with_reducible refine Below.setCell ?_ ?_ _; rotate_left; (first | exact Nat.le_refl _ | (simp; done) | (dsimp only; omega))) | (with_reducible refine Below.alloc ?_ ?_ _; rotate_left; (first | exact Nat.le_refl _ | omega | (simp [World.setCell]; omega)))))
  · rw [hh] at hht
    have hp : placeS ss frm < ss.length := by unfold thereS at hh; rw [Bool.and_eq_true] at hh; exact of_decide_eq_true hh.1
    rw [fS_there (unhide HU) hh, hht]
    have HH := hide hh
    clear hh hht
    obtain ⟨p, hpe⟩ : ∃ p, placeS ss frm = p := ⟨_, rfl⟩
    rw [hpe] at hp ⊢
    have HP := hide hpe
    clear hpe
    have k0 : (0 : Int) ≤ (p : Int) := by omega
    have k1 : (p : Int) < (ss.length : Int) := by omega
    obtain ⟨g, off, rfl⟩ := (unhide HR).form (by omega)
    obtain ⟨m, hmm⟩ : ∃ m, ss.getD p So.R.zero = m := ⟨_, rfl⟩
    have HM := hide hmm
    rw [hmm]
    clear hmm
    obtain ⟨qa, qn, qt⟩ := m
    go_enter Try.func38, Try.ntmps38
    go_wp2_with fail
    refine (implOK _ ss ca _ es cb _ hm hl (unhide HR) (unhide HE)).mono ?_
    rintro e w1 ⟨rfl, b1⟩
    rw [unhide HT]
    have HB1 := hide ((unhide HA).trans (b1.mono (unhide HA).size))
    have HX1 := hide ((unhide HX).below b1)
    have HV1 := hide ((unhide HV).below b1)
    have HR1 := hide ((unhide HR).below b1)
    clear b1
    obtain ⟨z0, z1⟩ := unhide HX1
    go_wp2_with fail
    clear z0 z1
    refine (sourcePlace _ ss ca frm _ (unhide HR1) (unhide HU) (by omega)).mono ?_
    rintro e w2 ⟨rfl, b2⟩
    rw [unhide HH, unhide HP]
    have HB2 := hide ((unhide HB1).trans (b2.mono (unhide HB1).size))
    have HV2 := hide ((unhide HV1).below b2)
    have HX2 := hide ((unhide HX1).below b2)
    have HR2 := hide ((unhide HR1).below b2)
    clear b2
    obtain ⟨x0, x1, x2⟩ := (unhide HV2).cells
    simp only [Nat.zero_add] at x1 x2
    have y0 := (unhide HV2).free 0
    have y1 := (unhide HV2).free 1
    have y2 := (unhide HV2).free 2
    unfold So.R.zero at x0 x1 x2
    dsimp only at x0 x1 x2
    have hA := (unhide HR2).at hp
    rw [unhide HM] at hA
    obtain ⟨c0, c1, c2⟩ := hA
    dsimp only at c0 c1 c2
    obtain ⟨z0, z1⟩ := unhide HX2
    go_wp2_with fail
    refine bodyPost_ret (v := .tuple #[.agg #[.int .i64 qa, .int .i64 qn, .int .i64 qt], .int .i64 0]) (by simp [results, Try.results38, go_sem, x0, x1, x2]) rfl ⟨rfl, ?_⟩
    have hB := unhide HB2
    (repeat (first | (with_reducible exact hB) | (with_reducible refine Below.drew ?_) | (with_reducible refine Below.setCell ?_ ?_ _; rotate_left; (first | exact Nat.le_refl _ | (simp; done) | (dsimp only; omega))) | (with_reducible refine Below.alloc ?_ ?_ _; rotate_left; (first | exact Nat.le_refl _ | omega | (simp [World.setCell]; omega)))))
end Tp
end Go.Proofs.Ytmelbilepfnmjap
