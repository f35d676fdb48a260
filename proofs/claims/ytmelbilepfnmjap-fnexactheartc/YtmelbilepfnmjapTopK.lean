/-
  The model's HearTc.
-/
import Derived.Test.YtmelbilepfnmjapTopJ
import Derived.Test.YtmelbilepfnmjapTopL
import Derived.Test.YtmelbilepfnmjapTopZ
namespace Go.Proofs.Ytmelbilepfnmjap
open Go.ChangeShapes Go.WideShapes Go.ChangeAt Go.RowKit
set_option linter.unusedVariables false
set_option linter.unusedSimpArgs false
set_option maxRecDepth 100000
attribute [local go_sem ↓] Go.wp_at_zero Go.wp_at_succ
namespace Tp
open W1 Tu St Tw
set_option maxHeartbeats 8000000 in
theorem specHear (g0 o0 : Nat) (ss : List So.R) (ca h0 p0 : Nat) (es : List R) (cb : Nat) (frm now an valid : Int) (c : Option Addr) (ns : List Ed.R) (cn : Nat) (w : World) (hca : ss.length ≤ ca) (hm : ss.length ≤ 1048576) (hl : es.length ≤ 1048576) (hn : ns.length ≤ 1048576) (hr : So.RM w (some ⟨g0, o0, none⟩) ss) (hr' : RM w (some ⟨h0, p0, none⟩) es) (hr2 : Ed.RM w c ns) :
    Calls Try.prog 23 #[.agg #[.slice (some ⟨g0, o0, none⟩) ss.length ca, .slice (some ⟨h0, p0, none⟩) es.length cb], .int .i64 frm, .int .i64 now, .agg #[.int .i64 an, .int .i64 valid, .slice c ns.length cn]] w fun e w' => ∃ v, e = .returned (.tuple #[v, .int .i64 (hearC ss es frm now an valid ns)]) ∧ Below w.heap.size w w' ∧ TLst w' v (hearS ss es frm now an valid ns) (hearE ss es frm now an valid ns) w.heap.size w'.heap.size := by
  have HA2 : Hid (Below w.heap.size w ((w.alloc (.cells #[.slice (some ⟨g0, o0, none⟩) ss.length ca, .slice (some ⟨h0, p0, none⟩) es.length cb] 42)).alloc (.cells #[.int .i64 an, .int .i64 valid, .slice c ns.length cn] 54))) := hide (((Below.refl _ _).alloc (Nat.le_refl _) _).alloc ((Below.refl w.heap.size w).alloc (Nat.le_refl _) _).size _)
  have HA : Hid (Below w.heap.size w (((w.alloc (.cells #[.slice (some ⟨g0, o0, none⟩) ss.length ca, .slice (some ⟨h0, p0, none⟩) es.length cb] 42)).alloc (.cells #[.int .i64 an, .int .i64 valid, .slice c ns.length cn] 54)).alloc (.cells #[.slice none 0 0, .slice none 0 0] 42))) := hide ((unhide HA2).alloc (unhide HA2).size _)
  have HX : Hid (Bx2 (((w.alloc (.cells #[.slice (some ⟨g0, o0, none⟩) ss.length ca, .slice (some ⟨h0, p0, none⟩) es.length cb] 42)).alloc (.cells #[.int .i64 an, .int .i64 valid, .slice c ns.length cn] 54)).alloc (.cells #[.slice none 0 0, .slice none 0 0] 42)) w.heap.size (.slice (some ⟨g0, o0, none⟩) ss.length ca) (.slice (some ⟨h0, p0, none⟩) es.length cb)) := hide (((bx2_new w _ _ _).below ((Below.refl _ _).alloc (Nat.le_refl _) _)).below ((Below.refl _ _).alloc (Nat.le_refl _) _))
  have HY : Hid (Bx3 (((w.alloc (.cells #[.slice (some ⟨g0, o0, none⟩) ss.length ca, .slice (some ⟨h0, p0, none⟩) es.length cb] 42)).alloc (.cells #[.int .i64 an, .int .i64 valid, .slice c ns.length cn] 54)).alloc (.cells #[.slice none 0 0, .slice none 0 0] 42)) (w.heap.size + 1) an valid (.slice c ns.length cn)) := hide (by have := (bx3_new (w.alloc (.cells #[.slice (some ⟨g0, o0, none⟩) ss.length ca, .slice (some ⟨h0, p0, none⟩) es.length cb] 42)) an valid (.slice c ns.length cn) 54).below ((Below.refl _ _).alloc (Nat.le_refl _) (.cells #[.slice none 0 0, .slice none 0 0] 42)); rw [show (w.alloc (.cells #[.slice (some ⟨g0, o0, none⟩) ss.length ca, .slice (some ⟨h0, p0, none⟩) es.length cb] 42)).heap.size = w.heap.size + 1 by simp] at this; exact this)
  have HZ : Hid (TV (((w.alloc (.cells #[.slice (some ⟨g0, o0, none⟩) ss.length ca, .slice (some ⟨h0, p0, none⟩) es.length cb] 42)).alloc (.cells #[.int .i64 an, .int .i64 valid, .slice c ns.length cn] 54)).alloc (.cells #[.slice none 0 0, .slice none 0 0] 42)) (w.heap.size + 2) (.slice none 0 0) (.slice none 0 0)) := hide (by have := tv_new ((w.alloc (.cells #[.slice (some ⟨g0, o0, none⟩) ss.length ca, .slice (some ⟨h0, p0, none⟩) es.length cb] 42)).alloc (.cells #[.int .i64 an, .int .i64 valid, .slice c ns.length cn] 54)) (.slice none 0 0) (.slice none 0 0); rw [show ((w.alloc (.cells #[.slice (some ⟨g0, o0, none⟩) ss.length ca, .slice (some ⟨h0, p0, none⟩) es.length cb] 42)).alloc (.cells #[.int .i64 an, .int .i64 valid, .slice c ns.length cn] 54)).heap.size = w.heap.size + 2 by simp] at this; exact this)
  have HR := hide (hr.below (unhide HA))
  have HE := hide (hr'.below (unhide HA))
  have HN := hide (hr2.below (unhide HA))
  clear hr hr' hr2 HA2
  have hz2 : w.heap.size ≤ w.heap.size + 2 := by omega
  have HLO : Hid (∀ C, hearC ss es frm now an valid ns = C → C ≠ 0 → C ≠ 11 → hearS ss es frm now an valid ns = [] ∧ hearE ss es frm now an valid ns = []) := hide (fun C hC h0 h11 => by unfold hearS hearE; rw [hC, if_neg h0, if_neg h11, if_neg h0, if_neg h11]; exact ⟨rfl, rfl⟩)
  cases h1 : topB ss es
  · have hC : hearC ss es frm now an valid ns = 1 := by unfold hearC; rw [h1]; rfl
    obtain ⟨e1, e2⟩ := unhide HLO 1 hC (by omega) (by omega)
    rw [hC, e1, e2]
    have H1 := hide h1
    clear h1 hC e1 e2
    go_enter Try.func23, Try.ntmps23
    go_wp2_with fail
    refine (specOK _ ss ca _ es cb _ hm hl (unhide HR) (unhide HE)).mono ?_
    rintro e w1 ⟨rfl, b1⟩
    rw [unhide H1]
    have HB1 := hide ((unhide HA).trans (b1.mono (unhide HA).size))
    have HZ1 := hide ((unhide HZ).below b1)
    obtain ⟨x0, x1⟩ := (unhide HZ1).bx
    have f0 := (unhide HZ1).free 0
    have f1 := (unhide HZ1).free 1
    have hs1 := (unhide HB1).size
    clear b1
    go_wp2_with (first | (go_at_call 63; refine (l01Addr _ _).mono ?_; rintro e w' ⟨rfl, rfl⟩) | (go_at_call 64; refine (l01In _ _ _ _).mono ?_; rintro e w' ⟨rfl, rfl⟩))
    refine bodyPost_ret (v := .tuple #[.agg #[.slice none 0 0, .slice none 0 0], .int .i64 1]) (by simp [results, Try.results23, go_sem, x0, x1]) rfl ⟨_, rfl, ?_, tlst_nil _ _ _ _ _ (by simp [World.setCell]; omega)⟩
    have hB := unhide HB1
    (repeat (first | (with_reducible exact hB) | (with_reducible refine Below.drew ?_) | (with_reducible refine Below.setCell ?_ ?_ _; rotate_left; (first | exact Nat.le_refl _ | (simp; done) | (dsimp only; omega))) | (with_reducible refine Below.alloc ?_ ?_ _; rotate_left; (first | exact Nat.le_refl _ | omega | (simp [World.setCell]; omega)))))
  have H1 := hide h1
  cases h3 : Av.tcB an valid ns
  · have hC : hearC ss es frm now an valid ns = 1 := by unfold hearC; rw [h1, h3]; simp
    obtain ⟨e1, e2⟩ := unhide HLO 1 hC (by omega) (by omega)
    rw [hC, e1, e2]
    have H3 := hide h3
    clear h1 h3 hC e1 e2
    go_enter Try.func23, Try.ntmps23
    go_wp2_with fail
    refine (specOK _ ss ca _ es cb _ hm hl (unhide HR) (unhide HE)).mono ?_
    rintro e w1 ⟨rfl, b1⟩
    rw [unhide H1]
    have HB1 := hide ((unhide HA).trans (b1.mono (unhide HA).size))
    have HZ1 := hide ((unhide HZ).below b1)
    have HN1 := hide ((unhide HN).below b1)
    obtain ⟨y0, y1, y2⟩ := (unhide HY).below b1
    clear b1
    go_wp2_with (first | (go_at_call 63; refine (l01Addr _ _).mono ?_; rintro e w' ⟨rfl, rfl⟩) | (go_at_call 64; refine (l01In _ _ _ _).mono ?_; rintro e w' ⟨rfl, rfl⟩))
    refine (Av.specOK an valid c ns cn _ hn (unhide HN1)).mono ?_
    rintro e w2 ⟨rfl, b2⟩
    rw [unhide H3]
    have HB2 := hide ((unhide HB1).trans (b2.mono (unhide HB1).size))
    have HZ2 := hide ((unhide HZ1).below b2)
    obtain ⟨x0, x1⟩ := (unhide HZ2).bx
    have f0 := (unhide HZ2).free 0
    have f1 := (unhide HZ2).free 1
    have hs1 := (unhide HB2).size
    clear b2 y0 y1 y2
    go_wp2_with (first | (go_at_call 63; refine (l01Addr _ _).mono ?_; rintro e w' ⟨rfl, rfl⟩) | (go_at_call 64; refine (l01In _ _ _ _).mono ?_; rintro e w' ⟨rfl, rfl⟩))
    refine bodyPost_ret (v := .tuple #[.agg #[.slice none 0 0, .slice none 0 0], .int .i64 1]) (by simp [results, Try.results23, go_sem, x0, x1]) rfl ⟨_, rfl, ?_, tlst_nil _ _ _ _ _ (by simp [World.setCell]; omega)⟩
    have hB := unhide HB2
    (repeat (first | (with_reducible exact hB) | (with_reducible refine Below.drew ?_) | (with_reducible refine Below.setCell ?_ ?_ _; rotate_left; (first | exact Nat.le_refl _ | (simp; done) | (dsimp only; omega))) | (with_reducible refine Below.alloc ?_ ?_ _; rotate_left; (first | exact Nat.le_refl _ | omega | (simp [World.setCell]; omega)))))
  have H3 := hide h3
  cases h2 : inB frm 1 8
  · have hC : hearC ss es frm now an valid ns = 1 := by unfold hearC; rw [h1, h2]; rfl
    obtain ⟨e1, e2⟩ := unhide HLO 1 hC (by omega) (by omega)
    rw [hC, e1, e2]
    clear h1 h3 hC e1 e2
    go_enter Try.func23, Try.ntmps23
    go_wp2_with fail
    refine (specOK _ ss ca _ es cb _ hm hl (unhide HR) (unhide HE)).mono ?_
    rintro e w1 ⟨rfl, b1⟩
    rw [unhide H1]
    have HB1 := hide ((unhide HA).trans (b1.mono (unhide HA).size))
    have HZ1 := hide ((unhide HZ).below b1)
    have HN1 := hide ((unhide HN).below b1)
    obtain ⟨y0, y1, y2⟩ := (unhide HY).below b1
    clear b1
    go_wp2_with (first | (go_at_call 63; refine (l01Addr _ _).mono ?_; rintro e w' ⟨rfl, rfl⟩) | (go_at_call 64; refine (l01In _ _ _ _).mono ?_; rintro e w' ⟨rfl, rfl⟩))
    refine (Av.specOK an valid c ns cn _ hn (unhide HN1)).mono ?_
    rintro e w2 ⟨rfl, b2⟩
    rw [unhide H3]
    have HB2 := hide ((unhide HB1).trans (b2.mono (unhide HB1).size))
    have HZ2 := hide ((unhide HZ1).below b2)
    obtain ⟨x0, x1⟩ := (unhide HZ2).bx
    have f0 := (unhide HZ2).free 0
    have f1 := (unhide HZ2).free 1
    have hs1 := (unhide HB2).size
    clear b2 y0 y1 y2
    go_wp2_with (first | (go_at_call 63; refine (l01Addr _ _).mono ?_; rintro e w' ⟨rfl, rfl⟩) | (go_at_call 64; refine (l01In _ _ _ _).mono ?_; rintro e w' ⟨rfl, rfl⟩))
    refine bodyPost_ret (v := .tuple #[.agg #[.slice none 0 0, .slice none 0 0], .int .i64 1]) (by simp [results, Try.results23, go_sem, x0, x1]) rfl ⟨_, rfl, ?_, tlst_nil _ _ _ _ _ (by simp [World.setCell]; omega)⟩
    have hB := unhide HB2
    (repeat (first | (with_reducible exact hB) | (with_reducible refine Below.drew ?_) | (with_reducible refine Below.setCell ?_ ?_ _; rotate_left; (first | exact Nat.le_refl _ | (simp; done) | (dsimp only; omega))) | (with_reducible refine Below.alloc ?_ ?_ _; rotate_left; (first | exact Nat.le_refl _ | omega | (simp [World.setCell]; omega)))))
  cases h4 : inB now 0 1000000
  · have hC : hearC ss es frm now an valid ns = 4 := by unfold hearC; simp [h1, h2, h3, h4]
    obtain ⟨e1, e2⟩ := unhide HLO 4 hC (by omega) (by omega)
    rw [hC, e1, e2]
    clear h1 h3 hC e1 e2
    go_enter Try.func23, Try.ntmps23
    go_wp2_with fail
    refine (specOK _ ss ca _ es cb _ hm hl (unhide HR) (unhide HE)).mono ?_
    rintro e w1 ⟨rfl, b1⟩
    rw [unhide H1]
    have HB1 := hide ((unhide HA).trans (b1.mono (unhide HA).size))
    have HZ1 := hide ((unhide HZ).below b1)
    have HN1 := hide ((unhide HN).below b1)
    obtain ⟨y0, y1, y2⟩ := (unhide HY).below b1
    clear b1
    go_wp2_with (first | (go_at_call 63; refine (l01Addr _ _).mono ?_; rintro e w' ⟨rfl, rfl⟩) | (go_at_call 64; refine (l01In _ _ _ _).mono ?_; rintro e w' ⟨rfl, rfl⟩))
    refine (Av.specOK an valid c ns cn _ hn (unhide HN1)).mono ?_
    rintro e w2 ⟨rfl, b2⟩
    rw [unhide H3]
    have HB2 := hide ((unhide HB1).trans (b2.mono (unhide HB1).size))
    have HZ2 := hide ((unhide HZ1).below b2)
    obtain ⟨x0, x1⟩ := (unhide HZ2).bx
    have f0 := (unhide HZ2).free 0
    have f1 := (unhide HZ2).free 1
    have hs1 := (unhide HB2).size
    clear b2 y0 y1 y2
    go_wp2_with (first | (go_at_call 63; refine (l01Addr _ _).mono ?_; rintro e w' ⟨rfl, rfl⟩) | (go_at_call 64; refine (l01In _ _ _ _).mono ?_; rintro e w' ⟨rfl, rfl⟩))
    refine bodyPost_ret (v := .tuple #[.agg #[.slice none 0 0, .slice none 0 0], .int .i64 4]) (by simp [results, Try.results23, go_sem, x0, x1]) rfl ⟨_, rfl, ?_, tlst_nil _ _ _ _ _ (by simp [World.setCell]; omega)⟩
    have hB := unhide HB2
    (repeat (first | (with_reducible exact hB) | (with_reducible refine Below.drew ?_) | (with_reducible refine Below.setCell ?_ ?_ _; rotate_left; (first | exact Nat.le_refl _ | (simp; done) | (dsimp only; omega))) | (with_reducible refine Below.alloc ?_ ?_ _; rotate_left; (first | exact Nat.le_refl _ | omega | (simp [World.setCell]; omega)))))
  have hC : hearC ss es frm now an valid ns = if staleB ss frm an = true then 11 else 0 := by unfold hearC; simp [h1, h2, h3, h4]
  have hf : 1 ≤ frm ∧ frm ≤ 8 := by unfold inB at h2; simpa using h2
  have hnw : 0 ≤ now ∧ now ≤ 1000000 := by unfold inB at h4; simpa using h4
  have hSS : hearS ss es frm now an valid ns = if staleB ss frm an = true then ss else withS ss ⟨frm, an, now + valid⟩ := by
    unfold hearS; rw [hC]; cases staleB ss frm an <;> simp
  have hEE : hearE ss es frm now an valid ns = if staleB ss frm an = true then es else nowE es frm (now + valid) ns := by
    unfold hearE; rw [hC]; cases staleB ss frm an <;> simp
  have hSl := hearS_len ss es frm now an valid ns
  have hEl := hearE_len ss es frm now an valid ns
  rw [hSS] at hSl ⊢
  rw [hEE] at hEl ⊢
  rw [hC]
  clear hC hSS hEE h1 h3
  obtain ⟨S, hS⟩ : ∃ S, (if staleB ss frm an = true then ss else withS ss ⟨frm, an, now + valid⟩) = S := ⟨_, rfl⟩
  obtain ⟨E, hE⟩ : ∃ E, (if staleB ss frm an = true then es else nowE es frm (now + valid) ns) = E := ⟨_, rfl⟩
  obtain ⟨C, hC⟩ : ∃ C : Int, (if staleB ss frm an = true then 11 else 0) = C := ⟨_, rfl⟩
  have HSS := hide hS
  have HEE := hide hE
  have HCC := hide hC
  rw [hS] at hSl ⊢
  rw [hE] at hEl ⊢
  rw [hC]
  clear hS hE hC
  go_enter Try.func23, Try.ntmps23
  go_wp2_with fail
  refine (specOK _ ss ca _ es cb _ hm hl (unhide HR) (unhide HE)).mono ?_
  rintro e w1 ⟨rfl, b1⟩
  rw [unhide H1]
  have HB1 := hide ((unhide HA).trans (b1.mono (unhide HA).size))
  have HX1 := hide ((unhide HX).below b1)
  have HY1 := hide ((unhide HY).below b1)
  have HZ1 := hide ((unhide HZ).below b1)
  have HR1 := hide ((unhide HR).below b1)
  have HE1 := hide ((unhide HE).below b1)
  have HN1 := hide ((unhide HN).below b1)
  clear b1 HX HY HZ HR HE HN HA
  obtain ⟨y0, y1, y2⟩ := unhide HY1
  go_wp2_with (first | (go_at_call 63; refine (l01Addr _ _).mono ?_; rintro e w' ⟨rfl, rfl⟩) | (go_at_call 64; refine (l01In _ _ _ _).mono ?_; rintro e w' ⟨rfl, rfl⟩))
  refine (Av.specOK an valid c ns cn _ hn (unhide HN1)).mono ?_
  rintro e w2 ⟨rfl, b2⟩
  rw [unhide H3]
  have HB2 := hide ((unhide HB1).trans (b2.mono (unhide HB1).size))
  have HX2 := hide ((unhide HX1).below b2)
  have HY2 := hide ((unhide HY1).below b2)
  have HZ2 := hide ((unhide HZ1).below b2)
  have HR2 := hide ((unhide HR1).below b2)
  have HE2 := hide ((unhide HE1).below b2)
  have HN2 := hide ((unhide HN1).below b2)
  clear b2 y0 y1 y2 HX1 HY1 HZ1 HR1 HE1 HN1
  obtain ⟨y0, y1, y2⟩ := unhide HY2
  obtain ⟨z0, z1⟩ := unhide HX2
  go_wp2_with (first | (go_at_call 63; refine (l01Addr _ _).mono ?_; rintro e w' ⟨rfl, rfl⟩) | (go_at_call 64; refine (l01In _ _ _ _).mono ?_; rintro e w' ⟨rfl, rfl⟩))
  clear y0 y1 y2 z0 z1
  refine (l09Hear g0 o0 ss ca h0 p0 es cb frm now an valid c ns cn _ hca (unhide H1) hf hnw (unhide H3) (unhide HR2) (unhide HE2) (unhide HN2)).mono ?_
  rintro e w3 ⟨v3, rfl, b3, rd3⟩
  rw [unhide HSS, unhide HEE] at rd3
  rw [unhide HCC]
  obtain ⟨g, o, cc, h, p, d, rfl, q1, q2, q3⟩ := rd3
  have HB3 := hide ((unhide HB2).trans (b3.mono (unhide HB2).size))
  have HZ3 := hide ((unhide HZ2).below b3)
  have HR3 := hide q2
  have HE3 := hide q3
  clear b3 q1 q2 q3 HX2 HY2 HZ2 HR2 HE2 HN2
  have hal : Below w3.heap.size w3 (w3.alloc (.cells #[.slice (some ⟨g, o, none⟩) S.length cc, .slice (some ⟨h, p, none⟩) E.length d] 42)) := (Below.refl _ _).alloc (Nat.le_refl _) _
  have HB4 := hide ((unhide HB3).trans (hal.mono (unhide HB3).size))
  have HZ4 := hide ((unhide HZ3).below hal)
  have HR4 := hide ((unhide HR3).below hal)
  have HE4 := hide ((unhide HE3).below hal)
  clear hal HZ3 HR3 HE3
  go_wp2_with fail
  generalize hW4 : w3.alloc (.cells #[.slice (some ⟨g, o, none⟩) S.length cc, .slice (some ⟨h, p, none⟩) E.length d] 42) = w4 at *
  clear hW4
  refine (l09Own g o S cc h p E d _ (by omega) (by omega) (unhide HR4) (unhide HE4)).mono ?_
  rintro e w5 ⟨v5, rfl, b5, ow5⟩
  have HB5 := hide ((unhide HB4).trans (b5.mono (unhide HB4).size))
  have HZ5 := hide ((unhide HZ4).below b5)
  obtain ⟨ga, ce, gb, de, mid, rfl, o1, o2, o3, o4⟩ := ow5
  have HOW : Hid (OwT w5 (.agg #[.slice (some ⟨ga, 0, none⟩) S.length ce, .slice (some ⟨gb, 0, none⟩) E.length de]) S E w4.heap.size w5.heap.size) := hide ⟨ga, ce, gb, de, mid, rfl, o1, o2, o3, o4⟩
  have hlt := (unhide HZ4).lt
  clear b5 o1 o2 o3 o4
  obtain ⟨x0, x1⟩ := (unhide HZ5).bx
  have f0 := (unhide HZ5).free 0
  have f1 := (unhide HZ5).free 1
  have HOF := hide (((unhide HOW).set (b := w.heap.size + 2) (i := 0) (u := .slice (some ⟨ga, 0, none⟩) S.length ce) (by omega)).set (b := w.heap.size + 2) (i := 1) (u := .slice (some ⟨gb, 0, none⟩) E.length de) (by omega))
  go_wp2_with fail
  refine bodyPost_ret (v := .tuple #[.agg #[.slice (some ⟨ga, 0, none⟩) S.length ce, .slice (some ⟨gb, 0, none⟩) E.length de], .int .i64 C]) (by simp [results, Try.results23, go_sem, x0, x1]) rfl ⟨_, rfl, ?_, ((unhide HOF).mono (by omega) (by simp [World.setCell])).tl⟩
  have hB := unhide HB5
  (repeat (first | (with_reducible exact hB) | (with_reducible refine Below.drew ?_) | (with_reducible refine Below.setCell ?_ ?_ _; rotate_left; (first | exact Nat.le_refl _ | (simp; done) | (dsimp only; omega))) | (with_reducible refine Below.alloc ?_ ?_ _; rotate_left; (first | exact Nat.le_refl _ | omega | (simp [World.setCell]; omega)))))
end Tp
end Go.Proofs.Ytmelbilepfnmjap
