/-
  Proved here: for every router, laws.FnExactRouterRoutes returns true (the program's RouterRoutes answers as its model, leaves its argument alone, and answers in memory of its own), and leaves what came in as it was. No condition. (The walk is written by mkrtlaw.py.)
-/
import Derived.Test.YtilphgfjgeoiaaaGreatQa9
import Derived.Deep.DeepHandedRow
namespace Go.Proofs.YtilphgfjgeoiaaaGreat.fnExactRouterRoutes
open Go.ChangeShapes Go.WideShapes Go.ChangeAt Go.RowKit
open W1 Rt
set_option linter.unusedVariables false
set_option linter.unusedSimpArgs false
theorem own : ownKnob Tryz.prog.godebug = none := by kernel_rfl
theorem laidOut : laidOutB Tryz.prog = true := by kernel_rfl
set_option maxRecDepth 100000 in
set_option maxHeartbeats 32000000 in
theorem walk (x1 x2 x3 x4 x5 x6 : Int) (a1 a2 a3 a4 a5 a6 a7 : Option Addr) (c1 c2 c3 c4 c5 c6 c7 : Nat) (ls : List Lk.R) (tw : List Tu.R) (se : List Tu.R) (du : List Tu.R) (ss : List So.R) (es : List Tu.R) (la : List Ed.R) (hx1 : ls.length ≤ maxLen) (hx2 : tw.length ≤ maxLen) (hx3 : se.length ≤ maxLen) (hx4 : du.length ≤ maxLen) (hx5 : ss.length ≤ maxLen) (hx6 : es.length ≤ maxLen) (hx7 : la.length ≤ maxLen) (w : World) (hr1 : Lk.RM w a1 ls) (hr2 : Tu.RM w a2 tw) (hr3 : Tu.RM w a3 se) (hr4 : Tu.RM w a4 du) (hr5 : So.RM w a5 ss) (hr6 : Tu.RM w a6 es) (hr7 : Ed.RM w a7 la) :
    Calls Tryz.prog 5 #[.agg #[.int .i64 x1, .int .i64 x2, .int .i64 x3, .int .i64 x4, .int .i64 x5, .slice a1 ls.length c1, .slice a2 tw.length c2, .slice a3 se.length c3, .slice a4 du.length c4, .slice a5 ss.length c5, .slice a6 es.length c6, .slice a7 la.length c7, .int .i64 x6]] w fun e w' => e = .returned (.bool true) ∧ Below w.heap.size w w' := by
  have HR1 := hide hr1
  clear hr1
  have HR2 := hide hr2
  clear hr2
  have HR3 := hide hr3
  clear hr3
  have HR4 := hide hr4
  clear hr4
  have HR5 := hide hr5
  clear hr5
  have HR6 := hide hr6
  clear hr6
  have HR7 := hide hr7
  clear hr7
  have Q0 : Hid (RA (w.alloc (.cells #[.int .i64 x1, .int .i64 x2, .int .i64 x3, .int .i64 x4, .int .i64 x5, .slice a1 ls.length c1, .slice a2 tw.length c2, .slice a3 se.length c3, .slice a4 du.length c4, .slice a5 ss.length c5, .slice a6 es.length c6, .slice a7 la.length c7, .int .i64 x6] 29)) w.heap.size (rC x1 x2 x3 x4 x5 (.slice a1 ls.length c1) (.slice a2 tw.length c2) (.slice a3 se.length c3) (.slice a4 du.length c4) (.slice a5 ss.length c5) (.slice a6 es.length c6) (.slice a7 la.length c7) x6)) := hide (ra_new w _ rfl _)
  obtain ⟨w1, hw1⟩ : ∃ w1, w.alloc (.cells #[.int .i64 x1, .int .i64 x2, .int .i64 x3, .int .i64 x4, .int .i64 x5, .slice a1 ls.length c1, .slice a2 tw.length c2, .slice a3 se.length c3, .slice a4 du.length c4, .slice a5 ss.length c5, .slice a6 es.length c6, .slice a7 la.length c7, .int .i64 x6] 29) = w1 := ⟨_, rfl⟩
  have B1 : Below w.heap.size w w1 := by rw [← hw1]; exact (Below.refl _ _).alloc (Nat.le_refl _) _
  have Q1 : Hid (RA w1 w.heap.size (rC x1 x2 x3 x4 x5 (.slice a1 ls.length c1) (.slice a2 tw.length c2) (.slice a3 se.length c3) (.slice a4 du.length c4) (.slice a5 ss.length c5) (.slice a6 es.length c6) (.slice a7 la.length c7) x6)) := hide (by rw [← hw1]; exact unhide Q0)
  have hq1 : w.heap.size < w1.heap.size := (unhide Q1).lt
  have HW1 := hide hw1
  clear hw1
  go_enter Tryz.func5, Tryz.ntmps5
  go_wp2_with (refine wpList_loadL _ rfl rfl rfl (unhide Q0) ?_)
  rw [unhide HW1]
  clear Q0
  refine (szR x1 x2 x3 x4 x5 x6 a1 a2 a3 a4 a5 a6 a7 ls.length tw.length se.length du.length ss.length es.length la.length c1 c2 c3 c4 c5 c6 c7 1048576 _ (by omega) (by omega) hx1 hx2 hx3 hx4 hx5 hx6 hx7).mono ?_
  rintro e w2 ⟨r2, rfl, b2, hr01⟩
  have B2 := B1.trans (b2.mono B1.size)
  have sz2 : w1.heap.size ≤ w2.heap.size := b2.size
  have Q2 := hide ((unhide Q1).below b2)
  clear Q1
  rcases hr01 with hr0 | ⟨hr0, hr1⟩
  · go_wp2_with fail
    go_ret
    exact ⟨rfl, B2⟩
  have hnn : ¬ r2 < 0 := by omega
  have hml1 : ls.length ≤ 1048576 := by omega
  have hml2 : tw.length ≤ 1048576 := by omega
  have hml3 : se.length ≤ 1048576 := by omega
  have hml4 : du.length ≤ 1048576 := by omega
  have hml5 : ss.length ≤ 1048576 := by omega
  have hml6 : es.length ≤ 1048576 := by omega
  have hml7 : la.length ≤ 1048576 := by omega
  clear hr1 hr0 hx1 hx2 hx3 hx4 hx5 hx6 hx7
  obtain ⟨bb, hbb⟩ : ∃ bb, rtrB x1 x2 x3 x4 x5 x6 ls tw se du ss es la = bb := ⟨_, rfl⟩
  have HBB := hide hbb
  have hol := rr_len x1 x5 ls es bb
  obtain ⟨RR, hRR⟩ : ∃ RR, rrA x1 x5 ls es bb = RR := ⟨_, rfl⟩
  rw [hRR] at hol
  have HRR := hide hRR
  obtain ⟨cd, hcd⟩ : ∃ cd, rtrC bb = cd := ⟨_, rfl⟩
  have HCD := hide hcd
  have hne : (cd != cd) = false := by simp
  have hol8 : RR.length ≤ 1048576 := by omega
  clear hbb hRR hcd
  go_wp2_with (refine wpList_loadL _ rfl rfl rfl (unhide Q2) ?_)
  refine (toRL x1 x2 x3 x4 x5 x6 a1 a2 a3 a4 a5 a6 a7 c1 c2 c3 c4 c5 c6 c7 ls tw se du ss es la _ hml1 hml2 hml3 hml4 hml5 hml6 hml7 ((unhide HR1).below B2) ((unhide HR2).below B2) ((unhide HR3).below B2) ((unhide HR4).below B2) ((unhide HR5).below B2) ((unhide HR6).below B2) ((unhide HR7).below B2)).mono ?_
  rintro e w3 ⟨g1_3, g2_3, g3_3, g4_3, g5_3, g6_3, g7_3, rfl, b3, l3⟩
  have B3 := B2.trans (b3.mono B2.size)
  have sz3 : w2.heap.size ≤ w3.heap.size := b3.size
  have Q3 := hide ((unhide Q2).below b3)
  clear Q2
  have S3 := hide l3
  clear l3
  go_wp2_with fail
  refine (specRR x1 x2 x3 x4 x5 x6 _ _ _ _ _ _ _ _ _ _ _ _ _ _ ls tw se du ss es la _ hml1 hml2 hml3 hml4 hml5 hml6 hml7 (unhide S3).r1 (unhide S3).r2 (unhide S3).r3 (unhide S3).r4 (unhide S3).r5 (unhide S3).r6 (unhide S3).r7).mono ?_
  rintro e w4 ⟨v4, rfl, b4, l4⟩
  have B4 := B3.trans (b4.mono B3.size)
  have sz4 : w3.heap.size ≤ w4.heap.size := b4.size
  have Q4 := hide ((unhide Q3).below b4)
  have S4 := hide ((unhide S3).below b4)
  clear Q3 S3
  rw [unhide HBB, unhide HRR] at l4
  rw [unhide HBB, unhide HCD]
  obtain ⟨ra4, rc4, rfl, L4⟩ := l4
  have W4 := hide L4
  clear L4
  clear S4
  go_wp2_with (refine wpList_loadL _ rfl rfl rfl (unhide Q4) ?_)
  refine (toRL x1 x2 x3 x4 x5 x6 a1 a2 a3 a4 a5 a6 a7 c1 c2 c3 c4 c5 c6 c7 ls tw se du ss es la _ hml1 hml2 hml3 hml4 hml5 hml6 hml7 ((unhide HR1).below B4) ((unhide HR2).below B4) ((unhide HR3).below B4) ((unhide HR4).below B4) ((unhide HR5).below B4) ((unhide HR6).below B4) ((unhide HR7).below B4)).mono ?_
  rintro e w5 ⟨g1_5, g2_5, g3_5, g4_5, g5_5, g6_5, g7_5, rfl, b5, l5⟩
  have B5 := B4.trans (b5.mono B4.size)
  have sz5 : w4.heap.size ≤ w5.heap.size := b5.size
  have Q5 := hide ((unhide Q4).below b5)
  have W5 := hide ((unhide W4).below b5)
  clear Q4 W4
  have X5 := hide l5
  clear l5
  go_wp2_with (first | (refine wpList_storeR _ _ rfl rfl (rC x1 x2 x3 x4 x5 (.slice (some ⟨g1_5, 0, none⟩) ls.length ls.length) (.slice (some ⟨g2_5, 0, none⟩) tw.length tw.length) (.slice (some ⟨g3_5, 0, none⟩) se.length se.length) (.slice (some ⟨g4_5, 0, none⟩) du.length du.length) (.slice (some ⟨g5_5, 0, none⟩) ss.length ss.length) (.slice (some ⟨g6_5, 0, none⟩) es.length es.length) (.slice (some ⟨g7_5, 0, none⟩) la.length la.length) x6) (rC_ones rfl rfl rfl rfl rfl rfl rfl) rfl rfl (ra_new w5 (rC 0 0 0 0 0 (.slice none 0 0) (.slice none 0 0) (.slice none 0 0) (.slice none 0 0) (.slice none 0 0) (.slice none 0 0) (.slice none 0 0) 0) rfl 43).2.1 ?_; intro w6 ra bb hs; have V6 := hide ra; have b6 : Below w5.heap.size w5 w6 := bb _ _ (bel_alloc (Below.refl w5.heap.size w5) (.cells (rC 0 0 0 0 0 (.slice none 0 0) (.slice none 0 0) (.slice none 0 0) (.slice none 0 0) (.slice none 0 0) (.slice none 0 0) (.slice none 0 0) 0).toArray 43)) (Nat.le_refl _); have B6 := B5.trans (b6.mono B5.size); have sz6 : w5.heap.size ≤ w6.heap.size := b6.size; have sy6 : w6.heap.size = w5.heap.size + 1 := (by rw [hs]; simp); have Q6 := hide ((unhide Q5).below b6); have W6 := hide ((unhide W5).below b6); have X6 := hide ((unhide X5).below b6); clear ra bb hs) | (refine wpList_loadR _ rfl rfl rfl (unhide V6) ?_))
  clear Q5 W5 X5
  refine (implRR x1 x2 x3 x4 x5 x6 _ _ _ _ _ _ _ _ _ _ _ _ _ _ ls tw se du ss es la _ hml1 hml2 hml3 hml4 hml5 hml6 hml7 (unhide X6).r1 (unhide X6).r2 (unhide X6).r3 (unhide X6).r4 (unhide X6).r5 (unhide X6).r6 (unhide X6).r7).mono ?_
  rintro e w7 ⟨v7, rfl, b7, l7⟩
  have B7 := B6.trans (b7.mono B6.size)
  have sz7 : w6.heap.size ≤ w7.heap.size := b7.size
  have Q7 := hide ((unhide Q6).below b7)
  have W7 := hide ((unhide W6).below b7)
  have X7 := hide ((unhide X6).below b7)
  have V7 := hide ((unhide V6).below b7)
  clear Q6 W6 X6 V6
  rw [unhide HBB, unhide HRR] at l7
  rw [unhide HBB, unhide HCD]
  obtain ⟨ra7, rc7, rfl, L7⟩ := l7
  have G7 := hide L7
  clear L7
  go_wp2_with fail
  refine (Ro.eqS _ _ RR _ _ _ hol8 (unhide G7).rm (unhide W7).rm).mono ?_
  rintro e w8 ⟨rfl, b8⟩
  have B8 := B7.trans (b8.mono B7.size)
  have sz8 : w7.heap.size ≤ w8.heap.size := b8.size
  have Q8 := hide ((unhide Q7).below b8)
  have W8 := hide ((unhide W7).below b8)
  have X8 := hide ((unhide X7).below b8)
  have V8 := hide ((unhide V7).below b8)
  have G8 := hide ((unhide G7).below b8)
  clear Q7 W7 X7 V7 G7
  go_wp2_with fail
  refine wp_region_noPanic ?_
  refine wp_region_held_drew (S := fun w' => RA w' w5.heap.size (rC x1 x2 x3 x4 x5 (.slice (some ⟨g1_5, 0, none⟩) ls.length ls.length) (.slice (some ⟨g2_5, 0, none⟩) tw.length tw.length) (.slice (some ⟨g3_5, 0, none⟩) se.length se.length) (.slice (some ⟨g4_5, 0, none⟩) du.length du.length) (.slice (some ⟨g5_5, 0, none⟩) ss.length ss.length) (.slice (some ⟨g6_5, 0, none⟩) es.length es.length) (.slice (some ⟨g7_5, 0, none⟩) la.length la.length) x6) ∧ RA w' w.heap.size (rC x1 x2 x3 x4 x5 (.slice a1 ls.length c1) (.slice a2 tw.length c2) (.slice a3 se.length c3) (.slice a4 du.length c4) (.slice a5 ss.length c5) (.slice a6 es.length c6) (.slice a7 la.length c7) x6)) (by kernel_rfl) (⟨(unhide V8).drew, (unhide Q8).drew⟩) (fun hHeld => ?_)
  (refine Rg.tk (i := 0) (d := 41) (v := .agg (rC x1 x2 x3 x4 x5 (.slice (some ⟨g1_5, 0, none⟩) ls.length ls.length) (.slice (some ⟨g2_5, 0, none⟩) tw.length tw.length) (.slice (some ⟨g3_5, 0, none⟩) se.length se.length) (.slice (some ⟨g4_5, 0, none⟩) du.length du.length) (.slice (some ⟨g5_5, 0, none⟩) ss.length ss.length) (.slice (some ⟨g6_5, 0, none⟩) es.length es.length) (.slice (some ⟨g7_5, 0, none⟩) la.length la.length) x6).toArray) rfl rfl (by kernel_rfl) (by kernel_rfl) (by kernel_rfl) (fun _ _ _ h => h) (by rfl) (fun w0 hSw => run_execR _ rfl rfl hSw.1) (by assumption) ?_; (try simp only [Act.put, List.setIfInBounds_toArray, List.set_cons_zero, List.set_cons_succ]))
  (refine Rg.tk (i := 1) (d := 42) (v := .agg (rC x1 x2 x3 x4 x5 (.slice a1 ls.length c1) (.slice a2 tw.length c2) (.slice a3 se.length c3) (.slice a4 du.length c4) (.slice a5 ss.length c5) (.slice a6 es.length c6) (.slice a7 la.length c7) x6).toArray) rfl rfl (by kernel_rfl) (by kernel_rfl) (by kernel_rfl) (fun _ _ _ h => h) (by rfl) (fun w0 hSw => run_execL _ rfl rfl hSw.2) (by assumption) ?_; (try simp only [Act.put, List.setIfInBounds_toArray, List.set_cons_zero, List.set_cons_succ]))
  (refine wpAnyH_ready (rs := [2]) (by kernel_rfl) (by simp) ?_; refine AllReadyH.cons (o := _) rfl (fun K hK => ?_) AllReadyH.nil; go_simp)
  refine (toRL x1 x2 x3 x4 x5 x6 a1 a2 a3 a4 a5 a6 a7 c1 c2 c3 c4 c5 c6 c7 ls tw se du ss es la _ hml1 hml2 hml3 hml4 hml5 hml6 hml7 ((unhide HR1).below B8.drew) ((unhide HR2).below B8.drew) ((unhide HR3).below B8.drew) ((unhide HR4).below B8.drew) ((unhide HR5).below B8.drew) ((unhide HR6).below B8.drew) ((unhide HR7).below B8.drew)).mono ?_
  rintro e w9 ⟨g1_9, g2_9, g3_9, g4_9, g5_9, g6_9, g7_9, rfl, b9_, l9⟩
  have b9 : Below w8.heap.size w8 w9 := (Below.refl _ _).drew.trans b9_
  clear b9_
  have B9 := B8.trans (b9.mono B8.size)
  have sz9 : w8.heap.size ≤ w9.heap.size := b9.size
  have Q9 := hide ((unhide Q8).below b9)
  have W9 := hide ((unhide W8).below b9)
  have X9 := hide ((unhide X8).below b9)
  have V9 := hide ((unhide V8).below b9)
  have G9 := hide ((unhide G8).below b9)
  clear Q8 W8 X8 V8 G8
  clear hHeld
  have Y9 := hide l9
  clear l9
  refine hK.out _ _ (⟨unhide V9, unhide Q9⟩) (fun hHeld => ?_)
  clear hK K
  (try simp only [Act.put, List.setIfInBounds_toArray, List.set_cons_zero, List.set_cons_succ])
  (refine wpAnyH_ready (rs := [3]) (by kernel_rfl) (by simp) ?_; refine AllReadyH.cons (o := _) rfl (fun K hK => ?_) AllReadyH.nil; go_simp)
  refine (eqR x1 x2 x3 x4 x5 x6 _ _ _ _ _ _ _  _ _ _ _ _ _ _  _ _ _ _ _ _ _  _ _ _ _ _ _ _  ls tw se du ss es la _ hml1 hml2 hml3 hml4 hml5 hml6 hml7 (unhide X9).r1 (unhide X9).r2 (unhide X9).r3 (unhide X9).r4 (unhide X9).r5 (unhide X9).r6 (unhide X9).r7 (unhide Y9).r1 (unhide Y9).r2 (unhide Y9).r3 (unhide Y9).r4 (unhide Y9).r5 (unhide Y9).r6 (unhide Y9).r7).mono ?_
  rintro e w10 ⟨rfl, b10⟩
  have B10 := B9.trans (b10.mono B9.size)
  have sz10 : w9.heap.size ≤ w10.heap.size := b10.size
  have Q10 := hide ((unhide Q9).below b10)
  have W10 := hide ((unhide W9).below b10)
  have X10 := hide ((unhide X9).below b10)
  have V10 := hide ((unhide V9).below b10)
  have G10 := hide ((unhide G9).below b10)
  have Y10 := hide ((unhide Y9).below b10)
  clear Q9 W9 X9 V9 G9 Y9
  clear hHeld
  clear Y10
  refine hK.out _ _ (⟨unhide V10, unhide Q10⟩) (fun hHeld => ?_)
  clear hK K
  (try simp only [Act.put, List.setIfInBounds_toArray, List.set_cons_zero, List.set_cons_succ])
  (refine Rg.tk (i := 4) (d := 45) (v := ?_) rfl rfl (by kernel_rfl) (by kernel_rfl) (by kernel_rfl) (fun _ _ _ h => h) (by rfl) ?_ (by assumption) ?_; rotate_left; (focus (intro w0 hSw; (try dsimp only at hSw); go_simp; (try with_reducible rfl))); (try simp only [Act.put, List.setIfInBounds_toArray, List.set_cons_zero, List.set_cons_succ]))
  refine wpAnyH_done (by kernel_rfl) (NoPanic.normal ?_) _
  clear hHeld
  go_wp2_with (refine wpList_loadR _ rfl rfl rfl (unhide V10) ?_)
  refine (markRL x1 x2 x3 x4 x5 x6 _ _ _ _ _ _ _  _ _ _ _ _ _ _  (w4.heap.size) (w5.heap.size) 1 ls tw se du ss es la _ (by omega) (by omega) hml1 hml2 hml3 hml4 hml5 hml6 hml7 (by omega) (unhide X10)).mono ?_
  rintro e w11 ⟨kk11, rfl, hkk11, sz11, b11, k11⟩
  have sB11 := B10.size
  have B11 := B10.trans (b11.mono (by omega))
  have hpk11 : ¬ kk11 < 0 := by have := unhide hkk11; omega
  have Q11 := hide ((unhide Q10).but (k11 _ (unhide Q10).lt (by omega)))
  have W11 := hide ((unhide W10).but (p := fun k => k < w4.heap.size ∨ w5.heap.size ≤ k) sz11 (fun k hk h => k11 k hk h) (fun k h1 h2 => by omega))
  have V11 := hide ((unhide V10).but (k11 _ (unhide V10).lt (by omega)))
  have G11 := hide ((unhide G10).but (p := fun k => k < w4.heap.size ∨ w5.heap.size ≤ k) sz11 (fun k hk h => k11 k hk h) (fun k h1 h2 => by omega))
  clear Q10 W10 X10 V10 G10 k11 b11 hkk11
  clear V11
  go_wp2_with fail
  refine (Ro.eqS _ _ RR _ _ _ hol8 (unhide G11).rm (unhide W11).rm).mono ?_
  rintro e w12 ⟨rfl, b12⟩
  have B12 := B11.trans (b12.mono B11.size)
  have sz12 : w11.heap.size ≤ w12.heap.size := b12.size
  have Q12 := hide ((unhide Q11).below b12)
  have W12 := hide ((unhide W11).below b12)
  have G12 := hide ((unhide G11).below b12)
  clear Q11 W11 G11
  go_wp2_with fail
  refine (Ro.markF _ _ _ _ 1 RR _ (by omega) (by omega) hol8 (unhide G12)).mono ?_
  rintro e w13 ⟨rfl, sz13, b13, f13, k13⟩
  have sB13 := B12.size
  have B13 := B12.trans (b13.mono (by omega))
  have Q13 := hide ((unhide Q12).but (k13 _ (unhide Q12).lt (by omega)))
  have W13 := hide ((unhide W12).but (p := fun k => k < w6.heap.size ∨ w7.heap.size ≤ k) sz13 (fun k hk h => k13 k hk h) (fun k h1 h2 => by omega))
  have M13 := hide f13
  clear Q12 W12 G12 f13 k13 b13
  have hpm : ¬ (1 + 4 * (RR.length : Int) < 0) := by omega
  go_wp2_with fail
  refine (Ro.heldF _ _ RR.length _ _ 1 _ (by omega) (by omega) hol8 (unhide M13)).mono ?_
  rintro e wh ⟨rfl, hwh⟩
  rw [hwh]
  clear hwh wh
  go_wp2_with (refine wpList_loadL _ rfl rfl rfl (unhide Q13) ?_)
  refine (toRL x1 x2 x3 x4 x5 x6 a1 a2 a3 a4 a5 a6 a7 c1 c2 c3 c4 c5 c6 c7 ls tw se du ss es la _ hml1 hml2 hml3 hml4 hml5 hml6 hml7 ((unhide HR1).below B13) ((unhide HR2).below B13) ((unhide HR3).below B13) ((unhide HR4).below B13) ((unhide HR5).below B13) ((unhide HR6).below B13) ((unhide HR7).below B13)).mono ?_
  rintro e w14 ⟨g1_14, g2_14, g3_14, g4_14, g5_14, g6_14, g7_14, rfl, b14, l14⟩
  have B14 := B13.trans (b14.mono B13.size)
  have sz14 : w13.heap.size ≤ w14.heap.size := b14.size
  have Q14 := hide ((unhide Q13).below b14)
  have W14 := hide ((unhide W13).below b14)
  have M14 := hide ((unhide M13).below b14)
  clear Q13 W13 M13
  have Z14 := hide l14
  clear l14
  go_wp2_with fail
  refine (implRR x1 x2 x3 x4 x5 x6 _ _ _ _ _ _ _ _ _ _ _ _ _ _ ls tw se du ss es la _ hml1 hml2 hml3 hml4 hml5 hml6 hml7 (unhide Z14).r1 (unhide Z14).r2 (unhide Z14).r3 (unhide Z14).r4 (unhide Z14).r5 (unhide Z14).r6 (unhide Z14).r7).mono ?_
  rintro e w15 ⟨v15, rfl, b15, l15⟩
  have B15 := B14.trans (b15.mono B14.size)
  have sz15 : w14.heap.size ≤ w15.heap.size := b15.size
  have Q15 := hide ((unhide Q14).below b15)
  have W15 := hide ((unhide W14).below b15)
  have M15 := hide ((unhide M14).below b15)
  have Z15 := hide ((unhide Z14).below b15)
  clear Q14 W14 M14 Z14
  rw [unhide HBB, unhide HRR] at l15
  rw [unhide HBB, unhide HCD]
  obtain ⟨ra15, rc15, rfl, L15⟩ := l15
  have H15 := hide L15
  clear L15
  go_wp2_with fail
  refine (Ro.eqS _ _ RR _ _ _ hol8 (unhide H15).rm (unhide W15).rm).mono ?_
  rintro e w16 ⟨rfl, b16⟩
  have B16 := B15.trans (b16.mono B15.size)
  have sz16 : w15.heap.size ≤ w16.heap.size := b16.size
  have Q16 := hide ((unhide Q15).below b16)
  have W16 := hide ((unhide W15).below b16)
  have M16 := hide ((unhide M15).below b16)
  have Z16 := hide ((unhide Z15).below b16)
  have H16 := hide ((unhide H15).below b16)
  clear Q15 W15 M15 Z15 H15
  go_wp2_with fail
  refine (Ro.heldF _ _ RR.length _ _ 1 _ (by omega) (by omega) hol8 (unhide M16)).mono ?_
  rintro e wh ⟨rfl, hwh⟩
  rw [hwh]
  clear hwh wh
  have HF := hide B16
  go_wp2_with fail
  go_ret
  exact ⟨rfl, unhide HF⟩

set_option maxRecDepth 100000 in
theorem lifted (os : Os) (started : os.Started) (H : Type) (enc : TypeId × Value → H) :
    ReturnsInHanded {} Tryz.checked os 5 .any (Rows.fnExactRouterRoutesSpec.pre6 enc Tryz.prog Tryz.f5 Rows.fnExactRouterRoutesRow.domain false) (Rows.fnExactRouterRoutesSpec.post enc Tryz.prog Tryz.f5 false true false false) := by
  refine returnsInHanded_of_change (C := Tryz.checked) own started (by kernel_rfl) Tryz.func5
    (ChangeSpec.witness6 (enc := enc) (C := Tryz.checked) false ⟨#[], #[.agg #[.int .i64 0, .int .i64 0, .int .i64 0, .int .i64 0, .int .i64 0, .slice none 0 0, .slice none 0 0, .slice none 0 0, .slice none 0 0, .slice none 0 0, .slice none 0 0, .slice none 0 0, .int .i64 0]], []⟩ 8 (by kernel_rfl) (by kernel_rfl) (by kernel_rfl) (by kernel_rfl)) ?_
  intro W base args ds gs before hval0 hW hcnd _
  have hval : ∀ (j : Nat) t v, Tryz.f5.params[j]? = some t → args[j]? = some v → Value.okWide Tryz.prog W .any base t v := hval0
  have hW' := hW
  obtain ⟨p, q, hA0, hV, rfl, hfz, hnd⟩ := hW
  have hA : DataW.TrodAll enc Tryz.prog W 0 (fun _ => true) true Tryz.f5.params.toList args.toList ds p := hA0
  rw [Tryz.params5] at hA hval
  obtain ⟨v0, vs0, d0, ds0, p0, q0, hargs0, rfl, rfl, h0, r0⟩ := trodAll_cons hA
  obtain ⟨rfl, rfl, rfl⟩ := trodAll_nil r0
  obtain rfl : args = #[v0] := by cases args; simp_all
  obtain ⟨rfl, rfl⟩ := trodVars_none hV
  have k0 := h0
  have lt0 : ∀ x ∈ p0, x.block < W.heap.size := by obtain ⟨m, hm⟩ := k0; exact DataW.trod_lt m _ _ _ hm
  obtain ⟨xi1_0, xi2_0, xi3_0, xi4_0, xi5_0, xi6_0, ai1_0, ai2_0, ai3_0, ai4_0, ai5_0, ai6_0, ai7_0, ci1_0, ci2_0, ci3_0, ci4_0, ci5_0, ci6_0, ci7_0, li1_0, li2_0, li3_0, li4_0, li5_0, li6_0, li7_0, rfl, ⟨hj1_0, hj2_0, hj3_0, hj4_0, hj5_0, hj6_0, hj7_0⟩, hrd1_0, hrd2_0, hrd3_0, hrd4_0, hrd5_0, hrd6_0, hrd7_0⟩ := Rt.open_rtr (hval 0 29 v0 rfl rfl) h0
  clear hA0 hval0
  refine (walk xi1_0 xi2_0 xi3_0 xi4_0 xi5_0 xi6_0 ai1_0 ai2_0 ai3_0 ai4_0 ai5_0 ai6_0 ai7_0 ci1_0 ci2_0 ci3_0 ci4_0 ci5_0 ci6_0 ci7_0 li1_0 li2_0 li3_0 li4_0 li5_0 li6_0 li7_0 hj1_0 hj2_0 hj3_0 hj4_0 hj5_0 hj6_0 hj7_0 W hrd1_0 hrd2_0 hrd3_0 hrd4_0 hrd5_0 hrd6_0 hrd7_0).mono fun e W' ⟨he, bel⟩ => ?_
  subst he
  exact ⟨_, rfl, _, _, _, [], _, [], hW', trodAll_mk1 (shut_bool Tryz.underlying4 _), (trodAll_cons_mk (Below.trod laidOut (by kernel_rfl) (of_decide_eq_true (by kernel_rfl)) k0 bel lt0) trodAll_mk0), rfl, bel.frame _, fun h => by cases h⟩

theorem over : Rows.fnExactRouterRoutesRow.holds Tryz.pinned (OpenSpec.ofChange Rows.fnExactRouterRoutesSpec) :=
  OpenClaim.holds_of_wide 5 Tryz.f5 rfl rfl rfl rfl rfl rfl rfl ⟨rfl, rfl, rfl, rfl, rfl⟩ rfl rfl rfl rfl rfl (by kernel_rfl) Tryz.func5 (by kernel_rfl)
    (of_decide_eq_true (by kernel_rfl)) (by unfold Func.isWrapper; first | (rw [if_pos (by decide +kernel)]; kernel_rfl) | (rw [if_neg (by decide +kernel)]; exact ⟨rfl, rfl⟩))
    (fun os started H enc _ => lifted os started H enc)
end Go.Proofs.YtilphgfjgeoiaaaGreat.fnExactRouterRoutes
namespace Go.Proofs.YtilphgfjgeoiaaaGreat
/-- At every router the program's RouterRoutes answers as its model. -/
theorem fnExactRouterRoutes_holds : Rows.FnExactRouterRoutesSaid := fnExactRouterRoutes.over
end Go.Proofs.YtilphgfjgeoiaaaGreat
