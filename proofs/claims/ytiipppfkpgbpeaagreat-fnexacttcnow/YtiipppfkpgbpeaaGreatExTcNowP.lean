/-
  Proved here: for every router, laws.FnExactTcNow returns true (the program's TcNow answers as its model, leaves its argument alone, and answers in memory of its own), and leaves what came in as it was. No condition. (The walk is written by mkrtlaw.py.)
-/
import Derived.Test.YtiipppfkpgbpeaaGreatQc9
import Derived.Deep.DeepHandedRow
import Derived.Deep.Cut
namespace Go.Proofs.YtiipppfkpgbpeaaGreat.fnExactTcNow
open Go.ChangeShapes Go.WideShapes Go.ChangeAt Go.RowKit
open W1 Rt
set_option linter.unusedVariables false
set_option linter.unusedSimpArgs false
theorem own : ownKnob Tryz.prog.godebug = none := by kernel_rfl
theorem laidOut : laidOutB Tryz.prog = true := by kernel_rfl
set_option maxRecDepth 100000 in
set_option maxHeartbeats 32000000 in
theorem walk (x1 x2 x3 x4 x5 x6 : Int) (a1 a2 a3 a4 a5 a6 a7 : Option Addr) (c1 c2 c3 c4 c5 c6 c7 : Nat) (ls : List Lk.R) (tw : List Tu.R) (se : List Tu.R) (du : List Tu.R) (ss : List So.R) (es : List Tu.R) (la : List Ed.R) (hx1 : ls.length ≤ maxLen) (hx2 : tw.length ≤ maxLen) (hx3 : se.length ≤ maxLen) (hx4 : du.length ≤ maxLen) (hx5 : ss.length ≤ maxLen) (hx6 : es.length ≤ maxLen) (hx7 : la.length ≤ maxLen) (w : World) (hr1 : Lk.RM w a1 ls) (hr2 : Tu.RM w a2 tw) (hr3 : Tu.RM w a3 se) (hr4 : Tu.RM w a4 du) (hr5 : So.RM w a5 ss) (hr6 : Tu.RM w a6 es) (hr7 : Ed.RM w a7 la) :
    Calls Tryz.prog 6 #[.agg #[.int .i64 x1, .int .i64 x2, .int .i64 x3, .int .i64 x4, .int .i64 x5, .slice a1 ls.length c1, .slice a2 tw.length c2, .slice a3 se.length c3, .slice a4 du.length c4, .slice a5 ss.length c5, .slice a6 es.length c6, .slice a7 la.length c7, .int .i64 x6]] w fun e w' => e = .returned (.bool true) ∧ Below w.heap.size w w' := by
  have HR1 := hide hr1
  clear hr1
  have HR2 := hide hr2
  clear hr2
  have HR3 := hide hr3
  clear hr3
  have HR4 := hide hr4
  clear hr4
  have HR5 := hide hr5
  clear hr5
  have HR6 := hide hr6
  clear hr6
  have HR7 := hide hr7
  clear hr7
  have Q0 : Hid (RA (w.alloc (.cells #[.int .i64 x1, .int .i64 x2, .int .i64 x3, .int .i64 x4, .int .i64 x5, .slice a1 ls.length c1, .slice a2 tw.length c2, .slice a3 se.length c3, .slice a4 du.length c4, .slice a5 ss.length c5, .slice a6 es.length c6, .slice a7 la.length c7, .int .i64 x6] 29)) w.heap.size (rC x1 x2 x3 x4 x5 (.slice a1 ls.length c1) (.slice a2 tw.length c2) (.slice a3 se.length c3) (.slice a4 du.length c4) (.slice a5 ss.length c5) (.slice a6 es.length c6) (.slice a7 la.length c7) x6)) := hide (ra_new w _ rfl _)
  obtain ⟨w1, hw1⟩ : ∃ w1, w.alloc (.cells #[.int .i64 x1, .int .i64 x2, .int .i64 x3, .int .i64 x4, .int .i64 x5, .slice a1 ls.length c1, .slice a2 tw.length c2, .slice a3 se.length c3, .slice a4 du.length c4, .slice a5 ss.length c5, .slice a6 es.length c6, .slice a7 la.length c7, .int .i64 x6] 29) = w1 := ⟨_, rfl⟩
  have B1 : Below w.heap.size w w1 := by rw [← hw1]; exact (Below.refl _ _).alloc (Nat.le_refl _) _
  have Q1 : Hid (RA w1 w.heap.size (rC x1 x2 x3 x4 x5 (.slice a1 ls.length c1) (.slice a2 tw.length c2) (.slice a3 se.length c3) (.slice a4 du.length c4) (.slice a5 ss.length c5) (.slice a6 es.length c6) (.slice a7 la.length c7) x6)) := hide (by rw [← hw1]; exact unhide Q0)
  have hq1 : w.heap.size < w1.heap.size := (unhide Q1).lt
  have HW1 := hide hw1
  clear hw1
  go_enter Tryz.func6, Tryz.ntmps6
  go_wp2_with (refine wpList_loadL _ rfl rfl rfl (unhide Q0) ?_)
  rw [unhide HW1]
  clear Q0
  refine (szR x1 x2 x3 x4 x5 x6 a1 a2 a3 a4 a5 a6 a7 ls.length tw.length se.length du.length ss.length es.length la.length c1 c2 c3 c4 c5 c6 c7 1048576 _ (by omega) (by omega) hx1 hx2 hx3 hx4 hx5 hx6 hx7).mono ?_
  rintro e w2 ⟨r2, rfl, b2, hr01⟩
  have B2 := B1.trans (b2.mono B1.size)
  have sz2 : w1.heap.size ≤ w2.heap.size := b2.size
  have Q2 := hide ((unhide Q1).below b2)
  clear Q1
  rcases hr01 with hr0 | ⟨hr0, hr1⟩
  · go_wp2_with fail
    go_ret
    exact ⟨rfl, B2⟩
  have hnn : ¬ r2 < 0 := by omega
  have hml1 : ls.length ≤ 1048576 := by omega
  have hml2 : tw.length ≤ 1048576 := by omega
  have hml3 : se.length ≤ 1048576 := by omega
  have hml4 : du.length ≤ 1048576 := by omega
  have hml5 : ss.length ≤ 1048576 := by omega
  have hml6 : es.length ≤ 1048576 := by omega
  have hml7 : la.length ≤ 1048576 := by omega
  clear hr1 hr0 hx1 hx2 hx3 hx4 hx5 hx6 hx7
  have KS := hide (fun h1 h2 h3 h4 h5 h6 h7 c1 c2 c3 c4 c5 c6 c7 W r1 r2 r3 r4 r5 r6 r7 => specTN x1 x2 x3 x4 x5 x6 h1 h2 h3 h4 h5 h6 h7 c1 c2 c3 c4 c5 c6 c7 ls tw se du ss es la W hml1 hml2 hml3 hml4 hml5 hml6 hml7 r1 r2 r3 r4 r5 r6 r7)
  have KI := hide (fun h1 h2 h3 h4 h5 h6 h7 c1 c2 c3 c4 c5 c6 c7 W r1 r2 r3 r4 r5 r6 r7 => implTN x1 x2 x3 x4 x5 x6 h1 h2 h3 h4 h5 h6 h7 c1 c2 c3 c4 c5 c6 c7 ls tw se du ss es la W hml1 hml2 hml3 hml4 hml5 hml6 hml7 r1 r2 r3 r4 r5 r6 r7)
  obtain ⟨bb, hbb⟩ : ∃ bb, rtrB x1 x2 x3 x4 x5 x6 ls tw se du ss es la = bb := ⟨_, rfl⟩
  rw [hbb] at KS KI
  clear hbb
  have hAL := adv_len ls x5
  obtain ⟨AA, hAA⟩ : ∃ AA, advL ls x5 = AA := ⟨_, rfl⟩
  rw [hAA] at KS KI hAL
  clear hAA
  obtain ⟨NN, hNN⟩ : ∃ NN, advN AA la x4 = NN := ⟨_, rfl⟩
  rw [hNN] at KS KI
  clear hNN
  obtain ⟨y1, hy1⟩ : ∃ y, tnX bb x1 = y := ⟨_, rfl⟩
  rw [hy1] at KS KI
  clear hy1
  obtain ⟨y2, hy2⟩ : ∃ y, tnX bb x2 = y := ⟨_, rfl⟩
  rw [hy2] at KS KI
  clear hy2
  obtain ⟨y3, hy3⟩ : ∃ y, tnX bb x3 = y := ⟨_, rfl⟩
  rw [hy3] at KS KI
  clear hy3
  obtain ⟨y4, hy4⟩ : ∃ y, tnX bb NN = y := ⟨_, rfl⟩
  rw [hy4] at KS KI
  clear hy4
  obtain ⟨y5, hy5⟩ : ∃ y, tnX bb x5 = y := ⟨_, rfl⟩
  rw [hy5] at KS KI
  clear hy5
  obtain ⟨y6, hy6⟩ : ∃ y, tnX bb x6 = y := ⟨_, rfl⟩
  rw [hy6] at KS KI
  clear hy6
  obtain ⟨y7, hy7⟩ : ∃ y, tnX bb 15 = y := ⟨_, rfl⟩
  rw [hy7] at KS KI
  clear hy7
  have hq1 := tnL_len bb ls
  obtain ⟨m1, hm1⟩ : ∃ m, tnL bb ls = m := ⟨_, rfl⟩
  rw [hm1] at KS KI hq1
  clear hm1
  replace hq1 : m1.length ≤ 1048576 := by omega
  have hq2 := tnL_len bb tw
  obtain ⟨m2, hm2⟩ : ∃ m, tnL bb tw = m := ⟨_, rfl⟩
  rw [hm2] at KS KI hq2
  clear hm2
  replace hq2 : m2.length ≤ 1048576 := by omega
  have hq3 := tnL_len bb se
  obtain ⟨m3, hm3⟩ : ∃ m, tnL bb se = m := ⟨_, rfl⟩
  rw [hm3] at KS KI hq3
  clear hm3
  replace hq3 : m3.length ≤ 1048576 := by omega
  have hq4 := tnL_len bb du
  obtain ⟨m4, hm4⟩ : ∃ m, tnL bb du = m := ⟨_, rfl⟩
  rw [hm4] at KS KI hq4
  clear hm4
  replace hq4 : m4.length ≤ 1048576 := by omega
  have hq5 := tnL_len bb ss
  obtain ⟨m5, hm5⟩ : ∃ m, tnL bb ss = m := ⟨_, rfl⟩
  rw [hm5] at KS KI hq5
  clear hm5
  replace hq5 : m5.length ≤ 1048576 := by omega
  have hq6 := tnL_len bb es
  obtain ⟨m6, hm6⟩ : ∃ m, tnL bb es = m := ⟨_, rfl⟩
  rw [hm6] at KS KI hq6
  clear hm6
  replace hq6 : m6.length ≤ 1048576 := by omega
  have hq7 := tnL_len bb AA
  obtain ⟨m7, hm7⟩ : ∃ m, tnL bb AA = m := ⟨_, rfl⟩
  rw [hm7] at KS KI hq7
  clear hm7
  replace hq7 : m7.length ≤ 1048576 := by omega
  obtain ⟨cd, hcd⟩ : ∃ cd, rtrC bb = cd := ⟨_, rfl⟩
  rw [hcd] at KS KI
  clear hcd
  have hne : (cd != cd) = false := by simp
  clear hAL
  go_wp2_with (refine wpList_loadL _ rfl rfl rfl (unhide Q2) ?_)
  refine (toRL x1 x2 x3 x4 x5 x6 a1 a2 a3 a4 a5 a6 a7 c1 c2 c3 c4 c5 c6 c7 ls tw se du ss es la _ hml1 hml2 hml3 hml4 hml5 hml6 hml7 ((unhide HR1).below B2) ((unhide HR2).below B2) ((unhide HR3).below B2) ((unhide HR4).below B2) ((unhide HR5).below B2) ((unhide HR6).below B2) ((unhide HR7).below B2)).mono ?_
  rintro e w3 ⟨g1_3, g2_3, g3_3, g4_3, g5_3, g6_3, g7_3, rfl, b3, l3⟩
  have B3 := B2.trans (b3.mono B2.size)
  have sz3 : w2.heap.size ≤ w3.heap.size := b3.size
  have Q3 := hide ((unhide Q2).below b3)
  clear Q2
  have S3 := hide l3
  clear l3
  go_wp2_with fail
  refine (unhide KS _ _ _ _ _ _ _ _ _ _ _ _ _ _ _ (unhide S3).r1 (unhide S3).r2 (unhide S3).r3 (unhide S3).r4 (unhide S3).r5 (unhide S3).r6 (unhide S3).r7).mono ?_
  rintro e w4 ⟨b1_4, b2_4, b3_4, b4_4, b5_4, b6_4, b7_4, d1_4, d2_4, d3_4, d4_4, d5_4, d6_4, d7_4, ta4, tc4, t04, t14, rfl, b4, s4, l4, p04, p14, p24⟩
  have B4 := B3.trans (b4.mono B3.size)
  have sz4 : w3.heap.size ≤ w4.heap.size := b4.size
  have Q4 := hide ((unhide Q3).below b4)
  have S4 := hide ((unhide S3).below b4)
  clear Q3 S3
  have W4 := hide s4
  have WT4 := hide l4
  clear s4 l4
  clear S4
  have be5 : Below w4.heap.size w4 ((w4.alloc (.cells #[.int .i64 0, .int .i64 0, .int .i64 0, .int .i64 0, .int .i64 0, .slice none 0 0, .slice none 0 0, .slice none 0 0, .slice none 0 0, .slice none 0 0, .slice none 0 0, .slice none 0 0, .int .i64 0] 38)).alloc (.cells #[.int .i64 0, .int .i64 0, .slice none 0 0] 59)) := ((Below.refl _ _).alloc (Nat.le_refl _) _).alloc (by simp) _
  have HSE5 : Hid (((w4.alloc (.cells #[.int .i64 0, .int .i64 0, .int .i64 0, .int .i64 0, .int .i64 0, .slice none 0 0, .slice none 0 0, .slice none 0 0, .slice none 0 0, .slice none 0 0, .slice none 0 0, .slice none 0 0, .int .i64 0] 38)).alloc (.cells #[.int .i64 0, .int .i64 0, .slice none 0 0] 59)).heap.size = w4.heap.size + 2) := hide (by simp)
  have Q5e := hide ((unhide Q4).below be5)
  have W5e := hide ((unhide W4).below be5)
  have WT5e := hide ((unhide WT4).below be5)
  clear Q4 W4 WT4
  have HTH5 : Hid (((w4.alloc (.cells #[.int .i64 0, .int .i64 0, .int .i64 0, .int .i64 0, .int .i64 0, .slice none 0 0, .slice none 0 0, .slice none 0 0, .slice none 0 0, .slice none 0 0, .slice none 0 0, .slice none 0 0, .int .i64 0] 38)).alloc (.cells #[.int .i64 0, .int .i64 0, .slice none 0 0] 59)).there w4.heap.size 0 13) := hide (((ra_new w4 (rC 0 0 0 0 0 (.slice none 0 0) (.slice none 0 0) (.slice none 0 0) (.slice none 0 0) (.slice none 0 0) (.slice none 0 0) (.slice none 0 0) 0) rfl 38).below ((Below.refl _ _).alloc (Nat.le_refl _) _)).2.1)
  have HTE5 : Hid (Av.HV ((w4.alloc (.cells #[.int .i64 0, .int .i64 0, .int .i64 0, .int .i64 0, .int .i64 0, .slice none 0 0, .slice none 0 0, .slice none 0 0, .slice none 0 0, .slice none 0 0, .slice none 0 0, .slice none 0 0, .int .i64 0] 38)).alloc (.cells #[.int .i64 0, .int .i64 0, .slice none 0 0] 59)) (w4.heap.size + 1) 0 0 (.slice none 0 0)) := hide (by have h := Av.hv_new (w4.alloc (.cells #[.int .i64 0, .int .i64 0, .int .i64 0, .int .i64 0, .int .i64 0, .slice none 0 0, .slice none 0 0, .slice none 0 0, .slice none 0 0, .slice none 0 0, .slice none 0 0, .slice none 0 0, .int .i64 0] 38)) 0 0 (.slice none 0 0); rw [World.size_alloc] at h; exact h)
  have HBE5 := hide (B4.trans (be5.mono B4.size))
  clear be5
  go_wp2_with (first | (refine wpList_storeR2 _ _ rfl rfl (rC y1 y2 y3 y4 y5 (.slice b1_4 m1.length d1_4) (.slice b2_4 m2.length d2_4) (.slice b3_4 m3.length d3_4) (.slice b4_4 m4.length d4_4) (.slice b5_4 m5.length d5_4) (.slice b6_4 m6.length d6_4) (.slice b7_4 m7.length d7_4) y6) (rC_ones rfl rfl rfl rfl rfl rfl rfl) rfl rfl (unhide HTH5) ?_; intro wy5 zy by_ sy ky; have HSY5 := hide sy; have HBY5 := hide (by_ _ _ (unhide HBE5) (by have := B4.size; omega)); have TY5 : Hid (Av.HV wy5 (w4.heap.size + 1) 0 0 (.slice none 0 0)) := hide ((ky _ (by omega)).trans (unhide HTE5)); obtain ⟨y0, y1_, y2_⟩ := (unhide TY5).bx; have s0 := (unhide TY5).free 0; have s1 := (unhide TY5).free 1; have s2 := (unhide TY5).free 2; have HKT5 : Hid (∀ k, k ≠ (w4.heap.size + 1) → (((wy5.setCell ⟨w4.heap.size + 1, 0, none⟩ (.int .i64 y4)).setCell ⟨w4.heap.size + 1, 1, none⟩ (.int .i64 y7)).setCell ⟨w4.heap.size + 1, 2, none⟩ (.slice ta4 m7.length tc4)).heap[k]? = wy5.heap[k]?) := hide (fun k hp => by rw [Below.heap_setCell _ _ _ _ hp, Below.heap_setCell _ _ _ _ hp, Below.heap_setCell _ _ _ _ hp]); have HK5 : Hid (∀ k, k ≠ w4.heap.size → k ≠ (w4.heap.size + 1) → (((wy5.setCell ⟨w4.heap.size + 1, 0, none⟩ (.int .i64 y4)).setCell ⟨w4.heap.size + 1, 1, none⟩ (.int .i64 y7)).setCell ⟨w4.heap.size + 1, 2, none⟩ (.slice ta4 m7.length tc4)).heap[k]? = ((w4.alloc (.cells #[.int .i64 0, .int .i64 0, .int .i64 0, .int .i64 0, .int .i64 0, .slice none 0 0, .slice none 0 0, .slice none 0 0, .slice none 0 0, .slice none 0 0, .slice none 0 0, .slice none 0 0, .int .i64 0] 38)).alloc (.cells #[.int .i64 0, .int .i64 0, .slice none 0 0] 59)).heap[k]?) := hide (fun k h1 h2 => (unhide HKT5 k h2).trans (ky k h1)); have WR5 := hide (RA.but zy (unhide HKT5 _ (by omega))); have Q5 := hide (RA.but (unhide Q5e) (unhide HK5 _ (by omega) (by omega))); clear zy by_ sy ky) | (refine wpList_loadL _ rfl rfl rfl (unhide Q5) ?_))
  clear y0 y1_ y2_ s0 s1 s2
  have sy5 : (((wy5.setCell ⟨w4.heap.size + 1, 0, none⟩ (.int .i64 y4)).setCell ⟨w4.heap.size + 1, 1, none⟩ (.int .i64 y7)).setCell ⟨w4.heap.size + 1, 2, none⟩ (.slice ta4 m7.length tc4)).heap.size = w4.heap.size + 2 := by simp [World.setCell]; rw [unhide HSY5, unhide HSE5]
  have W5 := hide ((unhide W5e).but (L := w4.heap.size) (H := w4.heap.size + 2) (by rw [sy5, unhide HSE5]; exact Nat.le_refl _) (fun k hk h => unhide HK5 k (by omega) (by rw [unhide HSE5] at hk; omega)) (by omega))
  have WT5 := hide ((unhide WT5e).but (p := fun k => k ≠ w4.heap.size ∧ k ≠ (w4.heap.size + 1)) (by rw [sy5, unhide HSE5]; exact Nat.le_refl _) (fun k hk h => unhide HK5 k h.1 h.2) (fun k h1 h2 => by omega))
  have sz5 : w4.heap.size ≤ (((wy5.setCell ⟨w4.heap.size + 1, 0, none⟩ (.int .i64 y4)).setCell ⟨w4.heap.size + 1, 1, none⟩ (.int .i64 y7)).setCell ⟨w4.heap.size + 1, 2, none⟩ (.slice ta4 m7.length tc4)).heap.size := by omega
  clear Q5e W5e WT5e HK5 HTH5 HSE5 HSY5 HBE5 HTE5 HKT5
  have WB5 : Hid (Av.HV (((wy5.setCell ⟨w4.heap.size + 1, 0, none⟩ (.int .i64 y4)).setCell ⟨w4.heap.size + 1, 1, none⟩ (.int .i64 y7)).setCell ⟨w4.heap.size + 1, 2, none⟩ (.slice ta4 m7.length tc4)) (w4.heap.size + 1) y4 y7 (.slice ta4 m7.length tc4)) := hide (unhide TY5).put
  clear TY5
  have B5 : Below w.heap.size w (((wy5.setCell ⟨w4.heap.size + 1, 0, none⟩ (.int .i64 y4)).setCell ⟨w4.heap.size + 1, 1, none⟩ (.int .i64 y7)).setCell ⟨w4.heap.size + 1, 2, none⟩ (.slice ta4 m7.length tc4)) := ((((unhide HBY5).setCell (p := ⟨w4.heap.size + 1, 0, none⟩) (by have := B4.size; show w.heap.size ≤ w4.heap.size + 1; omega) (.int .i64 y4)).setCell (p := ⟨w4.heap.size + 1, 1, none⟩) (by have := B4.size; show w.heap.size ≤ w4.heap.size + 1; omega) (.int .i64 y7)).setCell (p := ⟨w4.heap.size + 1, 2, none⟩) (by have := B4.size; show w.heap.size ≤ w4.heap.size + 1; omega) (.slice ta4 m7.length tc4))
  clear HBY5
  generalize hWT : (((wy5.setCell ⟨w4.heap.size + 1, 0, none⟩ (.int .i64 y4)).setCell ⟨w4.heap.size + 1, 1, none⟩ (.int .i64 y7)).setCell ⟨w4.heap.size + 1, 2, none⟩ (.slice ta4 m7.length tc4)) = w5 at *
  clear hWT
  refine (toRL x1 x2 x3 x4 x5 x6 a1 a2 a3 a4 a5 a6 a7 c1 c2 c3 c4 c5 c6 c7 ls tw se du ss es la _ hml1 hml2 hml3 hml4 hml5 hml6 hml7 ((unhide HR1).below B5) ((unhide HR2).below B5) ((unhide HR3).below B5) ((unhide HR4).below B5) ((unhide HR5).below B5) ((unhide HR6).below B5) ((unhide HR7).below B5)).mono ?_
  rintro e w6 ⟨g1_6, g2_6, g3_6, g4_6, g5_6, g6_6, g7_6, rfl, b6, l6⟩
  have B6 := B5.trans (b6.mono B5.size)
  have sz6 : w5.heap.size ≤ w6.heap.size := b6.size
  have Q6 := hide ((unhide Q5).below b6)
  have W6 := hide ((unhide W5).below b6)
  have WT6 := hide ((unhide WT5).below b6)
  have WR6 := hide ((unhide WR5).below b6)
  have WB6 := hide ((unhide WB5).below b6)
  clear Q5 W5 WT5 WR5 WB5
  have X6 := hide l6
  clear l6
  go_wp2_with (first | (refine wpList_storeR _ _ rfl rfl (rC x1 x2 x3 x4 x5 (.slice (some ⟨g1_6, 0, none⟩) ls.length ls.length) (.slice (some ⟨g2_6, 0, none⟩) tw.length tw.length) (.slice (some ⟨g3_6, 0, none⟩) se.length se.length) (.slice (some ⟨g4_6, 0, none⟩) du.length du.length) (.slice (some ⟨g5_6, 0, none⟩) ss.length ss.length) (.slice (some ⟨g6_6, 0, none⟩) es.length es.length) (.slice (some ⟨g7_6, 0, none⟩) la.length la.length) x6) (rC_ones rfl rfl rfl rfl rfl rfl rfl) rfl rfl (ra_new w6 (rC 0 0 0 0 0 (.slice none 0 0) (.slice none 0 0) (.slice none 0 0) (.slice none 0 0) (.slice none 0 0) (.slice none 0 0) (.slice none 0 0) 0) rfl 38).2.1 ?_; intro w7 ra bb hs; have V7 := hide ra; have b7 : Below w6.heap.size w6 w7 := bb _ _ (bel_alloc (Below.refl w6.heap.size w6) (.cells (rC 0 0 0 0 0 (.slice none 0 0) (.slice none 0 0) (.slice none 0 0) (.slice none 0 0) (.slice none 0 0) (.slice none 0 0) (.slice none 0 0) 0).toArray 38)) (Nat.le_refl _); have B7 := B6.trans (b7.mono B6.size); have sz7 : w6.heap.size ≤ w7.heap.size := b7.size; have sy7 : w7.heap.size = w6.heap.size + 1 := (by rw [hs]; simp); have Q7 := hide ((unhide Q6).below b7); have W7 := hide ((unhide W6).below b7); have WT7 := hide ((unhide WT6).below b7); have WR7 := hide ((unhide WR6).below b7); have WB7 := hide ((unhide WB6).below b7); have X7 := hide ((unhide X6).below b7); clear ra bb hs) | (refine wpList_loadR _ rfl rfl rfl (unhide V7) ?_))
  clear Q6 W6 WT6 WR6 WB6 X6
  refine (unhide KI _ _ _ _ _ _ _ _ _ _ _ _ _ _ _ (unhide X7).r1 (unhide X7).r2 (unhide X7).r3 (unhide X7).r4 (unhide X7).r5 (unhide X7).r6 (unhide X7).r7).mono ?_
  rintro e w8 ⟨b1_8, b2_8, b3_8, b4_8, b5_8, b6_8, b7_8, d1_8, d2_8, d3_8, d4_8, d5_8, d6_8, d7_8, ta8, tc8, t08, t18, rfl, b8, s8, l8, p08, p18, p28⟩
  have B8 := B7.trans (b8.mono B7.size)
  have sz8 : w7.heap.size ≤ w8.heap.size := b8.size
  have Q8 := hide ((unhide Q7).below b8)
  have W8 := hide ((unhide W7).below b8)
  have WT8 := hide ((unhide WT7).below b8)
  have WR8 := hide ((unhide WR7).below b8)
  have WB8 := hide ((unhide WB7).below b8)
  have X8 := hide ((unhide X7).below b8)
  have V8 := hide ((unhide V7).below b8)
  clear Q7 W7 WT7 WR7 WB7 X7 V7
  have G8 := hide s8
  have GT8 := hide l8
  clear s8 l8
  have be9 : Below w8.heap.size w8 ((w8.alloc (.cells #[.int .i64 0, .int .i64 0, .int .i64 0, .int .i64 0, .int .i64 0, .slice none 0 0, .slice none 0 0, .slice none 0 0, .slice none 0 0, .slice none 0 0, .slice none 0 0, .slice none 0 0, .int .i64 0] 38)).alloc (.cells #[.int .i64 0, .int .i64 0, .slice none 0 0] 59)) := ((Below.refl _ _).alloc (Nat.le_refl _) _).alloc (by simp) _
  have HSE9 : Hid (((w8.alloc (.cells #[.int .i64 0, .int .i64 0, .int .i64 0, .int .i64 0, .int .i64 0, .slice none 0 0, .slice none 0 0, .slice none 0 0, .slice none 0 0, .slice none 0 0, .slice none 0 0, .slice none 0 0, .int .i64 0] 38)).alloc (.cells #[.int .i64 0, .int .i64 0, .slice none 0 0] 59)).heap.size = w8.heap.size + 2) := hide (by simp)
  have Q9e := hide ((unhide Q8).below be9)
  have W9e := hide ((unhide W8).below be9)
  have WT9e := hide ((unhide WT8).below be9)
  have WR9e := hide ((unhide WR8).below be9)
  have WB9e := hide ((unhide WB8).below be9)
  have X9e := hide ((unhide X8).below be9)
  have V9e := hide ((unhide V8).below be9)
  have G9e := hide ((unhide G8).below be9)
  have GT9e := hide ((unhide GT8).below be9)
  clear Q8 W8 WT8 WR8 WB8 X8 V8 G8 GT8
  have HTH9 : Hid (((w8.alloc (.cells #[.int .i64 0, .int .i64 0, .int .i64 0, .int .i64 0, .int .i64 0, .slice none 0 0, .slice none 0 0, .slice none 0 0, .slice none 0 0, .slice none 0 0, .slice none 0 0, .slice none 0 0, .int .i64 0] 38)).alloc (.cells #[.int .i64 0, .int .i64 0, .slice none 0 0] 59)).there w8.heap.size 0 13) := hide (((ra_new w8 (rC 0 0 0 0 0 (.slice none 0 0) (.slice none 0 0) (.slice none 0 0) (.slice none 0 0) (.slice none 0 0) (.slice none 0 0) (.slice none 0 0) 0) rfl 38).below ((Below.refl _ _).alloc (Nat.le_refl _) _)).2.1)
  have HTE9 : Hid (Av.HV ((w8.alloc (.cells #[.int .i64 0, .int .i64 0, .int .i64 0, .int .i64 0, .int .i64 0, .slice none 0 0, .slice none 0 0, .slice none 0 0, .slice none 0 0, .slice none 0 0, .slice none 0 0, .slice none 0 0, .int .i64 0] 38)).alloc (.cells #[.int .i64 0, .int .i64 0, .slice none 0 0] 59)) (w8.heap.size + 1) 0 0 (.slice none 0 0)) := hide (by have h := Av.hv_new (w8.alloc (.cells #[.int .i64 0, .int .i64 0, .int .i64 0, .int .i64 0, .int .i64 0, .slice none 0 0, .slice none 0 0, .slice none 0 0, .slice none 0 0, .slice none 0 0, .slice none 0 0, .slice none 0 0, .int .i64 0] 38)) 0 0 (.slice none 0 0); rw [World.size_alloc] at h; exact h)
  have HBE9 := hide (B8.trans (be9.mono B8.size))
  clear be9
  go_wp2_with (first | (refine wpList_storeR2 _ _ rfl rfl (rC y1 y2 y3 y4 y5 (.slice b1_8 m1.length d1_8) (.slice b2_8 m2.length d2_8) (.slice b3_8 m3.length d3_8) (.slice b4_8 m4.length d4_8) (.slice b5_8 m5.length d5_8) (.slice b6_8 m6.length d6_8) (.slice b7_8 m7.length d7_8) y6) (rC_ones rfl rfl rfl rfl rfl rfl rfl) rfl rfl (unhide HTH9) ?_; intro wy9 zy by_ sy ky; have HSY9 := hide sy; have HBY9 := hide (by_ _ _ (unhide HBE9) (by have := B8.size; omega)); have TY9 : Hid (Av.HV wy9 (w8.heap.size + 1) 0 0 (.slice none 0 0)) := hide ((ky _ (by omega)).trans (unhide HTE9)); obtain ⟨y0, y1_, y2_⟩ := (unhide TY9).bx; have s0 := (unhide TY9).free 0; have s1 := (unhide TY9).free 1; have s2 := (unhide TY9).free 2; have HKT9 : Hid (∀ k, k ≠ (w8.heap.size + 1) → (((wy9.setCell ⟨w8.heap.size + 1, 0, none⟩ (.int .i64 y4)).setCell ⟨w8.heap.size + 1, 1, none⟩ (.int .i64 y7)).setCell ⟨w8.heap.size + 1, 2, none⟩ (.slice ta8 m7.length tc8)).heap[k]? = wy9.heap[k]?) := hide (fun k hp => by rw [Below.heap_setCell _ _ _ _ hp, Below.heap_setCell _ _ _ _ hp, Below.heap_setCell _ _ _ _ hp]); have HK9 : Hid (∀ k, k ≠ w8.heap.size → k ≠ (w8.heap.size + 1) → (((wy9.setCell ⟨w8.heap.size + 1, 0, none⟩ (.int .i64 y4)).setCell ⟨w8.heap.size + 1, 1, none⟩ (.int .i64 y7)).setCell ⟨w8.heap.size + 1, 2, none⟩ (.slice ta8 m7.length tc8)).heap[k]? = ((w8.alloc (.cells #[.int .i64 0, .int .i64 0, .int .i64 0, .int .i64 0, .int .i64 0, .slice none 0 0, .slice none 0 0, .slice none 0 0, .slice none 0 0, .slice none 0 0, .slice none 0 0, .slice none 0 0, .int .i64 0] 38)).alloc (.cells #[.int .i64 0, .int .i64 0, .slice none 0 0] 59)).heap[k]?) := hide (fun k h1 h2 => (unhide HKT9 k h2).trans (ky k h1)); have GR9 := hide (RA.but zy (unhide HKT9 _ (by omega))); have WR9 := hide (RA.but (unhide WR9e) (unhide HK9 _ (by omega) (by omega))); clear zy by_ sy ky) | (refine wpList_loadR _ rfl rfl rfl (unhide GR9) ?_) | (refine wpList_loadR _ rfl rfl rfl (unhide WR9) ?_))
  clear y0 y1_ y2_ s0 s1 s2
  have sy9 : (((wy9.setCell ⟨w8.heap.size + 1, 0, none⟩ (.int .i64 y4)).setCell ⟨w8.heap.size + 1, 1, none⟩ (.int .i64 y7)).setCell ⟨w8.heap.size + 1, 2, none⟩ (.slice ta8 m7.length tc8)).heap.size = w8.heap.size + 2 := by simp [World.setCell]; rw [unhide HSY9, unhide HSE9]
  have Q9 := hide ((unhide Q9e).but (unhide HK9 _ (by omega) (by omega)))
  have W9 := hide ((unhide W9e).but (L := w8.heap.size) (H := w8.heap.size + 2) (by rw [sy9, unhide HSE9]; exact Nat.le_refl _) (fun k hk h => unhide HK9 k (by omega) (by rw [unhide HSE9] at hk; omega)) (by omega))
  have WT9 := hide ((unhide WT9e).but (p := fun k => k ≠ w8.heap.size ∧ k ≠ (w8.heap.size + 1)) (by rw [sy9, unhide HSE9]; exact Nat.le_refl _) (fun k hk h => unhide HK9 k h.1 h.2) (fun k h1 h2 => by omega))
  have WB9 := hide ((unhide WB9e).but (unhide HK9 _ (by omega) (by omega)))
  have X9 := hide ((unhide X9e).but (L := w8.heap.size) (H := w8.heap.size + 2) (by rw [sy9, unhide HSE9]; exact Nat.le_refl _) (fun k hk h => unhide HK9 k (by omega) (by rw [unhide HSE9] at hk; omega)) (by omega))
  have V9 := hide ((unhide V9e).but (unhide HK9 _ (by omega) (by omega)))
  have G9 := hide ((unhide G9e).but (L := w8.heap.size) (H := w8.heap.size + 2) (by rw [sy9, unhide HSE9]; exact Nat.le_refl _) (fun k hk h => unhide HK9 k (by omega) (by rw [unhide HSE9] at hk; omega)) (by omega))
  have GT9 := hide ((unhide GT9e).but (p := fun k => k ≠ w8.heap.size ∧ k ≠ (w8.heap.size + 1)) (by rw [sy9, unhide HSE9]; exact Nat.le_refl _) (fun k hk h => unhide HK9 k h.1 h.2) (fun k h1 h2 => by omega))
  have sz9 : w8.heap.size ≤ (((wy9.setCell ⟨w8.heap.size + 1, 0, none⟩ (.int .i64 y4)).setCell ⟨w8.heap.size + 1, 1, none⟩ (.int .i64 y7)).setCell ⟨w8.heap.size + 1, 2, none⟩ (.slice ta8 m7.length tc8)).heap.size := by omega
  clear Q9e W9e WT9e WR9e WB9e X9e V9e G9e GT9e HK9 HTH9 HSE9 HSY9 HBE9 HTE9 HKT9
  have GB9 : Hid (Av.HV (((wy9.setCell ⟨w8.heap.size + 1, 0, none⟩ (.int .i64 y4)).setCell ⟨w8.heap.size + 1, 1, none⟩ (.int .i64 y7)).setCell ⟨w8.heap.size + 1, 2, none⟩ (.slice ta8 m7.length tc8)) (w8.heap.size + 1) y4 y7 (.slice ta8 m7.length tc8)) := hide (unhide TY9).put
  clear TY9
  have B9 : Below w.heap.size w (((wy9.setCell ⟨w8.heap.size + 1, 0, none⟩ (.int .i64 y4)).setCell ⟨w8.heap.size + 1, 1, none⟩ (.int .i64 y7)).setCell ⟨w8.heap.size + 1, 2, none⟩ (.slice ta8 m7.length tc8)) := ((((unhide HBY9).setCell (p := ⟨w8.heap.size + 1, 0, none⟩) (by have := B8.size; show w.heap.size ≤ w8.heap.size + 1; omega) (.int .i64 y4)).setCell (p := ⟨w8.heap.size + 1, 1, none⟩) (by have := B8.size; show w.heap.size ≤ w8.heap.size + 1; omega) (.int .i64 y7)).setCell (p := ⟨w8.heap.size + 1, 2, none⟩) (by have := B8.size; show w.heap.size ≤ w8.heap.size + 1; omega) (.slice ta8 m7.length tc8))
  clear HBY9
  generalize hWT : (((wy9.setCell ⟨w8.heap.size + 1, 0, none⟩ (.int .i64 y4)).setCell ⟨w8.heap.size + 1, 1, none⟩ (.int .i64 y7)).setCell ⟨w8.heap.size + 1, 2, none⟩ (.slice ta8 m7.length tc8)) = w9 at *
  clear hWT
  refine (eqR y1 y2 y3 y4 y5 y6 _ _ _ _ _ _ _  _ _ _ _ _ _ _  _ _ _ _ _ _ _  _ _ _ _ _ _ _  m1 m2 m3 m4 m5 m6 m7 _ hq1 hq2 hq3 hq4 hq5 hq6 hq7 (unhide G9).r1 (unhide G9).r2 (unhide G9).r3 (unhide G9).r4 (unhide G9).r5 (unhide G9).r6 (unhide G9).r7 (unhide W9).r1 (unhide W9).r2 (unhide W9).r3 (unhide W9).r4 (unhide W9).r5 (unhide W9).r6 (unhide W9).r7).mono ?_
  rintro e w10 ⟨rfl, b10⟩
  have B10 := B9.trans (b10.mono B9.size)
  have sz10 : w9.heap.size ≤ w10.heap.size := b10.size
  have Q10 := hide ((unhide Q9).below b10)
  have W10 := hide ((unhide W9).below b10)
  have WT10 := hide ((unhide WT9).below b10)
  have WR10 := hide ((unhide WR9).below b10)
  have WB10 := hide ((unhide WB9).below b10)
  have X10 := hide ((unhide X9).below b10)
  have V10 := hide ((unhide V9).below b10)
  have G10 := hide ((unhide G9).below b10)
  have GT10 := hide ((unhide GT9).below b10)
  have GR10 := hide ((unhide GR9).below b10)
  have GB10 := hide ((unhide GB9).below b10)
  clear Q9 W9 WT9 WR9 WB9 X9 V9 G9 GT9 GR9 GB9
  obtain ⟨k0_0, k0_1, k0_2⟩ := (unhide GB10).bx
  obtain ⟨k1_0, k1_1, k1_2⟩ := (unhide WB10).bx
  go_wp2_with fail
  clear k0_0 k0_1 k0_2 k1_0 k1_1 k1_2
  refine (Ts.eq y4 y7 _ _ m7 _ _ _ hq7 (unhide GT10).rm (unhide WT10).rm).mono ?_
  rintro e w11 ⟨rfl, b11⟩
  have B11 := B10.trans (b11.mono B10.size)
  have sz11 : w10.heap.size ≤ w11.heap.size := b11.size
  have Q11 := hide ((unhide Q10).below b11)
  have W11 := hide ((unhide W10).below b11)
  have WT11 := hide ((unhide WT10).below b11)
  have WR11 := hide ((unhide WR10).below b11)
  have WB11 := hide ((unhide WB10).below b11)
  have X11 := hide ((unhide X10).below b11)
  have V11 := hide ((unhide V10).below b11)
  have G11 := hide ((unhide G10).below b11)
  have GT11 := hide ((unhide GT10).below b11)
  have GR11 := hide ((unhide GR10).below b11)
  have GB11 := hide ((unhide GB10).below b11)
  clear Q10 W10 WT10 WR10 WB10 X10 V10 G10 GT10 GR10 GB10
  go_wp2_with fail
  refine wp_region_noPanic ?_
  refine wp_region_held_drew (S := fun w' => RA w' w6.heap.size (rC x1 x2 x3 x4 x5 (.slice (some ⟨g1_6, 0, none⟩) ls.length ls.length) (.slice (some ⟨g2_6, 0, none⟩) tw.length tw.length) (.slice (some ⟨g3_6, 0, none⟩) se.length se.length) (.slice (some ⟨g4_6, 0, none⟩) du.length du.length) (.slice (some ⟨g5_6, 0, none⟩) ss.length ss.length) (.slice (some ⟨g6_6, 0, none⟩) es.length es.length) (.slice (some ⟨g7_6, 0, none⟩) la.length la.length) x6) ∧ RA w' w.heap.size (rC x1 x2 x3 x4 x5 (.slice a1 ls.length c1) (.slice a2 tw.length c2) (.slice a3 se.length c3) (.slice a4 du.length c4) (.slice a5 ss.length c5) (.slice a6 es.length c6) (.slice a7 la.length c7) x6)) (by kernel_rfl) (⟨(unhide V11).drew, (unhide Q11).drew⟩) (fun hHeld => ?_)
  (refine Rg.tk (i := 0) (d := 52) (v := .agg (rC x1 x2 x3 x4 x5 (.slice (some ⟨g1_6, 0, none⟩) ls.length ls.length) (.slice (some ⟨g2_6, 0, none⟩) tw.length tw.length) (.slice (some ⟨g3_6, 0, none⟩) se.length se.length) (.slice (some ⟨g4_6, 0, none⟩) du.length du.length) (.slice (some ⟨g5_6, 0, none⟩) ss.length ss.length) (.slice (some ⟨g6_6, 0, none⟩) es.length es.length) (.slice (some ⟨g7_6, 0, none⟩) la.length la.length) x6).toArray) rfl rfl (by kernel_rfl) (by kernel_rfl) (by kernel_rfl) (fun _ _ _ h => h) (by rfl) (fun w0 hSw => run_execR _ rfl rfl hSw.1) (by assumption) ?_; (try simp only [Act.put, List.setIfInBounds_toArray, List.set_cons_zero, List.set_cons_succ]))
  (refine Rg.tk (i := 1) (d := 53) (v := .agg (rC x1 x2 x3 x4 x5 (.slice a1 ls.length c1) (.slice a2 tw.length c2) (.slice a3 se.length c3) (.slice a4 du.length c4) (.slice a5 ss.length c5) (.slice a6 es.length c6) (.slice a7 la.length c7) x6).toArray) rfl rfl (by kernel_rfl) (by kernel_rfl) (by kernel_rfl) (fun _ _ _ h => h) (by rfl) (fun w0 hSw => run_execL _ rfl rfl hSw.2) (by assumption) ?_; (try simp only [Act.put, List.setIfInBounds_toArray, List.set_cons_zero, List.set_cons_succ]))
  (refine wpAnyH_ready (rs := [2]) (by kernel_rfl) (by simp) ?_; refine AllReadyH.cons (o := _) rfl (fun K hK => ?_) AllReadyH.nil; go_simp)
  refine (toRL x1 x2 x3 x4 x5 x6 a1 a2 a3 a4 a5 a6 a7 c1 c2 c3 c4 c5 c6 c7 ls tw se du ss es la _ hml1 hml2 hml3 hml4 hml5 hml6 hml7 ((unhide HR1).below B11.drew) ((unhide HR2).below B11.drew) ((unhide HR3).below B11.drew) ((unhide HR4).below B11.drew) ((unhide HR5).below B11.drew) ((unhide HR6).below B11.drew) ((unhide HR7).below B11.drew)).mono ?_
  rintro e w12 ⟨g1_12, g2_12, g3_12, g4_12, g5_12, g6_12, g7_12, rfl, b12_, l12⟩
  have b12 : Below w11.heap.size w11 w12 := (Below.refl _ _).drew.trans b12_
  clear b12_
  have B12 := B11.trans (b12.mono B11.size)
  have sz12 : w11.heap.size ≤ w12.heap.size := b12.size
  have Q12 := hide ((unhide Q11).below b12)
  have W12 := hide ((unhide W11).below b12)
  have WT12 := hide ((unhide WT11).below b12)
  have WR12 := hide ((unhide WR11).below b12)
  have WB12 := hide ((unhide WB11).below b12)
  have X12 := hide ((unhide X11).below b12)
  have V12 := hide ((unhide V11).below b12)
  have G12 := hide ((unhide G11).below b12)
  have GT12 := hide ((unhide GT11).below b12)
  have GR12 := hide ((unhide GR11).below b12)
  have GB12 := hide ((unhide GB11).below b12)
  clear Q11 W11 WT11 WR11 WB11 X11 V11 G11 GT11 GR11 GB11
  clear hHeld
  have Y12 := hide l12
  clear l12
  refine hK.out _ _ (⟨unhide V12, unhide Q12⟩) (fun hHeld => ?_)
  clear hK K
  (try simp only [Act.put, List.setIfInBounds_toArray, List.set_cons_zero, List.set_cons_succ])
  (refine wpAnyH_ready (rs := [3]) (by kernel_rfl) (by simp) ?_; refine AllReadyH.cons (o := _) rfl (fun K hK => ?_) AllReadyH.nil; go_simp)
  refine (eqR x1 x2 x3 x4 x5 x6 _ _ _ _ _ _ _  _ _ _ _ _ _ _  _ _ _ _ _ _ _  _ _ _ _ _ _ _  ls tw se du ss es la _ hml1 hml2 hml3 hml4 hml5 hml6 hml7 (unhide X12).r1 (unhide X12).r2 (unhide X12).r3 (unhide X12).r4 (unhide X12).r5 (unhide X12).r6 (unhide X12).r7 (unhide Y12).r1 (unhide Y12).r2 (unhide Y12).r3 (unhide Y12).r4 (unhide Y12).r5 (unhide Y12).r6 (unhide Y12).r7).mono ?_
  rintro e w13 ⟨rfl, b13⟩
  have B13 := B12.trans (b13.mono B12.size)
  have sz13 : w12.heap.size ≤ w13.heap.size := b13.size
  have Q13 := hide ((unhide Q12).below b13)
  have W13 := hide ((unhide W12).below b13)
  have WT13 := hide ((unhide WT12).below b13)
  have WR13 := hide ((unhide WR12).below b13)
  have WB13 := hide ((unhide WB12).below b13)
  have X13 := hide ((unhide X12).below b13)
  have V13 := hide ((unhide V12).below b13)
  have G13 := hide ((unhide G12).below b13)
  have GT13 := hide ((unhide GT12).below b13)
  have GR13 := hide ((unhide GR12).below b13)
  have GB13 := hide ((unhide GB12).below b13)
  have Y13 := hide ((unhide Y12).below b13)
  clear Q12 W12 WT12 WR12 WB12 X12 V12 G12 GT12 GR12 GB12 Y12
  clear hHeld
  clear Y13
  refine hK.out _ _ (⟨unhide V13, unhide Q13⟩) (fun hHeld => ?_)
  clear hK K
  (try simp only [Act.put, List.setIfInBounds_toArray, List.set_cons_zero, List.set_cons_succ])
  (refine Rg.tk (i := 4) (d := 56) (v := ?_) rfl rfl (by kernel_rfl) (by kernel_rfl) (by kernel_rfl) (fun _ _ _ h => h) (by rfl) ?_ (by assumption) ?_; rotate_left; (focus (intro w0 hSw; (try dsimp only at hSw); go_simp; (try with_reducible rfl))); (try simp only [Act.put, List.setIfInBounds_toArray, List.set_cons_zero, List.set_cons_succ]))
  refine wpAnyH_done (by kernel_rfl) (NoPanic.normal ?_) _
  clear hHeld
  go_wp2_with (refine wpList_loadR _ rfl rfl rfl (unhide V13) ?_)
  refine (markRL x1 x2 x3 x4 x5 x6 _ _ _ _ _ _ _  _ _ _ _ _ _ _  (w5.heap.size) (w6.heap.size) 1 ls tw se du ss es la _ (by omega) (by omega) hml1 hml2 hml3 hml4 hml5 hml6 hml7 (by omega) (unhide X13)).mono ?_
  rintro e w14 ⟨kk14, rfl, hkk14, sz14, b14, k14⟩
  have sB14 := B13.size
  have B14 := B13.trans (b14.mono (by omega))
  have hpk14 : ¬ kk14 < 0 := by have := unhide hkk14; omega
  have Q14 := hide ((unhide Q13).but (k14 _ (unhide Q13).lt (by omega)))
  have W14 := hide ((unhide W13).but sz14 k14 (by omega))
  have WT14 := hide ((unhide WT13).but (p := fun k => k < w5.heap.size ∨ w6.heap.size ≤ k) sz14 (fun k hk h => k14 k hk h) (fun k h1 h2 => by omega))
  have WR14 := hide ((unhide WR13).but (k14 _ (unhide WR13).lt (by omega)))
  have WB14 := hide ((unhide WB13).but (k14 _ (unhide WB13).lt (by omega)))
  have V14 := hide ((unhide V13).but (k14 _ (unhide V13).lt (by omega)))
  have G14 := hide ((unhide G13).but sz14 k14 (by omega))
  have GT14 := hide ((unhide GT13).but (p := fun k => k < w5.heap.size ∨ w6.heap.size ≤ k) sz14 (fun k hk h => k14 k hk h) (fun k h1 h2 => by omega))
  have GR14 := hide ((unhide GR13).but (k14 _ (unhide GR13).lt (by omega)))
  have GB14 := hide ((unhide GB13).but (k14 _ (unhide GB13).lt (by omega)))
  clear Q13 W13 WT13 WR13 WB13 X13 V13 G13 GT13 GR13 GB13 k14 b14 hkk14
  clear V14
  go_upto_region 14 with fail
  refine wp_region_lit ?_
  refine wpList_plain rfl (fun K hK => ?_)
  go_simp
  refine hK _ _ ?_
  clear hK K
  (try simp only [Act.put, List.setIfInBounds_toArray, List.set_cons_zero, List.set_cons_succ])
  refine wpList_plain rfl (fun K hK => ?_)
  go_simp
  refine hK _ _ ?_
  clear hK K
  (try simp only [Act.put, List.setIfInBounds_toArray, List.set_cons_zero, List.set_cons_succ])
  refine wpList_plain rfl (fun K hK => ?_)
  go_simp
  refine hK _ _ ?_
  clear hK K
  (try simp only [Act.put, List.setIfInBounds_toArray, List.set_cons_zero, List.set_cons_succ])
  refine wpList_loadRg _ (by simp [Region.wanted, yielded] <;> omega) rfl rfl (unhide GR14) ?_
  (try simp only [Act.put, List.setIfInBounds_toArray, List.set_cons_zero, List.set_cons_succ])
  refine wpList_loadRg _ (by simp [Region.wanted, yielded] <;> omega) rfl rfl (unhide WR14) ?_
  (try simp only [Act.put, List.setIfInBounds_toArray, List.set_cons_zero, List.set_cons_succ])
  go_wp2_with fail
  refine (eqR y1 y2 y3 y4 y5 y6 _ _ _ _ _ _ _  _ _ _ _ _ _ _  _ _ _ _ _ _ _  _ _ _ _ _ _ _  m1 m2 m3 m4 m5 m6 m7 _ hq1 hq2 hq3 hq4 hq5 hq6 hq7 (unhide G14).r1 (unhide G14).r2 (unhide G14).r3 (unhide G14).r4 (unhide G14).r5 (unhide G14).r6 (unhide G14).r7 (unhide W14).r1 (unhide W14).r2 (unhide W14).r3 (unhide W14).r4 (unhide W14).r5 (unhide W14).r6 (unhide W14).r7).mono ?_
  rintro e w15 ⟨rfl, b15⟩
  have B15 := B14.trans (b15.mono B14.size)
  have sz15 : w14.heap.size ≤ w15.heap.size := b15.size
  have Q15 := hide ((unhide Q14).below b15)
  have W15 := hide ((unhide W14).below b15)
  have WT15 := hide ((unhide WT14).below b15)
  have WR15 := hide ((unhide WR14).below b15)
  have WB15 := hide ((unhide WB14).below b15)
  have G15 := hide ((unhide G14).below b15)
  have GT15 := hide ((unhide GT14).below b15)
  have GR15 := hide ((unhide GR14).below b15)
  have GB15 := hide ((unhide GB14).below b15)
  clear Q14 W14 WT14 WR14 WB14 G14 GT14 GR14 GB14
  obtain ⟨k0_0, k0_1, k0_2⟩ := (unhide GB15).bx
  obtain ⟨k1_0, k1_1, k1_2⟩ := (unhide WB15).bx
  go_wp2_with fail
  clear k0_0 k0_1 k0_2 k1_0 k1_1 k1_2
  refine (Ts.eq y4 y7 _ _ m7 _ _ _ hq7 (unhide GT15).rm (unhide WT15).rm).mono ?_
  rintro e w16 ⟨rfl, b16⟩
  have B16 := B15.trans (b16.mono B15.size)
  have sz16 : w15.heap.size ≤ w16.heap.size := b16.size
  have Q16 := hide ((unhide Q15).below b16)
  have W16 := hide ((unhide W15).below b16)
  have WT16 := hide ((unhide WT15).below b16)
  have WR16 := hide ((unhide WR15).below b16)
  have WB16 := hide ((unhide WB15).below b16)
  have G16 := hide ((unhide G15).below b16)
  have GT16 := hide ((unhide GT15).below b16)
  have GR16 := hide ((unhide GR15).below b16)
  have GB16 := hide ((unhide GB15).below b16)
  clear Q15 W15 WT15 WR15 WB15 G15 GT15 GR15 GB15
  go_wp2_with (refine wpList_loadR _ rfl rfl rfl (unhide GR16) ?_)
  refine (markSv y1 y2 y3 y4 y5 y6 _ _ _ _ _ _ _  _ _ _ _ _ _ _  (w7.heap.size) (w8.heap.size) _ 1 m1 m2 m3 m4 m5 m6 m7 _ (by omega) (by omega) hq1 hq2 hq3 hq4 hq5 hq6 hq7 (by omega) (unhide G16)).mono ?_
  rintro e w17 ⟨kk, rfl, hkk, sz17, b17, s_, k_⟩
  have HKK := hkk
  have hkk1 : 0 ≤ kk ∧ kk ≤ 100000000 := by have := unhide hkk; omega
  have hpk : ¬ kk < 0 := by omega
  clear hkk
  have sB17 := B16.size
  have B17 := B16.trans (b17.mono (by omega))
  have k17 : ∀ k, k < w16.heap.size → (k < w7.heap.size ∨ w8.heap.size ≤ k) → w17.heap[k]? = w16.heap[k]? := fun k hk h => k_ k hk (Or.elim h .inl (fun h => .inr (.inl h)))
  have Q17 := hide ((unhide Q16).but (k17 _ (unhide Q16).lt (by omega)))
  have W17 := hide ((unhide W16).but sz17 k17 (by omega))
  have WT17 := hide ((unhide WT16).but (p := fun k => k < w7.heap.size ∨ w8.heap.size ≤ k) sz17 (fun k hk h => k17 k hk h) (fun k h1 h2 => by omega))
  have WR17 := hide ((unhide WR16).but (k17 _ (unhide WR16).lt (by omega)))
  have WB17 := hide ((unhide WB16).but (k17 _ (unhide WB16).lt (by omega)))
  have GR17 := hide ((unhide GR16).but (k17 _ (unhide GR16).lt (by omega)))
  have GB17 := hide ((unhide GB16).but (k17 _ (unhide GB16).lt (by omega)))
  have GT17 := hide ((unhide GT16).but (p := fun k => t08 ≤ k ∧ k < t18) sz17 (fun k hk h => k_ k hk (.inr (.inr h))) (fun k h1 h2 => ⟨h1, h2⟩))
  have M17 := hide s_
  clear Q16 W16 WT16 WR16 WB16 G16 GT16 GR16 GB16 s_ k_ k17 b17
  obtain ⟨k0_0, k0_1, k0_2⟩ := (unhide GB17).bx
  go_wp2_with fail
  clear k0_0 k0_1 k0_2
  refine (Ts.mark y4 y7 _ _ _ _ kk m7 _ (by omega) (by omega) hq7 (unhide GT17)).mono ?_
  rintro e w18 ⟨rfl, sz18, b18, f_, k_⟩
  obtain ⟨mm, hmm⟩ : ∃ mm, kk + 2 * (m7.length : Int) = mm := ⟨_, rfl⟩
  rw [hmm]
  have HMM := hide hmm
  have hpm : ¬ mm < 0 := by omega
  have hnm : (mm != mm) = false := by simp
  clear hmm
  have sB18 := B17.size
  have B18 := B17.trans (b18.mono (by omega))
  have M18 := hide ((unhide M17).butX sz18 (fun k hk h => k_ k hk (by omega)))
  have k18 := k_
  have Q18 := hide ((unhide Q17).but (k18 _ (unhide Q17).lt (by omega)))
  have W18 := hide ((unhide W17).but sz18 k18 (by omega))
  have WT18 := hide ((unhide WT17).but (p := fun k => k < t08 ∨ t18 ≤ k) sz18 (fun k hk h => k18 k hk h) (fun k h1 h2 => by omega))
  have WR18 := hide ((unhide WR17).but (k18 _ (unhide WR17).lt (by omega)))
  have WB18 := hide ((unhide WB17).but (k18 _ (unhide WB17).lt (by omega)))
  have GR18 := hide ((unhide GR17).but (k18 _ (unhide GR17).lt (by omega)))
  have GB18 := hide ((unhide GB17).but (k18 _ (unhide GB17).lt (by omega)))
  have N18 := hide f_
  clear Q17 W17 WT17 WR17 WB17 GT17 GR17 GB17 M17 f_ k_ k18 b18
  go_wp2_with (refine wpList_loadR _ rfl rfl rfl (unhide GR18) ?_)
  refine (heldSv y1 y2 y3 y4 y5 y6 _ _ _ _ _ _ _  m1.length m2.length m3.length m4.length m5.length m6.length m7.length _ _ _ _ _ _ _  (w7.heap.size) (w8.heap.size) _ 1 m1 m2 m3 m4 m5 m6 m7 _ (by omega) (by omega) rfl rfl rfl rfl rfl rfl rfl hq1 hq2 hq3 hq4 hq5 hq6 hq7 (unhide M18)).mono ?_
  rintro e w19 ⟨k7_, rfl, hk7_, b19⟩
  obtain rfl : kk = k7_ := ((unhide hk7_).trans (unhide HKK).symm).symm
  clear hk7_
  have B19 := B18.trans (b19.mono B18.size)
  have sz19 : w18.heap.size ≤ w19.heap.size := b19.size
  have Q19 := hide ((unhide Q18).below b19)
  have W19 := hide ((unhide W18).below b19)
  have WT19 := hide ((unhide WT18).below b19)
  have WR19 := hide ((unhide WR18).below b19)
  have WB19 := hide ((unhide WB18).below b19)
  have GR19 := hide ((unhide GR18).below b19)
  have GB19 := hide ((unhide GB18).below b19)
  have M19 := hide ((unhide M18).below b19)
  have N19 := hide ((unhide N18).below b19)
  clear Q18 W18 WT18 WR18 WB18 GR18 GB18 M18 N18
  obtain ⟨k0_0, k0_1, k0_2⟩ := (unhide GB19).bx
  go_wp2_with fail
  clear k0_0 k0_1 k0_2
  refine (Ts.held y4 y7 _ _ m7.length _ _ kk _ (by omega) (by omega) hq7 (unhide N19)).mono ?_
  rintro e w20 ⟨rfl, b20⟩
  have B20 := B19.trans (b20.mono B19.size)
  have sz20 : w19.heap.size ≤ w20.heap.size := b20.size
  have Q20 := hide ((unhide Q19).below b20)
  have W20 := hide ((unhide W19).below b20)
  have WT20 := hide ((unhide WT19).below b20)
  have WR20 := hide ((unhide WR19).below b20)
  have WB20 := hide ((unhide WB19).below b20)
  have GR20 := hide ((unhide GR19).below b20)
  have GB20 := hide ((unhide GB19).below b20)
  have M20 := hide ((unhide M19).below b20)
  have N20 := hide ((unhide N19).below b20)
  clear Q19 W19 WT19 WR19 WB19 GR19 GB19 M19 N19
  rw [unhide HMM]
  go_wp2_with (refine wpList_loadL _ rfl rfl rfl (unhide Q20) ?_)
  refine (toRL x1 x2 x3 x4 x5 x6 a1 a2 a3 a4 a5 a6 a7 c1 c2 c3 c4 c5 c6 c7 ls tw se du ss es la _ hml1 hml2 hml3 hml4 hml5 hml6 hml7 ((unhide HR1).below B20) ((unhide HR2).below B20) ((unhide HR3).below B20) ((unhide HR4).below B20) ((unhide HR5).below B20) ((unhide HR6).below B20) ((unhide HR7).below B20)).mono ?_
  rintro e w21 ⟨g1_21, g2_21, g3_21, g4_21, g5_21, g6_21, g7_21, rfl, b21, l21⟩
  have B21 := B20.trans (b21.mono B20.size)
  have sz21 : w20.heap.size ≤ w21.heap.size := b21.size
  have Q21 := hide ((unhide Q20).below b21)
  have W21 := hide ((unhide W20).below b21)
  have WT21 := hide ((unhide WT20).below b21)
  have WR21 := hide ((unhide WR20).below b21)
  have WB21 := hide ((unhide WB20).below b21)
  have GR21 := hide ((unhide GR20).below b21)
  have GB21 := hide ((unhide GB20).below b21)
  have M21 := hide ((unhide M20).below b21)
  have N21 := hide ((unhide N20).below b21)
  clear Q20 W20 WT20 WR20 WB20 GR20 GB20 M20 N20
  have Z21 := hide l21
  clear l21
  go_wp2_with fail
  refine (unhide KI _ _ _ _ _ _ _ _ _ _ _ _ _ _ _ (unhide Z21).r1 (unhide Z21).r2 (unhide Z21).r3 (unhide Z21).r4 (unhide Z21).r5 (unhide Z21).r6 (unhide Z21).r7).mono ?_
  rintro e w22 ⟨b1_22, b2_22, b3_22, b4_22, b5_22, b6_22, b7_22, d1_22, d2_22, d3_22, d4_22, d5_22, d6_22, d7_22, ta22, tc22, t022, t122, rfl, b22, s22, l22, p022, p122, p222⟩
  have B22 := B21.trans (b22.mono B21.size)
  have sz22 : w21.heap.size ≤ w22.heap.size := b22.size
  have Q22 := hide ((unhide Q21).below b22)
  have W22 := hide ((unhide W21).below b22)
  have WT22 := hide ((unhide WT21).below b22)
  have WR22 := hide ((unhide WR21).below b22)
  have WB22 := hide ((unhide WB21).below b22)
  have GR22 := hide ((unhide GR21).below b22)
  have GB22 := hide ((unhide GB21).below b22)
  have M22 := hide ((unhide M21).below b22)
  have N22 := hide ((unhide N21).below b22)
  have Z22 := hide ((unhide Z21).below b22)
  clear Q21 W21 WT21 WR21 WB21 GR21 GB21 M21 N21 Z21
  have H22 := hide s22
  have HT22 := hide l22
  clear s22 l22
  have be23 : Below w22.heap.size w22 ((w22.alloc (.cells #[.int .i64 0, .int .i64 0, .int .i64 0, .int .i64 0, .int .i64 0, .slice none 0 0, .slice none 0 0, .slice none 0 0, .slice none 0 0, .slice none 0 0, .slice none 0 0, .slice none 0 0, .int .i64 0] 38)).alloc (.cells #[.int .i64 0, .int .i64 0, .slice none 0 0] 59)) := ((Below.refl _ _).alloc (Nat.le_refl _) _).alloc (by simp) _
  have HSE23 : Hid (((w22.alloc (.cells #[.int .i64 0, .int .i64 0, .int .i64 0, .int .i64 0, .int .i64 0, .slice none 0 0, .slice none 0 0, .slice none 0 0, .slice none 0 0, .slice none 0 0, .slice none 0 0, .slice none 0 0, .int .i64 0] 38)).alloc (.cells #[.int .i64 0, .int .i64 0, .slice none 0 0] 59)).heap.size = w22.heap.size + 2) := hide (by simp)
  have Q23e := hide ((unhide Q22).below be23)
  have W23e := hide ((unhide W22).below be23)
  have WT23e := hide ((unhide WT22).below be23)
  have WR23e := hide ((unhide WR22).below be23)
  have WB23e := hide ((unhide WB22).below be23)
  have GR23e := hide ((unhide GR22).below be23)
  have GB23e := hide ((unhide GB22).below be23)
  have M23e := hide ((unhide M22).below be23)
  have N23e := hide ((unhide N22).below be23)
  have Z23e := hide ((unhide Z22).below be23)
  have H23e := hide ((unhide H22).below be23)
  have HT23e := hide ((unhide HT22).below be23)
  clear Q22 W22 WT22 WR22 WB22 GR22 GB22 M22 N22 Z22 H22 HT22
  have HTH23 : Hid (((w22.alloc (.cells #[.int .i64 0, .int .i64 0, .int .i64 0, .int .i64 0, .int .i64 0, .slice none 0 0, .slice none 0 0, .slice none 0 0, .slice none 0 0, .slice none 0 0, .slice none 0 0, .slice none 0 0, .int .i64 0] 38)).alloc (.cells #[.int .i64 0, .int .i64 0, .slice none 0 0] 59)).there w22.heap.size 0 13) := hide (((ra_new w22 (rC 0 0 0 0 0 (.slice none 0 0) (.slice none 0 0) (.slice none 0 0) (.slice none 0 0) (.slice none 0 0) (.slice none 0 0) (.slice none 0 0) 0) rfl 38).below ((Below.refl _ _).alloc (Nat.le_refl _) _)).2.1)
  have HTE23 : Hid (Av.HV ((w22.alloc (.cells #[.int .i64 0, .int .i64 0, .int .i64 0, .int .i64 0, .int .i64 0, .slice none 0 0, .slice none 0 0, .slice none 0 0, .slice none 0 0, .slice none 0 0, .slice none 0 0, .slice none 0 0, .int .i64 0] 38)).alloc (.cells #[.int .i64 0, .int .i64 0, .slice none 0 0] 59)) (w22.heap.size + 1) 0 0 (.slice none 0 0)) := hide (by have h := Av.hv_new (w22.alloc (.cells #[.int .i64 0, .int .i64 0, .int .i64 0, .int .i64 0, .int .i64 0, .slice none 0 0, .slice none 0 0, .slice none 0 0, .slice none 0 0, .slice none 0 0, .slice none 0 0, .slice none 0 0, .int .i64 0] 38)) 0 0 (.slice none 0 0); rw [World.size_alloc] at h; exact h)
  have HBE23 := hide (B22.trans (be23.mono B22.size))
  clear be23
  go_wp2_with (first | (refine wpList_storeR2 _ _ rfl rfl (rC y1 y2 y3 y4 y5 (.slice b1_22 m1.length d1_22) (.slice b2_22 m2.length d2_22) (.slice b3_22 m3.length d3_22) (.slice b4_22 m4.length d4_22) (.slice b5_22 m5.length d5_22) (.slice b6_22 m6.length d6_22) (.slice b7_22 m7.length d7_22) y6) (rC_ones rfl rfl rfl rfl rfl rfl rfl) rfl rfl (unhide HTH23) ?_; intro wy23 zy by_ sy ky; have HSY23 := hide sy; have HBY23 := hide (by_ _ _ (unhide HBE23) (by have := B22.size; omega)); have TY23 : Hid (Av.HV wy23 (w22.heap.size + 1) 0 0 (.slice none 0 0)) := hide ((ky _ (by omega)).trans (unhide HTE23)); obtain ⟨y0, y1_, y2_⟩ := (unhide TY23).bx; have s0 := (unhide TY23).free 0; have s1 := (unhide TY23).free 1; have s2 := (unhide TY23).free 2; have HKT23 : Hid (∀ k, k ≠ (w22.heap.size + 1) → (((wy23.setCell ⟨w22.heap.size + 1, 0, none⟩ (.int .i64 y4)).setCell ⟨w22.heap.size + 1, 1, none⟩ (.int .i64 y7)).setCell ⟨w22.heap.size + 1, 2, none⟩ (.slice ta22 m7.length tc22)).heap[k]? = wy23.heap[k]?) := hide (fun k hp => by rw [Below.heap_setCell _ _ _ _ hp, Below.heap_setCell _ _ _ _ hp, Below.heap_setCell _ _ _ _ hp]); have HK23 : Hid (∀ k, k ≠ w22.heap.size → k ≠ (w22.heap.size + 1) → (((wy23.setCell ⟨w22.heap.size + 1, 0, none⟩ (.int .i64 y4)).setCell ⟨w22.heap.size + 1, 1, none⟩ (.int .i64 y7)).setCell ⟨w22.heap.size + 1, 2, none⟩ (.slice ta22 m7.length tc22)).heap[k]? = ((w22.alloc (.cells #[.int .i64 0, .int .i64 0, .int .i64 0, .int .i64 0, .int .i64 0, .slice none 0 0, .slice none 0 0, .slice none 0 0, .slice none 0 0, .slice none 0 0, .slice none 0 0, .slice none 0 0, .int .i64 0] 38)).alloc (.cells #[.int .i64 0, .int .i64 0, .slice none 0 0] 59)).heap[k]?) := hide (fun k h1 h2 => (unhide HKT23 k h2).trans (ky k h1)); have HR23 := hide (RA.but zy (unhide HKT23 _ (by omega))); have WR23 := hide (RA.but (unhide WR23e) (unhide HK23 _ (by omega) (by omega))); clear zy by_ sy ky) | (refine wpList_loadR _ rfl rfl rfl (unhide HR23) ?_) | (refine wpList_loadR _ rfl rfl rfl (unhide WR23) ?_))
  clear y0 y1_ y2_ s0 s1 s2
  have sy23 : (((wy23.setCell ⟨w22.heap.size + 1, 0, none⟩ (.int .i64 y4)).setCell ⟨w22.heap.size + 1, 1, none⟩ (.int .i64 y7)).setCell ⟨w22.heap.size + 1, 2, none⟩ (.slice ta22 m7.length tc22)).heap.size = w22.heap.size + 2 := by simp [World.setCell]; rw [unhide HSY23, unhide HSE23]
  have Q23 := hide ((unhide Q23e).but (unhide HK23 _ (by omega) (by omega)))
  have W23 := hide ((unhide W23e).but (L := w22.heap.size) (H := w22.heap.size + 2) (by rw [sy23, unhide HSE23]; exact Nat.le_refl _) (fun k hk h => unhide HK23 k (by omega) (by rw [unhide HSE23] at hk; omega)) (by omega))
  have WT23 := hide ((unhide WT23e).but (p := fun k => k ≠ w22.heap.size ∧ k ≠ (w22.heap.size + 1)) (by rw [sy23, unhide HSE23]; exact Nat.le_refl _) (fun k hk h => unhide HK23 k h.1 h.2) (fun k h1 h2 => by omega))
  have WB23 := hide ((unhide WB23e).but (unhide HK23 _ (by omega) (by omega)))
  have GR23 := hide ((unhide GR23e).but (unhide HK23 _ (by omega) (by omega)))
  have GB23 := hide ((unhide GB23e).but (unhide HK23 _ (by omega) (by omega)))
  have M23 := hide ((unhide M23e).but (L := w22.heap.size) (H := w22.heap.size + 2) (by rw [sy23, unhide HSE23]; exact Nat.le_refl _) (fun k hk h => unhide HK23 k (by omega) (by rw [unhide HSE23] at hk; omega)) (by omega))
  have N23 := hide ((unhide N23e).but (p := fun k => k ≠ w22.heap.size ∧ k ≠ (w22.heap.size + 1)) (by rw [sy23, unhide HSE23]; exact Nat.le_refl _) (fun k hk h => unhide HK23 k h.1 h.2) (fun k h1 h2 => by omega))
  have Z23 := hide ((unhide Z23e).but (L := w22.heap.size) (H := w22.heap.size + 2) (by rw [sy23, unhide HSE23]; exact Nat.le_refl _) (fun k hk h => unhide HK23 k (by omega) (by rw [unhide HSE23] at hk; omega)) (by omega))
  have H23 := hide ((unhide H23e).but (L := w22.heap.size) (H := w22.heap.size + 2) (by rw [sy23, unhide HSE23]; exact Nat.le_refl _) (fun k hk h => unhide HK23 k (by omega) (by rw [unhide HSE23] at hk; omega)) (by omega))
  have HT23 := hide ((unhide HT23e).but (p := fun k => k ≠ w22.heap.size ∧ k ≠ (w22.heap.size + 1)) (by rw [sy23, unhide HSE23]; exact Nat.le_refl _) (fun k hk h => unhide HK23 k h.1 h.2) (fun k h1 h2 => by omega))
  have sz23 : w22.heap.size ≤ (((wy23.setCell ⟨w22.heap.size + 1, 0, none⟩ (.int .i64 y4)).setCell ⟨w22.heap.size + 1, 1, none⟩ (.int .i64 y7)).setCell ⟨w22.heap.size + 1, 2, none⟩ (.slice ta22 m7.length tc22)).heap.size := by omega
  clear Q23e W23e WT23e WR23e WB23e GR23e GB23e M23e N23e Z23e H23e HT23e HK23 HTH23 HSE23 HSY23 HBE23 HTE23 HKT23
  have HB23 : Hid (Av.HV (((wy23.setCell ⟨w22.heap.size + 1, 0, none⟩ (.int .i64 y4)).setCell ⟨w22.heap.size + 1, 1, none⟩ (.int .i64 y7)).setCell ⟨w22.heap.size + 1, 2, none⟩ (.slice ta22 m7.length tc22)) (w22.heap.size + 1) y4 y7 (.slice ta22 m7.length tc22)) := hide (unhide TY23).put
  clear TY23
  have B23 : Below w.heap.size w (((wy23.setCell ⟨w22.heap.size + 1, 0, none⟩ (.int .i64 y4)).setCell ⟨w22.heap.size + 1, 1, none⟩ (.int .i64 y7)).setCell ⟨w22.heap.size + 1, 2, none⟩ (.slice ta22 m7.length tc22)) := ((((unhide HBY23).setCell (p := ⟨w22.heap.size + 1, 0, none⟩) (by have := B22.size; show w.heap.size ≤ w22.heap.size + 1; omega) (.int .i64 y4)).setCell (p := ⟨w22.heap.size + 1, 1, none⟩) (by have := B22.size; show w.heap.size ≤ w22.heap.size + 1; omega) (.int .i64 y7)).setCell (p := ⟨w22.heap.size + 1, 2, none⟩) (by have := B22.size; show w.heap.size ≤ w22.heap.size + 1; omega) (.slice ta22 m7.length tc22))
  clear HBY23
  generalize hWT : (((wy23.setCell ⟨w22.heap.size + 1, 0, none⟩ (.int .i64 y4)).setCell ⟨w22.heap.size + 1, 1, none⟩ (.int .i64 y7)).setCell ⟨w22.heap.size + 1, 2, none⟩ (.slice ta22 m7.length tc22)) = w23 at *
  clear hWT
  refine (eqR y1 y2 y3 y4 y5 y6 _ _ _ _ _ _ _  _ _ _ _ _ _ _  _ _ _ _ _ _ _  _ _ _ _ _ _ _  m1 m2 m3 m4 m5 m6 m7 _ hq1 hq2 hq3 hq4 hq5 hq6 hq7 (unhide H23).r1 (unhide H23).r2 (unhide H23).r3 (unhide H23).r4 (unhide H23).r5 (unhide H23).r6 (unhide H23).r7 (unhide W23).r1 (unhide W23).r2 (unhide W23).r3 (unhide W23).r4 (unhide W23).r5 (unhide W23).r6 (unhide W23).r7).mono ?_
  rintro e w24 ⟨rfl, b24⟩
  have B24 := B23.trans (b24.mono B23.size)
  have sz24 : w23.heap.size ≤ w24.heap.size := b24.size
  have Q24 := hide ((unhide Q23).below b24)
  have W24 := hide ((unhide W23).below b24)
  have WT24 := hide ((unhide WT23).below b24)
  have WR24 := hide ((unhide WR23).below b24)
  have WB24 := hide ((unhide WB23).below b24)
  have GR24 := hide ((unhide GR23).below b24)
  have GB24 := hide ((unhide GB23).below b24)
  have M24 := hide ((unhide M23).below b24)
  have N24 := hide ((unhide N23).below b24)
  have Z24 := hide ((unhide Z23).below b24)
  have H24 := hide ((unhide H23).below b24)
  have HT24 := hide ((unhide HT23).below b24)
  have HR24 := hide ((unhide HR23).below b24)
  have HB24 := hide ((unhide HB23).below b24)
  clear Q23 W23 WT23 WR23 WB23 GR23 GB23 M23 N23 Z23 H23 HT23 HR23 HB23
  obtain ⟨k0_0, k0_1, k0_2⟩ := (unhide HB24).bx
  obtain ⟨k1_0, k1_1, k1_2⟩ := (unhide WB24).bx
  go_wp2_with fail
  clear k0_0 k0_1 k0_2 k1_0 k1_1 k1_2
  refine (Ts.eq y4 y7 _ _ m7 _ _ _ hq7 (unhide HT24).rm (unhide WT24).rm).mono ?_
  rintro e w25 ⟨rfl, b25⟩
  have B25 := B24.trans (b25.mono B24.size)
  have sz25 : w24.heap.size ≤ w25.heap.size := b25.size
  have Q25 := hide ((unhide Q24).below b25)
  have W25 := hide ((unhide W24).below b25)
  have WT25 := hide ((unhide WT24).below b25)
  have WR25 := hide ((unhide WR24).below b25)
  have WB25 := hide ((unhide WB24).below b25)
  have GR25 := hide ((unhide GR24).below b25)
  have GB25 := hide ((unhide GB24).below b25)
  have M25 := hide ((unhide M24).below b25)
  have N25 := hide ((unhide N24).below b25)
  have Z25 := hide ((unhide Z24).below b25)
  have H25 := hide ((unhide H24).below b25)
  have HT25 := hide ((unhide HT24).below b25)
  have HR25 := hide ((unhide HR24).below b25)
  have HB25 := hide ((unhide HB24).below b25)
  clear Q24 W24 WT24 WR24 WB24 GR24 GB24 M24 N24 Z24 H24 HT24 HR24 HB24
  go_wp2_with (refine wpList_loadR _ rfl rfl rfl (unhide GR25) ?_)
  refine (heldSv y1 y2 y3 y4 y5 y6 _ _ _ _ _ _ _  m1.length m2.length m3.length m4.length m5.length m6.length m7.length _ _ _ _ _ _ _  (w7.heap.size) (w8.heap.size) _ 1 m1 m2 m3 m4 m5 m6 m7 _ (by omega) (by omega) rfl rfl rfl rfl rfl rfl rfl hq1 hq2 hq3 hq4 hq5 hq6 hq7 (unhide M25)).mono ?_
  rintro e w26 ⟨k7_, rfl, hk7_, b26⟩
  obtain rfl : kk = k7_ := ((unhide hk7_).trans (unhide HKK).symm).symm
  clear hk7_
  have B26 := B25.trans (b26.mono B25.size)
  have sz26 : w25.heap.size ≤ w26.heap.size := b26.size
  have Q26 := hide ((unhide Q25).below b26)
  have W26 := hide ((unhide W25).below b26)
  have WT26 := hide ((unhide WT25).below b26)
  have WR26 := hide ((unhide WR25).below b26)
  have WB26 := hide ((unhide WB25).below b26)
  have GR26 := hide ((unhide GR25).below b26)
  have GB26 := hide ((unhide GB25).below b26)
  have M26 := hide ((unhide M25).below b26)
  have N26 := hide ((unhide N25).below b26)
  have Z26 := hide ((unhide Z25).below b26)
  have H26 := hide ((unhide H25).below b26)
  have HT26 := hide ((unhide HT25).below b26)
  have HR26 := hide ((unhide HR25).below b26)
  have HB26 := hide ((unhide HB25).below b26)
  clear Q25 W25 WT25 WR25 WB25 GR25 GB25 M25 N25 Z25 H25 HT25 HR25 HB25
  obtain ⟨k0_0, k0_1, k0_2⟩ := (unhide GB26).bx
  go_wp2_with fail
  clear k0_0 k0_1 k0_2
  refine (Ts.held y4 y7 _ _ m7.length _ _ kk _ (by omega) (by omega) hq7 (unhide N26)).mono ?_
  rintro e w27 ⟨rfl, b27⟩
  have B27 := B26.trans (b27.mono B26.size)
  have sz27 : w26.heap.size ≤ w27.heap.size := b27.size
  have Q27 := hide ((unhide Q26).below b27)
  have W27 := hide ((unhide W26).below b27)
  have WT27 := hide ((unhide WT26).below b27)
  have WR27 := hide ((unhide WR26).below b27)
  have WB27 := hide ((unhide WB26).below b27)
  have GR27 := hide ((unhide GR26).below b27)
  have GB27 := hide ((unhide GB26).below b27)
  have M27 := hide ((unhide M26).below b27)
  have N27 := hide ((unhide N26).below b27)
  have Z27 := hide ((unhide Z26).below b27)
  have H27 := hide ((unhide H26).below b27)
  have HT27 := hide ((unhide HT26).below b27)
  have HR27 := hide ((unhide HR26).below b27)
  have HB27 := hide ((unhide HB26).below b27)
  clear Q26 W26 WT26 WR26 WB26 GR26 GB26 M26 N26 Z26 H26 HT26 HR26 HB26
  rw [unhide HMM]
  have HF := hide B27
  go_wp2_with fail
  go_ret
  exact ⟨rfl, unhide HF⟩

set_option maxRecDepth 100000 in
theorem lifted (os : Os) (started : os.Started) (H : Type) (enc : TypeId × Value → H) :
    ReturnsInHanded {} Tryz.checked os 6 .any (Rows.fnExactTcNowSpec.pre6 enc Tryz.prog Tryz.f6 Rows.fnExactTcNowRow.domain false) (Rows.fnExactTcNowSpec.post enc Tryz.prog Tryz.f6 false true false false) := by
  refine returnsInHanded_of_change (C := Tryz.checked) own started (by kernel_rfl) Tryz.func6
    (ChangeSpec.witness6 (enc := enc) (C := Tryz.checked) false ⟨#[], #[.agg #[.int .i64 0, .int .i64 0, .int .i64 0, .int .i64 0, .int .i64 0, .slice none 0 0, .slice none 0 0, .slice none 0 0, .slice none 0 0, .slice none 0 0, .slice none 0 0, .slice none 0 0, .int .i64 0]], []⟩ 8 (by kernel_rfl) (by kernel_rfl) (by kernel_rfl) (by kernel_rfl)) ?_
  intro W base args ds gs before hval0 hW hcnd _
  have hval : ∀ (j : Nat) t v, Tryz.f6.params[j]? = some t → args[j]? = some v → Value.okWide Tryz.prog W .any base t v := hval0
  have hW' := hW
  obtain ⟨p, q, hA0, hV, rfl, hfz, hnd⟩ := hW
  have hA : DataW.TrodAll enc Tryz.prog W 0 (fun _ => true) true Tryz.f6.params.toList args.toList ds p := hA0
  rw [Tryz.params6] at hA hval
  obtain ⟨v0, vs0, d0, ds0, p0, q0, hargs0, rfl, rfl, h0, r0⟩ := trodAll_cons hA
  obtain ⟨rfl, rfl, rfl⟩ := trodAll_nil r0
  obtain rfl : args = #[v0] := by cases args; simp_all
  obtain ⟨rfl, rfl⟩ := trodVars_none hV
  have k0 := h0
  have lt0 : ∀ x ∈ p0, x.block < W.heap.size := by obtain ⟨m, hm⟩ := k0; exact DataW.trod_lt m _ _ _ hm
  obtain ⟨xi1_0, xi2_0, xi3_0, xi4_0, xi5_0, xi6_0, ai1_0, ai2_0, ai3_0, ai4_0, ai5_0, ai6_0, ai7_0, ci1_0, ci2_0, ci3_0, ci4_0, ci5_0, ci6_0, ci7_0, li1_0, li2_0, li3_0, li4_0, li5_0, li6_0, li7_0, rfl, ⟨hj1_0, hj2_0, hj3_0, hj4_0, hj5_0, hj6_0, hj7_0⟩, hrd1_0, hrd2_0, hrd3_0, hrd4_0, hrd5_0, hrd6_0, hrd7_0⟩ := Rt.open_rtr (hval 0 29 v0 rfl rfl) h0
  clear hA0 hval0
  refine (walk xi1_0 xi2_0 xi3_0 xi4_0 xi5_0 xi6_0 ai1_0 ai2_0 ai3_0 ai4_0 ai5_0 ai6_0 ai7_0 ci1_0 ci2_0 ci3_0 ci4_0 ci5_0 ci6_0 ci7_0 li1_0 li2_0 li3_0 li4_0 li5_0 li6_0 li7_0 hj1_0 hj2_0 hj3_0 hj4_0 hj5_0 hj6_0 hj7_0 W hrd1_0 hrd2_0 hrd3_0 hrd4_0 hrd5_0 hrd6_0 hrd7_0).mono fun e W' ⟨he, bel⟩ => ?_
  subst he
  exact ⟨_, rfl, _, _, _, [], _, [], hW', trodAll_mk1 (shut_bool Tryz.underlying4 _), (trodAll_cons_mk (Below.trod laidOut (by kernel_rfl) (of_decide_eq_true (by kernel_rfl)) k0 bel lt0) trodAll_mk0), rfl, bel.frame _, fun h => by cases h⟩

theorem over : Rows.fnExactTcNowRow.holds Tryz.pinned (OpenSpec.ofChange Rows.fnExactTcNowSpec) :=
  OpenClaim.holds_of_wide 6 Tryz.f6 rfl rfl rfl rfl rfl rfl rfl ⟨rfl, rfl, rfl, rfl, rfl⟩ rfl rfl rfl rfl rfl (by kernel_rfl) Tryz.func6 (by kernel_rfl)
    (of_decide_eq_true (by kernel_rfl)) (by unfold Func.isWrapper; first | (rw [if_pos (by decide +kernel)]; kernel_rfl) | (rw [if_neg (by decide +kernel)]; exact ⟨rfl, rfl⟩))
    (fun os started H enc _ => lifted os started H enc)
end Go.Proofs.YtiipppfkpgbpeaaGreat.fnExactTcNow
namespace Go.Proofs.YtiipppfkpgbpeaaGreat
/-- At every router the program's TcNow answers as its model. -/
theorem fnExactTcNow_holds : Rows.FnExactTcNowSaid := fnExactTcNow.over
end Go.Proofs.YtiipppfkpgbpeaaGreat
