/-
  Proved here: for every argument, laws.FnExactGraphOf returns true (the program's GraphOf answers as its model, leaves its arguments alone, and answers in memory of its own), and leaves what came in as it was. No condition. (The walk is written by mkgralaw.py.)
-/
import Derived.Test.YtmlokaielemhaaaGraI
import Derived.Test.YtmlokaielemhaaaGraS
import Derived.Test.YtmlokaielemhaaaStrTop
namespace Go.Proofs.Ytmlokaielemhaaa.fnExactGraphOf
open Go.ChangeShapes Go.WideShapes Go.ChangeAt Go.RowKit
open W1 Gr Tp
set_option linter.unusedVariables false
set_option linter.unusedSimpArgs false
theorem own : ownKnob Try.prog.godebug = none := by kernel_rfl
theorem laidOut : laidOutB Try.prog = true := by kernel_rfl
theorem sH1 {w : World} {b : Nat} {x y : Value} (h : Bx2 w b x y) : Bx2 w b x y ∧ w.cell? ⟨b, 0, none⟩ = some x ∧ w.cell? ⟨b, 1, none⟩ = some y := ⟨h, h.1, h.2⟩
theorem sH2 {w : World} {b c : Nat} {x y x2 y2 : Value} (h : Bx2 w b x y) (h2 : Bx2 w c x2 y2) :
    (Bx2 w b x y ∧ Bx2 w c x2 y2) ∧ w.cell? ⟨b, 0, none⟩ = some x ∧ w.cell? ⟨b, 1, none⟩ = some y ∧ w.cell? ⟨c, 0, none⟩ = some x2 ∧ w.cell? ⟨c, 1, none⟩ = some y2 := ⟨⟨h, h2⟩, h.1, h.2, h2.1, h2.2⟩
set_option maxRecDepth 100000 in
set_option maxHeartbeats 16000000 in
theorem walk (me : Int) (wf_me : (Lit.int .i64 me).wf = true) (q : Option Addr) (qs : List Lk.R) (cq : Nat) (hm_qs : qs.length ≤ maxLen) (a : Option Addr) (ss : List So.R) (ca : Nat) (b : Option Addr) (es : List Tu.R) (cb : Nat) (hm_ss : ss.length ≤ maxLen) (hm_es : es.length ≤ maxLen) (now : Int) (wf_now : (Lit.int .i64 now).wf = true) (w : World) (hr_qs : Lk.RM w q qs) (hr_ss : So.RM w a ss) (hr_es : Tu.RM w b es) :
    Calls Try.prog 4 #[.int .i64 me, .slice q qs.length cq, .agg #[.slice a ss.length ca, .slice b es.length cb], .int .i64 now] w fun e w' => e = .returned (.bool true) ∧ Below w.heap.size w w' := by
  have HR_qs := hide hr_qs
  have HR_ss := hide hr_ss
  have HR_es := hide hr_es
  clear hr_qs hr_ss hr_es
  obtain ⟨w1, hw1⟩ : ∃ w1, w.alloc (.cells #[.slice a ss.length ca, .slice b es.length cb] 53) = w1 := ⟨_, rfl⟩
  have B1 : Below w.heap.size w w1 := by rw [← hw1]; exact (Below.refl _ _).alloc (Nat.le_refl _) _
  have Q1 : Hid (Bx2 w1 w.heap.size (.slice a ss.length ca) (.slice b es.length cb)) := hide (by rw [← hw1]; exact bx2_new _ _ _ _)
  have hq1 : w.heap.size < w1.heap.size := (unhide Q1).lt
  have HW1 := hide hw1
  clear hw1
  go_enter Try.func4, Try.ntmps4
  go_wp2_with fail
  rw [unhide HW1]
  refine (Lk.szS q qs.length cq 1048576 _ (by omega) (by omega) hm_qs).mono ?_
  rintro e w2 ⟨r2, rfl, hw2, hr01⟩
  have b2 : Below w1.heap.size w1 w2 := by rw [hw2]; exact Below.refl _ _
  clear hw2
  have B2 := B1.trans (b2.mono B1.size)
  have sz2 : w1.heap.size ≤ w2.heap.size := b2.size
  have Q2 := hide ((unhide Q1).below b2)
  clear Q1
  rcases hr01 with hr0 | ⟨hr0, hr1⟩
  · go_wp2_with fail
    go_ret
    exact ⟨rfl, B2⟩
  have hnn2 : ¬ r2 < 0 := by omega
  have hml_qs : qs.length ≤ 1048576 := by omega
  have hrl2 : r2 ≤ 1048576 := by omega
  clear hr1 hm_qs
  obtain ⟨zQ0, zQ1⟩ := unhide Q2
  go_wp2_with fail
  clear zQ0 zQ1
  refine (Tq.sz a ss.length ca b es.length cb r2 _ (by omega) (by omega) hm_ss hm_es).mono ?_
  rintro e w3 ⟨r3, rfl, b3, hr01⟩
  have B3 := B2.trans (b3.mono B2.size)
  have sz3 : w2.heap.size ≤ w3.heap.size := b3.size
  have Q3 := hide ((unhide Q2).below b3)
  clear Q2
  rcases hr01 with hr0 | ⟨hr0, hr1⟩
  · go_wp2_with fail
    go_ret
    exact ⟨rfl, B3⟩
  have hnn3 : ¬ r3 < 0 := by omega
  have hml_ss : ss.length ≤ 1048576 := by omega
  have hml_es : es.length ≤ 1048576 := by omega
  clear hr1 hm_ss hm_es
  have hol : (graA me qs ss es now).length ≤ 1048576 := Nat.le_trans (gra_len me qs ss es now) (by omega)
  go_wp2_with fail
  refine wp_region_noPanic ?_
  refine wp_region_held_drew (S := fun w' => Bx2 w' w.heap.size (.slice a ss.length ca) (.slice b es.length cb) ∧ w'.cell? ⟨w.heap.size, 0, none⟩ = some (.slice a ss.length ca) ∧ w'.cell? ⟨w.heap.size, 1, none⟩ = some (.slice b es.length cb)) (by kernel_rfl) (sH1 (unhide Q3).drew) (fun hHeld => ?_)
  (refine Rg.tk (i := 0) (d := 32) (v := ?_) rfl rfl (by kernel_rfl) (by kernel_rfl) (by kernel_rfl) (fun _ _ _ h => h) (by rfl) ?_ (by assumption) ?_; rotate_left; (focus (intro w0 hSw; (try dsimp only at hSw); go_simp; (try with_reducible rfl))); (try simp only [Act.put, List.setIfInBounds_toArray, List.set_cons_zero, List.set_cons_succ]))
  (refine Rg.tk (i := 1) (d := 33) (v := ?_) rfl rfl (by kernel_rfl) (by kernel_rfl) (by kernel_rfl) (fun _ _ _ h => h) (by rfl) ?_ (by assumption) ?_; rotate_left; (focus (intro w0 hSw; (try dsimp only at hSw); go_simp; (try with_reducible rfl))); (try simp only [Act.put, List.setIfInBounds_toArray, List.set_cons_zero, List.set_cons_succ]))
  (refine Rg.tk (i := 3) (d := 35) (v := ?_) rfl rfl (by kernel_rfl) (by kernel_rfl) (by kernel_rfl) (fun _ _ _ h => h) (by rfl) ?_ (by assumption) ?_; rotate_left; (focus (intro w0 hSw; (try dsimp only at hSw); go_simp; (try with_reducible rfl))); (try simp only [Act.put, List.setIfInBounds_toArray, List.set_cons_zero, List.set_cons_succ]))
  (refine Rg.tk (i := 5) (d := 37) (v := ?_) rfl rfl (by kernel_rfl) (by kernel_rfl) (by kernel_rfl) (fun _ _ _ h => h) (by rfl) ?_ (by assumption) ?_; rotate_left; (focus (intro w0 hSw; (try dsimp only at hSw); go_simp; (try with_reducible rfl))); (try simp only [Act.put, List.setIfInBounds_toArray, List.set_cons_zero, List.set_cons_succ]))
  (refine wpAnyH_ready (rs := [2]) (by kernel_rfl) (by simp) ?_; refine AllReadyH.cons (o := _) rfl (fun K hK => ?_) AllReadyH.nil; go_simp)
  refine (Lk.toS q qs cq _ hml_qs ((unhide HR_qs).below B3.drew)).mono ?_
  rintro e w4 ⟨g4, rfl, b4_, hg4, hz4, u4⟩
  have b4 : Below w3.heap.size w3 w4 := (Below.refl _ _).drew.trans b4_
  clear b4_
  have B4 := B3.trans (b4.mono B3.size)
  have sz4 : w3.heap.size ≤ w4.heap.size := b4.size
  have Q4 := hide ((unhide Q3).below b4)
  clear Q3
  clear hHeld
  have K4 : Hid (Lk.Lst w4 (some ⟨g4, 0, none⟩) qs w3.heap.size w4.heap.size) := hide (.inr ⟨g4, rfl, hg4, hz4, hz4, u4⟩)
  clear u4
  refine hK.out _ _ (sH1 (unhide Q4)) (fun hHeld => ?_)
  clear hK K
  (try simp only [Act.put, List.setIfInBounds_toArray, List.set_cons_zero, List.set_cons_succ])
  (refine wpAnyH_ready (rs := [4]) (by kernel_rfl) (by simp) ?_; refine AllReadyH.cons (o := _) rfl (fun K hK => ?_) AllReadyH.nil; go_simp)
  refine (Tq.to a ss ca b es cb _ hml_ss hml_es ((unhide HR_ss).below B4) ((unhide HR_es).below B4)).mono ?_
  rintro e w5 ⟨g5, h5, rfl, b5, hg5, u5, v5⟩
  have B5 := B4.trans (b5.mono B4.size)
  have sz5 : w4.heap.size ≤ w5.heap.size := b5.size
  have Q5 := hide ((unhide Q4).below b5)
  have K5 := hide ((unhide K4).below b5)
  clear Q4 K4
  clear hHeld
  have Ss5 : Hid (So.Lst w5 (some ⟨g5, 0, none⟩) ss w4.heap.size h5) := hide (.inr ⟨g5, rfl, hg5.1, hg5.2.1, by omega, u5⟩)
  have Se5 : Hid (Tu.Lst w5 (some ⟨h5, 0, none⟩) es h5 w5.heap.size) := hide (.inr ⟨h5, rfl, Nat.le_refl _, hg5.2.2, hg5.2.2, v5⟩)
  clear u5 v5
  refine hK.out _ _ (sH1 (unhide Q5)) (fun hHeld => ?_)
  clear hK K
  (try simp only [Act.put, List.setIfInBounds_toArray, List.set_cons_zero, List.set_cons_succ])
  (refine wpAnyH_ready (rs := [6]) (by kernel_rfl) (by simp) ?_; refine AllReadyH.cons (o := _) rfl (fun K hK => ?_) AllReadyH.nil; go_simp)
  refine (specGraph me _ qs _ _ ss _ _ es _ now _ hml_qs hml_ss hml_es (unhide K5).rm (unhide Ss5).rm (unhide Se5).rm).mono ?_
  rintro e w6 ⟨v6, rfl, b6, l6⟩
  have B6 := B5.trans (b6.mono B5.size)
  have sz6 : w5.heap.size ≤ w6.heap.size := b6.size
  have Q6 := hide ((unhide Q5).below b6)
  have K6 := hide ((unhide K5).below b6)
  have Ss6 := hide ((unhide Ss5).below b6)
  have Se6 := hide ((unhide Se5).below b6)
  clear Q5 K5 Ss5 Se5
  clear hHeld
  obtain ⟨a6, c6, rfl, L6⟩ := l6
  have W6 := hide L6
  clear L6
  obtain ⟨cd, hcd⟩ : ∃ cd, graC me qs ss es = cd := ⟨_, rfl⟩
  have HC := hide hcd
  rw [hcd]
  clear hcd
  have hne : (cd != cd) = false := by simp
  refine hK.out _ _ (sH1 (unhide Q6)) (fun hHeld => ?_)
  clear hK K
  (try simp only [Act.put, List.setIfInBounds_toArray, List.set_cons_zero, List.set_cons_succ])
  (refine Rg.tk (i := 7) (d := 31) (v := ?_) rfl rfl (by kernel_rfl) (by kernel_rfl) (by kernel_rfl) (fun _ _ _ h => h) (by rfl) ?_ (by assumption) ?_; rotate_left; (focus (intro w0 hSw; (try dsimp only at hSw); go_simp; (try with_reducible rfl))); (try simp only [Act.put, List.setIfInBounds_toArray, List.set_cons_zero, List.set_cons_succ]))
  (refine Rg.tk (i := 8) (d := 39) (v := ?_) rfl rfl (by kernel_rfl) (by kernel_rfl) (by kernel_rfl) (fun _ _ _ h => h) (by rfl) ?_ (by assumption) ?_; rotate_left; (focus (intro w0 hSw; (try dsimp only at hSw); go_simp; (try with_reducible rfl))); (try simp only [Act.put, List.setIfInBounds_toArray, List.set_cons_zero, List.set_cons_succ]))
  (refine Rg.tk (i := 9) (d := 40) (v := ?_) rfl rfl (by kernel_rfl) (by kernel_rfl) (by kernel_rfl) (fun _ _ _ h => h) (by rfl) ?_ (by assumption) ?_; rotate_left; (focus (intro w0 hSw; (try dsimp only at hSw); go_simp; (try with_reducible rfl))); (try simp only [Act.put, List.setIfInBounds_toArray, List.set_cons_zero, List.set_cons_succ]))
  (refine Rg.tk (i := 10) (d := 10) (v := ?_) rfl rfl (by kernel_rfl) (by kernel_rfl) (by kernel_rfl) (fun _ _ _ h => h) (by rfl) ?_ (by assumption) ?_; rotate_left; (focus (intro w0 hSw; (try dsimp only at hSw); go_simp; (try with_reducible rfl))); (try simp only [Act.put, List.setIfInBounds_toArray, List.set_cons_zero, List.set_cons_succ]))
  (refine Rg.tk (i := 11) (d := 11) (v := ?_) rfl rfl (by kernel_rfl) (by kernel_rfl) (by kernel_rfl) (fun _ _ _ h => h) (by rfl) ?_ (by assumption) ?_; rotate_left; (focus (intro w0 hSw; (try dsimp only at hSw); go_simp; (try with_reducible rfl))); (try simp only [Act.put, List.setIfInBounds_toArray, List.set_cons_zero, List.set_cons_succ]))
  refine wpAnyH_done (by kernel_rfl) (NoPanic.normal ?_) _
  clear hHeld
  clear K6
  clear Ss6
  clear Se6
  go_wp2_with fail
  refine (Lk.toS q qs cq _ hml_qs ((unhide HR_qs).below B6)).mono ?_
  rintro e w7 ⟨g7, rfl, b7, hg7, hz7, u7⟩
  have B7 := B6.trans (b7.mono B6.size)
  have sz7 : w6.heap.size ≤ w7.heap.size := b7.size
  have Q7 := hide ((unhide Q6).below b7)
  have W7 := hide ((unhide W6).below b7)
  clear Q6 W6
  have N7 : Hid (Lk.Lst w7 (some ⟨g7, 0, none⟩) qs w6.heap.size w7.heap.size) := hide (.inr ⟨g7, rfl, hg7, hz7, hz7, u7⟩)
  clear u7
  obtain ⟨zQ0, zQ1⟩ := unhide Q7
  go_wp2_with fail
  clear zQ0 zQ1
  refine (Tq.to a ss ca b es cb _ hml_ss hml_es ((unhide HR_ss).below B7) ((unhide HR_es).below B7)).mono ?_
  rintro e w8 ⟨g8, h8, rfl, b8, hg8, u8, v8⟩
  have B8 := B7.trans (b8.mono B7.size)
  have sz8 : w7.heap.size ≤ w8.heap.size := b8.size
  have Q8 := hide ((unhide Q7).below b8)
  have W8 := hide ((unhide W7).below b8)
  have N8 := hide ((unhide N7).below b8)
  clear Q7 W7 N7
  have Xs8 : Hid (So.Lst w8 (some ⟨g8, 0, none⟩) ss w7.heap.size h8) := hide (.inr ⟨g8, rfl, hg8.1, hg8.2.1, by omega, u8⟩)
  have Xe8 : Hid (Tu.Lst w8 (some ⟨h8, 0, none⟩) es h8 w8.heap.size) := hide (.inr ⟨h8, rfl, Nat.le_refl _, hg8.2.2, hg8.2.2, v8⟩)
  clear u8 v8
  obtain ⟨w9, hw9⟩ : ∃ w9, w8.alloc (.cells #[.slice (some ⟨g8, 0, none⟩) ss.length ss.length, .slice (some ⟨h8, 0, none⟩) es.length es.length] 26) = w9 := ⟨_, rfl⟩
  have b9 : Below w8.heap.size w8 w9 := by rw [← hw9]; exact (Below.refl _ _).alloc (Nat.le_refl _) _
  have B9 := B8.trans (b9.mono B8.size)
  have sz9 : w8.heap.size ≤ w9.heap.size := b9.size
  have sy9 : w9.heap.size = w8.heap.size + 1 := by rw [← hw9]; simp
  have Q9 := hide ((unhide Q8).below b9)
  have W9 := hide ((unhide W8).below b9)
  have N9 := hide ((unhide N8).below b9)
  have Xs9 := hide ((unhide Xs8).below b9)
  have Xe9 := hide ((unhide Xe8).below b9)
  clear Q8 W8 N8 Xs8 Xe8
  have V9 : Hid (Bx2 w9 w8.heap.size (.slice (some ⟨g8, 0, none⟩) ss.length ss.length) (.slice (some ⟨h8, 0, none⟩) es.length es.length)) := hide (by rw [← hw9]; exact bx2_new _ _ _ _)
  have HW9 := hide hw9
  clear hw9
  go_wp2_with fail
  rw [unhide HW9]
  refine (implGraph me _ qs _ _ ss _ _ es _ now _ hml_qs hml_ss hml_es (unhide N9).rm (unhide Xs9).rm (unhide Xe9).rm).mono ?_
  rintro e w10 ⟨v10, rfl, b10, l10⟩
  have B10 := B9.trans (b10.mono B9.size)
  have sz10 : w9.heap.size ≤ w10.heap.size := b10.size
  have Q10 := hide ((unhide Q9).below b10)
  have W10 := hide ((unhide W9).below b10)
  have N10 := hide ((unhide N9).below b10)
  have Xs10 := hide ((unhide Xs9).below b10)
  have Xe10 := hide ((unhide Xe9).below b10)
  have V10 := hide ((unhide V9).below b10)
  clear Q9 W9 N9 Xs9 Xe9 V9
  obtain ⟨a10, c10, rfl, L10⟩ := l10
  have G10 := hide L10
  clear L10
  rw [unhide HC]
  go_wp2_with fail
  refine (Tu.eqS _ _ (graA me qs ss es now) _ _ _ hol (unhide G10).rm (unhide W10).rm).mono ?_
  rintro e w11 ⟨rfl, b11⟩
  have B11 := B10.trans (b11.mono B10.size)
  have sz11 : w10.heap.size ≤ w11.heap.size := b11.size
  have Q11 := hide ((unhide Q10).below b11)
  have W11 := hide ((unhide W10).below b11)
  have N11 := hide ((unhide N10).below b11)
  have Xs11 := hide ((unhide Xs10).below b11)
  have Xe11 := hide ((unhide Xe10).below b11)
  have V11 := hide ((unhide V10).below b11)
  have G11 := hide ((unhide G10).below b11)
  clear Q10 W10 N10 Xs10 Xe10 V10 G10
  go_wp2_with fail
  refine (Lk.toS q qs cq _ hml_qs ((unhide HR_qs).below B11)).mono ?_
  rintro e w12 ⟨g12, rfl, b12, hg12, hz12, u12⟩
  have B12 := B11.trans (b12.mono B11.size)
  have sz12 : w11.heap.size ≤ w12.heap.size := b12.size
  have Q12 := hide ((unhide Q11).below b12)
  have W12 := hide ((unhide W11).below b12)
  have N12 := hide ((unhide N11).below b12)
  have Xs12 := hide ((unhide Xs11).below b12)
  have Xe12 := hide ((unhide Xe11).below b12)
  have V12 := hide ((unhide V11).below b12)
  have G12 := hide ((unhide G11).below b12)
  clear Q11 W11 N11 Xs11 Xe11 V11 G11
  have Y12 : Hid (Lk.Lst w12 (some ⟨g12, 0, none⟩) qs w11.heap.size w12.heap.size) := hide (.inr ⟨g12, rfl, hg12, hz12, hz12, u12⟩)
  clear u12
  go_wp2_with fail
  refine (Lk.eqS _ _ qs _ _ _ hml_qs (unhide N12).rm (unhide Y12).rm).mono ?_
  rintro e w13 ⟨rfl, b13⟩
  have B13 := B12.trans (b13.mono B12.size)
  have sz13 : w12.heap.size ≤ w13.heap.size := b13.size
  have Q13 := hide ((unhide Q12).below b13)
  have W13 := hide ((unhide W12).below b13)
  have N13 := hide ((unhide N12).below b13)
  have Xs13 := hide ((unhide Xs12).below b13)
  have Xe13 := hide ((unhide Xe12).below b13)
  have V13 := hide ((unhide V12).below b13)
  have G13 := hide ((unhide G12).below b13)
  have Y13 := hide ((unhide Y12).below b13)
  clear Q12 W12 N12 Xs12 Xe12 V12 G12 Y12
  clear Y13
  go_wp2_with fail
  refine wp_region_noPanic ?_
  refine wp_region_held_drew (S := fun w' => (Bx2 w' w8.heap.size (.slice (some ⟨g8, 0, none⟩) ss.length ss.length) (.slice (some ⟨h8, 0, none⟩) es.length es.length) ∧ Bx2 w' w.heap.size (.slice a ss.length ca) (.slice b es.length cb)) ∧ w'.cell? ⟨w8.heap.size, 0, none⟩ = some (.slice (some ⟨g8, 0, none⟩) ss.length ss.length) ∧ w'.cell? ⟨w8.heap.size, 1, none⟩ = some (.slice (some ⟨h8, 0, none⟩) es.length es.length) ∧ w'.cell? ⟨w.heap.size, 0, none⟩ = some (.slice a ss.length ca) ∧ w'.cell? ⟨w.heap.size, 1, none⟩ = some (.slice b es.length cb)) (by kernel_rfl) (sH2 (unhide V13).drew (unhide Q13).drew) (fun hHeld => ?_)
  (refine Rg.tk (i := 0) (d := 67) (v := ?_) rfl rfl (by kernel_rfl) (by kernel_rfl) (by kernel_rfl) (fun _ _ _ h => h) (by rfl) ?_ (by assumption) ?_; rotate_left; (focus (intro w0 hSw; (try dsimp only at hSw); go_simp; (try with_reducible rfl))); (try simp only [Act.put, List.setIfInBounds_toArray, List.set_cons_zero, List.set_cons_succ]))
  (refine Rg.tk (i := 1) (d := 68) (v := ?_) rfl rfl (by kernel_rfl) (by kernel_rfl) (by kernel_rfl) (fun _ _ _ h => h) (by rfl) ?_ (by assumption) ?_; rotate_left; (focus (intro w0 hSw; (try dsimp only at hSw); go_simp; (try with_reducible rfl))); (try simp only [Act.put, List.setIfInBounds_toArray, List.set_cons_zero, List.set_cons_succ]))
  (refine wpAnyH_ready (rs := [2]) (by kernel_rfl) (by simp) ?_; refine AllReadyH.cons (o := _) rfl (fun K hK => ?_) AllReadyH.nil; go_simp)
  refine (Tq.to a ss ca b es cb _ hml_ss hml_es ((unhide HR_ss).below B13.drew) ((unhide HR_es).below B13.drew)).mono ?_
  rintro e w14 ⟨g14, h14, rfl, b14_, hg14, u14, v14⟩
  have b14 : Below w13.heap.size w13 w14 := (Below.refl _ _).drew.trans b14_
  clear b14_
  have B14 := B13.trans (b14.mono B13.size)
  have sz14 : w13.heap.size ≤ w14.heap.size := b14.size
  have Q14 := hide ((unhide Q13).below b14)
  have W14 := hide ((unhide W13).below b14)
  have N14 := hide ((unhide N13).below b14)
  have Xs14 := hide ((unhide Xs13).below b14)
  have Xe14 := hide ((unhide Xe13).below b14)
  have V14 := hide ((unhide V13).below b14)
  have G14 := hide ((unhide G13).below b14)
  clear Q13 W13 N13 Xs13 Xe13 V13 G13
  clear hHeld
  have Ys14 : Hid (So.Lst w14 (some ⟨g14, 0, none⟩) ss w13.heap.size h14) := hide (.inr ⟨g14, rfl, hg14.1, hg14.2.1, by omega, u14⟩)
  have Ye14 : Hid (Tu.Lst w14 (some ⟨h14, 0, none⟩) es h14 w14.heap.size) := hide (.inr ⟨h14, rfl, Nat.le_refl _, hg14.2.2, hg14.2.2, v14⟩)
  clear u14 v14
  refine hK.out _ _ (sH2 (unhide V14) (unhide Q14)) (fun hHeld => ?_)
  clear hK K
  (try simp only [Act.put, List.setIfInBounds_toArray, List.set_cons_zero, List.set_cons_succ])
  (refine wpAnyH_ready (rs := [3]) (by kernel_rfl) (by simp) ?_; refine AllReadyH.cons (o := _) rfl (fun K hK => ?_) AllReadyH.nil; go_simp)
  refine (Tq.eq _ ss _ _ es _ _ _ _ _ _ hml_ss hml_es (unhide Xs14).rm (unhide Xe14).rm (unhide Ys14).rm (unhide Ye14).rm).mono ?_
  rintro e w15 ⟨rfl, b15⟩
  have B15 := B14.trans (b15.mono B14.size)
  have sz15 : w14.heap.size ≤ w15.heap.size := b15.size
  have Q15 := hide ((unhide Q14).below b15)
  have W15 := hide ((unhide W14).below b15)
  have N15 := hide ((unhide N14).below b15)
  have Xs15 := hide ((unhide Xs14).below b15)
  have Xe15 := hide ((unhide Xe14).below b15)
  have V15 := hide ((unhide V14).below b15)
  have G15 := hide ((unhide G14).below b15)
  have Ys15 := hide ((unhide Ys14).below b15)
  have Ye15 := hide ((unhide Ye14).below b15)
  clear Q14 W14 N14 Xs14 Xe14 V14 G14 Ys14 Ye14
  clear hHeld
  clear Ys15
  clear Ye15
  refine hK.out _ _ (sH2 (unhide V15) (unhide Q15)) (fun hHeld => ?_)
  clear hK K
  (try simp only [Act.put, List.setIfInBounds_toArray, List.set_cons_zero, List.set_cons_succ])
  (refine Rg.tk (i := 4) (d := 71) (v := ?_) rfl rfl (by kernel_rfl) (by kernel_rfl) (by kernel_rfl) (fun _ _ _ h => h) (by rfl) ?_ (by assumption) ?_; rotate_left; (focus (intro w0 hSw; (try dsimp only at hSw); go_simp; (try with_reducible rfl))); (try simp only [Act.put, List.setIfInBounds_toArray, List.set_cons_zero, List.set_cons_succ]))
  refine wpAnyH_done (by kernel_rfl) (NoPanic.normal ?_) _
  clear hHeld
  go_wp2_with fail
  refine (Lk.markF _ _ _ _ 1 qs _ (by omega) (by omega) hml_qs (unhide N15)).mono ?_
  rintro e w16 ⟨rfl, sz16, b16, f16, k16⟩
  have sB16 := B15.size
  have B16 := B15.trans (b16.mono (by omega))
  have Q16 := hide ((unhide Q15).but (k16 _ (unhide Q15).lt (by omega)))
  have W16 := hide ((unhide W15).but (p := fun k => k < w6.heap.size ∨ w7.heap.size ≤ k) sz16 (fun k hk h => k16 k hk h) (fun k h1 h2 => by omega))
  have Xs16 := hide ((unhide Xs15).but (p := fun k => k < w6.heap.size ∨ w7.heap.size ≤ k) sz16 (fun k hk h => k16 k hk h) (fun k h1 h2 => by omega))
  have Xe16 := hide ((unhide Xe15).but (p := fun k => k < w6.heap.size ∨ w7.heap.size ≤ k) sz16 (fun k hk h => k16 k hk h) (fun k h1 h2 => by omega))
  have V16 := hide ((unhide V15).but (k16 _ (unhide V15).lt (by omega)))
  have G16 := hide ((unhide G15).but (p := fun k => k < w6.heap.size ∨ w7.heap.size ≤ k) sz16 (fun k hk h => k16 k hk h) (fun k h1 h2 => by omega))
  clear Q15 W15 N15 Xs15 Xe15 V15 G15 f16 k16 b16
  obtain ⟨zV0, zV1⟩ := unhide V16
  go_wp2_with fail
  clear zV0 zV1
  refine (Tq.mark _ _ _ _ _ _ _ (1 + 6 * (qs.length : Int)) ss es _ (by omega) (by omega) hml_ss hml_es (by omega) (by omega) (by omega) (unhide Xs16) (unhide Xe16)).mono ?_
  rintro e w17 ⟨rfl, sz17, b17, ⟨f17, e17⟩, k17⟩
  have sB17 := B16.size
  have B17 := B16.trans (b17.mono (by omega))
  have Q17 := hide ((unhide Q16).but (k17 _ (unhide Q16).lt (by omega)))
  have W17 := hide ((unhide W16).but (p := fun k => k < w7.heap.size ∨ w8.heap.size ≤ k) sz17 (fun k hk h => k17 k hk h) (fun k h1 h2 => by omega))
  have V17 := hide ((unhide V16).but (k17 _ (unhide V16).lt (by omega)))
  have G17 := hide ((unhide G16).but (p := fun k => k < w7.heap.size ∨ w8.heap.size ≤ k) sz17 (fun k hk h => k17 k hk h) (fun k h1 h2 => by omega))
  clear Q16 W16 Xs16 Xe16 V16 G16 f17 k17 b17 e17
  clear V17
  have hpk : ¬ (1 + 6 * (qs.length : Int) + 3 * (ss.length : Int) + 3 * (es.length : Int) < 0) := by omega
  go_wp2_with fail
  refine (Tu.eqS _ _ (graA me qs ss es now) _ _ _ hol (unhide G17).rm (unhide W17).rm).mono ?_
  rintro e w18 ⟨rfl, b18⟩
  have B18 := B17.trans (b18.mono B17.size)
  have sz18 : w17.heap.size ≤ w18.heap.size := b18.size
  have Q18 := hide ((unhide Q17).below b18)
  have W18 := hide ((unhide W17).below b18)
  have G18 := hide ((unhide G17).below b18)
  clear Q17 W17 G17
  go_wp2_with fail
  refine (Tu.markF _ _ _ _ 1 (graA me qs ss es now) _ (by omega) (by omega) hol (unhide G18)).mono ?_
  rintro e w19 ⟨rfl, sz19, b19, f19, k19⟩
  have sB19 := B18.size
  have B19 := B18.trans (b19.mono (by omega))
  have Q19 := hide ((unhide Q18).but (k19 _ (unhide Q18).lt (by omega)))
  have W19 := hide ((unhide W18).but (p := fun k => k < w9.heap.size ∨ w10.heap.size ≤ k) sz19 (fun k hk h => k19 k hk h) (fun k h1 h2 => by omega))
  have M19 := hide f19
  clear Q18 W18 G18 f19 k19 b19
  have hpm : ¬ (1 + 3 * ((graA me qs ss es now).length : Int) < 0) := by omega
  go_wp2_with fail
  refine (Tu.heldF _ _ (graA me qs ss es now).length _ _ 1 _ (by omega) (by omega) hol (unhide M19)).mono ?_
  rintro e wh ⟨rfl, hwh⟩
  rw [hwh]
  clear hwh wh
  go_wp2_with fail
  refine wp_region_noPanic ?_
  refine wp_region_held_drew (S := fun w' => Bx2 w' w.heap.size (.slice a ss.length ca) (.slice b es.length cb) ∧ w'.cell? ⟨w.heap.size, 0, none⟩ = some (.slice a ss.length ca) ∧ w'.cell? ⟨w.heap.size, 1, none⟩ = some (.slice b es.length cb)) (by kernel_rfl) (sH1 (unhide Q19).drew) (fun hHeld => ?_)
  (refine Rg.tk (i := 0) (d := 103) (v := ?_) rfl rfl (by kernel_rfl) (by kernel_rfl) (by kernel_rfl) (fun _ _ _ h => h) (by rfl) ?_ (by assumption) ?_; rotate_left; (focus (intro w0 hSw; (try dsimp only at hSw); go_simp; (try with_reducible rfl))); (try simp only [Act.put, List.setIfInBounds_toArray, List.set_cons_zero, List.set_cons_succ]))
  (refine Rg.tk (i := 1) (d := 104) (v := ?_) rfl rfl (by kernel_rfl) (by kernel_rfl) (by kernel_rfl) (fun _ _ _ h => h) (by rfl) ?_ (by assumption) ?_; rotate_left; (focus (intro w0 hSw; (try dsimp only at hSw); go_simp; (try with_reducible rfl))); (try simp only [Act.put, List.setIfInBounds_toArray, List.set_cons_zero, List.set_cons_succ]))
  (refine Rg.tk (i := 3) (d := 106) (v := ?_) rfl rfl (by kernel_rfl) (by kernel_rfl) (by kernel_rfl) (fun _ _ _ h => h) (by rfl) ?_ (by assumption) ?_; rotate_left; (focus (intro w0 hSw; (try dsimp only at hSw); go_simp; (try with_reducible rfl))); (try simp only [Act.put, List.setIfInBounds_toArray, List.set_cons_zero, List.set_cons_succ]))
  (refine Rg.tk (i := 5) (d := 108) (v := ?_) rfl rfl (by kernel_rfl) (by kernel_rfl) (by kernel_rfl) (fun _ _ _ h => h) (by rfl) ?_ (by assumption) ?_; rotate_left; (focus (intro w0 hSw; (try dsimp only at hSw); go_simp; (try with_reducible rfl))); (try simp only [Act.put, List.setIfInBounds_toArray, List.set_cons_zero, List.set_cons_succ]))
  (refine wpAnyH_ready (rs := [2]) (by kernel_rfl) (by simp) ?_; refine AllReadyH.cons (o := _) rfl (fun K hK => ?_) AllReadyH.nil; go_simp)
  refine (Lk.toS q qs cq _ hml_qs ((unhide HR_qs).below B19.drew)).mono ?_
  rintro e w20 ⟨g20, rfl, b20_, hg20, hz20, u20⟩
  have b20 : Below w19.heap.size w19 w20 := (Below.refl _ _).drew.trans b20_
  clear b20_
  have B20 := B19.trans (b20.mono B19.size)
  have sz20 : w19.heap.size ≤ w20.heap.size := b20.size
  have Q20 := hide ((unhide Q19).below b20)
  have W20 := hide ((unhide W19).below b20)
  have M20 := hide ((unhide M19).below b20)
  clear Q19 W19 M19
  clear hHeld
  have K20 : Hid (Lk.Lst w20 (some ⟨g20, 0, none⟩) qs w19.heap.size w20.heap.size) := hide (.inr ⟨g20, rfl, hg20, hz20, hz20, u20⟩)
  clear u20
  refine hK.out _ _ (sH1 (unhide Q20)) (fun hHeld => ?_)
  clear hK K
  (try simp only [Act.put, List.setIfInBounds_toArray, List.set_cons_zero, List.set_cons_succ])
  (refine wpAnyH_ready (rs := [4]) (by kernel_rfl) (by simp) ?_; refine AllReadyH.cons (o := _) rfl (fun K hK => ?_) AllReadyH.nil; go_simp)
  refine (Tq.to a ss ca b es cb _ hml_ss hml_es ((unhide HR_ss).below B20) ((unhide HR_es).below B20)).mono ?_
  rintro e w21 ⟨g21, h21, rfl, b21, hg21, u21, v21⟩
  have B21 := B20.trans (b21.mono B20.size)
  have sz21 : w20.heap.size ≤ w21.heap.size := b21.size
  have Q21 := hide ((unhide Q20).below b21)
  have W21 := hide ((unhide W20).below b21)
  have M21 := hide ((unhide M20).below b21)
  have K21 := hide ((unhide K20).below b21)
  clear Q20 W20 M20 K20
  clear hHeld
  have Zs21 : Hid (So.Lst w21 (some ⟨g21, 0, none⟩) ss w20.heap.size h21) := hide (.inr ⟨g21, rfl, hg21.1, hg21.2.1, by omega, u21⟩)
  have Ze21 : Hid (Tu.Lst w21 (some ⟨h21, 0, none⟩) es h21 w21.heap.size) := hide (.inr ⟨h21, rfl, Nat.le_refl _, hg21.2.2, hg21.2.2, v21⟩)
  clear u21 v21
  refine hK.out _ _ (sH1 (unhide Q21)) (fun hHeld => ?_)
  clear hK K
  (try simp only [Act.put, List.setIfInBounds_toArray, List.set_cons_zero, List.set_cons_succ])
  (refine wpAnyH_ready (rs := [6]) (by kernel_rfl) (by simp) ?_; refine AllReadyH.cons (o := _) rfl (fun K hK => ?_) AllReadyH.nil; go_simp)
  refine (implGraph me _ qs _ _ ss _ _ es _ now _ hml_qs hml_ss hml_es (unhide K21).rm (unhide Zs21).rm (unhide Ze21).rm).mono ?_
  rintro e w22 ⟨v22, rfl, b22, l22⟩
  have B22 := B21.trans (b22.mono B21.size)
  have sz22 : w21.heap.size ≤ w22.heap.size := b22.size
  have Q22 := hide ((unhide Q21).below b22)
  have W22 := hide ((unhide W21).below b22)
  have M22 := hide ((unhide M21).below b22)
  have K22 := hide ((unhide K21).below b22)
  have Zs22 := hide ((unhide Zs21).below b22)
  have Ze22 := hide ((unhide Ze21).below b22)
  clear Q21 W21 M21 K21 Zs21 Ze21
  clear hHeld
  obtain ⟨a22, c22, rfl, L22⟩ := l22
  have H22 := hide L22
  clear L22
  rw [unhide HC]
  refine hK.out _ _ (sH1 (unhide Q22)) (fun hHeld => ?_)
  clear hK K
  (try simp only [Act.put, List.setIfInBounds_toArray, List.set_cons_zero, List.set_cons_succ])
  (refine Rg.tk (i := 7) (d := 102) (v := ?_) rfl rfl (by kernel_rfl) (by kernel_rfl) (by kernel_rfl) (fun _ _ _ h => h) (by rfl) ?_ (by assumption) ?_; rotate_left; (focus (intro w0 hSw; (try dsimp only at hSw); go_simp; (try with_reducible rfl))); (try simp only [Act.put, List.setIfInBounds_toArray, List.set_cons_zero, List.set_cons_succ]))
  (refine Rg.tk (i := 8) (d := 110) (v := ?_) rfl rfl (by kernel_rfl) (by kernel_rfl) (by kernel_rfl) (fun _ _ _ h => h) (by rfl) ?_ (by assumption) ?_; rotate_left; (focus (intro w0 hSw; (try dsimp only at hSw); go_simp; (try with_reducible rfl))); (try simp only [Act.put, List.setIfInBounds_toArray, List.set_cons_zero, List.set_cons_succ]))
  (refine Rg.tk (i := 9) (d := 111) (v := ?_) rfl rfl (by kernel_rfl) (by kernel_rfl) (by kernel_rfl) (fun _ _ _ h => h) (by rfl) ?_ (by assumption) ?_; rotate_left; (focus (intro w0 hSw; (try dsimp only at hSw); go_simp; (try with_reducible rfl))); (try simp only [Act.put, List.setIfInBounds_toArray, List.set_cons_zero, List.set_cons_succ]))
  (refine Rg.tk (i := 10) (d := 19) (v := ?_) rfl rfl (by kernel_rfl) (by kernel_rfl) (by kernel_rfl) (fun _ _ _ h => h) (by rfl) ?_ (by assumption) ?_; rotate_left; (focus (intro w0 hSw; (try dsimp only at hSw); go_simp; (try with_reducible rfl))); (try simp only [Act.put, List.setIfInBounds_toArray, List.set_cons_zero, List.set_cons_succ]))
  (refine Rg.tk (i := 11) (d := 20) (v := ?_) rfl rfl (by kernel_rfl) (by kernel_rfl) (by kernel_rfl) (fun _ _ _ h => h) (by rfl) ?_ (by assumption) ?_; rotate_left; (focus (intro w0 hSw; (try dsimp only at hSw); go_simp; (try with_reducible rfl))); (try simp only [Act.put, List.setIfInBounds_toArray, List.set_cons_zero, List.set_cons_succ]))
  refine wpAnyH_done (by kernel_rfl) (NoPanic.normal ?_) _
  clear hHeld
  go_wp2_with fail
  refine (Tu.eqS _ _ (graA me qs ss es now) _ _ _ hol (unhide H22).rm (unhide W22).rm).mono ?_
  rintro e w23 ⟨rfl, b23⟩
  have B23 := B22.trans (b23.mono B22.size)
  have sz23 : w22.heap.size ≤ w23.heap.size := b23.size
  have Q23 := hide ((unhide Q22).below b23)
  have W23 := hide ((unhide W22).below b23)
  have M23 := hide ((unhide M22).below b23)
  have K23 := hide ((unhide K22).below b23)
  have Zs23 := hide ((unhide Zs22).below b23)
  have Ze23 := hide ((unhide Ze22).below b23)
  have H23 := hide ((unhide H22).below b23)
  clear Q22 W22 M22 K22 Zs22 Ze22 H22
  go_wp2_with fail
  refine (Tu.heldF _ _ (graA me qs ss es now).length _ _ 1 _ (by omega) (by omega) hol (unhide M23)).mono ?_
  rintro e wh ⟨rfl, hwh⟩
  rw [hwh]
  clear hwh wh
  have HF := hide B23
  go_wp2_with fail
  go_ret
  exact ⟨rfl, unhide HF⟩

set_option maxRecDepth 100000 in
theorem lifted (os : Os) (started : os.Started) (H : Type) (enc : TypeId × Value → H) :
    ReturnsInHanded {} Try.checked os 4 .any (Rows.fnExactGraphOfSpec.pre6 enc Try.prog Try.f4 Rows.fnExactGraphOfRow.domain false) (Rows.fnExactGraphOfSpec.post enc Try.prog Try.f4 false true false false) := by
  refine returnsInHanded_of_change (C := Try.checked) own started (by kernel_rfl) Try.func4
    (ChangeSpec.witness6 (enc := enc) (C := Try.checked) false ⟨#[], #[.int .i64 0, .slice none 0 0, .agg #[.slice none 0 0, .slice none 0 0], .int .i64 0], []⟩ 8 (by kernel_rfl) (by kernel_rfl) (by kernel_rfl) (by kernel_rfl)) ?_
  intro W base args ds gs before hval0 hW hcnd _
  have hval : ∀ (j : Nat) t v, Try.f4.params[j]? = some t → args[j]? = some v → Value.okWide Try.prog W .any base t v := hval0
  have hW' := hW
  obtain ⟨p, q, hA0, hV, rfl, hfz, hnd⟩ := hW
  have hA : DataW.TrodAll enc Try.prog W 0 (fun _ => true) true Try.f4.params.toList args.toList ds p := hA0
  rw [Try.params4] at hA hval
  obtain ⟨v0, vs0, d0, ds0, p0, q0, hargs0, rfl, rfl, h0, r0⟩ := trodAll_cons hA
  obtain ⟨v1, vs1, d1, ds1, p1, q1, hargs1, rfl, rfl, h1, r1⟩ := trodAll_cons r0
  obtain ⟨v2, vs2, d2, ds2, p2, q2, hargs2, rfl, rfl, h2, r2⟩ := trodAll_cons r1
  obtain ⟨v3, vs3, d3, ds3, p3, q3, hargs3, rfl, rfl, h3, r3⟩ := trodAll_cons r2
  obtain ⟨rfl, rfl, rfl⟩ := trodAll_nil r3
  obtain rfl : args = #[v0, v1, v2, v3] := by cases args; simp_all
  obtain ⟨rfl, rfl⟩ := trodVars_none hV
  have k0 := h0
  have lt0 : ∀ x ∈ p0, x.block < W.heap.size := by obtain ⟨m, hm⟩ := k0; exact DataW.trod_lt m _ _ _ hm
  have k1 := h1
  have lt1 : ∀ x ∈ p1, x.block < W.heap.size := by obtain ⟨m, hm⟩ := k1; exact DataW.trod_lt m _ _ _ hm
  have k2 := h2
  have lt2 : ∀ x ∈ p2, x.block < W.heap.size := by obtain ⟨m, hm⟩ := k2; exact DataW.trod_lt m _ _ _ hm
  have k3 := h3
  have lt3 : ∀ x ∈ p3, x.block < W.heap.size := by obtain ⟨m, hm⟩ := k3; exact DataW.trod_lt m _ _ _ hm
  obtain ⟨n0, rfl, _, _, wf0⟩ := open_int Try.underlying3 (hval 0 3 v0 rfl rfl) h0
  obtain ⟨a1, len1, cap1, rfl⟩ := okWide_slice Try.underlying49 (hval 1 49 v1 rfl rfl)
  obtain ⟨ms1, hlen1, hmx1, hrd1⟩ := Lk.open_list h1
  subst hlen1
  obtain ⟨a2, len2, cap2, ms2, b2, lem2, cbp2, es2, rfl, hlen2, hlem2, hmx2, hmy2, hrd2, hre2⟩ := Tq.open_top (hval 2 53 v2 rfl rfl) h2
  subst hlen2 hlem2
  obtain ⟨n3, rfl, _, _, wf3⟩ := open_int Try.underlying3 (hval 3 3 v3 rfl rfl) h3
  clear hA0 hval0
  refine (walk n0 wf0 a1 ms1 cap1 hmx1 a2 ms2 cap2 b2 es2 cbp2 hmx2 hmy2 n3 wf3 W hrd1 hrd2 hre2).mono fun e W' ⟨he, bel⟩ => ?_
  subst he
  exact ⟨_, rfl, _, _, _, [], _, [], hW', trodAll_mk1 (shut_bool Try.underlying4 _), (trodAll_cons_mk (Below.trod laidOut (by kernel_rfl) (of_decide_eq_true (by kernel_rfl)) k0 bel lt0) (trodAll_cons_mk (Below.trod laidOut (by kernel_rfl) (of_decide_eq_true (by kernel_rfl)) k1 bel lt1) (trodAll_cons_mk (Below.trod laidOut (by kernel_rfl) (of_decide_eq_true (by kernel_rfl)) k2 bel lt2) (trodAll_cons_mk (Below.trod laidOut (by kernel_rfl) (of_decide_eq_true (by kernel_rfl)) k3 bel lt3) trodAll_mk0)))), rfl, bel.frame _, fun h => by cases h⟩

theorem over : Rows.fnExactGraphOfRow.holds Try.pinned (OpenSpec.ofChange Rows.fnExactGraphOfSpec) :=
  OpenClaim.holds_of_wide 4 Try.f4 rfl rfl rfl rfl rfl rfl rfl ⟨rfl, rfl, rfl, rfl, rfl⟩ rfl rfl rfl rfl rfl (by kernel_rfl) Try.func4 (by kernel_rfl)
    (of_decide_eq_true (by kernel_rfl)) (by unfold Func.isWrapper; first | (rw [if_pos (by decide +kernel)]; kernel_rfl) | (rw [if_neg (by decide +kernel)]; exact ⟨rfl, rfl⟩))
    (fun os started H enc _ => lifted os started H enc)
end Go.Proofs.Ytmlokaielemhaaa.fnExactGraphOf
namespace Go.Proofs.Ytmlokaielemhaaa
/-- At every argument the program's GraphOf answers as its model. -/
theorem fnExactGraphOf_holds : Rows.FnExactGraphOfSaid := fnExactGraphOf.over
end Go.Proofs.Ytmlokaielemhaaa
