/-
  Proved here: for every argument, laws.FnExactEdgesFrom returns true (the program's EdgesFrom answers as its model, leaves its arguments alone, and answers in memory of its own), and leaves what came in as it was. No condition. (The walk is written by mktoplaw.py.)
-/
import Derived.Test.YtmelbilepfnmjapTopF
import Derived.Test.YtmelbilepfnmjapStrTop
namespace Go.Proofs.Ytmelbilepfnmjap.fnExactEdgesFrom
open Go.ChangeShapes Go.WideShapes Go.ChangeAt Go.RowKit
open W1 Tp
set_option linter.unusedVariables false
set_option linter.unusedSimpArgs false
theorem own : ownKnob Try.prog.godebug = none := by kernel_rfl
theorem laidOut : laidOutB Try.prog = true := by kernel_rfl
theorem sH2 {w : World} {b c : Nat} {x y x2 y2 : Value} (h : Bx2 w b x y) (h2 : Bx2 w c x2 y2) :
    (Bx2 w b x y ∧ Bx2 w c x2 y2) ∧ w.cell? ⟨b, 0, none⟩ = some x ∧ w.cell? ⟨b, 1, none⟩ = some y ∧ w.cell? ⟨c, 0, none⟩ = some x2 ∧ w.cell? ⟨c, 1, none⟩ = some y2 := ⟨⟨h, h2⟩, h.1, h.2, h2.1, h2.2⟩
set_option maxRecDepth 100000 in
set_option maxHeartbeats 16000000 in
theorem walk (a : Option Addr) (ss : List So.R) (ca : Nat) (b : Option Addr) (es : List Tu.R) (cb : Nat) (hm_ss : ss.length ≤ maxLen) (hm_es : es.length ≤ maxLen) (frm : Int) (wf_frm : (Lit.int .i64 frm).wf = true) (w : World) (hr_ss : So.RM w a ss) (hr_es : Tu.RM w b es) :
    Calls Try.prog 7 #[.agg #[.slice a ss.length ca, .slice b es.length cb], .int .i64 frm] w fun e w' => e = .returned (.bool true) ∧ Below w.heap.size w w' := by
  have HR_ss := hide hr_ss
  have HR_es := hide hr_es
  clear hr_ss hr_es
  obtain ⟨w1, hw1⟩ : ∃ w1, w.alloc (.cells #[.slice a ss.length ca, .slice b es.length cb] 37) = w1 := ⟨_, rfl⟩
  have B1 : Below w.heap.size w w1 := by rw [← hw1]; exact (Below.refl _ _).alloc (Nat.le_refl _) _
  have Q1 : Hid (Bx2 w1 w.heap.size (.slice a ss.length ca) (.slice b es.length cb)) := hide (by rw [← hw1]; exact bx2_new _ _ _ _)
  have hq1 : w.heap.size < w1.heap.size := (unhide Q1).lt
  have HW1 := hide hw1
  clear hw1
  go_enter Try.func7, Try.ntmps7
  go_wp2_with fail
  rw [unhide HW1]
  refine (Tq.sz a ss.length ca b es.length cb 1048576 _ (by omega) (by omega) hm_ss hm_es).mono ?_
  rintro e w2 ⟨r2, rfl, b2, hr01⟩
  have B2 := B1.trans (b2.mono B1.size)
  have sz2 : w1.heap.size ≤ w2.heap.size := b2.size
  have Q2 := hide ((unhide Q1).below b2)
  clear Q1
  rcases hr01 with hr0 | ⟨hr0, hr1⟩
  · go_wp2_with fail
    go_ret
    exact ⟨rfl, B2⟩
  have hnn2 : ¬ r2 < 0 := by omega
  have hml_ss : ss.length ≤ 1048576 := by omega
  have hml_es : es.length ≤ 1048576 := by omega
  have hrl2 : r2 ≤ 1048576 := by omega
  clear hr1 hm_ss hm_es
  have hol : (edgA ss es frm).length ≤ 1048576 := Nat.le_trans (edgA_len ss es frm) hml_es
  obtain ⟨zQ0, zQ1⟩ := unhide Q2
  go_wp2_with fail
  clear zQ0 zQ1
  refine (Tq.to a ss ca b es cb _ hml_ss hml_es ((unhide HR_ss).below B2) ((unhide HR_es).below B2)).mono ?_
  rintro e w3 ⟨g3, h3, rfl, b3, hg3, u3, v3⟩
  have B3 := B2.trans (b3.mono B2.size)
  have sz3 : w2.heap.size ≤ w3.heap.size := b3.size
  have Q3 := hide ((unhide Q2).below b3)
  clear Q2
  have Ss3 : Hid (So.Lst w3 (some ⟨g3, 0, none⟩) ss w2.heap.size h3) := hide (.inr ⟨g3, rfl, hg3.1, hg3.2.1, by omega, u3⟩)
  have Se3 : Hid (Tu.Lst w3 (some ⟨h3, 0, none⟩) es h3 w3.heap.size) := hide (.inr ⟨h3, rfl, Nat.le_refl _, hg3.2.2, hg3.2.2, v3⟩)
  clear u3 v3
  go_wp2_with fail
  refine (specEdges _ ss _ _ es _ frm _ hml_ss hml_es (unhide Ss3).rm (unhide Se3).rm).mono ?_
  rintro e w4 ⟨v4, rfl, b4, l4⟩
  have B4 := B3.trans (b4.mono B3.size)
  have sz4 : w3.heap.size ≤ w4.heap.size := b4.size
  have Q4 := hide ((unhide Q3).below b4)
  have Ss4 := hide ((unhide Ss3).below b4)
  have Se4 := hide ((unhide Se3).below b4)
  clear Q3 Ss3 Se3
  obtain ⟨a4, c4, rfl, L4⟩ := l4
  have W4 := hide L4
  clear L4
  obtain ⟨cd, hcd⟩ : ∃ cd, topC ss es = cd := ⟨_, rfl⟩
  have HC := hide hcd
  rw [hcd]
  clear hcd
  have hne : (cd != cd) = false := by simp
  clear Ss4
  clear Se4
  obtain ⟨zQ0, zQ1⟩ := unhide Q4
  go_wp2_with fail
  clear zQ0 zQ1
  refine (Tq.to a ss ca b es cb _ hml_ss hml_es ((unhide HR_ss).below B4) ((unhide HR_es).below B4)).mono ?_
  rintro e w5 ⟨g5, h5, rfl, b5, hg5, u5, v5⟩
  have B5 := B4.trans (b5.mono B4.size)
  have sz5 : w4.heap.size ≤ w5.heap.size := b5.size
  have Q5 := hide ((unhide Q4).below b5)
  have W5 := hide ((unhide W4).below b5)
  clear Q4 W4
  have Xs5 : Hid (So.Lst w5 (some ⟨g5, 0, none⟩) ss w4.heap.size h5) := hide (.inr ⟨g5, rfl, hg5.1, hg5.2.1, by omega, u5⟩)
  have Xe5 : Hid (Tu.Lst w5 (some ⟨h5, 0, none⟩) es h5 w5.heap.size) := hide (.inr ⟨h5, rfl, Nat.le_refl _, hg5.2.2, hg5.2.2, v5⟩)
  clear u5 v5
  obtain ⟨w6, hw6⟩ : ∃ w6, w5.alloc (.cells #[.slice (some ⟨g5, 0, none⟩) ss.length ss.length, .slice (some ⟨h5, 0, none⟩) es.length es.length] 42) = w6 := ⟨_, rfl⟩
  have b6 : Below w5.heap.size w5 w6 := by rw [← hw6]; exact (Below.refl _ _).alloc (Nat.le_refl _) _
  have B6 := B5.trans (b6.mono B5.size)
  have sz6 : w5.heap.size ≤ w6.heap.size := b6.size
  have sy6 : w6.heap.size = w5.heap.size + 1 := by rw [← hw6]; simp
  have Q6 := hide ((unhide Q5).below b6)
  have W6 := hide ((unhide W5).below b6)
  have Xs6 := hide ((unhide Xs5).below b6)
  have Xe6 := hide ((unhide Xe5).below b6)
  clear Q5 W5 Xs5 Xe5
  have V6 : Hid (Bx2 w6 w5.heap.size (.slice (some ⟨g5, 0, none⟩) ss.length ss.length) (.slice (some ⟨h5, 0, none⟩) es.length es.length)) := hide (by rw [← hw6]; exact bx2_new _ _ _ _)
  have HW6 := hide hw6
  clear hw6
  go_wp2_with fail
  rw [unhide HW6]
  refine (implEdges _ ss _ _ es _ frm wf_frm _ hml_ss hml_es (unhide Xs6).rm (unhide Xe6).rm).mono ?_
  rintro e w7 ⟨v7, rfl, b7, l7⟩
  have B7 := B6.trans (b7.mono B6.size)
  have sz7 : w6.heap.size ≤ w7.heap.size := b7.size
  have Q7 := hide ((unhide Q6).below b7)
  have W7 := hide ((unhide W6).below b7)
  have Xs7 := hide ((unhide Xs6).below b7)
  have Xe7 := hide ((unhide Xe6).below b7)
  have V7 := hide ((unhide V6).below b7)
  clear Q6 W6 Xs6 Xe6 V6
  obtain ⟨a7, c7, rfl, L7⟩ := l7
  have G7 := hide L7
  clear L7
  rw [unhide HC]
  go_wp2_with fail
  refine (Ed.eqS _ _ (edgA ss es frm) _ _ _ hol (unhide G7).rm (unhide W7).rm).mono ?_
  rintro e w8 ⟨rfl, b8⟩
  have B8 := B7.trans (b8.mono B7.size)
  have sz8 : w7.heap.size ≤ w8.heap.size := b8.size
  have Q8 := hide ((unhide Q7).below b8)
  have W8 := hide ((unhide W7).below b8)
  have Xs8 := hide ((unhide Xs7).below b8)
  have Xe8 := hide ((unhide Xe7).below b8)
  have V8 := hide ((unhide V7).below b8)
  have G8 := hide ((unhide G7).below b8)
  clear Q7 W7 Xs7 Xe7 V7 G7
  go_wp2_with fail
  refine wp_region_noPanic ?_
  refine wp_region_held_drew (S := fun w' => (Bx2 w' w5.heap.size (.slice (some ⟨g5, 0, none⟩) ss.length ss.length) (.slice (some ⟨h5, 0, none⟩) es.length es.length) ∧ Bx2 w' w.heap.size (.slice a ss.length ca) (.slice b es.length cb)) ∧ w'.cell? ⟨w5.heap.size, 0, none⟩ = some (.slice (some ⟨g5, 0, none⟩) ss.length ss.length) ∧ w'.cell? ⟨w5.heap.size, 1, none⟩ = some (.slice (some ⟨h5, 0, none⟩) es.length es.length) ∧ w'.cell? ⟨w.heap.size, 0, none⟩ = some (.slice a ss.length ca) ∧ w'.cell? ⟨w.heap.size, 1, none⟩ = some (.slice b es.length cb)) (by kernel_rfl) (sH2 (unhide V8).drew (unhide Q8).drew) (fun hHeld => ?_)
  (refine Rg.tk (i := 0) (d := 45) (v := ?_) rfl rfl (by kernel_rfl) (by kernel_rfl) (by kernel_rfl) (fun _ _ _ h => h) (by rfl) ?_ (by assumption) ?_; rotate_left; (focus (intro w0 hSw; (try dsimp only at hSw); go_simp; (try with_reducible rfl))); (try simp only [Act.put, List.setIfInBounds_toArray, List.set_cons_zero, List.set_cons_succ]))
  (refine Rg.tk (i := 1) (d := 46) (v := ?_) rfl rfl (by kernel_rfl) (by kernel_rfl) (by kernel_rfl) (fun _ _ _ h => h) (by rfl) ?_ (by assumption) ?_; rotate_left; (focus (intro w0 hSw; (try dsimp only at hSw); go_simp; (try with_reducible rfl))); (try simp only [Act.put, List.setIfInBounds_toArray, List.set_cons_zero, List.set_cons_succ]))
  (refine wpAnyH_ready (rs := [2]) (by kernel_rfl) (by simp) ?_; refine AllReadyH.cons (o := _) rfl (fun K hK => ?_) AllReadyH.nil; go_simp)
  refine (Tq.to a ss ca b es cb _ hml_ss hml_es ((unhide HR_ss).below B8.drew) ((unhide HR_es).below B8.drew)).mono ?_
  rintro e w9 ⟨g9, h9, rfl, b9_, hg9, u9, v9⟩
  have b9 : Below w8.heap.size w8 w9 := (Below.refl _ _).drew.trans b9_
  clear b9_
  have B9 := B8.trans (b9.mono B8.size)
  have sz9 : w8.heap.size ≤ w9.heap.size := b9.size
  have Q9 := hide ((unhide Q8).below b9)
  have W9 := hide ((unhide W8).below b9)
  have Xs9 := hide ((unhide Xs8).below b9)
  have Xe9 := hide ((unhide Xe8).below b9)
  have V9 := hide ((unhide V8).below b9)
  have G9 := hide ((unhide G8).below b9)
  clear Q8 W8 Xs8 Xe8 V8 G8
  clear hHeld
  have Ys9 : Hid (So.Lst w9 (some ⟨g9, 0, none⟩) ss w8.heap.size h9) := hide (.inr ⟨g9, rfl, hg9.1, hg9.2.1, by omega, u9⟩)
  have Ye9 : Hid (Tu.Lst w9 (some ⟨h9, 0, none⟩) es h9 w9.heap.size) := hide (.inr ⟨h9, rfl, Nat.le_refl _, hg9.2.2, hg9.2.2, v9⟩)
  clear u9 v9
  refine hK.out _ _ (sH2 (unhide V9) (unhide Q9)) (fun hHeld => ?_)
  clear hK K
  (try simp only [Act.put, List.setIfInBounds_toArray, List.set_cons_zero, List.set_cons_succ])
  (refine wpAnyH_ready (rs := [3]) (by kernel_rfl) (by simp) ?_; refine AllReadyH.cons (o := _) rfl (fun K hK => ?_) AllReadyH.nil; go_simp)
  refine (Tq.eq _ ss _ _ es _ _ _ _ _ _ hml_ss hml_es (unhide Xs9).rm (unhide Xe9).rm (unhide Ys9).rm (unhide Ye9).rm).mono ?_
  rintro e w10 ⟨rfl, b10⟩
  have B10 := B9.trans (b10.mono B9.size)
  have sz10 : w9.heap.size ≤ w10.heap.size := b10.size
  have Q10 := hide ((unhide Q9).below b10)
  have W10 := hide ((unhide W9).below b10)
  have Xs10 := hide ((unhide Xs9).below b10)
  have Xe10 := hide ((unhide Xe9).below b10)
  have V10 := hide ((unhide V9).below b10)
  have G10 := hide ((unhide G9).below b10)
  have Ys10 := hide ((unhide Ys9).below b10)
  have Ye10 := hide ((unhide Ye9).below b10)
  clear Q9 W9 Xs9 Xe9 V9 G9 Ys9 Ye9
  clear hHeld
  clear Ys10
  clear Ye10
  refine hK.out _ _ (sH2 (unhide V10) (unhide Q10)) (fun hHeld => ?_)
  clear hK K
  (try simp only [Act.put, List.setIfInBounds_toArray, List.set_cons_zero, List.set_cons_succ])
  (refine Rg.tk (i := 4) (d := 49) (v := ?_) rfl rfl (by kernel_rfl) (by kernel_rfl) (by kernel_rfl) (fun _ _ _ h => h) (by rfl) ?_ (by assumption) ?_; rotate_left; (focus (intro w0 hSw; (try dsimp only at hSw); go_simp; (try with_reducible rfl))); (try simp only [Act.put, List.setIfInBounds_toArray, List.set_cons_zero, List.set_cons_succ]))
  refine wpAnyH_done (by kernel_rfl) (NoPanic.normal ?_) _
  clear hHeld
  obtain ⟨zV0, zV1⟩ := unhide V10
  go_wp2_with fail
  clear zV0 zV1
  refine (Tq.mark _ _ _ _ _ _ _ 1 ss es _ (by omega) (by omega) hml_ss hml_es (by omega) (by omega) (by omega) (unhide Xs10) (unhide Xe10)).mono ?_
  rintro e w11 ⟨rfl, sz11, b11, ⟨f11, e11⟩, k11⟩
  have sB11 := B10.size
  have B11 := B10.trans (b11.mono (by omega))
  have Q11 := hide ((unhide Q10).but (k11 _ (unhide Q10).lt (by omega)))
  have W11 := hide ((unhide W10).but (p := fun k => k < w4.heap.size ∨ w5.heap.size ≤ k) sz11 (fun k hk h => k11 k hk h) (fun k h1 h2 => by omega))
  have V11 := hide ((unhide V10).but (k11 _ (unhide V10).lt (by omega)))
  have G11 := hide ((unhide G10).but (p := fun k => k < w4.heap.size ∨ w5.heap.size ≤ k) sz11 (fun k hk h => k11 k hk h) (fun k h1 h2 => by omega))
  clear Q10 W10 Xs10 Xe10 V10 G10 f11 k11 b11 e11
  clear V11
  have hpk : ¬ (1 + 3 * (ss.length : Int) + 3 * (es.length : Int) < 0) := by omega
  go_wp2_with fail
  refine (Ed.eqS _ _ (edgA ss es frm) _ _ _ hol (unhide G11).rm (unhide W11).rm).mono ?_
  rintro e w12 ⟨rfl, b12⟩
  have B12 := B11.trans (b12.mono B11.size)
  have sz12 : w11.heap.size ≤ w12.heap.size := b12.size
  have Q12 := hide ((unhide Q11).below b12)
  have W12 := hide ((unhide W11).below b12)
  have G12 := hide ((unhide G11).below b12)
  clear Q11 W11 G11
  go_wp2_with fail
  refine (Ed.markF _ _ _ _ 1 (edgA ss es frm) _ (by omega) (by omega) hol (unhide G12)).mono ?_
  rintro e w13 ⟨rfl, sz13, b13, f13, k13⟩
  have sB13 := B12.size
  have B13 := B12.trans (b13.mono (by omega))
  have Q13 := hide ((unhide Q12).but (k13 _ (unhide Q12).lt (by omega)))
  have W13 := hide ((unhide W12).but (p := fun k => k < w6.heap.size ∨ w7.heap.size ≤ k) sz13 (fun k hk h => k13 k hk h) (fun k h1 h2 => by omega))
  have M13 := hide f13
  clear Q12 W12 G12 f13 k13 b13
  have hpm : ¬ (1 + 2 * ((edgA ss es frm).length : Int) < 0) := by omega
  go_wp2_with fail
  refine (Ed.heldF _ _ (edgA ss es frm).length _ _ 1 _ (by omega) (by omega) hol (unhide M13)).mono ?_
  rintro e wh ⟨rfl, hwh⟩
  rw [hwh]
  clear hwh wh
  obtain ⟨zQ0, zQ1⟩ := unhide Q13
  go_wp2_with fail
  clear zQ0 zQ1
  refine (Tq.to a ss ca b es cb _ hml_ss hml_es ((unhide HR_ss).below B13) ((unhide HR_es).below B13)).mono ?_
  rintro e w14 ⟨g14, h14, rfl, b14, hg14, u14, v14⟩
  have B14 := B13.trans (b14.mono B13.size)
  have sz14 : w13.heap.size ≤ w14.heap.size := b14.size
  have Q14 := hide ((unhide Q13).below b14)
  have W14 := hide ((unhide W13).below b14)
  have M14 := hide ((unhide M13).below b14)
  clear Q13 W13 M13
  have Zs14 : Hid (So.Lst w14 (some ⟨g14, 0, none⟩) ss w13.heap.size h14) := hide (.inr ⟨g14, rfl, hg14.1, hg14.2.1, by omega, u14⟩)
  have Ze14 : Hid (Tu.Lst w14 (some ⟨h14, 0, none⟩) es h14 w14.heap.size) := hide (.inr ⟨h14, rfl, Nat.le_refl _, hg14.2.2, hg14.2.2, v14⟩)
  clear u14 v14
  go_wp2_with fail
  refine (implEdges _ ss _ _ es _ frm wf_frm _ hml_ss hml_es (unhide Zs14).rm (unhide Ze14).rm).mono ?_
  rintro e w15 ⟨v15, rfl, b15, l15⟩
  have B15 := B14.trans (b15.mono B14.size)
  have sz15 : w14.heap.size ≤ w15.heap.size := b15.size
  have Q15 := hide ((unhide Q14).below b15)
  have W15 := hide ((unhide W14).below b15)
  have M15 := hide ((unhide M14).below b15)
  have Zs15 := hide ((unhide Zs14).below b15)
  have Ze15 := hide ((unhide Ze14).below b15)
  clear Q14 W14 M14 Zs14 Ze14
  obtain ⟨a15, c15, rfl, L15⟩ := l15
  have H15 := hide L15
  clear L15
  rw [unhide HC]
  go_wp2_with fail
  refine (Ed.eqS _ _ (edgA ss es frm) _ _ _ hol (unhide H15).rm (unhide W15).rm).mono ?_
  rintro e w16 ⟨rfl, b16⟩
  have B16 := B15.trans (b16.mono B15.size)
  have sz16 : w15.heap.size ≤ w16.heap.size := b16.size
  have Q16 := hide ((unhide Q15).below b16)
  have W16 := hide ((unhide W15).below b16)
  have M16 := hide ((unhide M15).below b16)
  have Zs16 := hide ((unhide Zs15).below b16)
  have Ze16 := hide ((unhide Ze15).below b16)
  have H16 := hide ((unhide H15).below b16)
  clear Q15 W15 M15 Zs15 Ze15 H15
  go_wp2_with fail
  refine (Ed.heldF _ _ (edgA ss es frm).length _ _ 1 _ (by omega) (by omega) hol (unhide M16)).mono ?_
  rintro e wh ⟨rfl, hwh⟩
  rw [hwh]
  clear hwh wh
  have HF := hide B16
  go_wp2_with fail
  go_ret
  exact ⟨rfl, unhide HF⟩

set_option maxRecDepth 100000 in
theorem lifted (os : Os) (started : os.Started) (H : Type) (enc : TypeId × Value → H) :
    ReturnsInHanded {} Try.checked os 7 .any (Rows.fnExactEdgesFromSpec.pre6 enc Try.prog Try.f7 Rows.fnExactEdgesFromRow.domain false) (Rows.fnExactEdgesFromSpec.post enc Try.prog Try.f7 false true false false) := by
  refine returnsInHanded_of_change (C := Try.checked) own started (by kernel_rfl) Try.func7
    (ChangeSpec.witness6 (enc := enc) (C := Try.checked) false ⟨#[], #[.agg #[.slice none 0 0, .slice none 0 0], .int .i64 0], []⟩ 8 (by kernel_rfl) (by kernel_rfl) (by kernel_rfl) (by kernel_rfl)) ?_
  intro W base args ds gs before hval0 hW hcnd _
  have hval : ∀ (j : Nat) t v, Try.f7.params[j]? = some t → args[j]? = some v → Value.okWide Try.prog W .any base t v := hval0
  have hW' := hW
  obtain ⟨p, q, hA0, hV, rfl, hfz, hnd⟩ := hW
  have hA : DataW.TrodAll enc Try.prog W 0 (fun _ => true) true Try.f7.params.toList args.toList ds p := hA0
  rw [Try.params7] at hA hval
  obtain ⟨v0, vs0, d0, ds0, p0, q0, hargs0, rfl, rfl, h0, r0⟩ := trodAll_cons hA
  obtain ⟨v1, vs1, d1, ds1, p1, q1, hargs1, rfl, rfl, h1, r1⟩ := trodAll_cons r0
  obtain ⟨rfl, rfl, rfl⟩ := trodAll_nil r1
  obtain rfl : args = #[v0, v1] := by cases args; simp_all
  obtain ⟨rfl, rfl⟩ := trodVars_none hV
  have k0 := h0
  have lt0 : ∀ x ∈ p0, x.block < W.heap.size := by obtain ⟨m, hm⟩ := k0; exact DataW.trod_lt m _ _ _ hm
  have k1 := h1
  have lt1 : ∀ x ∈ p1, x.block < W.heap.size := by obtain ⟨m, hm⟩ := k1; exact DataW.trod_lt m _ _ _ hm
  obtain ⟨a0, len0, cap0, ms0, b0, lem0, cbp0, es0, rfl, hlen0, hlem0, hmx0, hmy0, hrd0, hre0⟩ := Tq.open_top (hval 0 37 v0 rfl rfl) h0
  subst hlen0 hlem0
  obtain ⟨n1, rfl, _, _, wf1⟩ := open_int Try.underlying3 (hval 1 3 v1 rfl rfl) h1
  clear hA0 hval0
  refine (walk a0 ms0 cap0 b0 es0 cbp0 hmx0 hmy0 n1 wf1 W hrd0 hre0).mono fun e W' ⟨he, bel⟩ => ?_
  subst he
  exact ⟨_, rfl, _, _, _, [], _, [], hW', trodAll_mk1 (shut_bool Try.underlying4 _), (trodAll_cons_mk (Below.trod laidOut (by kernel_rfl) (of_decide_eq_true (by kernel_rfl)) k0 bel lt0) (trodAll_cons_mk (Below.trod laidOut (by kernel_rfl) (of_decide_eq_true (by kernel_rfl)) k1 bel lt1) trodAll_mk0)), rfl, bel.frame _, fun h => by cases h⟩

theorem over : Rows.fnExactEdgesFromRow.holds Try.pinned (OpenSpec.ofChange Rows.fnExactEdgesFromSpec) :=
  OpenClaim.holds_of_wide 7 Try.f7 rfl rfl rfl rfl rfl rfl rfl ⟨rfl, rfl, rfl, rfl, rfl⟩ rfl rfl rfl rfl rfl (by kernel_rfl) Try.func7 (by kernel_rfl)
    (of_decide_eq_true (by kernel_rfl)) (by unfold Func.isWrapper; first | (rw [if_pos (by decide +kernel)]; kernel_rfl) | (rw [if_neg (by decide +kernel)]; exact ⟨rfl, rfl⟩))
    (fun os started H enc _ => lifted os started H enc)
end Go.Proofs.Ytmelbilepfnmjap.fnExactEdgesFrom
namespace Go.Proofs.Ytmelbilepfnmjap
/-- At every argument the program's EdgesFrom answers as its model. -/
theorem fnExactEdgesFrom_holds : Rows.FnExactEdgesFromSaid := fnExactEdgesFrom.over
end Go.Proofs.Ytmelbilepfnmjap
