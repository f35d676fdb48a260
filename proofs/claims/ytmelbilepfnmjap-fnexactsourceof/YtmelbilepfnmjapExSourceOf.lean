/-
  Proved here: for every argument, laws.FnExactSourceOf returns true (the program's SourceOf answers as its model, leaves its arguments alone, and answers in memory of its own), and leaves what came in as it was. No condition. (The walk is written by mktoplaw.py.)
-/
import Derived.Test.YtmelbilepfnmjapTopS
import Derived.Test.YtmelbilepfnmjapStrTop
namespace Go.Proofs.Ytmelbilepfnmjap.fnExactSourceOf
open Go.ChangeShapes Go.WideShapes Go.ChangeAt Go.RowKit
open W1 Tp
set_option linter.unusedVariables false
set_option linter.unusedSimpArgs false
theorem own : ownKnob Try.prog.godebug = none := by kernel_rfl
theorem laidOut : laidOutB Try.prog = true := by kernel_rfl
theorem sH2 {w : World} {b c : Nat} {x y x2 y2 : Value} (h : Bx2 w b x y) (h2 : Bx2 w c x2 y2) :
    (Bx2 w b x y ∧ Bx2 w c x2 y2) ∧ w.cell? ⟨b, 0, none⟩ = some x ∧ w.cell? ⟨b, 1, none⟩ = some y ∧ w.cell? ⟨c, 0, none⟩ = some x2 ∧ w.cell? ⟨c, 1, none⟩ = some y2 := ⟨⟨h, h2⟩, h.1, h.2, h2.1, h2.2⟩
set_option maxRecDepth 100000 in
set_option maxHeartbeats 16000000 in
theorem walk (a : Option Addr) (ss : List So.R) (ca : Nat) (b : Option Addr) (es : List Tu.R) (cb : Nat) (hm_ss : ss.length ≤ maxLen) (hm_es : es.length ≤ maxLen) (frm : Int) (wf_frm : (Lit.int .i64 frm).wf = true) (w : World) (hr_ss : So.RM w a ss) (hr_es : Tu.RM w b es) :
    Calls Try.prog 8 #[.agg #[.slice a ss.length ca, .slice b es.length cb], .int .i64 frm] w fun e w' => e = .returned (.bool true) ∧ Below w.heap.size w w' := by
  have HR_ss := hide hr_ss
  have HR_es := hide hr_es
  clear hr_ss hr_es
  obtain ⟨w1, hw1⟩ : ∃ w1, w.alloc (.cells #[.slice a ss.length ca, .slice b es.length cb] 37) = w1 := ⟨_, rfl⟩
  have B1 : Below w.heap.size w w1 := by rw [← hw1]; exact (Below.refl _ _).alloc (Nat.le_refl _) _
  have Q1 : Hid (Bx2 w1 w.heap.size (.slice a ss.length ca) (.slice b es.length cb)) := hide (by rw [← hw1]; exact bx2_new _ _ _ _)
  have hq1 : w.heap.size < w1.heap.size := (unhide Q1).lt
  have HW1 := hide hw1
  clear hw1
  go_enter Try.func8, Try.ntmps8
  go_wp2_with fail
  rw [unhide HW1]
  refine (Tq.sz a ss.length ca b es.length cb 1048576 _ (by omega) (by omega) hm_ss hm_es).mono ?_
  rintro e w2 ⟨r2, rfl, b2, hr01⟩
  have B2 := B1.trans (b2.mono B1.size)
  have sz2 : w1.heap.size ≤ w2.heap.size := b2.size
  have Q2 := hide ((unhide Q1).below b2)
  clear Q1
  rcases hr01 with hr0 | ⟨hr0, hr1⟩
  · go_wp2_with fail
    go_ret
    exact ⟨rfl, B2⟩
  have hnn2 : ¬ r2 < 0 := by omega
  have hml_ss : ss.length ≤ 1048576 := by omega
  have hml_es : es.length ≤ 1048576 := by omega
  have hrl2 : r2 ≤ 1048576 := by omega
  clear hr1 hm_ss hm_es
  obtain ⟨zQ0, zQ1⟩ := unhide Q2
  go_wp2_with fail
  clear zQ0 zQ1
  refine (Tq.to a ss ca b es cb _ hml_ss hml_es ((unhide HR_ss).below B2) ((unhide HR_es).below B2)).mono ?_
  rintro e w3 ⟨g3, h3, rfl, b3, hg3, u3, v3⟩
  have B3 := B2.trans (b3.mono B2.size)
  have sz3 : w2.heap.size ≤ w3.heap.size := b3.size
  have Q3 := hide ((unhide Q2).below b3)
  clear Q2
  have Ss3 : Hid (So.Lst w3 (some ⟨g3, 0, none⟩) ss w2.heap.size h3) := hide (.inr ⟨g3, rfl, hg3.1, hg3.2.1, by omega, u3⟩)
  have Se3 : Hid (Tu.Lst w3 (some ⟨h3, 0, none⟩) es h3 w3.heap.size) := hide (.inr ⟨h3, rfl, Nat.le_refl _, hg3.2.2, hg3.2.2, v3⟩)
  clear u3 v3
  obtain ⟨qa, qn, qt, hq⟩ : ∃ qa qn qt, srcA ss es frm = ⟨qa, qn, qt⟩ := ⟨_, _, _, rfl⟩
  have HQV : Hid ((srcA ss es frm).value = .agg #[.int .i64 qa, .int .i64 qn, .int .i64 qt]) := hide (by rw [hq]; rfl)
  clear hq
  go_wp2_with fail
  refine (specSource _ ss _ _ es _ frm _ hml_ss hml_es (unhide Ss3).rm (unhide Se3).rm).mono ?_
  rintro e w4 ⟨rfl, b4⟩
  have B4 := B3.trans (b4.mono B3.size)
  have sz4 : w3.heap.size ≤ w4.heap.size := b4.size
  have Q4 := hide ((unhide Q3).below b4)
  have Ss4 := hide ((unhide Ss3).below b4)
  have Se4 := hide ((unhide Se3).below b4)
  clear Q3 Ss3 Se3
  obtain ⟨cd, hcd⟩ : ∃ cd, srcE ss es frm = cd := ⟨_, rfl⟩
  have HC := hide hcd
  rw [hcd]
  clear hcd
  have hne : (cd != cd) = false := by simp
  rw [unhide HQV]
  clear Ss4
  clear Se4
  obtain ⟨zQ0, zQ1⟩ := unhide Q4
  have yQ := (unhide Q4).lt
  go_wp2_with fail
  clear zQ0 zQ1
  clear yQ
  obtain ⟨w5, hw5⟩ : ∃ w5, w4.alloc (.cells #[.int .i64 qa, .int .i64 qn, .int .i64 qt] 67) = w5 := ⟨_, rfl⟩
  have b5 : Below w4.heap.size w4 w5 := by rw [← hw5]; exact (Below.refl _ _).alloc (Nat.le_refl _) _
  have B5 := B4.trans (b5.mono B4.size)
  have sz5 : w4.heap.size ≤ w5.heap.size := b5.size
  have sy5 : w5.heap.size = w4.heap.size + 1 := by rw [← hw5]; simp
  have Q5 := hide ((unhide Q4).below b5)
  clear Q4
  have W5 : Hid (Tp.Bx w5 w4.heap.size ⟨qa, qn, qt⟩) := hide (by rw [← hw5]; exact Tp.bx_new _ ⟨qa, qn, qt⟩ _)
  have HW5 := hide hw5
  clear hw5
  rw [unhide HW5]
  refine (Tq.to a ss ca b es cb _ hml_ss hml_es ((unhide HR_ss).below B5) ((unhide HR_es).below B5)).mono ?_
  rintro e w6 ⟨g6, h6, rfl, b6, hg6, u6, v6⟩
  have B6 := B5.trans (b6.mono B5.size)
  have sz6 : w5.heap.size ≤ w6.heap.size := b6.size
  have Q6 := hide ((unhide Q5).below b6)
  have W6 := hide ((unhide W5).below b6)
  clear Q5 W5
  have Xs6 : Hid (So.Lst w6 (some ⟨g6, 0, none⟩) ss w5.heap.size h6) := hide (.inr ⟨g6, rfl, hg6.1, hg6.2.1, by omega, u6⟩)
  have Xe6 : Hid (Tu.Lst w6 (some ⟨h6, 0, none⟩) es h6 w6.heap.size) := hide (.inr ⟨h6, rfl, Nat.le_refl _, hg6.2.2, hg6.2.2, v6⟩)
  clear u6 v6
  obtain ⟨w7, hw7⟩ : ∃ w7, w6.alloc (.cells #[.slice (some ⟨g6, 0, none⟩) ss.length ss.length, .slice (some ⟨h6, 0, none⟩) es.length es.length] 42) = w7 := ⟨_, rfl⟩
  have b7 : Below w6.heap.size w6 w7 := by rw [← hw7]; exact (Below.refl _ _).alloc (Nat.le_refl _) _
  have B7 := B6.trans (b7.mono B6.size)
  have sz7 : w6.heap.size ≤ w7.heap.size := b7.size
  have sy7 : w7.heap.size = w6.heap.size + 1 := by rw [← hw7]; simp
  have Q7 := hide ((unhide Q6).below b7)
  have W7 := hide ((unhide W6).below b7)
  have Xs7 := hide ((unhide Xs6).below b7)
  have Xe7 := hide ((unhide Xe6).below b7)
  clear Q6 W6 Xs6 Xe6
  have V7 : Hid (Bx2 w7 w6.heap.size (.slice (some ⟨g6, 0, none⟩) ss.length ss.length) (.slice (some ⟨h6, 0, none⟩) es.length es.length)) := hide (by rw [← hw7]; exact bx2_new _ _ _ _)
  have HW7 := hide hw7
  clear hw7
  go_wp2_with fail
  rw [unhide HW7]
  refine (implSource _ ss _ _ es _ frm _ hml_ss hml_es (unhide Xs7).rm (unhide Xe7).rm).mono ?_
  rintro e w8 ⟨rfl, b8⟩
  have B8 := B7.trans (b8.mono B7.size)
  have sz8 : w7.heap.size ≤ w8.heap.size := b8.size
  have Q8 := hide ((unhide Q7).below b8)
  have W8 := hide ((unhide W7).below b8)
  have Xs8 := hide ((unhide Xs7).below b8)
  have Xe8 := hide ((unhide Xe7).below b8)
  have V8 := hide ((unhide V7).below b8)
  clear Q7 W7 Xs7 Xe7 V7
  rw [unhide HC]
  rw [unhide HQV]
  obtain ⟨zW0, zW1, zW2⟩ := unhide W8
  dsimp only at zW0 zW1 zW2
  have yW := (unhide W8).lt
  go_wp2_with fail
  clear zW0 zW1 zW2
  clear yW
  obtain ⟨w9, hw9⟩ : ∃ w9, w8.alloc (.cells #[.int .i64 qa, .int .i64 qn, .int .i64 qt] 67) = w9 := ⟨_, rfl⟩
  have b9 : Below w8.heap.size w8 w9 := by rw [← hw9]; exact (Below.refl _ _).alloc (Nat.le_refl _) _
  have B9 := B8.trans (b9.mono B8.size)
  have sz9 : w8.heap.size ≤ w9.heap.size := b9.size
  have sy9 : w9.heap.size = w8.heap.size + 1 := by rw [← hw9]; simp
  have Q9 := hide ((unhide Q8).below b9)
  have W9 := hide ((unhide W8).below b9)
  have Xs9 := hide ((unhide Xs8).below b9)
  have Xe9 := hide ((unhide Xe8).below b9)
  have V9 := hide ((unhide V8).below b9)
  clear Q8 W8 Xs8 Xe8 V8
  have G9 : Hid (Tp.Bx w9 w8.heap.size ⟨qa, qn, qt⟩) := hide (by rw [← hw9]; exact Tp.bx_new _ ⟨qa, qn, qt⟩ _)
  have HW9 := hide hw9
  clear hw9
  rw [unhide HW9]
  refine (So.eqR qa qn qt _).mono ?_
  rintro e w10 ⟨rfl, b10⟩
  have B10 := B9.trans (b10.mono B9.size)
  have sz10 : w9.heap.size ≤ w10.heap.size := b10.size
  have Q10 := hide ((unhide Q9).below b10)
  have W10 := hide ((unhide W9).below b10)
  have Xs10 := hide ((unhide Xs9).below b10)
  have Xe10 := hide ((unhide Xe9).below b10)
  have V10 := hide ((unhide V9).below b10)
  have G10 := hide ((unhide G9).below b10)
  clear Q9 W9 Xs9 Xe9 V9 G9
  clear W10
  clear G10
  go_wp2_with fail
  refine wp_region_noPanic ?_
  refine wp_region_held_drew (S := fun w' => (Bx2 w' w6.heap.size (.slice (some ⟨g6, 0, none⟩) ss.length ss.length) (.slice (some ⟨h6, 0, none⟩) es.length es.length) ∧ Bx2 w' w.heap.size (.slice a ss.length ca) (.slice b es.length cb)) ∧ w'.cell? ⟨w6.heap.size, 0, none⟩ = some (.slice (some ⟨g6, 0, none⟩) ss.length ss.length) ∧ w'.cell? ⟨w6.heap.size, 1, none⟩ = some (.slice (some ⟨h6, 0, none⟩) es.length es.length) ∧ w'.cell? ⟨w.heap.size, 0, none⟩ = some (.slice a ss.length ca) ∧ w'.cell? ⟨w.heap.size, 1, none⟩ = some (.slice b es.length cb)) (by kernel_rfl) (sH2 (unhide V10).drew (unhide Q10).drew) (fun hHeld => ?_)
  (refine Rg.tk (i := 0) (d := 40) (v := ?_) rfl rfl (by kernel_rfl) (by kernel_rfl) (by kernel_rfl) (fun _ _ _ h => h) (by rfl) ?_ (by assumption) ?_; rotate_left; (focus (intro w0 hSw; (try dsimp only at hSw); go_simp; (try with_reducible rfl))); (try simp only [Act.put, List.setIfInBounds_toArray, List.set_cons_zero, List.set_cons_succ]))
  (refine Rg.tk (i := 1) (d := 41) (v := ?_) rfl rfl (by kernel_rfl) (by kernel_rfl) (by kernel_rfl) (fun _ _ _ h => h) (by rfl) ?_ (by assumption) ?_; rotate_left; (focus (intro w0 hSw; (try dsimp only at hSw); go_simp; (try with_reducible rfl))); (try simp only [Act.put, List.setIfInBounds_toArray, List.set_cons_zero, List.set_cons_succ]))
  (refine wpAnyH_ready (rs := [2]) (by kernel_rfl) (by simp) ?_; refine AllReadyH.cons (o := _) rfl (fun K hK => ?_) AllReadyH.nil; go_simp)
  refine (Tq.to a ss ca b es cb _ hml_ss hml_es ((unhide HR_ss).below B10.drew) ((unhide HR_es).below B10.drew)).mono ?_
  rintro e w11 ⟨g11, h11, rfl, b11_, hg11, u11, v11⟩
  have b11 : Below w10.heap.size w10 w11 := (Below.refl _ _).drew.trans b11_
  clear b11_
  have B11 := B10.trans (b11.mono B10.size)
  have sz11 : w10.heap.size ≤ w11.heap.size := b11.size
  have Q11 := hide ((unhide Q10).below b11)
  have Xs11 := hide ((unhide Xs10).below b11)
  have Xe11 := hide ((unhide Xe10).below b11)
  have V11 := hide ((unhide V10).below b11)
  clear Q10 Xs10 Xe10 V10
  clear hHeld
  have Ys11 : Hid (So.Lst w11 (some ⟨g11, 0, none⟩) ss w10.heap.size h11) := hide (.inr ⟨g11, rfl, hg11.1, hg11.2.1, by omega, u11⟩)
  have Ye11 : Hid (Tu.Lst w11 (some ⟨h11, 0, none⟩) es h11 w11.heap.size) := hide (.inr ⟨h11, rfl, Nat.le_refl _, hg11.2.2, hg11.2.2, v11⟩)
  clear u11 v11
  refine hK.out _ _ (sH2 (unhide V11) (unhide Q11)) (fun hHeld => ?_)
  clear hK K
  (try simp only [Act.put, List.setIfInBounds_toArray, List.set_cons_zero, List.set_cons_succ])
  (refine wpAnyH_ready (rs := [3]) (by kernel_rfl) (by simp) ?_; refine AllReadyH.cons (o := _) rfl (fun K hK => ?_) AllReadyH.nil; go_simp)
  refine (Tq.eq _ ss _ _ es _ _ _ _ _ _ hml_ss hml_es (unhide Xs11).rm (unhide Xe11).rm (unhide Ys11).rm (unhide Ye11).rm).mono ?_
  rintro e w12 ⟨rfl, b12⟩
  have B12 := B11.trans (b12.mono B11.size)
  have sz12 : w11.heap.size ≤ w12.heap.size := b12.size
  have Q12 := hide ((unhide Q11).below b12)
  have Xs12 := hide ((unhide Xs11).below b12)
  have Xe12 := hide ((unhide Xe11).below b12)
  have V12 := hide ((unhide V11).below b12)
  have Ys12 := hide ((unhide Ys11).below b12)
  have Ye12 := hide ((unhide Ye11).below b12)
  clear Q11 Xs11 Xe11 V11 Ys11 Ye11
  clear hHeld
  clear Ys12
  clear Ye12
  refine hK.out _ _ (sH2 (unhide V12) (unhide Q12)) (fun hHeld => ?_)
  clear hK K
  (try simp only [Act.put, List.setIfInBounds_toArray, List.set_cons_zero, List.set_cons_succ])
  (refine Rg.tk (i := 4) (d := 44) (v := ?_) rfl rfl (by kernel_rfl) (by kernel_rfl) (by kernel_rfl) (fun _ _ _ h => h) (by rfl) ?_ (by assumption) ?_; rotate_left; (focus (intro w0 hSw; (try dsimp only at hSw); go_simp; (try with_reducible rfl))); (try simp only [Act.put, List.setIfInBounds_toArray, List.set_cons_zero, List.set_cons_succ]))
  refine wpAnyH_done (by kernel_rfl) (NoPanic.normal ?_) _
  clear hHeld
  have HF := hide B12
  go_wp2_with fail
  go_ret
  exact ⟨rfl, unhide HF⟩

set_option maxRecDepth 100000 in
theorem lifted (os : Os) (started : os.Started) (H : Type) (enc : TypeId × Value → H) :
    ReturnsInHanded {} Try.checked os 8 .any (Rows.fnExactSourceOfSpec.pre6 enc Try.prog Try.f8 Rows.fnExactSourceOfRow.domain false) (Rows.fnExactSourceOfSpec.post enc Try.prog Try.f8 false true false false) := by
  refine returnsInHanded_of_change (C := Try.checked) own started (by kernel_rfl) Try.func8
    (ChangeSpec.witness6 (enc := enc) (C := Try.checked) false ⟨#[], #[.agg #[.slice none 0 0, .slice none 0 0], .int .i64 0], []⟩ 8 (by kernel_rfl) (by kernel_rfl) (by kernel_rfl) (by kernel_rfl)) ?_
  intro W base args ds gs before hval0 hW hcnd _
  have hval : ∀ (j : Nat) t v, Try.f8.params[j]? = some t → args[j]? = some v → Value.okWide Try.prog W .any base t v := hval0
  have hW' := hW
  obtain ⟨p, q, hA0, hV, rfl, hfz, hnd⟩ := hW
  have hA : DataW.TrodAll enc Try.prog W 0 (fun _ => true) true Try.f8.params.toList args.toList ds p := hA0
  rw [Try.params8] at hA hval
  obtain ⟨v0, vs0, d0, ds0, p0, q0, hargs0, rfl, rfl, h0, r0⟩ := trodAll_cons hA
  obtain ⟨v1, vs1, d1, ds1, p1, q1, hargs1, rfl, rfl, h1, r1⟩ := trodAll_cons r0
  obtain ⟨rfl, rfl, rfl⟩ := trodAll_nil r1
  obtain rfl : args = #[v0, v1] := by cases args; simp_all
  obtain ⟨rfl, rfl⟩ := trodVars_none hV
  have k0 := h0
  have lt0 : ∀ x ∈ p0, x.block < W.heap.size := by obtain ⟨m, hm⟩ := k0; exact DataW.trod_lt m _ _ _ hm
  have k1 := h1
  have lt1 : ∀ x ∈ p1, x.block < W.heap.size := by obtain ⟨m, hm⟩ := k1; exact DataW.trod_lt m _ _ _ hm
  obtain ⟨a0, len0, cap0, ms0, b0, lem0, cbp0, es0, rfl, hlen0, hlem0, hmx0, hmy0, hrd0, hre0⟩ := Tq.open_top (hval 0 37 v0 rfl rfl) h0
  subst hlen0 hlem0
  obtain ⟨n1, rfl, _, _, wf1⟩ := open_int Try.underlying3 (hval 1 3 v1 rfl rfl) h1
  clear hA0 hval0
  refine (walk a0 ms0 cap0 b0 es0 cbp0 hmx0 hmy0 n1 wf1 W hrd0 hre0).mono fun e W' ⟨he, bel⟩ => ?_
  subst he
  exact ⟨_, rfl, _, _, _, [], _, [], hW', trodAll_mk1 (shut_bool Try.underlying4 _), (trodAll_cons_mk (Below.trod laidOut (by kernel_rfl) (of_decide_eq_true (by kernel_rfl)) k0 bel lt0) (trodAll_cons_mk (Below.trod laidOut (by kernel_rfl) (of_decide_eq_true (by kernel_rfl)) k1 bel lt1) trodAll_mk0)), rfl, bel.frame _, fun h => by cases h⟩

theorem over : Rows.fnExactSourceOfRow.holds Try.pinned (OpenSpec.ofChange Rows.fnExactSourceOfSpec) :=
  OpenClaim.holds_of_wide 8 Try.f8 rfl rfl rfl rfl rfl rfl rfl ⟨rfl, rfl, rfl, rfl, rfl⟩ rfl rfl rfl rfl rfl (by kernel_rfl) Try.func8 (by kernel_rfl)
    (of_decide_eq_true (by kernel_rfl)) (by unfold Func.isWrapper; first | (rw [if_pos (by decide +kernel)]; kernel_rfl) | (rw [if_neg (by decide +kernel)]; exact ⟨rfl, rfl⟩))
    (fun os started H enc _ => lifted os started H enc)
end Go.Proofs.Ytmelbilepfnmjap.fnExactSourceOf
namespace Go.Proofs.Ytmelbilepfnmjap
/-- At every argument the program's SourceOf answers as its model. -/
theorem fnExactSourceOf_holds : Rows.FnExactSourceOfSaid := fnExactSourceOf.over
end Go.Proofs.Ytmelbilepfnmjap
