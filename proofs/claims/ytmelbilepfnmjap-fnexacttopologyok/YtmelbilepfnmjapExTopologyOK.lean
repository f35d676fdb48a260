/-
  Proved here: for every argument, laws.FnExactTopologyOK returns true (the program's TopologyOK answers as its model, leaves its arguments alone, and answers in memory of its own), and leaves what came in as it was. No condition. (The walk is written by mktoplaw.py.)
-/
import Derived.Test.YtmelbilepfnmjapTopC
import Derived.Test.YtmelbilepfnmjapStrTop
namespace Go.Proofs.Ytmelbilepfnmjap.fnExactTopologyOK
open Go.ChangeShapes Go.WideShapes Go.ChangeAt Go.RowKit
open W1 Tp
set_option linter.unusedVariables false
set_option linter.unusedSimpArgs false
theorem own : ownKnob Try.prog.godebug = none := by kernel_rfl
theorem laidOut : laidOutB Try.prog = true := by kernel_rfl
theorem sH2 {w : World} {b c : Nat} {x y x2 y2 : Value} (h : Bx2 w b x y) (h2 : Bx2 w c x2 y2) :
    (Bx2 w b x y ∧ Bx2 w c x2 y2) ∧ w.cell? ⟨b, 0, none⟩ = some x ∧ w.cell? ⟨b, 1, none⟩ = some y ∧ w.cell? ⟨c, 0, none⟩ = some x2 ∧ w.cell? ⟨c, 1, none⟩ = some y2 := ⟨⟨h, h2⟩, h.1, h.2, h2.1, h2.2⟩
set_option maxRecDepth 100000 in
set_option maxHeartbeats 16000000 in
theorem walk (a : Option Addr) (ss : List So.R) (ca : Nat) (b : Option Addr) (es : List Tu.R) (cb : Nat) (hm_ss : ss.length ≤ maxLen) (hm_es : es.length ≤ maxLen) (w : World) (hr_ss : So.RM w a ss) (hr_es : Tu.RM w b es) :
    Calls Try.prog 4 #[.agg #[.slice a ss.length ca, .slice b es.length cb]] w fun e w' => e = .returned (.bool true) ∧ Below w.heap.size w w' := by
  have HR_ss := hide hr_ss
  have HR_es := hide hr_es
  clear hr_ss hr_es
  obtain ⟨w1, hw1⟩ : ∃ w1, w.alloc (.cells #[.slice a ss.length ca, .slice b es.length cb] 37) = w1 := ⟨_, rfl⟩
  have B1 : Below w.heap.size w w1 := by rw [← hw1]; exact (Below.refl _ _).alloc (Nat.le_refl _) _
  have Q1 : Hid (Bx2 w1 w.heap.size (.slice a ss.length ca) (.slice b es.length cb)) := hide (by rw [← hw1]; exact bx2_new _ _ _ _)
  have hq1 : w.heap.size < w1.heap.size := (unhide Q1).lt
  have HW1 := hide hw1
  clear hw1
  go_enter Try.func4, Try.ntmps4
  go_wp2_with fail
  rw [unhide HW1]
  refine (Tq.sz a ss.length ca b es.length cb 1048576 _ (by omega) (by omega) hm_ss hm_es).mono ?_
  rintro e w2 ⟨r2, rfl, b2, hr01⟩
  have B2 := B1.trans (b2.mono B1.size)
  have sz2 : w1.heap.size ≤ w2.heap.size := b2.size
  have Q2 := hide ((unhide Q1).below b2)
  clear Q1
  rcases hr01 with hr0 | ⟨hr0, hr1⟩
  · go_wp2_with fail
    go_ret
    exact ⟨rfl, B2⟩
  have hnn2 : ¬ r2 < 0 := by omega
  have hml_ss : ss.length ≤ 1048576 := by omega
  have hml_es : es.length ≤ 1048576 := by omega
  have hrl2 : r2 ≤ 1048576 := by omega
  clear hr1 hm_ss hm_es
  obtain ⟨zQ0, zQ1⟩ := unhide Q2
  go_wp2_with fail
  clear zQ0 zQ1
  refine (Tq.to a ss ca b es cb _ hml_ss hml_es ((unhide HR_ss).below B2) ((unhide HR_es).below B2)).mono ?_
  rintro e w3 ⟨g3, h3, rfl, b3, hg3, u3, v3⟩
  have B3 := B2.trans (b3.mono B2.size)
  have sz3 : w2.heap.size ≤ w3.heap.size := b3.size
  have Q3 := hide ((unhide Q2).below b3)
  clear Q2
  have Ss3 : Hid (So.Lst w3 (some ⟨g3, 0, none⟩) ss w2.heap.size h3) := hide (.inr ⟨g3, rfl, hg3.1, hg3.2.1, by omega, u3⟩)
  have Se3 : Hid (Tu.Lst w3 (some ⟨h3, 0, none⟩) es h3 w3.heap.size) := hide (.inr ⟨h3, rfl, Nat.le_refl _, hg3.2.2, hg3.2.2, v3⟩)
  clear u3 v3
  go_wp2_with fail
  refine (specOK _ ss _ _ es _ _ hml_ss hml_es (unhide Ss3).rm (unhide Se3).rm).mono ?_
  rintro e w4 ⟨rfl, b4⟩
  have B4 := B3.trans (b4.mono B3.size)
  have sz4 : w3.heap.size ≤ w4.heap.size := b4.size
  have Q4 := hide ((unhide Q3).below b4)
  have Ss4 := hide ((unhide Ss3).below b4)
  have Se4 := hide ((unhide Se3).below b4)
  clear Q3 Ss3 Se3
  obtain ⟨vv, hvv⟩ : ∃ vv, topB ss es = vv := ⟨_, rfl⟩
  have HVV := hide hvv
  rw [hvv]
  clear hvv
  have hnv : (vv != vv) = false := by simp
  clear Ss4
  clear Se4
  obtain ⟨zQ0, zQ1⟩ := unhide Q4
  go_wp2_with fail
  clear zQ0 zQ1
  refine (Tq.to a ss ca b es cb _ hml_ss hml_es ((unhide HR_ss).below B4) ((unhide HR_es).below B4)).mono ?_
  rintro e w5 ⟨g5, h5, rfl, b5, hg5, u5, v5⟩
  have B5 := B4.trans (b5.mono B4.size)
  have sz5 : w4.heap.size ≤ w5.heap.size := b5.size
  have Q5 := hide ((unhide Q4).below b5)
  clear Q4
  have Xs5 : Hid (So.Lst w5 (some ⟨g5, 0, none⟩) ss w4.heap.size h5) := hide (.inr ⟨g5, rfl, hg5.1, hg5.2.1, by omega, u5⟩)
  have Xe5 : Hid (Tu.Lst w5 (some ⟨h5, 0, none⟩) es h5 w5.heap.size) := hide (.inr ⟨h5, rfl, Nat.le_refl _, hg5.2.2, hg5.2.2, v5⟩)
  clear u5 v5
  obtain ⟨w6, hw6⟩ : ∃ w6, w5.alloc (.cells #[.slice (some ⟨g5, 0, none⟩) ss.length ss.length, .slice (some ⟨h5, 0, none⟩) es.length es.length] 42) = w6 := ⟨_, rfl⟩
  have b6 : Below w5.heap.size w5 w6 := by rw [← hw6]; exact (Below.refl _ _).alloc (Nat.le_refl _) _
  have B6 := B5.trans (b6.mono B5.size)
  have sz6 : w5.heap.size ≤ w6.heap.size := b6.size
  have sy6 : w6.heap.size = w5.heap.size + 1 := by rw [← hw6]; simp
  have Q6 := hide ((unhide Q5).below b6)
  have Xs6 := hide ((unhide Xs5).below b6)
  have Xe6 := hide ((unhide Xe5).below b6)
  clear Q5 Xs5 Xe5
  have V6 : Hid (Bx2 w6 w5.heap.size (.slice (some ⟨g5, 0, none⟩) ss.length ss.length) (.slice (some ⟨h5, 0, none⟩) es.length es.length)) := hide (by rw [← hw6]; exact bx2_new _ _ _ _)
  have HW6 := hide hw6
  clear hw6
  go_wp2_with fail
  rw [unhide HW6]
  refine (implOK _ ss _ _ es _ _ hml_ss hml_es (unhide Xs6).rm (unhide Xe6).rm).mono ?_
  rintro e w7 ⟨rfl, b7⟩
  have B7 := B6.trans (b7.mono B6.size)
  have sz7 : w6.heap.size ≤ w7.heap.size := b7.size
  have Q7 := hide ((unhide Q6).below b7)
  have Xs7 := hide ((unhide Xs6).below b7)
  have Xe7 := hide ((unhide Xe6).below b7)
  have V7 := hide ((unhide V6).below b7)
  clear Q6 Xs6 Xe6 V6
  rw [unhide HVV]
  go_wp2_with fail
  refine wp_region_noPanic ?_
  refine wp_region_held_drew (S := fun w' => (Bx2 w' w5.heap.size (.slice (some ⟨g5, 0, none⟩) ss.length ss.length) (.slice (some ⟨h5, 0, none⟩) es.length es.length) ∧ Bx2 w' w.heap.size (.slice a ss.length ca) (.slice b es.length cb)) ∧ w'.cell? ⟨w5.heap.size, 0, none⟩ = some (.slice (some ⟨g5, 0, none⟩) ss.length ss.length) ∧ w'.cell? ⟨w5.heap.size, 1, none⟩ = some (.slice (some ⟨h5, 0, none⟩) es.length es.length) ∧ w'.cell? ⟨w.heap.size, 0, none⟩ = some (.slice a ss.length ca) ∧ w'.cell? ⟨w.heap.size, 1, none⟩ = some (.slice b es.length cb)) (by kernel_rfl) (sH2 (unhide V7).drew (unhide Q7).drew) (fun hHeld => ?_)
  (refine Rg.tk (i := 0) (d := 22) (v := ?_) rfl rfl (by kernel_rfl) (by kernel_rfl) (by kernel_rfl) (fun _ _ _ h => h) (by rfl) ?_ (by assumption) ?_; rotate_left; (focus (intro w0 hSw; (try dsimp only at hSw); go_simp; (try with_reducible rfl))); (try simp only [Act.put, List.setIfInBounds_toArray, List.set_cons_zero, List.set_cons_succ]))
  (refine Rg.tk (i := 1) (d := 23) (v := ?_) rfl rfl (by kernel_rfl) (by kernel_rfl) (by kernel_rfl) (fun _ _ _ h => h) (by rfl) ?_ (by assumption) ?_; rotate_left; (focus (intro w0 hSw; (try dsimp only at hSw); go_simp; (try with_reducible rfl))); (try simp only [Act.put, List.setIfInBounds_toArray, List.set_cons_zero, List.set_cons_succ]))
  (refine wpAnyH_ready (rs := [2]) (by kernel_rfl) (by simp) ?_; refine AllReadyH.cons (o := _) rfl (fun K hK => ?_) AllReadyH.nil; go_simp)
  refine (Tq.to a ss ca b es cb _ hml_ss hml_es ((unhide HR_ss).below B7.drew) ((unhide HR_es).below B7.drew)).mono ?_
  rintro e w8 ⟨g8, h8, rfl, b8_, hg8, u8, v8⟩
  have b8 : Below w7.heap.size w7 w8 := (Below.refl _ _).drew.trans b8_
  clear b8_
  have B8 := B7.trans (b8.mono B7.size)
  have sz8 : w7.heap.size ≤ w8.heap.size := b8.size
  have Q8 := hide ((unhide Q7).below b8)
  have Xs8 := hide ((unhide Xs7).below b8)
  have Xe8 := hide ((unhide Xe7).below b8)
  have V8 := hide ((unhide V7).below b8)
  clear Q7 Xs7 Xe7 V7
  clear hHeld
  have Ys8 : Hid (So.Lst w8 (some ⟨g8, 0, none⟩) ss w7.heap.size h8) := hide (.inr ⟨g8, rfl, hg8.1, hg8.2.1, by omega, u8⟩)
  have Ye8 : Hid (Tu.Lst w8 (some ⟨h8, 0, none⟩) es h8 w8.heap.size) := hide (.inr ⟨h8, rfl, Nat.le_refl _, hg8.2.2, hg8.2.2, v8⟩)
  clear u8 v8
  refine hK.out _ _ (sH2 (unhide V8) (unhide Q8)) (fun hHeld => ?_)
  clear hK K
  (try simp only [Act.put, List.setIfInBounds_toArray, List.set_cons_zero, List.set_cons_succ])
  (refine wpAnyH_ready (rs := [3]) (by kernel_rfl) (by simp) ?_; refine AllReadyH.cons (o := _) rfl (fun K hK => ?_) AllReadyH.nil; go_simp)
  refine (Tq.eq _ ss _ _ es _ _ _ _ _ _ hml_ss hml_es (unhide Xs8).rm (unhide Xe8).rm (unhide Ys8).rm (unhide Ye8).rm).mono ?_
  rintro e w9 ⟨rfl, b9⟩
  have B9 := B8.trans (b9.mono B8.size)
  have sz9 : w8.heap.size ≤ w9.heap.size := b9.size
  have Q9 := hide ((unhide Q8).below b9)
  have Xs9 := hide ((unhide Xs8).below b9)
  have Xe9 := hide ((unhide Xe8).below b9)
  have V9 := hide ((unhide V8).below b9)
  have Ys9 := hide ((unhide Ys8).below b9)
  have Ye9 := hide ((unhide Ye8).below b9)
  clear Q8 Xs8 Xe8 V8 Ys8 Ye8
  clear hHeld
  clear Ys9
  clear Ye9
  refine hK.out _ _ (sH2 (unhide V9) (unhide Q9)) (fun hHeld => ?_)
  clear hK K
  (try simp only [Act.put, List.setIfInBounds_toArray, List.set_cons_zero, List.set_cons_succ])
  (refine Rg.tk (i := 4) (d := 26) (v := ?_) rfl rfl (by kernel_rfl) (by kernel_rfl) (by kernel_rfl) (fun _ _ _ h => h) (by rfl) ?_ (by assumption) ?_; rotate_left; (focus (intro w0 hSw; (try dsimp only at hSw); go_simp; (try with_reducible rfl))); (try simp only [Act.put, List.setIfInBounds_toArray, List.set_cons_zero, List.set_cons_succ]))
  refine wpAnyH_done (by kernel_rfl) (NoPanic.normal ?_) _
  clear hHeld
  have HF := hide B9
  go_wp2_with fail
  go_ret
  exact ⟨rfl, unhide HF⟩

set_option maxRecDepth 100000 in
theorem lifted (os : Os) (started : os.Started) (H : Type) (enc : TypeId × Value → H) :
    ReturnsInHanded {} Try.checked os 4 .any (Rows.fnExactTopologyOKSpec.pre6 enc Try.prog Try.f4 Rows.fnExactTopologyOKRow.domain false) (Rows.fnExactTopologyOKSpec.post enc Try.prog Try.f4 false true false false) := by
  refine returnsInHanded_of_change (C := Try.checked) own started (by kernel_rfl) Try.func4
    (ChangeSpec.witness6 (enc := enc) (C := Try.checked) false ⟨#[], #[.agg #[.slice none 0 0, .slice none 0 0]], []⟩ 8 (by kernel_rfl) (by kernel_rfl) (by kernel_rfl) (by kernel_rfl)) ?_
  intro W base args ds gs before hval0 hW hcnd _
  have hval : ∀ (j : Nat) t v, Try.f4.params[j]? = some t → args[j]? = some v → Value.okWide Try.prog W .any base t v := hval0
  have hW' := hW
  obtain ⟨p, q, hA0, hV, rfl, hfz, hnd⟩ := hW
  have hA : DataW.TrodAll enc Try.prog W 0 (fun _ => true) true Try.f4.params.toList args.toList ds p := hA0
  rw [Try.params4] at hA hval
  obtain ⟨v0, vs0, d0, ds0, p0, q0, hargs0, rfl, rfl, h0, r0⟩ := trodAll_cons hA
  obtain ⟨rfl, rfl, rfl⟩ := trodAll_nil r0
  obtain rfl : args = #[v0] := by cases args; simp_all
  obtain ⟨rfl, rfl⟩ := trodVars_none hV
  have k0 := h0
  have lt0 : ∀ x ∈ p0, x.block < W.heap.size := by obtain ⟨m, hm⟩ := k0; exact DataW.trod_lt m _ _ _ hm
  obtain ⟨a0, len0, cap0, ms0, b0, lem0, cbp0, es0, rfl, hlen0, hlem0, hmx0, hmy0, hrd0, hre0⟩ := Tq.open_top (hval 0 37 v0 rfl rfl) h0
  subst hlen0 hlem0
  clear hA0 hval0
  refine (walk a0 ms0 cap0 b0 es0 cbp0 hmx0 hmy0 W hrd0 hre0).mono fun e W' ⟨he, bel⟩ => ?_
  subst he
  exact ⟨_, rfl, _, _, _, [], _, [], hW', trodAll_mk1 (shut_bool Try.underlying4 _), (trodAll_cons_mk (Below.trod laidOut (by kernel_rfl) (of_decide_eq_true (by kernel_rfl)) k0 bel lt0) trodAll_mk0), rfl, bel.frame _, fun h => by cases h⟩

theorem over : Rows.fnExactTopologyOKRow.holds Try.pinned (OpenSpec.ofChange Rows.fnExactTopologyOKSpec) :=
  OpenClaim.holds_of_wide 4 Try.f4 rfl rfl rfl rfl rfl rfl rfl ⟨rfl, rfl, rfl, rfl, rfl⟩ rfl rfl rfl rfl rfl (by kernel_rfl) Try.func4 (by kernel_rfl)
    (of_decide_eq_true (by kernel_rfl)) (by unfold Func.isWrapper; first | (rw [if_pos (by decide +kernel)]; kernel_rfl) | (rw [if_neg (by decide +kernel)]; exact ⟨rfl, rfl⟩))
    (fun os started H enc _ => lifted os started H enc)
end Go.Proofs.Ytmelbilepfnmjap.fnExactTopologyOK
namespace Go.Proofs.Ytmelbilepfnmjap
/-- At every argument the program's TopologyOK answers as its model. -/
theorem fnExactTopologyOK_holds : Rows.FnExactTopologyOKSaid := fnExactTopologyOK.over
end Go.Proofs.Ytmelbilepfnmjap
