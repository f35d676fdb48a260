/-
  Proved here: for every three numbers laws.FnExactNewRouter returns true (the program's NewRouter answers as its model, every field, and its answer owns its memory). No condition.
-/
import Derived.Test.YtmlokaielemhaaaRtrB
namespace Go.Proofs.Ytmlokaielemhaaa.fnExactNewRouter
open Go.ChangeShapes Go.WideShapes Go.ChangeAt Go.RowKit
open W1 Rt
set_option linter.unusedVariables false
set_option maxRecDepth 100000
theorem own : ownKnob Try.prog.godebug = none := by kernel_rfl
theorem laidOut : laidOutB Try.prog = true := by kernel_rfl

set_option maxHeartbeats 8000000 in
theorem walk (x : Int) (wf : (Lit.int .i64 x).wf = true) (y : Int) (wf1 : (Lit.int .i64 y).wf = true) (z : Int) (wf2 : (Lit.int .i64 z).wf = true) (w : World) :
    Calls Try.prog 5 #[.int .i64 x, .int .i64 y, .int .i64 z] w fun e w' => e = .returned (.bool true) ∧ Below w.heap.size w w' := by
  obtain ⟨X, hX⟩ : ∃ X, pickN x y z x = X := ⟨_, rfl⟩
  obtain ⟨Y, hY⟩ : ∃ Y, pickN x y z y = Y := ⟨_, rfl⟩
  obtain ⟨Z, hZ⟩ : ∃ Z, pickN x y z z = Z := ⟨_, rfl⟩
  obtain ⟨C, hC⟩ : ∃ C, codeN x y z = C := ⟨_, rfl⟩
  have cc : (C != C) = false := by simp
  have k1 := specNew x y z
  have k2 := implNew x y z
  rw [hX, hY, hZ, hC] at k1 k2
  have K1 := hide k1
  have K2 := hide k2
  clear hX hY hZ hC k1 k2
  go_enter Try.func5, Try.ntmps5
  go_wp2_with fail
  refine (unhide K1 _).mono ?_
  rintro e w1 ⟨v1, rfl, ⟨a1, a2, a3, a4, a5, a6, a7, rfl⟩, q1⟩
  have HB1 := hide q1
  clear q1
  go_wp2_with (refine wpList_storeR _ _ rfl rfl (rC X Y Z 0 0 (.slice a1 0 0) (.slice a2 0 0) (.slice a3 0 0) (.slice a4 0 0) (.slice a5 0 0) (.slice a6 0 0) (.slice a7 0 0) 0) (rC_ones rfl rfl rfl rfl rfl rfl rfl) rfl rfl (ra_new w1 (rC 0 0 0 0 0 (.slice none 0 0) (.slice none 0 0) (.slice none 0 0) (.slice none 0 0) (.slice none 0 0) (.slice none 0 0) (.slice none 0 0) 0) rfl 68).2.1 ?_; intro w2 ra bb hs; have HA2 := hide ra; have HB2 := hide (bb _ _ (bel_alloc (unhide HB1) (.cells (rC 0 0 0 0 0 (.slice none 0 0) (.slice none 0 0) (.slice none 0 0) (.slice none 0 0) (.slice none 0 0) (.slice none 0 0) (.slice none 0 0) 0).toArray 68)) (unhide HB1).size); clear ra bb hs)
  refine (unhide K2 _).mono ?_
  rintro e w3 ⟨v3, rfl, ⟨b1, b2, b3, b4, b5, b6, b7, rfl⟩, q3⟩
  have HB3 := hide ((unhide HB2).trans (q3.mono (unhide HB2).size))
  have HA3 := hide ((unhide HA2).below q3)
  clear q3 HA2
  have HA3' := hide ((unhide HA3).below (bel_alloc (Below.refl w3.heap.size w3) (.cells (rC 0 0 0 0 0 (.slice none 0 0) (.slice none 0 0) (.slice none 0 0) (.slice none 0 0) (.slice none 0 0) (.slice none 0 0) (.slice none 0 0) 0).toArray 68)))
  go_wp2_with (first | (refine wpList_storeR _ _ rfl rfl (rC X Y Z 0 0 (.slice b1 0 0) (.slice b2 0 0) (.slice b3 0 0) (.slice b4 0 0) (.slice b5 0 0) (.slice b6 0 0) (.slice b7 0 0) 0) (rC_ones rfl rfl rfl rfl rfl rfl rfl) rfl rfl (ra_new w3 (rC 0 0 0 0 0 (.slice none 0 0) (.slice none 0 0) (.slice none 0 0) (.slice none 0 0) (.slice none 0 0) (.slice none 0 0) (.slice none 0 0) 0) rfl 68).2.1 ?_; intro w4 ra bb hs; have HG4 := hide ra; have HB4 := hide (bb _ _ (bel_alloc (unhide HB3) (.cells (rC 0 0 0 0 0 (.slice none 0 0) (.slice none 0 0) (.slice none 0 0) (.slice none 0 0) (.slice none 0 0) (.slice none 0 0) (.slice none 0 0) 0).toArray 68)) (unhide HB3).size); have HA4 := hide ((unhide HA3).below (bb _ _ (bel_alloc (Below.refl w3.heap.size w3) (.cells (rC 0 0 0 0 0 (.slice none 0 0) (.slice none 0 0) (.slice none 0 0) (.slice none 0 0) (.slice none 0 0) (.slice none 0 0) (.slice none 0 0) 0).toArray 68)) (Nat.le_refl _))); clear ra bb hs) | (first | (refine wpList_loadR _ rfl rfl rfl (unhide HG4) ?_) | (refine wpList_loadR _ rfl rfl rfl (unhide HA4) ?_)))
  refine (eqR0 X Y Z _ _ _ _ _ _ _ _ _ _ _ _ _ _ _).mono ?_
  rintro e w5 ⟨rfl, q⟩
  have HB5 := hide ((unhide HB4).trans (q.mono (unhide HB4).size))
  have HG5 := hide ((unhide HG4).below q)
  have HA5 := hide ((unhide HA4).below q)
  clear q HG4 HA4 HB4
  go_wp2_with (first | (refine wpList_loadR _ rfl rfl rfl (unhide HG5) ?_))
  refine (markR0 X Y Z _ _ _ _ _ _ _ _).mono ?_
  rintro e w6 ⟨rfl, q⟩
  have HB6 := hide ((unhide HB5).trans (q.mono (unhide HB5).size))
  have HG6 := hide ((unhide HG5).below q)
  have HA6 := hide ((unhide HA5).below q)
  clear q HG5 HA5 HB5
  go_wp2_with (first | (refine wpList_loadR _ rfl rfl rfl (unhide HG6) ?_))
  refine (heldR0 X Y Z _ _ _ _ _ _ _ _).mono ?_
  rintro e w7 ⟨rfl, q⟩
  have HB7 := hide ((unhide HB6).trans (q.mono (unhide HB6).size))
  have HG7 := hide ((unhide HG6).below q)
  have HA7 := hide ((unhide HA6).below q)
  clear q HG6 HA6 HB6
  go_wp2_with fail
  refine (unhide K2 _).mono ?_
  rintro e w8 ⟨v8, rfl, ⟨d1, d2, d3, d4, d5, d6, d7, rfl⟩, q⟩
  have HB8 := hide ((unhide HB7).trans (q.mono (unhide HB7).size))
  have HG8 := hide ((unhide HG7).below q)
  have HA8 := hide ((unhide HA7).below q)
  clear q HG7 HA7 HB7
  go_wp2_with (first | (refine wpList_storeR _ _ rfl rfl (rC X Y Z 0 0 (.slice d1 0 0) (.slice d2 0 0) (.slice d3 0 0) (.slice d4 0 0) (.slice d5 0 0) (.slice d6 0 0) (.slice d7 0 0) 0) (rC_ones rfl rfl rfl rfl rfl rfl rfl) rfl rfl (ra_new w8 (rC 0 0 0 0 0 (.slice none 0 0) (.slice none 0 0) (.slice none 0 0) (.slice none 0 0) (.slice none 0 0) (.slice none 0 0) (.slice none 0 0) 0) rfl 68).2.1 ?_; intro w9 ra bb hs; have HD9 := hide ra; have HB9 := hide (bb _ _ (bel_alloc (unhide HB8) (.cells (rC 0 0 0 0 0 (.slice none 0 0) (.slice none 0 0) (.slice none 0 0) (.slice none 0 0) (.slice none 0 0) (.slice none 0 0) (.slice none 0 0) 0).toArray 68)) (unhide HB8).size); have HG9 := hide ((unhide HG8).below (bb _ _ (bel_alloc (Below.refl w8.heap.size w8) (.cells (rC 0 0 0 0 0 (.slice none 0 0) (.slice none 0 0) (.slice none 0 0) (.slice none 0 0) (.slice none 0 0) (.slice none 0 0) (.slice none 0 0) 0).toArray 68)) (Nat.le_refl _))); have HA9 := hide ((unhide HA8).below (bb _ _ (bel_alloc (Below.refl w8.heap.size w8) (.cells (rC 0 0 0 0 0 (.slice none 0 0) (.slice none 0 0) (.slice none 0 0) (.slice none 0 0) (.slice none 0 0) (.slice none 0 0) (.slice none 0 0) 0).toArray 68)) (Nat.le_refl _))); clear ra bb hs) | (first | (refine wpList_loadR _ rfl rfl rfl (unhide HD9) ?_) | (refine wpList_loadR _ rfl rfl rfl (unhide HA9) ?_)))
  refine (eqR0 X Y Z _ _ _ _ _ _ _ _ _ _ _ _ _ _ _).mono ?_
  rintro e w10 ⟨rfl, q⟩
  have HB10 := hide ((unhide HB9).trans (q.mono (unhide HB9).size))
  have HG10 := hide ((unhide HG9).below q)
  have HA10 := hide ((unhide HA9).below q)
  clear q HG9 HA9 HB9
  go_wp2_with (first | (refine wpList_loadR _ rfl rfl rfl (unhide HG10) ?_))
  refine (heldR0 X Y Z _ _ _ _ _ _ _ _).mono ?_
  rintro e w11 ⟨rfl, q⟩
  have HB11 := hide ((unhide HB10).trans (q.mono (unhide HB10).size))
  have HG11 := hide ((unhide HG10).below q)
  have HA11 := hide ((unhide HA10).below q)
  clear q HG10 HA10 HB10
  go_wp2_with fail
  go_ret
  exact ⟨rfl, unhide HB11⟩

set_option maxRecDepth 100000 in
theorem lifted (os : Os) (started : os.Started) (H : Type) (enc : TypeId × Value → H) :
    ReturnsInHanded {} Try.checked os 5 .any (Rows.fnExactNewRouterSpec.pre6 enc Try.prog Try.f5 Rows.fnExactNewRouterRow.domain false) (Rows.fnExactNewRouterSpec.post enc Try.prog Try.f5 false true false false) := by
  refine returnsInHanded_of_change (C := Try.checked) own started (by kernel_rfl) Try.func5
    (ChangeSpec.witness6 (enc := enc) (C := Try.checked) false ⟨#[], #[.int .i64 0, .int .i64 0, .int .i64 0], []⟩ 8 (by kernel_rfl) (by kernel_rfl) (by kernel_rfl) (by kernel_rfl)) ?_
  intro W base args ds gs before hval0 hW hcnd _
  have hval : ∀ (j : Nat) t v, Try.f5.params[j]? = some t → args[j]? = some v → Value.okWide Try.prog W .any base t v := hval0
  have hW' := hW
  obtain ⟨p, q, hA0, hV, rfl, hfz, hnd⟩ := hW
  have hA : DataW.TrodAll enc Try.prog W 0 (fun _ => true) true Try.f5.params.toList args.toList ds p := hA0
  rw [Try.params5] at hA hval
  obtain ⟨v0, vs0, d0, ds0, p0, q0, hargs0, rfl, rfl, h0, r0⟩ := trodAll_cons hA
  obtain ⟨v1, vs1, d1, ds1, p1, q1, hargs1, rfl, rfl, h1, r1⟩ := trodAll_cons r0
  obtain ⟨v2, vs2, d2, ds2, p2, q2, hargs2, rfl, rfl, h2, r2⟩ := trodAll_cons r1
  obtain ⟨rfl, rfl, rfl⟩ := trodAll_nil r2
  obtain rfl : args = #[v0, v1, v2] := by cases args; simp_all
  obtain ⟨rfl, rfl⟩ := trodVars_none hV
  have k0 := h0
  have lt0 : ∀ x ∈ p0, x.block < W.heap.size := by obtain ⟨m, hm⟩ := k0; exact DataW.trod_lt m _ _ _ hm
  have k1 := h1
  have lt1 : ∀ x ∈ p1, x.block < W.heap.size := by obtain ⟨m, hm⟩ := k1; exact DataW.trod_lt m _ _ _ hm
  have k2 := h2
  have lt2 : ∀ x ∈ p2, x.block < W.heap.size := by obtain ⟨m, hm⟩ := k2; exact DataW.trod_lt m _ _ _ hm
  obtain ⟨n0, rfl, _, _, wf0⟩ := open_int Try.underlying3 (hval 0 3 v0 rfl rfl) h0
  obtain ⟨n1, rfl, _, _, wf1⟩ := open_int Try.underlying3 (hval 1 3 v1 rfl rfl) h1
  obtain ⟨n2, rfl, _, _, wf2⟩ := open_int Try.underlying3 (hval 2 3 v2 rfl rfl) h2
  clear hA0 hval0
  refine (walk n0 wf0 n1 wf1 n2 wf2 W).mono fun e W' ⟨he, bel⟩ => ?_
  subst he
  exact ⟨_, rfl, _, _, _, [], _, [], hW', trodAll_mk1 (shut_bool Try.underlying4 _), (trodAll_cons_mk (Below.trod laidOut (by kernel_rfl) (of_decide_eq_true (by kernel_rfl)) k0 bel lt0) (trodAll_cons_mk (Below.trod laidOut (by kernel_rfl) (of_decide_eq_true (by kernel_rfl)) k1 bel lt1) (trodAll_cons_mk (Below.trod laidOut (by kernel_rfl) (of_decide_eq_true (by kernel_rfl)) k2 bel lt2) trodAll_mk0))), rfl, bel.frame _, fun h => by cases h⟩

theorem over : Rows.fnExactNewRouterRow.holds Try.pinned (OpenSpec.ofChange Rows.fnExactNewRouterSpec) :=
  OpenClaim.holds_of_wide 5 Try.f5 rfl rfl rfl rfl rfl rfl rfl ⟨rfl, rfl, rfl, rfl, rfl⟩ rfl rfl rfl rfl rfl (by kernel_rfl) Try.func5 (by kernel_rfl)
    (of_decide_eq_true (by kernel_rfl)) (by unfold Func.isWrapper; first | (rw [if_pos (by decide +kernel)]; kernel_rfl) | (rw [if_neg (by decide +kernel)]; exact ⟨rfl, rfl⟩))
    (fun os started H enc _ => lifted os started H enc)
end Go.Proofs.Ytmlokaielemhaaa.fnExactNewRouter
namespace Go.Proofs.Ytmlokaielemhaaa
/-- For every three numbers the program's NewRouter answers as its model, every field, and its answer owns its memory. No condition. -/
theorem fnExactNewRouter_holds : Rows.FnExactNewRouterSaid := fnExactNewRouter.over
end Go.Proofs.Ytmlokaielemhaaa
