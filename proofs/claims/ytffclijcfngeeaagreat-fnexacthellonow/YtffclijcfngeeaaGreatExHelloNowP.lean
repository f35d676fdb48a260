/-
  Proved here: for every router, laws.FnExactHelloNow returns true (the program's HelloNow answers as its model, leaves its argument alone, and answers in memory of its own), and leaves what came in as it was. No condition. (The walk is written by mkrtlaw.py.)
-/
import Derived.Test.YtffclijcfngeeaaGreatQe7
import Derived.Deep.DeepHandedRow
namespace Go.Proofs.YtffclijcfngeeaaGreat.fnExactHelloNow
open Go.ChangeShapes Go.WideShapes Go.ChangeAt Go.RowKit
open W1 Rt
set_option linter.unusedVariables false
set_option linter.unusedSimpArgs false
set_option maxRecDepth 100000 in
theorem lifted (os : Os) (started : os.Started) (H : Type) (enc : TypeId × Value → H) :
    ReturnsInHanded {} Tryz.checked os 5 .any (Rows.fnExactHelloNowSpec.pre6 enc Tryz.prog Tryz.f5 Rows.fnExactHelloNowRow.domain false) (Rows.fnExactHelloNowSpec.post enc Tryz.prog Tryz.f5 false true false false) := by
  refine returnsInHanded_of_change (C := Tryz.checked) own started (by kernel_rfl) Tryz.func5
    (ChangeSpec.witness6 (enc := enc) (C := Tryz.checked) false ⟨#[], #[.agg #[.int .i64 0, .int .i64 0, .int .i64 0, .int .i64 0, .int .i64 0, .slice none 0 0, .slice none 0 0, .slice none 0 0, .slice none 0 0, .slice none 0 0, .slice none 0 0, .slice none 0 0, .int .i64 0]], []⟩ 8 (by kernel_rfl) (by kernel_rfl) (by kernel_rfl) (by kernel_rfl)) ?_
  intro W base args ds gs before hval0 hW hcnd _
  have hval : ∀ (j : Nat) t v, Tryz.f5.params[j]? = some t → args[j]? = some v → Value.okWide Tryz.prog W .any base t v := hval0
  have hW' := hW
  obtain ⟨p, q, hA0, hV, rfl, hfz, hnd⟩ := hW
  have hA : DataW.TrodAll enc Tryz.prog W 0 (fun _ => true) true Tryz.f5.params.toList args.toList ds p := hA0
  rw [Tryz.params5] at hA hval
  obtain ⟨v0, vs0, d0, ds0, p0, q0, hargs0, rfl, rfl, h0, r0⟩ := trodAll_cons hA
  obtain ⟨rfl, rfl, rfl⟩ := trodAll_nil r0
  obtain rfl : args = #[v0] := by cases args; simp_all
  obtain ⟨rfl, rfl⟩ := trodVars_none hV
  have k0 := h0
  have lt0 : ∀ x ∈ p0, x.block < W.heap.size := by obtain ⟨m, hm⟩ := k0; exact DataW.trod_lt m _ _ _ hm
  obtain ⟨xi1_0, xi2_0, xi3_0, xi4_0, xi5_0, xi6_0, ai1_0, ai2_0, ai3_0, ai4_0, ai5_0, ai6_0, ai7_0, ci1_0, ci2_0, ci3_0, ci4_0, ci5_0, ci6_0, ci7_0, li1_0, li2_0, li3_0, li4_0, li5_0, li6_0, li7_0, rfl, ⟨hj1_0, hj2_0, hj3_0, hj4_0, hj5_0, hj6_0, hj7_0⟩, hrd1_0, hrd2_0, hrd3_0, hrd4_0, hrd5_0, hrd6_0, hrd7_0⟩ := Rt.open_rtr (hval 0 29 v0 rfl rfl) h0
  clear hA0 hval0
  refine (walk xi1_0 xi2_0 xi3_0 xi4_0 xi5_0 xi6_0 ai1_0 ai2_0 ai3_0 ai4_0 ai5_0 ai6_0 ai7_0 ci1_0 ci2_0 ci3_0 ci4_0 ci5_0 ci6_0 ci7_0 li1_0 li2_0 li3_0 li4_0 li5_0 li6_0 li7_0 hj1_0 hj2_0 hj3_0 hj4_0 hj5_0 hj6_0 hj7_0 W hrd1_0 hrd2_0 hrd3_0 hrd4_0 hrd5_0 hrd6_0 hrd7_0).mono fun e W' ⟨he, bel⟩ => ?_
  subst he
  exact ⟨_, rfl, _, _, _, [], _, [], hW', trodAll_mk1 (shut_bool Tryz.underlying4 _), (trodAll_cons_mk (Below.trod laidOut (by kernel_rfl) (of_decide_eq_true (by kernel_rfl)) k0 bel lt0) trodAll_mk0), rfl, bel.frame _, fun h => by cases h⟩

set_option maxRecDepth 1000000
theorem bt {a b : Bool} (ha : a = true) (hb : b = true) : (a && b) = true := by rw [ha, hb]; rfl
theorem z0 : (Rows.fnExactHelloNowRow.wf (OpenSpec.ofChange Rows.fnExactHelloNowSpec)) = true := by kernel_rfl
theorem z1 : (laidOutB Tryz.prog) = true := by kernel_rfl
theorem z2 : (mapsRowed Tryz.prog) = true := by kernel_rfl
theorem z3 : (Tryz.f5.params.all (Tryz.prog.readableRec ·)) = true := by kernel_rfl
theorem z4 : (namedTie Tryz.prog Rows.fnExactHelloNowRow.named Rows.fnExactHelloNowSpec.vars) = true := by kernel_rfl
theorem z5 : (Rows.fnExactHelloNowRow.stops == []) = true := by kernel_rfl
theorem z6 : (Tryz.prog.stops == []) = true := by kernel_rfl
theorem z7 : (Rows.fnExactHelloNowRow.knobs == []) = true := by kernel_rfl
theorem z8 : (Tryz.prog.stopKnobs == []) = true := by kernel_rfl
theorem z9 : (Rows.fnExactHelloNowRow.inPlace == Tryz.prog.inPlace 5) = true := by kernel_rfl
theorem z10 : (Rows.fnExactHelloNowRow.unfollowed == Tryz.prog.unfollowed 5) = true := by kernel_rfl
theorem z11 : (Rows.fnExactHelloNowRow.recurses == Tryz.prog.recurses 5) = true := by kernel_rfl
theorem z12 : (Rows.fnExactHelloNowRow.named == Tryz.prog.varsNamed 5) = true := by kernel_rfl
theorem z13 : (Rows.fnExactHelloNowRow.maps == (Tryz.f5.params.toList ++ Rows.fnExactHelloNowSpec.plain.varTypes Tryz.prog).any (Tryz.prog.mapsRec ·)) = true := by kernel_rfl
theorem z14 : (Rows.fnExactHelloNowRow.ifaces == (Tryz.f5.params.toList ++ Rows.fnExactHelloNowSpec.plain.varTypes Tryz.prog).any (Tryz.prog.ifacesRec ·)) = true := by kernel_rfl
theorem z15 : (Rows.fnExactHelloNowRow.mapsOut == Tryz.prog.mapsAmong Tryz.f5.resultTypes.toList) = true := by kernel_rfl
theorem z16 : (Rows.fnExactHelloNowRow.loops == (Tryz.f5.params.toList ++ Rows.fnExactHelloNowSpec.plain.varTypes Tryz.prog).any (Tryz.prog.loopsFrom ·)) = true := by kernel_rfl
theorem z17 : (Rows.fnExactHelloNowRow.wideKeys == (Tryz.f5.params.toList ++ Rows.fnExactHelloNowSpec.plain.varTypes Tryz.prog ++ Tryz.f5.resultTypes.toList).any (Tryz.prog.wideKeysFrom ·)) = true := by kernel_rfl
theorem z18 : (Rows.fnExactHelloNowSpec.vars.all (Tryz.prog.varReadable ·)) = true := by kernel_rfl
theorem z19 : (Tryz.f5.resultTypes.all (fun t => Tryz.prog.readableRec t && decide (t < Tryz.prog.types.size))) = true := by kernel_rfl
theorem z20 : (Rows.fnExactHelloNowRow.ifacesOut == Tryz.f5.resultTypes.toList.any (Tryz.prog.ifacesRec ·)) = true := by kernel_rfl
theorem z21 : (Rows.fnExactHelloNowRow.loopsOut == Tryz.f5.resultTypes.toList.any (Tryz.prog.loopsFrom ·)) = true := by kernel_rfl
theorem z22 : (Rows.fnExactHelloNowRow.plainKeys == Tryz.prog.plainKeys) = true := by kernel_rfl
theorem z23 : (Rows.fnExactHelloNowRow.shortTexts.isNone) = true := by kernel_rfl
theorem z24 : (Tryz.prog.stopsHeard) = true := by kernel_rfl
theorem z25 : (Tryz.prog.mayEnter) = true := by kernel_rfl
theorem z26 : (Rows.fnExactHelloNowRow.lifted == Tryz.prog.liftsFinal) = true := by kernel_rfl
theorem z27 : (Tryz.prog.make == some Rows.fnExactHelloNowRow.make) = true := by kernel_rfl
theorem z28 : (Rows.fnExactHelloNowRow.kinds == (if Rows.fnExactHelloNowRow.domain.isEmpty then [] else Tryz.f5.params.toList.map fun t => match Tryz.prog.underlying t with | some (.int k) => some k | _ => none)) = true := by kernel_rfl
theorem z29 : (Rows.fnExactHelloNowRow.pinned == Rows.fnExactHelloNowRow.pinnedBy) = true := by kernel_rfl
theorem z30 : (Rows.fnExactHelloNowRow.veiled == (Tryz.f5.params.toList ++ Rows.fnExactHelloNowSpec.plain.varTypes Tryz.prog ++ Tryz.f5.resultTypes.toList).any (Tryz.prog.veiledRec ·)) = true := by kernel_rfl
theorem z31 : (Rows.fnExactHelloNowRow.veiledFits Tryz.prog Tryz.f5.params.toList (Tryz.f5.params.toList ++ Rows.fnExactHelloNowSpec.plain.varTypes Tryz.prog ++ Tryz.f5.resultTypes.toList)) = true := by kernel_rfl
theorem closed : joinedFacts Tryz.prog 5 Tryz.f5 Rows.fnExactHelloNowSpec Rows.fnExactHelloNowRow = true := by
  unfold joinedFacts
  exact (bt (bt (bt (bt (bt (bt (bt (bt (bt (bt (bt (bt (bt (bt (bt (bt (bt (bt (bt (bt (bt (bt (bt (bt (bt (bt (bt (bt (bt (bt (bt z0 z1) z2) z3) z4) z5) z6) z7) z8) z9) z10) z11) z12) z13) z14) z15) z16) z17) z18) z19) z20) z21) z22) z23) z24) z25) z26) z27) z28) z29) z30) z31)
theorem called : Tryz.prog.funcNamed Rows.fnExactHelloNowRow.func = some 5 := by kernel_rfl
theorem inst : Tryz.f5.isInstance Tryz.prog Rows.fnExactHelloNowRow.origin Rows.fnExactHelloNowRow.targs := of_decide_eq_true (by kernel_rfl)
theorem wrap : Tryz.f5.isWrapper Tryz.prog Rows.fnExactHelloNowRow.wrapper Rows.fnExactHelloNowRow.mainSum := by unfold Func.isWrapper; first | (rw [if_pos (by decide +kernel)]; kernel_rfl) | (rw [if_neg (by decide +kernel)]; exact ⟨rfl, rfl⟩)
theorem over : Rows.fnExactHelloNowRow.holds Tryz.pinned (OpenSpec.ofChange Rows.fnExactHelloNowSpec) :=
  OpenClaim.holds_of_wide 5 Tryz.f5 rfl rfl rfl rfl rfl rfl rfl ⟨rfl, rfl, rfl, rfl, rfl⟩ rfl rfl rfl rfl rfl called Tryz.func5 closed inst wrap
    (fun os started H enc _ => lifted os started H enc)
end Go.Proofs.YtffclijcfngeeaaGreat.fnExactHelloNow
namespace Go.Proofs.YtffclijcfngeeaaGreat
/-- At every router the program's HelloNow answers as its model. -/
theorem fnExactHelloNow_holds : Rows.FnExactHelloNowSaid := fnExactHelloNow.over
end Go.Proofs.YtffclijcfngeeaaGreat
