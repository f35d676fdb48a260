/-
  Proved here: laws.FnExactPlainNet returns true (the program's PlainNet answers as its model, and answers in memory of its own). No condition. (The walk is written by mknetlaw2.py.)
-/
import Derived.Test.YtpmlpojefelbbaaQf5
import Derived.Deep.DeepHandedRow
namespace Go.Proofs.Ytpmlpojefelbbaa.fnExactPlainNet
open Go.ChangeShapes Go.WideShapes Go.ChangeAt Go.RowKit
open W1 Rt Nt Na
set_option linter.unusedVariables false
set_option linter.unusedSimpArgs false
set_option maxRecDepth 100000 in
theorem lifted (os : Os) (started : os.Started) (H : Type) (enc : TypeId × Value → H) :
    ReturnsInHanded {} Try.checked os 4 .any (Rows.fnExactPlainNetSpec.pre6 enc Try.prog Try.f4 Rows.fnExactPlainNetRow.domain false) (Rows.fnExactPlainNetSpec.post enc Try.prog Try.f4 false true false false) := by
  refine returnsInHanded_of_change (C := Try.checked) own started (by kernel_rfl) Try.func4
    (ChangeSpec.witness6 (enc := enc) (C := Try.checked) false ⟨#[], #[], []⟩ 8 (by kernel_rfl) (by kernel_rfl) (by kernel_rfl) (by kernel_rfl)) ?_
  intro W base args ds gs before hval0 hW hcnd _
  have hval : ∀ (j : Nat) t v, Try.f4.params[j]? = some t → args[j]? = some v → Value.okWide Try.prog W .any base t v := hval0
  have hW' := hW
  obtain ⟨p, q, hA0, hV, rfl, hfz, hnd⟩ := hW
  have hA : DataW.TrodAll enc Try.prog W 0 (fun _ => true) true Try.f4.params.toList args.toList ds p := hA0
  rw [Try.params4] at hA hval
  obtain ⟨hargs, rfl, rfl⟩ := trodAll_nil hA
  obtain rfl : args = #[] := by cases args; simp_all
  obtain ⟨rfl, rfl⟩ := trodVars_none hV
  clear hA0 hval0
  refine (walk W).mono fun e W' ⟨he, bel⟩ => ?_
  subst he
  exact ⟨_, rfl, _, _, _, [], _, [], hW', trodAll_mk1 (shut_bool Try.underlying4 _), trodAll_mk0, rfl, bel.frame _, fun h => by cases h⟩

set_option maxRecDepth 1000000
theorem bt {a b : Bool} (ha : a = true) (hb : b = true) : (a && b) = true := by rw [ha, hb]; rfl
theorem z0 : (Rows.fnExactPlainNetRow.wf (OpenSpec.ofChange Rows.fnExactPlainNetSpec)) = true := by kernel_rfl
theorem z1 : (laidOutB Try.prog) = true := by kernel_rfl
theorem z2 : (mapsRowed Try.prog) = true := by kernel_rfl
theorem z3 : (Try.f4.params.all (Try.prog.readableRec ·)) = true := by kernel_rfl
theorem z4 : (namedTie Try.prog Rows.fnExactPlainNetRow.named Rows.fnExactPlainNetSpec.vars) = true := by kernel_rfl
theorem z5 : (Rows.fnExactPlainNetRow.stops == []) = true := by kernel_rfl
theorem z6 : (Try.prog.stops == []) = true := by kernel_rfl
theorem z7 : (Rows.fnExactPlainNetRow.knobs == []) = true := by kernel_rfl
theorem z8 : (Try.prog.stopKnobs == []) = true := by kernel_rfl
theorem z9 : (Rows.fnExactPlainNetRow.inPlace == Try.prog.inPlace 4) = true := by kernel_rfl
theorem z10 : (Rows.fnExactPlainNetRow.unfollowed == Try.prog.unfollowed 4) = true := by kernel_rfl
theorem z11 : (Rows.fnExactPlainNetRow.recurses == Try.prog.recurses 4) = true := by kernel_rfl
theorem z12 : (Rows.fnExactPlainNetRow.named == Try.prog.varsNamed 4) = true := by kernel_rfl
theorem z13 : (Rows.fnExactPlainNetRow.maps == (Try.f4.params.toList ++ Rows.fnExactPlainNetSpec.plain.varTypes Try.prog).any (Try.prog.mapsRec ·)) = true := by kernel_rfl
theorem z14 : (Rows.fnExactPlainNetRow.ifaces == (Try.f4.params.toList ++ Rows.fnExactPlainNetSpec.plain.varTypes Try.prog).any (Try.prog.ifacesRec ·)) = true := by kernel_rfl
theorem z15 : (Rows.fnExactPlainNetRow.mapsOut == Try.prog.mapsAmong Try.f4.resultTypes.toList) = true := by kernel_rfl
theorem z16 : (Rows.fnExactPlainNetRow.loops == (Try.f4.params.toList ++ Rows.fnExactPlainNetSpec.plain.varTypes Try.prog).any (Try.prog.loopsFrom ·)) = true := by kernel_rfl
theorem z17 : (Rows.fnExactPlainNetRow.wideKeys == (Try.f4.params.toList ++ Rows.fnExactPlainNetSpec.plain.varTypes Try.prog ++ Try.f4.resultTypes.toList).any (Try.prog.wideKeysFrom ·)) = true := by kernel_rfl
theorem z18 : (Rows.fnExactPlainNetSpec.vars.all (Try.prog.varReadable ·)) = true := by kernel_rfl
theorem z19 : (Try.f4.resultTypes.all (fun t => Try.prog.readableRec t && decide (t < Try.prog.types.size))) = true := by kernel_rfl
theorem z20 : (Rows.fnExactPlainNetRow.ifacesOut == Try.f4.resultTypes.toList.any (Try.prog.ifacesRec ·)) = true := by kernel_rfl
theorem z21 : (Rows.fnExactPlainNetRow.loopsOut == Try.f4.resultTypes.toList.any (Try.prog.loopsFrom ·)) = true := by kernel_rfl
theorem z22 : (Rows.fnExactPlainNetRow.plainKeys == Try.prog.plainKeys) = true := by kernel_rfl
theorem z23 : (Rows.fnExactPlainNetRow.shortTexts.isNone) = true := by kernel_rfl
theorem z24 : (Try.prog.stopsHeard) = true := by kernel_rfl
theorem z25 : (Try.prog.mayEnter) = true := by kernel_rfl
theorem z26 : (Rows.fnExactPlainNetRow.lifted == Try.prog.liftsFinal) = true := by kernel_rfl
theorem z27 : (Try.prog.make == some Rows.fnExactPlainNetRow.make) = true := by kernel_rfl
theorem z28 : (Rows.fnExactPlainNetRow.kinds == (if Rows.fnExactPlainNetRow.domain.isEmpty then [] else Try.f4.params.toList.map fun t => match Try.prog.underlying t with | some (.int k) => some k | _ => none)) = true := by kernel_rfl
theorem z29 : (Rows.fnExactPlainNetRow.pinned == Rows.fnExactPlainNetRow.pinnedBy) = true := by kernel_rfl
theorem z30 : (Rows.fnExactPlainNetRow.veiled == (Try.f4.params.toList ++ Rows.fnExactPlainNetSpec.plain.varTypes Try.prog ++ Try.f4.resultTypes.toList).any (Try.prog.veiledRec ·)) = true := by kernel_rfl
theorem z31 : (Rows.fnExactPlainNetRow.veiledFits Try.prog Try.f4.params.toList (Try.f4.params.toList ++ Rows.fnExactPlainNetSpec.plain.varTypes Try.prog ++ Try.f4.resultTypes.toList)) = true := by kernel_rfl
theorem closed : joinedFacts Try.prog 4 Try.f4 Rows.fnExactPlainNetSpec Rows.fnExactPlainNetRow = true := by
  unfold joinedFacts
  exact (bt (bt (bt (bt (bt (bt (bt (bt (bt (bt (bt (bt (bt (bt (bt (bt (bt (bt (bt (bt (bt (bt (bt (bt (bt (bt (bt (bt (bt (bt (bt z0 z1) z2) z3) z4) z5) z6) z7) z8) z9) z10) z11) z12) z13) z14) z15) z16) z17) z18) z19) z20) z21) z22) z23) z24) z25) z26) z27) z28) z29) z30) z31)
theorem called : Try.prog.funcNamed Rows.fnExactPlainNetRow.func = some 4 := by kernel_rfl
theorem inst : Try.f4.isInstance Try.prog Rows.fnExactPlainNetRow.origin Rows.fnExactPlainNetRow.targs := of_decide_eq_true (by kernel_rfl)
theorem wrap : Try.f4.isWrapper Try.prog Rows.fnExactPlainNetRow.wrapper Rows.fnExactPlainNetRow.mainSum := by unfold Func.isWrapper; first | (rw [if_pos (by decide +kernel)]; kernel_rfl) | (rw [if_neg (by decide +kernel)]; exact ⟨rfl, rfl⟩)
theorem over : Rows.fnExactPlainNetRow.holds Try.pinned (OpenSpec.ofChange Rows.fnExactPlainNetSpec) :=
  OpenClaim.holds_of_wide 4 Try.f4 rfl rfl rfl rfl rfl rfl rfl ⟨rfl, rfl, rfl, rfl, rfl⟩ rfl rfl rfl rfl rfl called Try.func4 closed inst wrap
    (fun os started H enc _ => lifted os started H enc)
end Go.Proofs.Ytpmlpojefelbbaa.fnExactPlainNet
namespace Go.Proofs.Ytpmlpojefelbbaa
/-- The program's PlainNet answers as its model. -/
theorem fnExactPlainNet_holds : Rows.FnExactPlainNetSaid := fnExactPlainNet.over
end Go.Proofs.Ytpmlpojefelbbaa
