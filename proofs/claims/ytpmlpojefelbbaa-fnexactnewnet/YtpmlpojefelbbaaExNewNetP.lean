/-
  Proved here: for every two lists, laws.FnExactNewNet returns true (the program's NewNet answers as its model, leaves its arguments alone, and answers in memory of its own), and leaves what came in as it was. No condition. (The walk is written by mknetlaw2.py.)
-/
import Derived.Test.YtpmlpojefelbbaaQd4
import Derived.Deep.DeepHandedRow
namespace Go.Proofs.Ytpmlpojefelbbaa.fnExactNewNet
open Go.ChangeShapes Go.WideShapes Go.ChangeAt Go.RowKit
open W1 Rt Nt Na
set_option linter.unusedVariables false
set_option linter.unusedSimpArgs false
set_option maxRecDepth 100000 in
theorem lifted (os : Os) (started : os.Started) (H : Type) (enc : TypeId × Value → H) :
    ReturnsInHanded {} Try.checked os 3 .any (Rows.fnExactNewNetSpec.pre6 enc Try.prog Try.f3 Rows.fnExactNewNetRow.domain false) (Rows.fnExactNewNetSpec.post enc Try.prog Try.f3 false true false false) := by
  refine returnsInHanded_of_change (C := Try.checked) own started (by kernel_rfl) Try.func3
    (ChangeSpec.witness6 (enc := enc) (C := Try.checked) false ⟨#[], #[.slice none 0 0, .slice none 0 0], []⟩ 8 (by kernel_rfl) (by kernel_rfl) (by kernel_rfl) (by kernel_rfl)) ?_
  intro W base args ds gs before hval0 hW hcnd _
  have hval : ∀ (j : Nat) t v, Try.f3.params[j]? = some t → args[j]? = some v → Value.okWide Try.prog W .any base t v := hval0
  have hW' := hW
  obtain ⟨p, q, hA0, hV, rfl, hfz, hnd⟩ := hW
  have hA : DataW.TrodAll enc Try.prog W 0 (fun _ => true) true Try.f3.params.toList args.toList ds p := hA0
  rw [Try.params3] at hA hval
  obtain ⟨v0, vs0, d0, ds0, p0, q0, hargs0, rfl, rfl, h0, r0⟩ := trodAll_cons hA
  obtain ⟨v1, vs1, d1, ds1, p1, q1, hargs1, rfl, rfl, h1, r1⟩ := trodAll_cons r0
  obtain ⟨rfl, rfl, rfl⟩ := trodAll_nil r1
  obtain rfl : args = #[v0, v1] := by cases args; simp_all
  obtain ⟨rfl, rfl⟩ := trodVars_none hV
  have k0 := h0
  have lt0 : ∀ x ∈ p0, x.block < W.heap.size := by obtain ⟨m, hm⟩ := k0; exact DataW.trod_lt m _ _ _ hm
  have k1 := h1
  have lt1 : ∀ x ∈ p1, x.block < W.heap.size := by obtain ⟨m, hm⟩ := k1; exact DataW.trod_lt m _ _ _ hm
  obtain ⟨a0, len0, cap0, rfl⟩ := okWide_slice Try.underlying22 (hval 0 22 v0 rfl rfl)
  obtain ⟨ms0, hlen0, hmx0, hrd0⟩ := In.open_list h0
  subst hlen0
  obtain ⟨a1, len1, cap1, rfl⟩ := okWide_slice Try.underlying22 (hval 1 22 v1 rfl rfl)
  obtain ⟨ms1, hlen1, hmx1, hrd1⟩ := In.open_list h1
  subst hlen1
  clear hA0 hval0
  refine (walk a0 ms0 cap0 hmx0 a1 ms1 cap1 hmx1 W hrd0 hrd1).mono fun e W' ⟨he, bel⟩ => ?_
  subst he
  exact ⟨_, rfl, _, _, _, [], _, [], hW', trodAll_mk1 (shut_bool Try.underlying4 _), (trodAll_cons_mk (Below.trod laidOut (by kernel_rfl) (of_decide_eq_true (by kernel_rfl)) k0 bel lt0) (trodAll_cons_mk (Below.trod laidOut (by kernel_rfl) (of_decide_eq_true (by kernel_rfl)) k1 bel lt1) trodAll_mk0)), rfl, bel.frame _, fun h => by cases h⟩

set_option maxRecDepth 1000000
theorem bt {a b : Bool} (ha : a = true) (hb : b = true) : (a && b) = true := by rw [ha, hb]; rfl
theorem z0 : (Rows.fnExactNewNetRow.wf (OpenSpec.ofChange Rows.fnExactNewNetSpec)) = true := by kernel_rfl
theorem z1 : (laidOutB Try.prog) = true := by kernel_rfl
theorem z2 : (mapsRowed Try.prog) = true := by kernel_rfl
theorem z3 : (Try.f3.params.all (Try.prog.readableRec ·)) = true := by kernel_rfl
theorem z4 : (namedTie Try.prog Rows.fnExactNewNetRow.named Rows.fnExactNewNetSpec.vars) = true := by kernel_rfl
theorem z5 : (Rows.fnExactNewNetRow.stops == []) = true := by kernel_rfl
theorem z6 : (Try.prog.stops == []) = true := by kernel_rfl
theorem z7 : (Rows.fnExactNewNetRow.knobs == []) = true := by kernel_rfl
theorem z8 : (Try.prog.stopKnobs == []) = true := by kernel_rfl
theorem z9 : (Rows.fnExactNewNetRow.inPlace == Try.prog.inPlace 3) = true := by kernel_rfl
theorem z10 : (Rows.fnExactNewNetRow.unfollowed == Try.prog.unfollowed 3) = true := by kernel_rfl
theorem z11 : (Rows.fnExactNewNetRow.recurses == Try.prog.recurses 3) = true := by kernel_rfl
theorem z12 : (Rows.fnExactNewNetRow.named == Try.prog.varsNamed 3) = true := by kernel_rfl
theorem z13 : (Rows.fnExactNewNetRow.maps == (Try.f3.params.toList ++ Rows.fnExactNewNetSpec.plain.varTypes Try.prog).any (Try.prog.mapsRec ·)) = true := by kernel_rfl
theorem z14 : (Rows.fnExactNewNetRow.ifaces == (Try.f3.params.toList ++ Rows.fnExactNewNetSpec.plain.varTypes Try.prog).any (Try.prog.ifacesRec ·)) = true := by kernel_rfl
theorem z15 : (Rows.fnExactNewNetRow.mapsOut == Try.prog.mapsAmong Try.f3.resultTypes.toList) = true := by kernel_rfl
theorem z16 : (Rows.fnExactNewNetRow.loops == (Try.f3.params.toList ++ Rows.fnExactNewNetSpec.plain.varTypes Try.prog).any (Try.prog.loopsFrom ·)) = true := by kernel_rfl
theorem z17 : (Rows.fnExactNewNetRow.wideKeys == (Try.f3.params.toList ++ Rows.fnExactNewNetSpec.plain.varTypes Try.prog ++ Try.f3.resultTypes.toList).any (Try.prog.wideKeysFrom ·)) = true := by kernel_rfl
theorem z18 : (Rows.fnExactNewNetSpec.vars.all (Try.prog.varReadable ·)) = true := by kernel_rfl
theorem z19 : (Try.f3.resultTypes.all (fun t => Try.prog.readableRec t && decide (t < Try.prog.types.size))) = true := by kernel_rfl
theorem z20 : (Rows.fnExactNewNetRow.ifacesOut == Try.f3.resultTypes.toList.any (Try.prog.ifacesRec ·)) = true := by kernel_rfl
theorem z21 : (Rows.fnExactNewNetRow.loopsOut == Try.f3.resultTypes.toList.any (Try.prog.loopsFrom ·)) = true := by kernel_rfl
theorem z22 : (Rows.fnExactNewNetRow.plainKeys == Try.prog.plainKeys) = true := by kernel_rfl
theorem z23 : (Rows.fnExactNewNetRow.shortTexts.isNone) = true := by kernel_rfl
theorem z24 : (Try.prog.stopsHeard) = true := by kernel_rfl
theorem z25 : (Try.prog.mayEnter) = true := by kernel_rfl
theorem z26 : (Rows.fnExactNewNetRow.lifted == Try.prog.liftsFinal) = true := by kernel_rfl
theorem z27 : (Try.prog.make == some Rows.fnExactNewNetRow.make) = true := by kernel_rfl
theorem z28 : (Rows.fnExactNewNetRow.kinds == (if Rows.fnExactNewNetRow.domain.isEmpty then [] else Try.f3.params.toList.map fun t => match Try.prog.underlying t with | some (.int k) => some k | _ => none)) = true := by kernel_rfl
theorem z29 : (Rows.fnExactNewNetRow.pinned == Rows.fnExactNewNetRow.pinnedBy) = true := by kernel_rfl
theorem z30 : (Rows.fnExactNewNetRow.veiled == (Try.f3.params.toList ++ Rows.fnExactNewNetSpec.plain.varTypes Try.prog ++ Try.f3.resultTypes.toList).any (Try.prog.veiledRec ·)) = true := by kernel_rfl
theorem z31 : (Rows.fnExactNewNetRow.veiledFits Try.prog Try.f3.params.toList (Try.f3.params.toList ++ Rows.fnExactNewNetSpec.plain.varTypes Try.prog ++ Try.f3.resultTypes.toList)) = true := by kernel_rfl
theorem closed : joinedFacts Try.prog 3 Try.f3 Rows.fnExactNewNetSpec Rows.fnExactNewNetRow = true := by
  unfold joinedFacts
  exact (bt (bt (bt (bt (bt (bt (bt (bt (bt (bt (bt (bt (bt (bt (bt (bt (bt (bt (bt (bt (bt (bt (bt (bt (bt (bt (bt (bt (bt (bt (bt z0 z1) z2) z3) z4) z5) z6) z7) z8) z9) z10) z11) z12) z13) z14) z15) z16) z17) z18) z19) z20) z21) z22) z23) z24) z25) z26) z27) z28) z29) z30) z31)
theorem called : Try.prog.funcNamed Rows.fnExactNewNetRow.func = some 3 := by kernel_rfl
theorem inst : Try.f3.isInstance Try.prog Rows.fnExactNewNetRow.origin Rows.fnExactNewNetRow.targs := of_decide_eq_true (by kernel_rfl)
theorem wrap : Try.f3.isWrapper Try.prog Rows.fnExactNewNetRow.wrapper Rows.fnExactNewNetRow.mainSum := by unfold Func.isWrapper; first | (rw [if_pos (by decide +kernel)]; kernel_rfl) | (rw [if_neg (by decide +kernel)]; exact ⟨rfl, rfl⟩)
theorem over : Rows.fnExactNewNetRow.holds Try.pinned (OpenSpec.ofChange Rows.fnExactNewNetSpec) :=
  OpenClaim.holds_of_wide 3 Try.f3 rfl rfl rfl rfl rfl rfl rfl ⟨rfl, rfl, rfl, rfl, rfl⟩ rfl rfl rfl rfl rfl called Try.func3 closed inst wrap
    (fun os started H enc _ => lifted os started H enc)
end Go.Proofs.Ytpmlpojefelbbaa.fnExactNewNet
namespace Go.Proofs.Ytpmlpojefelbbaa
/-- At every two lists the program's NewNet answers as its model. -/
theorem fnExactNewNet_holds : Rows.FnExactNewNetSaid := fnExactNewNet.over
end Go.Proofs.Ytpmlpojefelbbaa
