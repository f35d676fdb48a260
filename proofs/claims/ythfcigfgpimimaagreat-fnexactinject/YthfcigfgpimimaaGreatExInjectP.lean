/-
  Proved here: for every net and numbers, laws.FnExactInject returns true (the program's Inject answers as its model, leaves its argument alone, and answers in memory of its own), and leaves what came in as it was. No condition. (The walk is written by mknetlaw.py.)
-/
import Derived.Test.YthfcigfgpimimaaGreatQb9
import Derived.Deep.DeepHandedRow
namespace Go.Proofs.YthfcigfgpimimaaGreat.fnExactInject
open Go.ChangeShapes Go.WideShapes Go.ChangeAt Go.RowKit
open W1 Rt Nt Na
set_option linter.unusedVariables false
set_option linter.unusedSimpArgs false
set_option maxRecDepth 100000 in
theorem lifted (os : Os) (started : os.Started) (H : Type) (enc : TypeId × Value → H) :
    ReturnsInHanded {} Tryz.checked os 3 .any (Rows.fnExactInjectSpec.pre6 enc Tryz.prog Tryz.f3 Rows.fnExactInjectRow.domain false) (Rows.fnExactInjectSpec.post enc Tryz.prog Tryz.f3 false true false false) := by
  refine returnsInHanded_of_change (C := Tryz.checked) own started (by kernel_rfl) Tryz.func3
    (ChangeSpec.witness6 (enc := enc) (C := Tryz.checked) false ⟨#[], #[.agg #[.slice none 0 0, .slice none 0 0, .slice none 0 0, .int .i64 0], .int .i64 0, .int .i64 0, .slice none 0 0], []⟩ 8 (by kernel_rfl) (by kernel_rfl) (by kernel_rfl) (by kernel_rfl)) ?_
  intro W base args ds gs before hval0 hW hcnd _
  have hval : ∀ (j : Nat) t v, Tryz.f3.params[j]? = some t → args[j]? = some v → Value.okWide Tryz.prog W .any base t v := hval0
  have hW' := hW
  obtain ⟨p, q, hA0, hV, rfl, hfz, hnd⟩ := hW
  have hA : DataW.TrodAll enc Tryz.prog W 0 (fun _ => true) true Tryz.f3.params.toList args.toList ds p := hA0
  rw [Tryz.params3] at hA hval
  obtain ⟨v0, vs0, d0, ds0, p0, q0, hargs0, rfl, rfl, h0, r0⟩ := trodAll_cons hA
  obtain ⟨v1, vs1, d1, ds1, p1, q1, hargs1, rfl, rfl, h1, r1⟩ := trodAll_cons r0
  obtain ⟨v2, vs2, d2, ds2, p2, q2, hargs2, rfl, rfl, h2, r2⟩ := trodAll_cons r1
  obtain ⟨v3, vs3, d3, ds3, p3, q3, hargs3, rfl, rfl, h3, r3⟩ := trodAll_cons r2
  obtain ⟨rfl, rfl, rfl⟩ := trodAll_nil r3
  obtain rfl : args = #[v0, v1, v2, v3] := by cases args; simp_all
  obtain ⟨rfl, rfl⟩ := trodVars_none hV
  have k0 := h0
  have lt0 : ∀ x ∈ p0, x.block < W.heap.size := by obtain ⟨m, hm⟩ := k0; exact DataW.trod_lt m _ _ _ hm
  have k1 := h1
  have lt1 : ∀ x ∈ p1, x.block < W.heap.size := by obtain ⟨m, hm⟩ := k1; exact DataW.trod_lt m _ _ _ hm
  have k2 := h2
  have lt2 : ∀ x ∈ p2, x.block < W.heap.size := by obtain ⟨m, hm⟩ := k2; exact DataW.trod_lt m _ _ _ hm
  have k3 := h3
  have lt3 : ∀ x ∈ p3, x.block < W.heap.size := by obtain ⟨m, hm⟩ := k3; exact DataW.trod_lt m _ _ _ hm
  obtain ⟨na0, nb0, nd0, nca0, ncb0, ncd0, nt0, nms0, nps0, ncs0, nfs0, rfl, ⟨hj1_0, hj2_0, hj3_0, hj4_0, hj5_0⟩, hra0, hrb0, hrc0⟩ := Nt.open_net (hval 0 26 v0 rfl rfl) h0
  obtain ⟨n1, rfl, _, _, wf1⟩ := open_int Tryz.underlying3 (hval 1 3 v1 rfl rfl) h1
  obtain ⟨n2, rfl, _, _, wf2⟩ := open_int Tryz.underlying3 (hval 2 3 v2 rfl rfl) h2
  obtain ⟨a3, len3, cap3, rfl⟩ := okWide_slice Tryz.underlying27 (hval 3 27 v3 rfl rfl)
  obtain ⟨bs3, hlen3, hmx3, hrd3⟩ := Op.open_bytes h3
  subst hlen3
  clear hA0 hval0
  refine (walk na0 nb0 nd0 nca0 ncb0 ncd0 nt0 nms0 nps0 ncs0 nfs0 hj1_0 hj2_0 hj3_0 hj4_0 hj5_0 n1 wf1 n2 wf2 a3 bs3 cap3 hmx3 W hra0 hrb0 hrc0 hrd3).mono fun e W' ⟨he, bel⟩ => ?_
  subst he
  exact ⟨_, rfl, _, _, _, [], _, [], hW', trodAll_mk1 (shut_bool Tryz.underlying4 _), (trodAll_cons_mk (Below.trod laidOut (by kernel_rfl) (of_decide_eq_true (by kernel_rfl)) k0 bel lt0) (trodAll_cons_mk (Below.trod laidOut (by kernel_rfl) (of_decide_eq_true (by kernel_rfl)) k1 bel lt1) (trodAll_cons_mk (Below.trod laidOut (by kernel_rfl) (of_decide_eq_true (by kernel_rfl)) k2 bel lt2) (trodAll_cons_mk (Below.trod laidOut (by kernel_rfl) (of_decide_eq_true (by kernel_rfl)) k3 bel lt3) trodAll_mk0)))), rfl, bel.frame _, fun h => by cases h⟩

set_option maxRecDepth 1000000
theorem bt {a b : Bool} (ha : a = true) (hb : b = true) : (a && b) = true := by rw [ha, hb]; rfl
theorem z0 : (Rows.fnExactInjectRow.wf (OpenSpec.ofChange Rows.fnExactInjectSpec)) = true := by kernel_rfl
theorem z1 : (laidOutB Tryz.prog) = true := by kernel_rfl
theorem z2 : (mapsRowed Tryz.prog) = true := by kernel_rfl
theorem z3 : (Tryz.f3.params.all (Tryz.prog.readableRec ·)) = true := by kernel_rfl
theorem z4 : (namedTie Tryz.prog Rows.fnExactInjectRow.named Rows.fnExactInjectSpec.vars) = true := by kernel_rfl
theorem z5 : (Rows.fnExactInjectRow.stops == []) = true := by kernel_rfl
theorem z6 : (Tryz.prog.stops == []) = true := by kernel_rfl
theorem z7 : (Rows.fnExactInjectRow.knobs == []) = true := by kernel_rfl
theorem z8 : (Tryz.prog.stopKnobs == []) = true := by kernel_rfl
theorem z9 : (Rows.fnExactInjectRow.inPlace == Tryz.prog.inPlace 3) = true := by kernel_rfl
theorem z10 : (Rows.fnExactInjectRow.unfollowed == Tryz.prog.unfollowed 3) = true := by kernel_rfl
theorem z11 : (Rows.fnExactInjectRow.recurses == Tryz.prog.recurses 3) = true := by kernel_rfl
theorem z12 : (Rows.fnExactInjectRow.named == Tryz.prog.varsNamed 3) = true := by kernel_rfl
theorem z13 : (Rows.fnExactInjectRow.maps == (Tryz.f3.params.toList ++ Rows.fnExactInjectSpec.plain.varTypes Tryz.prog).any (Tryz.prog.mapsRec ·)) = true := by kernel_rfl
theorem z14 : (Rows.fnExactInjectRow.ifaces == (Tryz.f3.params.toList ++ Rows.fnExactInjectSpec.plain.varTypes Tryz.prog).any (Tryz.prog.ifacesRec ·)) = true := by kernel_rfl
theorem z15 : (Rows.fnExactInjectRow.mapsOut == Tryz.prog.mapsAmong Tryz.f3.resultTypes.toList) = true := by kernel_rfl
theorem z16 : (Rows.fnExactInjectRow.loops == (Tryz.f3.params.toList ++ Rows.fnExactInjectSpec.plain.varTypes Tryz.prog).any (Tryz.prog.loopsFrom ·)) = true := by kernel_rfl
theorem z17 : (Rows.fnExactInjectRow.wideKeys == (Tryz.f3.params.toList ++ Rows.fnExactInjectSpec.plain.varTypes Tryz.prog ++ Tryz.f3.resultTypes.toList).any (Tryz.prog.wideKeysFrom ·)) = true := by kernel_rfl
theorem z18 : (Rows.fnExactInjectSpec.vars.all (Tryz.prog.varReadable ·)) = true := by kernel_rfl
theorem z19 : (Tryz.f3.resultTypes.all (fun t => Tryz.prog.readableRec t && decide (t < Tryz.prog.types.size))) = true := by kernel_rfl
theorem z20 : (Rows.fnExactInjectRow.ifacesOut == Tryz.f3.resultTypes.toList.any (Tryz.prog.ifacesRec ·)) = true := by kernel_rfl
theorem z21 : (Rows.fnExactInjectRow.loopsOut == Tryz.f3.resultTypes.toList.any (Tryz.prog.loopsFrom ·)) = true := by kernel_rfl
theorem z22 : (Rows.fnExactInjectRow.plainKeys == Tryz.prog.plainKeys) = true := by kernel_rfl
theorem z23 : (Rows.fnExactInjectRow.shortTexts.isNone) = true := by kernel_rfl
theorem z24 : (Tryz.prog.stopsHeard) = true := by kernel_rfl
theorem z25 : (Tryz.prog.mayEnter) = true := by kernel_rfl
theorem z26 : (Rows.fnExactInjectRow.lifted == Tryz.prog.liftsFinal) = true := by kernel_rfl
theorem z27 : (Tryz.prog.make == some Rows.fnExactInjectRow.make) = true := by kernel_rfl
theorem z28 : (Rows.fnExactInjectRow.kinds == (if Rows.fnExactInjectRow.domain.isEmpty then [] else Tryz.f3.params.toList.map fun t => match Tryz.prog.underlying t with | some (.int k) => some k | _ => none)) = true := by kernel_rfl
theorem z29 : (Rows.fnExactInjectRow.pinned == Rows.fnExactInjectRow.pinnedBy) = true := by kernel_rfl
theorem z30 : (Rows.fnExactInjectRow.veiled == (Tryz.f3.params.toList ++ Rows.fnExactInjectSpec.plain.varTypes Tryz.prog ++ Tryz.f3.resultTypes.toList).any (Tryz.prog.veiledRec ·)) = true := by kernel_rfl
theorem z31 : (Rows.fnExactInjectRow.veiledFits Tryz.prog Tryz.f3.params.toList (Tryz.f3.params.toList ++ Rows.fnExactInjectSpec.plain.varTypes Tryz.prog ++ Tryz.f3.resultTypes.toList)) = true := by kernel_rfl
theorem closed : joinedFacts Tryz.prog 3 Tryz.f3 Rows.fnExactInjectSpec Rows.fnExactInjectRow = true := by
  unfold joinedFacts
  exact (bt (bt (bt (bt (bt (bt (bt (bt (bt (bt (bt (bt (bt (bt (bt (bt (bt (bt (bt (bt (bt (bt (bt (bt (bt (bt (bt (bt (bt (bt (bt z0 z1) z2) z3) z4) z5) z6) z7) z8) z9) z10) z11) z12) z13) z14) z15) z16) z17) z18) z19) z20) z21) z22) z23) z24) z25) z26) z27) z28) z29) z30) z31)
theorem called : Tryz.prog.funcNamed Rows.fnExactInjectRow.func = some 3 := by kernel_rfl
theorem inst : Tryz.f3.isInstance Tryz.prog Rows.fnExactInjectRow.origin Rows.fnExactInjectRow.targs := of_decide_eq_true (by kernel_rfl)
theorem wrap : Tryz.f3.isWrapper Tryz.prog Rows.fnExactInjectRow.wrapper Rows.fnExactInjectRow.mainSum := by unfold Func.isWrapper; first | (rw [if_pos (by decide +kernel)]; kernel_rfl) | (rw [if_neg (by decide +kernel)]; exact ⟨rfl, rfl⟩)
theorem over : Rows.fnExactInjectRow.holds Tryz.pinned (OpenSpec.ofChange Rows.fnExactInjectSpec) :=
  OpenClaim.holds_of_wide 3 Tryz.f3 rfl rfl rfl rfl rfl rfl rfl ⟨rfl, rfl, rfl, rfl, rfl⟩ rfl rfl rfl rfl rfl called Tryz.func3 closed inst wrap
    (fun os started H enc _ => lifted os started H enc)
end Go.Proofs.YthfcigfgpimimaaGreat.fnExactInject
namespace Go.Proofs.YthfcigfgpimimaaGreat
/-- At every net and any numbers the program's Inject answers as its model. -/
theorem fnExactInject_holds : Rows.FnExactInjectSaid := fnExactInject.over
end Go.Proofs.YthfcigfgpimimaaGreat
