/-
  Proved here: for every message, laws.FnExactMessageOK returns true (the program's MessageOK answers as its model at every message) and leaves the message as it was. No condition.
-/
import Derived.Test.YtpknahhdapmcoagWire1
import Derived.Test.YtpknahhdapmcoagOpenMsg
namespace Go.Proofs.Ytpknahhdapmcoag.fnExactMessageOK
open Go.ChangeShapes Go.WideShapes Go.ChangeAt Go.RowKit
open W1
set_option linter.unusedVariables false

theorem own : ownKnob Try.prog.godebug = none := by kernel_rfl
theorem laidOut : laidOutB Try.prog = true := by kernel_rfl

set_option maxHeartbeats 1000000 in
theorem walk (ty og sq hl hp : Int) (body : ByteArray) (hb : body.size ≤ maxLen) (w : World) :
    Calls Try.prog 4 #[.agg #[.int .i64 ty, .int .i64 og, .int .i64 sq, .int .i64 hl, .int .i64 hp, .string body]] w fun e w' => e = .returned (.bool true) ∧ Below w.heap.size w w' := by
  have hm := hb
  unfold maxLen at hm
  go_enter Try.func4, Try.ntmps4
  go_wp2_with fail
  refine (szMessage ty og sq hl hp body 1048576 (by omega) (by omega) hb _).mono ?_
  rintro e w1 ⟨rfl, b1⟩
  obtain ⟨c1, f1⟩ := bcell b1
  by_cases hneg : (1048576 : Int) - body.size < 0
  · have hleft : left 1048576 body.size = -1 := by unfold left; omega
    rw [hleft]; clear hleft
    go_wp2
    go_ret
    exact ⟨rfl, ((Below.refl _ _).alloc (Nat.le_refl _) _).trans (b1.mono (by simp))⟩
  · have hleft : left 1048576 body.size = 1048576 - body.size := by unfold left; omega
    rw [hleft]; clear hleft
    go_wp2_with fail
    refine (toMessage ty og sq hl hp body _).mono ?_
    rintro e w2 ⟨rfl, b2⟩
    have B2 := b1.trans (b2.mono b1.size)
    clear c1 f1
    obtain ⟨c2, f2⟩ := bcell B2
    go_wp2_with fail
    refine (specOK ty og sq hl hp body _).mono ?_
    rintro e w3 ⟨rfl, b3⟩
    have B3 := B2.trans (b3.mono B2.size)
    clear c2 f2
    obtain ⟨c3, f3⟩ := bcell B3
    go_wp2_with fail
    refine (toMessage ty og sq hl hp body _).mono ?_
    rintro e w4 ⟨rfl, b4⟩
    have B4 := B3.trans (b4.mono B3.size)
    clear c3 f3
    obtain ⟨c4, f4⟩ := bcell B4
    go_wp2_with fail
    refine (implOK ty og sq hl hp body _).mono ?_
    rintro e w5 ⟨rfl, b5⟩
    have hfin : Below w.heap.size w w5 := ((Below.refl _ _).alloc (Nat.le_refl _) _).trans ((B4.trans (b5.mono B4.size)).mono (by simp))
    clear c4 f4
    cases hk : okB ty og sq hl hp body
    all_goals
      go_wp2
      go_ret
      exact ⟨rfl, hfin⟩

set_option maxRecDepth 100000 in
theorem lifted (os : Os) (started : os.Started) (H : Type) (enc : TypeId × Value → H) :
    ReturnsInHanded {} Try.checked os 4 .any (Rows.fnExactMessageOKSpec.pre6 enc Try.prog Try.f4 Rows.fnExactMessageOKRow.domain false) (Rows.fnExactMessageOKSpec.post enc Try.prog Try.f4 false true false false) := by
  refine returnsInHanded_of_change (C := Try.checked) own started (by kernel_rfl) Try.func4
    (ChangeSpec.witness6 (enc := enc) (C := Try.checked) false ⟨#[], #[.agg #[.int .i64 0, .int .i64 0, .int .i64 0, .int .i64 0, .int .i64 0, .string ByteArray.empty]], []⟩ 8 (by kernel_rfl) (by kernel_rfl) (by kernel_rfl) (by kernel_rfl)) ?_
  intro W base args ds gs before hval0 hW hcnd _
  have hval : ∀ (j : Nat) t v, Try.f4.params[j]? = some t → args[j]? = some v → Value.okWide Try.prog W .any base t v := hval0
  have hW' := hW
  obtain ⟨p, q, hA0, hV, rfl, hfz, hnd⟩ := hW
  have hA : DataW.TrodAll enc Try.prog W 0 (fun _ => true) true Try.f4.params.toList args.toList ds p := hA0
  rw [Try.params4] at hA hval
  obtain ⟨v0, vs0, d0, ds0, p0, q0, hargs, rfl, rfl, h0, r0⟩ := trodAll_cons hA
  obtain ⟨rfl, rfl, rfl⟩ := trodAll_nil r0
  obtain rfl : args = #[v0] := by cases args; simp_all
  obtain ⟨rfl, rfl⟩ := trodVars_none hV
  have k0 := h0
  have lt0 : ∀ x ∈ p0, x.block < W.heap.size := by obtain ⟨m, hm⟩ := k0; exact DataW.trod_lt m _ _ _ hm
  obtain ⟨ty, og, sq, hl, hp, body, rfl, _, _, _, _, _, hb⟩ := OM.open_msg (hval 0 24 v0 rfl rfl) h0
  clear hA0 hval0
  refine (walk ty og sq hl hp body hb W).mono fun e W' ⟨he, bel⟩ => ?_
  subst he
  exact ⟨_, rfl, _, _, _, [], _, [], hW', trodAll_mk1 (shut_bool Try.underlying4 _), (trodAll_cons_mk (Below.trod laidOut (by kernel_rfl) (of_decide_eq_true (by kernel_rfl)) k0 bel lt0) trodAll_mk0), rfl, bel.frame _, fun h => by cases h⟩

theorem over : Rows.fnExactMessageOKRow.holds Try.pinned (OpenSpec.ofChange Rows.fnExactMessageOKSpec) :=
  OpenClaim.holds_of_wide 4 Try.f4 rfl rfl rfl rfl rfl rfl rfl ⟨rfl, rfl, rfl, rfl, rfl⟩ rfl rfl rfl rfl rfl (by kernel_rfl) Try.func4 (by kernel_rfl)
    (of_decide_eq_true (by kernel_rfl)) (by unfold Func.isWrapper; first | (rw [if_pos (by decide +kernel)]; kernel_rfl) | (rw [if_neg (by decide +kernel)]; exact ⟨rfl, rfl⟩))
    (fun os started H enc _ => lifted os started H enc)
end Go.Proofs.Ytpknahhdapmcoag.fnExactMessageOK
namespace Go.Proofs.Ytpknahhdapmcoag
/-- For every message the program's MessageOK answers as its model. -/
theorem fnExactMessageOK_holds : Rows.FnExactMessageOKSaid := fnExactMessageOK.over
end Go.Proofs.Ytpknahhdapmcoag
