/-
  Proved here: for every argument, laws.FnExactDupKey returns true (the program's DupKey answers as its model), and leaves what came in as it was. No condition.
-/
import Derived.Test.YtlcppgnnlgigmabDupS
import Derived.Test.YtlcppgnnlgigmabOpenMsg
namespace Go.Proofs.Ytlcppgnnlgigmab.fnExactDupKey
open Go.ChangeShapes Go.WideShapes Go.ChangeAt Go.RowKit
open W1 Tu St Du
set_option linter.unusedVariables false
theorem own : ownKnob Try.prog.godebug = none := by kernel_rfl
theorem laidOut : laidOutB Try.prog = true := by kernel_rfl
set_option maxHeartbeats 1000000 in
theorem walk (og : Int) (wf_og : (Lit.int .i64 og).wf = true) (sq : Int) (wf_sq : (Lit.int .i64 sq).wf = true) (w : World) :
    Calls Try.prog 3 #[.int .i64 og, .int .i64 sq] w fun e w' => e = .returned (.bool true) ∧ Below w.heap.size w w' := by
  obtain ⟨v, hv⟩ : ∃ v, (if askB og sq = true then keyD og sq else 0) = v := ⟨_, rfl⟩
  obtain ⟨c, hc⟩ : ∃ c : Int, (if askB og sq = true then (0 : Int) else 4) = c := ⟨_, rfl⟩
  have HV := hide hv
  have HC := hide hc
  clear hv hc
  have hnv : (v != v) = false := by simp
  have hnc : (c != c) = false := by simp
  go_enter Try.func3, Try.ntmps3
  go_wp2_with fail
  refine (specKey og sq _).mono ?_
  rintro e w0 ⟨rfl, rfl⟩
  rw [unhide HV, unhide HC]
  go_wp2_with fail
  refine (implKey og sq _).mono ?_
  rintro e w1 ⟨rfl, b1⟩
  rw [unhide HV, unhide HC]
  have HB := hide b1
  clear b1
  go_wp2_with fail
  go_ret
  exact ⟨rfl, unhide HB⟩

set_option maxRecDepth 100000 in
theorem lifted (os : Os) (started : os.Started) (H : Type) (enc : TypeId × Value → H) :
    ReturnsInHanded {} Try.checked os 3 .any (Rows.fnExactDupKeySpec.pre6 enc Try.prog Try.f3 Rows.fnExactDupKeyRow.domain false) (Rows.fnExactDupKeySpec.post enc Try.prog Try.f3 false true false false) := by
  refine returnsInHanded_of_change (C := Try.checked) own started (by kernel_rfl) Try.func3
    (ChangeSpec.witness6 (enc := enc) (C := Try.checked) false ⟨#[], #[.int .i64 0, .int .i64 0], []⟩ 8 (by kernel_rfl) (by kernel_rfl) (by kernel_rfl) (by kernel_rfl)) ?_
  intro W base args ds gs before hval0 hW hcnd _
  have hval : ∀ (j : Nat) t v, Try.f3.params[j]? = some t → args[j]? = some v → Value.okWide Try.prog W .any base t v := hval0
  have hW' := hW
  obtain ⟨p, q, hA0, hV, rfl, hfz, hnd⟩ := hW
  have hA : DataW.TrodAll enc Try.prog W 0 (fun _ => true) true Try.f3.params.toList args.toList ds p := hA0
  rw [Try.params3] at hA hval
  obtain ⟨v0, vs0, d0, ds0, p0, q0, hargs0, rfl, rfl, h0, r0⟩ := trodAll_cons hA
  obtain ⟨v1, vs1, d1, ds1, p1, q1, hargs1, rfl, rfl, h1, r1⟩ := trodAll_cons r0
  obtain ⟨rfl, rfl, rfl⟩ := trodAll_nil r1
  obtain rfl : args = #[v0, v1] := by cases args; simp_all
  obtain ⟨rfl, rfl⟩ := trodVars_none hV
  have k0 := h0
  have lt0 : ∀ x ∈ p0, x.block < W.heap.size := by obtain ⟨m, hm⟩ := k0; exact DataW.trod_lt m _ _ _ hm
  have k1 := h1
  have lt1 : ∀ x ∈ p1, x.block < W.heap.size := by obtain ⟨m, hm⟩ := k1; exact DataW.trod_lt m _ _ _ hm
  obtain ⟨n0, rfl, _, _, wf0⟩ := open_int Try.underlying3 (hval 0 3 v0 rfl rfl) h0
  obtain ⟨n1, rfl, _, _, wf1⟩ := open_int Try.underlying3 (hval 1 3 v1 rfl rfl) h1
  clear hA0 hval0
  refine (walk n0 wf0 n1 wf1 W).mono fun e W' ⟨he, bel⟩ => ?_
  subst he
  exact ⟨_, rfl, _, _, _, [], _, [], hW', trodAll_mk1 (shut_bool Try.underlying4 _), (trodAll_cons_mk (Below.trod laidOut (by kernel_rfl) (of_decide_eq_true (by kernel_rfl)) k0 bel lt0) (trodAll_cons_mk (Below.trod laidOut (by kernel_rfl) (of_decide_eq_true (by kernel_rfl)) k1 bel lt1) trodAll_mk0)), rfl, bel.frame _, fun h => by cases h⟩

theorem over : Rows.fnExactDupKeyRow.holds Try.pinned (OpenSpec.ofChange Rows.fnExactDupKeySpec) :=
  OpenClaim.holds_of_wide 3 Try.f3 rfl rfl rfl rfl rfl rfl rfl ⟨rfl, rfl, rfl, rfl, rfl⟩ rfl rfl rfl rfl rfl (by kernel_rfl) Try.func3 (by kernel_rfl)
    (of_decide_eq_true (by kernel_rfl)) (by unfold Func.isWrapper; first | (rw [if_pos (by decide +kernel)]; kernel_rfl) | (rw [if_neg (by decide +kernel)]; exact ⟨rfl, rfl⟩))
    (fun os started H enc _ => lifted os started H enc)
end Go.Proofs.Ytlcppgnnlgigmab.fnExactDupKey
namespace Go.Proofs.Ytlcppgnnlgigmab
/-- At every argument the program's DupKey answers as its model. -/
theorem fnExactDupKey_holds : Rows.FnExactDupKeySaid := fnExactDupKey.over
end Go.Proofs.Ytlcppgnnlgigmab
