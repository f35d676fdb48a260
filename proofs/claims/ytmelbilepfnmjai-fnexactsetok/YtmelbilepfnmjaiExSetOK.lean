/-
  Proved here: for every list of tuples, laws.FnExactSetOK returns true (the program's SetOK answers as its model and leaves its argument alone) and leaves the list as it was. No condition.
-/
import Derived.Test.YtmelbilepfnmjaiSetC
namespace Go.Proofs.Ytmelbilepfnmjai.fnExactSetOK
open Go.ChangeShapes Go.WideShapes Go.ChangeAt Go.RowKit
open W1 Tu St
set_option linter.unusedVariables false
theorem own : ownKnob Try.prog.godebug = none := by kernel_rfl
theorem laidOut : laidOutB Try.prog = true := by kernel_rfl

set_option maxHeartbeats 2000000 in
theorem walk (a : Option Addr) (ms : List R) (cap : Nat) (hm : ms.length ≤ maxLen) (w : World) (hr : RM w a ms) :
    Calls Try.prog 7 #[.slice a ms.length cap] w fun e w' => e = .returned (.bool true) ∧ Below w.heap.size w w' := by
  have HR := hide hr
  clear hr
  go_enter Try.func7, Try.ntmps7
  go_wp2_with fail
  refine (szS a ms.length cap 1048576 _ (by omega) (by omega) hm).mono ?_
  rintro e w1 ⟨r, rfl, rfl, hr0 | ⟨hr0, hr1⟩⟩
  · go_wp2_with fail
    go_ret
    exact ⟨rfl, Below.refl _ _⟩
  have hnn : ¬ r < 0 := by omega
  have hml : ms.length ≤ 1048576 := by omega
  clear hr1 hm
  go_wp2_with fail
  refine (toS a ms cap _ hml (unhide HR)).mono ?_
  rintro e w2 ⟨g2, rfl, b2, hg2, hz2, u2⟩
  have U2 := hide u2
  clear u2
  go_wp2_with fail
  refine (specOK _ ms _ _ hml (rm_of (unhide U2))).mono ?_
  rintro e w3 ⟨rfl, b3⟩
  have B3 := b2.trans (b3.mono b2.size)
  have R3 := hide ((unhide HR).below B3)
  clear U2
  go_wp2_with fail
  refine (toS a ms cap _ hml (unhide R3)).mono ?_
  rintro e w4 ⟨g4, rfl, b4, hg4, hz4, u4⟩
  have U4 := hide u4
  clear u4 R3
  have B4 := B3.trans (b4.mono B3.size)
  go_wp2_with fail
  refine (implOK _ ms _ _ hml (rm_of (unhide U4))).mono ?_
  rintro e w5 ⟨rfl, b5⟩
  have B5 := B4.trans (b5.mono B4.size)
  have R5 := hide ((unhide HR).below B5)
  have U5 := hide ((rm_of (unhide U4)).below b5)
  clear U4
  generalize setB ms = pk
  cases pk
  all_goals
    go_wp2_with fail
    refine (toS a ms cap _ hml (unhide R5)).mono ?_
    rintro e w6 ⟨g6, rfl, b6, hg6, hz6, u6⟩
    have U6 := hide u6
    clear u6
    have B6 := B5.trans (b6.mono B5.size)
    have V6 := hide ((unhide U5).below b6)
    go_wp2_with fail
    refine (eqS _ _ ms _ _ _ hml (unhide V6) (rm_of (unhide U6))).mono ?_
    rintro e w7 ⟨rfl, b7⟩
    have HF := hide (B6.trans (b7.mono B6.size))
    go_wp2_with fail
    go_ret
    exact ⟨rfl, unhide HF⟩

set_option maxRecDepth 100000 in
theorem lifted (os : Os) (started : os.Started) (H : Type) (enc : TypeId × Value → H) :
    ReturnsInHanded {} Try.checked os 7 .any (Rows.fnExactSetOKSpec.pre6 enc Try.prog Try.f7 Rows.fnExactSetOKRow.domain false) (Rows.fnExactSetOKSpec.post enc Try.prog Try.f7 false true false false) := by
  refine returnsInHanded_of_change (C := Try.checked) own started (by kernel_rfl) Try.func7
    (ChangeSpec.witness6 (enc := enc) (C := Try.checked) false ⟨#[], #[.slice none 0 0], []⟩ 8 (by kernel_rfl) (by kernel_rfl) (by kernel_rfl) (by kernel_rfl)) ?_
  intro W base args ds gs before hval0 hW hcnd _
  have hval : ∀ (j : Nat) t v, Try.f7.params[j]? = some t → args[j]? = some v → Value.okWide Try.prog W .any base t v := hval0
  have hW' := hW
  obtain ⟨p, q, hA0, hV, rfl, hfz, hnd⟩ := hW
  have hA : DataW.TrodAll enc Try.prog W 0 (fun _ => true) true Try.f7.params.toList args.toList ds p := hA0
  rw [Try.params7] at hA hval
  obtain ⟨v0, vs0, d0, ds0, p0, q0, hargs0, rfl, rfl, h0, r0⟩ := trodAll_cons hA
  obtain ⟨rfl, rfl, rfl⟩ := trodAll_nil r0
  obtain rfl : args = #[v0] := by cases args; simp_all
  obtain ⟨rfl, rfl⟩ := trodVars_none hV
  have k0 := h0
  have lt0 : ∀ x ∈ p0, x.block < W.heap.size := by obtain ⟨m, hm⟩ := k0; exact DataW.trod_lt m _ _ _ hm
  obtain ⟨a0, len0, cap0, rfl⟩ := okWide_slice Try.underlying28 (hval 0 28 v0 rfl rfl)
  obtain ⟨ms0, hlen0, hmx0, hrd0⟩ := Tu.open_list h0
  subst hlen0
  clear hA0 hval0
  refine (walk a0 ms0 cap0 hmx0 W hrd0).mono fun e W' ⟨he, bel⟩ => ?_
  subst he
  exact ⟨_, rfl, _, _, _, [], _, [], hW', trodAll_mk1 (shut_bool Try.underlying4 _), (trodAll_cons_mk (Below.trod laidOut (by kernel_rfl) (of_decide_eq_true (by kernel_rfl)) k0 bel lt0) trodAll_mk0), rfl, bel.frame _, fun h => by cases h⟩

theorem over : Rows.fnExactSetOKRow.holds Try.pinned (OpenSpec.ofChange Rows.fnExactSetOKSpec) :=
  OpenClaim.holds_of_wide 7 Try.f7 rfl rfl rfl rfl rfl rfl rfl ⟨rfl, rfl, rfl, rfl, rfl⟩ rfl rfl rfl rfl rfl (by kernel_rfl) Try.func7 (by kernel_rfl)
    (of_decide_eq_true (by kernel_rfl)) (by unfold Func.isWrapper; first | (rw [if_pos (by decide +kernel)]; kernel_rfl) | (rw [if_neg (by decide +kernel)]; exact ⟨rfl, rfl⟩))
    (fun os started H enc _ => lifted os started H enc)
end Go.Proofs.Ytmelbilepfnmjai.fnExactSetOK
namespace Go.Proofs.Ytmelbilepfnmjai
/-- For every list of tuples the program's SetOK answers as its model. -/
theorem fnExactSetOK_holds : Rows.FnExactSetOKSaid := fnExactSetOK.over
end Go.Proofs.Ytmelbilepfnmjai
