/-
  Proved here: for every list of links and every address, laws.FnExactLinkFind returns true (the program's LinkFind answers as its model and leaves its argument alone) and leaves the list as it was. No condition.
-/
import Derived.Test.YtmelbilepfnmjamLnkG
import Derived.Test.YtmelbilepfnmjamLnkJ
namespace Go.Proofs.Ytmelbilepfnmjam.fnExactLinkFind
open Go.ChangeShapes Go.WideShapes Go.ChangeAt Go.RowKit
open W1 Lk Ln
set_option linter.unusedVariables false
theorem own : ownKnob Try.prog.godebug = none := by kernel_rfl
theorem laidOut : laidOutB Try.prog = true := by kernel_rfl

set_option maxHeartbeats 2000000 in
theorem walk (a : Option Addr) (ms : List R) (cap : Nat) (hm : ms.length ≤ maxLen) (k : Int) (wf : (Lit.int .i64 k).wf = true) (w : World) (hr : RM w a ms) :
    Calls Try.prog 5 #[.slice a ms.length cap, .int .i64 k] w fun e w' => e = .returned (.bool true) ∧ Below w.heap.size w w' := by
  have HR := hide hr
  clear hr
  go_enter Try.func5, Try.ntmps5
  go_wp2_with fail
  refine (szS a ms.length cap 1048576 _ (by omega) (by omega) hm).mono ?_
  rintro e w1 ⟨r, rfl, rfl, hr0 | ⟨hr0, hr1⟩⟩
  · go_wp2_with fail
    go_ret
    exact ⟨rfl, Below.refl _ _⟩
  have hnn : ¬ r < 0 := by omega
  have hml : ms.length ≤ 1048576 := by omega
  clear hr1 hm
  go_wp2_with fail
  refine (toS a ms cap _ hml (unhide HR)).mono ?_
  rintro e w2 ⟨g2, rfl, b2, hg2, hz2, u2⟩
  have U2 := hide u2
  clear u2
  go_wp2_with fail
  refine (specFind _ ms _ k _ hml (rm_of (unhide U2))).mono ?_
  rintro e w3 ⟨rfl, b3⟩
  have HB3 := hide (b2.trans (b3.mono b2.size))
  obtain ⟨fa, hfa⟩ : ∃ fa, lkA ms k = fa := ⟨_, rfl⟩
  have HFA := hide hfa
  obtain ⟨fe, hfe⟩ : ∃ fe, lkE ms k = fe := ⟨_, rfl⟩
  have HFE := hide hfe
  rw [hfa, hfe]
  clear hfa hfe U2 b2 b3 hg2 hz2
  obtain ⟨ad, hd, sy, ci, co, wl⟩ := fa
  unfold R.value
  have HX : Hid (Bx (w3.alloc (.cells #[.int .i64 ad, .int .i64 hd, .int .i64 sy, .int .i64 ci, .int .i64 co, .int .i64 wl] 32)) w3.heap.size ⟨ad, hd, sy, ci, co, wl⟩) := hide (by refine ⟨?_, ?_, ?_, ?_, ?_, ?_⟩ <;> simp [World.cell?_alloc_new])
  have HBA := hide ((unhide HB3).alloc (unhide HB3).size (.cells #[.int .i64 ad, .int .i64 hd, .int .i64 sy, .int .i64 ci, .int .i64 co, .int .i64 wl] 32))
  have hxl : w3.heap.size < (w3.alloc (.cells #[.int .i64 ad, .int .i64 hd, .int .i64 sy, .int .i64 ci, .int .i64 co, .int .i64 wl] 32)).heap.size := by simp
  go_wp2_with fail
  generalize hW : w3.alloc (.cells #[.int .i64 ad, .int .i64 hd, .int .i64 sy, .int .i64 ci, .int .i64 co, .int .i64 wl] 32) = W3 at *
  clear hW
  refine (toS a ms cap _ hml ((unhide HR).below (unhide HBA))).mono ?_
  rintro e w4 ⟨g4, rfl, b4, hg4, hz4, u4⟩
  have U4 := hide u4
  have B4 := (unhide HBA).trans (b4.mono (unhide HBA).size)
  have X4 := hide ((unhide HX).below b4)
  have hxl4 := Nat.lt_of_lt_of_le hxl b4.size
  clear u4 HBA HX
  go_wp2_with fail
  refine (implFind _ ms _ k wf _ hml (rm_of (unhide U4))).mono ?_
  rintro e w5 ⟨rfl, b5⟩
  have HB5 := hide (B4.trans (b5.mono B4.size))
  have V5 := hide ((rm_of (unhide U4)).below b5)
  have X5 := hide ((unhide X4).below b5)
  have hxl5 : w3.heap.size < w5.heap.size := Nat.lt_of_lt_of_le hxl4 b5.size
  rw [unhide HFA, unhide HFE]
  clear B4 b4 b5 X4 U4
  unfold R.value
  have HY : Hid (Bx (w5.alloc (.cells #[.int .i64 ad, .int .i64 hd, .int .i64 sy, .int .i64 ci, .int .i64 co, .int .i64 wl] 32)) w5.heap.size ⟨ad, hd, sy, ci, co, wl⟩) := hide (by refine ⟨?_, ?_, ?_, ?_, ?_, ?_⟩ <;> simp [World.cell?_alloc_new])
  have HX6 := hide ((unhide X5).below ((Below.refl _ _).alloc (Nat.le_refl _) (.cells #[.int .i64 ad, .int .i64 hd, .int .i64 sy, .int .i64 ci, .int .i64 co, .int .i64 wl] 32)))
  have V6 := hide ((unhide V5).below ((Below.refl _ _).alloc (Nat.le_refl _) (.cells #[.int .i64 ad, .int .i64 hd, .int .i64 sy, .int .i64 ci, .int .i64 co, .int .i64 wl] 32)))
  have HB6 := hide ((unhide HB5).alloc (unhide HB5).size (.cells #[.int .i64 ad, .int .i64 hd, .int .i64 sy, .int .i64 ci, .int .i64 co, .int .i64 wl] 32))
  obtain ⟨q0, q1, q2, q3, q4, q5⟩ := unhide X5
  dsimp only at q0 q1 q2 q3 q4 q5
  clear X5 V5 hxl4
  go_wp2_with fail
  generalize hW : w5.alloc (.cells #[.int .i64 ad, .int .i64 hd, .int .i64 sy, .int .i64 ci, .int .i64 co, .int .i64 wl] 32) = W5 at *
  clear hW
  refine (eqR ad hd sy ci co wl _).mono ?_
  rintro e w7 ⟨rfl, b7⟩
  have B7 := (unhide HB6).trans (b7.mono (unhide HB6).size)
  have V7 := hide ((unhide V6).below b7)
  clear q0 q1 q2 q3 q4 q5
  go_wp2_with fail
  refine (toS a ms cap _ hml ((unhide HR).below B7)).mono ?_
  rintro e w8 ⟨g8, rfl, b8, hg8, hz8, u8⟩
  have U8 := hide u8
  clear u8
  have B8 := B7.trans (b8.mono B7.size)
  have V8 := hide ((unhide V7).below b8)
  go_wp2_with fail
  refine (eqS _ _ ms _ _ _ hml (unhide V8) (rm_of (unhide U8))).mono ?_
  rintro e w9 ⟨rfl, b9⟩
  have HF := hide (B8.trans (b9.mono B8.size))
  go_wp2_with fail
  go_ret
  exact ⟨rfl, unhide HF⟩

set_option maxRecDepth 100000 in
theorem lifted (os : Os) (started : os.Started) (H : Type) (enc : TypeId × Value → H) :
    ReturnsInHanded {} Try.checked os 5 .any (Rows.fnExactLinkFindSpec.pre6 enc Try.prog Try.f5 Rows.fnExactLinkFindRow.domain false) (Rows.fnExactLinkFindSpec.post enc Try.prog Try.f5 false true false false) := by
  refine returnsInHanded_of_change (C := Try.checked) own started (by kernel_rfl) Try.func5
    (ChangeSpec.witness6 (enc := enc) (C := Try.checked) false ⟨#[], #[.slice none 0 0, .int .i64 0], []⟩ 8 (by kernel_rfl) (by kernel_rfl) (by kernel_rfl) (by kernel_rfl)) ?_
  intro W base args ds gs before hval0 hW hcnd _
  have hval : ∀ (j : Nat) t v, Try.f5.params[j]? = some t → args[j]? = some v → Value.okWide Try.prog W .any base t v := hval0
  have hW' := hW
  obtain ⟨p, q, hA0, hV, rfl, hfz, hnd⟩ := hW
  have hA : DataW.TrodAll enc Try.prog W 0 (fun _ => true) true Try.f5.params.toList args.toList ds p := hA0
  rw [Try.params5] at hA hval
  obtain ⟨v0, vs0, d0, ds0, p0, q0, hargs0, rfl, rfl, h0, r0⟩ := trodAll_cons hA
  obtain ⟨v1, vs1, d1, ds1, p1, q1, hargs1, rfl, rfl, h1, r1⟩ := trodAll_cons r0
  obtain ⟨rfl, rfl, rfl⟩ := trodAll_nil r1
  obtain rfl : args = #[v0, v1] := by cases args; simp_all
  obtain ⟨rfl, rfl⟩ := trodVars_none hV
  have k0 := h0
  have lt0 : ∀ x ∈ p0, x.block < W.heap.size := by obtain ⟨m, hm⟩ := k0; exact DataW.trod_lt m _ _ _ hm
  have k1 := h1
  have lt1 : ∀ x ∈ p1, x.block < W.heap.size := by obtain ⟨m, hm⟩ := k1; exact DataW.trod_lt m _ _ _ hm
  obtain ⟨a0, len0, cap0, rfl⟩ := okWide_slice Try.underlying22 (hval 0 22 v0 rfl rfl)
  obtain ⟨ms0, hlen0, hmx0, hrd0⟩ := Lk.open_list h0
  subst hlen0
  obtain ⟨n1, rfl, _, _, wf1⟩ := open_int Try.underlying3 (hval 1 3 v1 rfl rfl) h1
  clear hA0 hval0
  refine (walk a0 ms0 cap0 hmx0 n1 wf1 W hrd0).mono fun e W' ⟨he, bel⟩ => ?_
  subst he
  exact ⟨_, rfl, _, _, _, [], _, [], hW', trodAll_mk1 (shut_bool Try.underlying4 _), (trodAll_cons_mk (Below.trod laidOut (by kernel_rfl) (of_decide_eq_true (by kernel_rfl)) k0 bel lt0) (trodAll_cons_mk (Below.trod laidOut (by kernel_rfl) (of_decide_eq_true (by kernel_rfl)) k1 bel lt1) trodAll_mk0)), rfl, bel.frame _, fun h => by cases h⟩

theorem over : Rows.fnExactLinkFindRow.holds Try.pinned (OpenSpec.ofChange Rows.fnExactLinkFindSpec) :=
  OpenClaim.holds_of_wide 5 Try.f5 rfl rfl rfl rfl rfl rfl rfl ⟨rfl, rfl, rfl, rfl, rfl⟩ rfl rfl rfl rfl rfl (by kernel_rfl) Try.func5 (by kernel_rfl)
    (of_decide_eq_true (by kernel_rfl)) (by unfold Func.isWrapper; first | (rw [if_pos (by decide +kernel)]; kernel_rfl) | (rw [if_neg (by decide +kernel)]; exact ⟨rfl, rfl⟩))
    (fun os started H enc _ => lifted os started H enc)
end Go.Proofs.Ytmelbilepfnmjam.fnExactLinkFind
namespace Go.Proofs.Ytmelbilepfnmjam
/-- For every list of links and every address, laws.FnExactLinkFind returns true. -/
theorem fnExactLinkFind_holds : Rows.FnExactLinkFindSaid := fnExactLinkFind.over
end Go.Proofs.Ytmelbilepfnmjam
