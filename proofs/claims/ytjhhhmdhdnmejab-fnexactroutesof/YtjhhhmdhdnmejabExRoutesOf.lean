/-
  Proved here: for every argument, laws.FnExactRoutesOf returns true (the program's RoutesOf answers as its model, leaves its arguments alone, and answers in memory of its own), and leaves what came in as it was. No condition. (The walk is written by mklaw.py.)
-/
import Derived.Test.YtjhhhmdhdnmejabHepH
import Derived.Test.YtjhhhmdhdnmejabSpcC
namespace Go.Proofs.Ytjhhhmdhdnmejab.fnExactRoutesOf
open Go.ChangeShapes Go.WideShapes Go.ChangeAt Go.RowKit
open W1 Wd
set_option linter.unusedVariables false
theorem own : ownKnob Try.prog.godebug = none := by kernel_rfl
theorem laidOut : laidOutB Try.prog = true := by kernel_rfl
theorem sH1 {w : World} {b : Nat} {x y : Int} {v : Value} (h : Bx3 w b x y v) : Bx3 w b x y v ∧ w.cell? ⟨b, 0, none⟩ = some (.int .i64 x) ∧ w.cell? ⟨b, 1, none⟩ = some (.int .i64 y) ∧ w.cell? ⟨b, 2, none⟩ = some v := ⟨h, h⟩
theorem sH2 {w : World} {b b' : Nat} {x y x' y' : Int} {v v' : Value} (h : Bx3 w b x y v) (h' : Bx3 w b' x' y' v') :
    (Bx3 w b x y v ∧ Bx3 w b' x' y' v') ∧ w.cell? ⟨b, 0, none⟩ = some (.int .i64 x) ∧ w.cell? ⟨b, 1, none⟩ = some (.int .i64 y) ∧ w.cell? ⟨b, 2, none⟩ = some v ∧ w.cell? ⟨b', 0, none⟩ = some (.int .i64 x') ∧ w.cell? ⟨b', 1, none⟩ = some (.int .i64 y') ∧ w.cell? ⟨b', 2, none⟩ = some v' := ⟨⟨h, h'⟩, h.1, h.2.1, h.2.2, h'.1, h'.2.1, h'.2.2⟩

set_option maxRecDepth 100000 in
set_option maxHeartbeats 8000000 in
theorem walk (a : Option Addr) (ms : List Tu.R) (cap : Nat) (hm_ms : ms.length ≤ maxLen) (f : Int) (wf_f : (Lit.int .i64 f).wf = true) (w : World) (hr_ms : Tu.RM w a ms) :
    Calls Try.prog 5 #[.slice a ms.length cap, .int .i64 f] w fun e w' => e = .returned (.bool true) ∧ Below w.heap.size w w' := by
  have HR_ms := hide hr_ms
  clear hr_ms
  go_enter Try.func5, Try.ntmps5
  have B1 : Below w.heap.size w w := Below.refl _ _
  go_wp2_with fail
  refine (Tu.szS a ms.length cap 1048576 _ (by omega) (by omega) hm_ms).mono ?_
  rintro e w2 ⟨r2, rfl, hw2, hr01⟩
  have b2 : Below w.heap.size w w2 := by rw [hw2]; exact Below.refl _ _
  clear hw2
  have B2 : Below w.heap.size w w2 := b2
  have sz2 : w.heap.size ≤ w2.heap.size := b2.size
  rcases hr01 with hr0 | ⟨hr0, hr1⟩
  · go_wp2_with fail
    go_ret
    exact ⟨rfl, B2⟩
  have hnn2 : ¬ r2 < 0 := by omega
  have hml_ms : ms.length ≤ 1048576 := by omega
  have hrl2 : r2 ≤ 1048576 := by omega
  clear hr1 hm_ms
  have hol : (rouA ms f).length ≤ 1048576 := (Nat.le_trans (rouA_len ms f) (by omega))
  go_wp2_with fail
  refine (Tu.toS a ms cap _ hml_ms ((unhide HR_ms).below B2)).mono ?_
  rintro e w3 ⟨g3, rfl, b3, hg3, hz3, u3⟩
  have B3 := B2.trans (b3.mono B2.size)
  have sz3 : w2.heap.size ≤ w3.heap.size := b3.size
  have Sa3 : Hid (Tu.Lst w3 (some ⟨g3, 0, none⟩) ms w2.heap.size w3.heap.size) := hide (.inr ⟨g3, rfl, hg3, hz3, hz3, u3⟩)
  clear u3
  go_wp2_with fail
  refine (specRoutes _ ms _ f _ hml_ms (unhide Sa3).rm).mono ?_
  rintro e w4 ⟨v4, rfl, b4, l4⟩
  have B4 := B3.trans (b4.mono B3.size)
  have sz4 : w3.heap.size ≤ w4.heap.size := b4.size
  have Sa4 := hide ((unhide Sa3).below b4)
  clear Sa3
  obtain ⟨a4, c4, rfl, L4⟩ := l4
  have W4 := hide L4
  clear L4
  obtain ⟨cd, hcd⟩ : ∃ cd, codeG ms f = cd := ⟨_, rfl⟩
  have HC := hide hcd
  rw [hcd]
  clear hcd
  have hne : (cd != cd) = false := by simp
  clear Sa4
  go_wp2_with fail
  refine (Tu.toS a ms cap _ hml_ms ((unhide HR_ms).below B4)).mono ?_
  rintro e w5 ⟨g5, rfl, b5, hg5, hz5, u5⟩
  have B5 := B4.trans (b5.mono B4.size)
  have sz5 : w4.heap.size ≤ w5.heap.size := b5.size
  have W5 := hide ((unhide W4).below b5)
  clear W4
  have Xa5 : Hid (Tu.Lst w5 (some ⟨g5, 0, none⟩) ms w4.heap.size w5.heap.size) := hide (.inr ⟨g5, rfl, hg5, hz5, hz5, u5⟩)
  clear u5
  go_wp2_with fail
  refine (implRoutes _ ms _ f _ hml_ms (unhide Xa5).rm).mono ?_
  rintro e w6 ⟨v6, rfl, b6, l6⟩
  have B6 := B5.trans (b6.mono B5.size)
  have sz6 : w5.heap.size ≤ w6.heap.size := b6.size
  have W6 := hide ((unhide W5).below b6)
  have Xa6 := hide ((unhide Xa5).below b6)
  clear W5 Xa5
  obtain ⟨a6, c6, rfl, L6⟩ := l6
  have G6 := hide L6
  clear L6
  rw [unhide HC]
  go_wp2_with fail
  refine (Ro.eqS _ _ (rouA ms f) _ _ _ hol (unhide G6).rm (unhide W6).rm).mono ?_
  rintro e w7 ⟨rfl, b7⟩
  have B7 := B6.trans (b7.mono B6.size)
  have sz7 : w6.heap.size ≤ w7.heap.size := b7.size
  have W7 := hide ((unhide W6).below b7)
  have Xa7 := hide ((unhide Xa6).below b7)
  have G7 := hide ((unhide G6).below b7)
  clear W6 Xa6 G6
  go_wp2_with fail
  refine (Tu.toS a ms cap _ hml_ms ((unhide HR_ms).below B7)).mono ?_
  rintro e w8 ⟨g8, rfl, b8, hg8, hz8, u8⟩
  have B8 := B7.trans (b8.mono B7.size)
  have sz8 : w7.heap.size ≤ w8.heap.size := b8.size
  have W8 := hide ((unhide W7).below b8)
  have Xa8 := hide ((unhide Xa7).below b8)
  have G8 := hide ((unhide G7).below b8)
  clear W7 Xa7 G7
  have Y8 : Hid (Tu.Lst w8 (some ⟨g8, 0, none⟩) ms w7.heap.size w8.heap.size) := hide (.inr ⟨g8, rfl, hg8, hz8, hz8, u8⟩)
  clear u8
  go_wp2_with fail
  refine (Tu.eqS _ _ ms _ _ _ hml_ms (unhide Xa8).rm (unhide Y8).rm).mono ?_
  rintro e w9 ⟨rfl, b9⟩
  have B9 := B8.trans (b9.mono B8.size)
  have sz9 : w8.heap.size ≤ w9.heap.size := b9.size
  have W9 := hide ((unhide W8).below b9)
  have Xa9 := hide ((unhide Xa8).below b9)
  have G9 := hide ((unhide G8).below b9)
  have Y9 := hide ((unhide Y8).below b9)
  clear W8 Xa8 G8 Y8
  clear Y9
  go_wp2_with fail
  refine (Tu.markF _ _ _ _ (1) ms _ (by omega) (by omega) hml_ms (unhide Xa9)).mono ?_
  rintro e w10 ⟨rfl, sz10, b10, f10, k10⟩
  have sB10 := B9.size
  have B10 := B9.trans (b10.mono (by omega))
  have W10 := hide ((unhide W9).but (p := fun k => k < w4.heap.size ∨ w5.heap.size ≤ k) sz10 (fun k hk h => k10 k hk h) (fun k h1 h2 => by omega))
  have G10 := hide ((unhide G9).but (p := fun k => k < w4.heap.size ∨ w5.heap.size ≤ k) sz10 (fun k hk h => k10 k hk h) (fun k h1 h2 => by omega))
  clear W9 Xa9 G9 f10 k10 b10
  have hpk : ¬ (1 + 3 * (ms.length : Int) < 0) := by omega
  go_wp2_with fail
  refine (Ro.eqS _ _ (rouA ms f) _ _ _ hol (unhide G10).rm (unhide W10).rm).mono ?_
  rintro e w11 ⟨rfl, b11⟩
  have B11 := B10.trans (b11.mono B10.size)
  have sz11 : w10.heap.size ≤ w11.heap.size := b11.size
  have W11 := hide ((unhide W10).below b11)
  have G11 := hide ((unhide G10).below b11)
  clear W10 G10
  go_wp2_with fail
  refine (Ro.markF _ _ _ _ 1 (rouA ms f) _ (by omega) (by omega) hol (unhide G11)).mono ?_
  rintro e w12 ⟨rfl, sz12, b12, f12, k12⟩
  have sB12 := B11.size
  have B12 := B11.trans (b12.mono (by omega))
  have W12 := hide ((unhide W11).but (p := fun k => k < w5.heap.size ∨ w6.heap.size ≤ k) sz12 (fun k hk h => k12 k hk h) (fun k h1 h2 => by omega))
  have M12 := hide f12
  clear W11 G11 f12 k12 b12
  have hpm : ¬ (1 + 4 * ((rouA ms f).length : Int) < 0) := by omega
  go_wp2_with fail
  refine (Ro.heldF _ _ (rouA ms f).length _ _ 1 _ (by omega) (by omega) hol (unhide M12)).mono ?_
  rintro e wh ⟨rfl, hwh⟩
  rw [hwh]
  clear hwh wh
  go_wp2_with fail
  refine (Tu.toS a ms cap _ hml_ms ((unhide HR_ms).below B12)).mono ?_
  rintro e w13 ⟨g13, rfl, b13, hg13, hz13, u13⟩
  have B13 := B12.trans (b13.mono B12.size)
  have sz13 : w12.heap.size ≤ w13.heap.size := b13.size
  have W13 := hide ((unhide W12).below b13)
  have M13 := hide ((unhide M12).below b13)
  clear W12 M12
  have Za13 : Hid (Tu.Lst w13 (some ⟨g13, 0, none⟩) ms w12.heap.size w13.heap.size) := hide (.inr ⟨g13, rfl, hg13, hz13, hz13, u13⟩)
  clear u13
  go_wp2_with fail
  refine (implRoutes _ ms _ f _ hml_ms (unhide Za13).rm).mono ?_
  rintro e w14 ⟨v14, rfl, b14, l14⟩
  have B14 := B13.trans (b14.mono B13.size)
  have sz14 : w13.heap.size ≤ w14.heap.size := b14.size
  have W14 := hide ((unhide W13).below b14)
  have M14 := hide ((unhide M13).below b14)
  have Za14 := hide ((unhide Za13).below b14)
  clear W13 M13 Za13
  obtain ⟨a14, c14, rfl, L14⟩ := l14
  have H14 := hide L14
  clear L14
  rw [unhide HC]
  go_wp2_with fail
  refine (Ro.eqS _ _ (rouA ms f) _ _ _ hol (unhide H14).rm (unhide W14).rm).mono ?_
  rintro e w15 ⟨rfl, b15⟩
  have B15 := B14.trans (b15.mono B14.size)
  have sz15 : w14.heap.size ≤ w15.heap.size := b15.size
  have W15 := hide ((unhide W14).below b15)
  have M15 := hide ((unhide M14).below b15)
  have Za15 := hide ((unhide Za14).below b15)
  have H15 := hide ((unhide H14).below b15)
  clear W14 M14 Za14 H14
  go_wp2_with fail
  refine (Ro.heldF _ _ (rouA ms f).length _ _ 1 _ (by omega) (by omega) hol (unhide M15)).mono ?_
  rintro e wh ⟨rfl, hwh⟩
  rw [hwh]
  clear hwh wh
  have HF := hide B15
  go_wp2_with fail
  go_ret
  exact ⟨rfl, unhide HF⟩

set_option maxRecDepth 100000 in
theorem lifted (os : Os) (started : os.Started) (H : Type) (enc : TypeId × Value → H) :
    ReturnsInHanded {} Try.checked os 5 .any (Rows.fnExactRoutesOfSpec.pre6 enc Try.prog Try.f5 Rows.fnExactRoutesOfRow.domain false) (Rows.fnExactRoutesOfSpec.post enc Try.prog Try.f5 false true false false) := by
  refine returnsInHanded_of_change (C := Try.checked) own started (by kernel_rfl) Try.func5
    (ChangeSpec.witness6 (enc := enc) (C := Try.checked) false ⟨#[], #[.slice none 0 0, .int .i64 0], []⟩ 8 (by kernel_rfl) (by kernel_rfl) (by kernel_rfl) (by kernel_rfl)) ?_
  intro W base args ds gs before hval0 hW hcnd _
  have hval : ∀ (j : Nat) t v, Try.f5.params[j]? = some t → args[j]? = some v → Value.okWide Try.prog W .any base t v := hval0
  have hW' := hW
  obtain ⟨p, q, hA0, hV, rfl, hfz, hnd⟩ := hW
  have hA : DataW.TrodAll enc Try.prog W 0 (fun _ => true) true Try.f5.params.toList args.toList ds p := hA0
  rw [Try.params5] at hA hval
  obtain ⟨v0, vs0, d0, ds0, p0, q0, hargs0, rfl, rfl, h0, r0⟩ := trodAll_cons hA
  obtain ⟨v1, vs1, d1, ds1, p1, q1, hargs1, rfl, rfl, h1, r1⟩ := trodAll_cons r0
  obtain ⟨rfl, rfl, rfl⟩ := trodAll_nil r1
  obtain rfl : args = #[v0, v1] := by cases args; simp_all
  obtain ⟨rfl, rfl⟩ := trodVars_none hV
  have k0 := h0
  have lt0 : ∀ x ∈ p0, x.block < W.heap.size := by obtain ⟨m, hm⟩ := k0; exact DataW.trod_lt m _ _ _ hm
  have k1 := h1
  have lt1 : ∀ x ∈ p1, x.block < W.heap.size := by obtain ⟨m, hm⟩ := k1; exact DataW.trod_lt m _ _ _ hm
  obtain ⟨a0, len0, cap0, rfl⟩ := okWide_slice Try.underlying24 (hval 0 24 v0 rfl rfl)
  obtain ⟨ms0, hlen0, hmx0, hrd0⟩ := Tu.open_list h0
  subst hlen0
  obtain ⟨n1, rfl, _, _, wf1⟩ := open_int Try.underlying3 (hval 1 3 v1 rfl rfl) h1
  clear hA0 hval0
  refine (walk a0 ms0 cap0 hmx0 n1 wf1 W hrd0).mono fun e W' ⟨he, bel⟩ => ?_
  subst he
  exact ⟨_, rfl, _, _, _, [], _, [], hW', trodAll_mk1 (shut_bool Try.underlying4 _), (trodAll_cons_mk (Below.trod laidOut (by kernel_rfl) (of_decide_eq_true (by kernel_rfl)) k0 bel lt0) (trodAll_cons_mk (Below.trod laidOut (by kernel_rfl) (of_decide_eq_true (by kernel_rfl)) k1 bel lt1) trodAll_mk0)), rfl, bel.frame _, fun h => by cases h⟩

theorem over : Rows.fnExactRoutesOfRow.holds Try.pinned (OpenSpec.ofChange Rows.fnExactRoutesOfSpec) :=
  OpenClaim.holds_of_wide 5 Try.f5 rfl rfl rfl rfl rfl rfl rfl ⟨rfl, rfl, rfl, rfl, rfl⟩ rfl rfl rfl rfl rfl (by kernel_rfl) Try.func5 (by kernel_rfl)
    (of_decide_eq_true (by kernel_rfl)) (by unfold Func.isWrapper; first | (rw [if_pos (by decide +kernel)]; kernel_rfl) | (rw [if_neg (by decide +kernel)]; exact ⟨rfl, rfl⟩))
    (fun os started H enc _ => lifted os started H enc)
end Go.Proofs.Ytjhhhmdhdnmejab.fnExactRoutesOf
namespace Go.Proofs.Ytjhhhmdhdnmejab
/-- At every argument the program's RoutesOf answers as its model. -/
theorem fnExactRoutesOf_holds : Rows.FnExactRoutesOfSaid := fnExactRoutesOf.over
end Go.Proofs.Ytjhhhmdhdnmejab
