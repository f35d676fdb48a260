/-
  Proved here: for every argument, laws.FnExactDupSeen returns true (the program's DupSeen answers as its model, leaves its arguments alone, and answers in memory of its own), and leaves what came in as it was. No condition. (The walk is written by mklaw.py.)
-/
import Derived.Test.YtlcppgnnlgigmabDupS
namespace Go.Proofs.Ytlcppgnnlgigmab.fnExactDupSeen
open Go.ChangeShapes Go.WideShapes Go.ChangeAt Go.RowKit
open W1 Tu St Du
set_option linter.unusedVariables false
theorem own : ownKnob Try.prog.godebug = none := by kernel_rfl
theorem laidOut : laidOutB Try.prog = true := by kernel_rfl
theorem sH1 {w : World} {b : Nat} {x y : Int} {v : Value} (h : Bx3 w b x y v) : Bx3 w b x y v ∧ w.cell? ⟨b, 0, none⟩ = some (.int .i64 x) ∧ w.cell? ⟨b, 1, none⟩ = some (.int .i64 y) ∧ w.cell? ⟨b, 2, none⟩ = some v := ⟨h, h⟩
theorem sH2 {w : World} {b b' : Nat} {x y x' y' : Int} {v v' : Value} (h : Bx3 w b x y v) (h' : Bx3 w b' x' y' v') :
    (Bx3 w b x y v ∧ Bx3 w b' x' y' v') ∧ w.cell? ⟨b, 0, none⟩ = some (.int .i64 x) ∧ w.cell? ⟨b, 1, none⟩ = some (.int .i64 y) ∧ w.cell? ⟨b, 2, none⟩ = some v ∧ w.cell? ⟨b', 0, none⟩ = some (.int .i64 x') ∧ w.cell? ⟨b', 1, none⟩ = some (.int .i64 y') ∧ w.cell? ⟨b', 2, none⟩ = some v' := ⟨⟨h, h'⟩, h.1, h.2.1, h.2.2, h'.1, h'.2.1, h'.2.2⟩

set_option maxRecDepth 100000 in
set_option maxHeartbeats 8000000 in
theorem walk (a : Option Addr) (ms : List Tu.R) (cap : Nat) (hm_ms : ms.length ≤ maxLen) (og : Int) (wf_og : (Lit.int .i64 og).wf = true) (sq : Int) (wf_sq : (Lit.int .i64 sq).wf = true) (now : Int) (wf_now : (Lit.int .i64 now).wf = true) (w : World) (hr_ms : Tu.RM w a ms) :
    Calls Try.prog 4 #[.slice a ms.length cap, .int .i64 og, .int .i64 sq, .int .i64 now] w fun e w' => e = .returned (.bool true) ∧ Below w.heap.size w w' := by
  have HR_ms := hide hr_ms
  clear hr_ms
  go_enter Try.func4, Try.ntmps4
  have B1 : Below w.heap.size w w := Below.refl _ _
  go_wp2_with fail
  refine (Tu.szS a ms.length cap 1048576 _ (by omega) (by omega) hm_ms).mono ?_
  rintro e w2 ⟨r2, rfl, hw2, hr01⟩
  have b2 : Below w.heap.size w w2 := by rw [hw2]; exact Below.refl _ _
  clear hw2
  have B2 : Below w.heap.size w w2 := b2
  have sz2 : w.heap.size ≤ w2.heap.size := b2.size
  rcases hr01 with hr0 | ⟨hr0, hr1⟩
  · go_wp2_with fail
    go_ret
    exact ⟨rfl, B2⟩
  have hnn2 : ¬ r2 < 0 := by omega
  have hml_ms : ms.length ≤ 1048576 := by omega
  have hrl2 : r2 ≤ 1048576 := by omega
  clear hr1 hm_ms
  go_wp2_with fail
  refine (Tu.toS a ms cap _ hml_ms ((unhide HR_ms).below B2)).mono ?_
  rintro e w3 ⟨g3, rfl, b3, hg3, hz3, u3⟩
  have B3 := B2.trans (b3.mono B2.size)
  have sz3 : w2.heap.size ≤ w3.heap.size := b3.size
  have Sa3 : Hid (Tu.Lst w3 (some ⟨g3, 0, none⟩) ms w2.heap.size w3.heap.size) := hide (.inr ⟨g3, rfl, hg3, hz3, hz3, u3⟩)
  clear u3
  go_wp2_with fail
  refine (specSeen _ _ ms _ og sq now _ hml_ms (unhide Sa3).rm).mono ?_
  rintro e w4 ⟨rfl, b4⟩
  have B4 := B3.trans (b4.mono B3.size)
  have sz4 : w3.heap.size ≤ w4.heap.size := b4.size
  have Sa4 := hide ((unhide Sa3).below b4)
  clear Sa3
  obtain ⟨vv, hvv⟩ : ∃ vv, seenD ms og sq now = vv := ⟨_, rfl⟩
  have HVV := hide hvv
  rw [hvv]
  clear hvv
  have hnv : (vv != vv) = false := by simp
  obtain ⟨vv1, hvv1⟩ : ∃ vv, sentD ms og sq now = vv := ⟨_, rfl⟩
  have HVV1 := hide hvv1
  rw [hvv1]
  clear hvv1
  have hnv1 : (vv1 != vv1) = false := by simp
  obtain ⟨cd, hcd⟩ : ∃ cd, codeD ms og sq = cd := ⟨_, rfl⟩
  have HC := hide hcd
  rw [hcd]
  clear hcd
  have hne : (cd != cd) = false := by simp
  clear Sa4
  go_wp2_with fail
  refine (Tu.toS a ms cap _ hml_ms ((unhide HR_ms).below B4)).mono ?_
  rintro e w5 ⟨g5, rfl, b5, hg5, hz5, u5⟩
  have B5 := B4.trans (b5.mono B4.size)
  have sz5 : w4.heap.size ≤ w5.heap.size := b5.size
  have Xa5 : Hid (Tu.Lst w5 (some ⟨g5, 0, none⟩) ms w4.heap.size w5.heap.size) := hide (.inr ⟨g5, rfl, hg5, hz5, hz5, u5⟩)
  clear u5
  go_wp2_with fail
  refine (implSeen _ ms _ og sq now _ hml_ms (unhide Xa5).rm).mono ?_
  rintro e w6 ⟨rfl, b6⟩
  have B6 := B5.trans (b6.mono B5.size)
  have sz6 : w5.heap.size ≤ w6.heap.size := b6.size
  have Xa6 := hide ((unhide Xa5).below b6)
  clear Xa5
  rw [unhide HVV, unhide HVV1, unhide HC]
  go_wp2_with fail
  refine (Tu.toS a ms cap _ hml_ms ((unhide HR_ms).below B6)).mono ?_
  rintro e w7 ⟨g7, rfl, b7, hg7, hz7, u7⟩
  have B7 := B6.trans (b7.mono B6.size)
  have sz7 : w6.heap.size ≤ w7.heap.size := b7.size
  have Xa7 := hide ((unhide Xa6).below b7)
  clear Xa6
  have Y7 : Hid (Tu.Lst w7 (some ⟨g7, 0, none⟩) ms w6.heap.size w7.heap.size) := hide (.inr ⟨g7, rfl, hg7, hz7, hz7, u7⟩)
  clear u7
  go_wp2_with fail
  refine (Tu.eqS _ _ ms _ _ _ hml_ms (unhide Xa7).rm (unhide Y7).rm).mono ?_
  rintro e w8 ⟨rfl, b8⟩
  have B8 := B7.trans (b8.mono B7.size)
  have sz8 : w7.heap.size ≤ w8.heap.size := b8.size
  have Xa8 := hide ((unhide Xa7).below b8)
  have Y8 := hide ((unhide Y7).below b8)
  clear Xa7 Y7
  clear Y8
  have HF := hide B8
  go_wp2_with fail
  go_ret
  exact ⟨rfl, unhide HF⟩

set_option maxRecDepth 100000 in
theorem lifted (os : Os) (started : os.Started) (H : Type) (enc : TypeId × Value → H) :
    ReturnsInHanded {} Try.checked os 4 .any (Rows.fnExactDupSeenSpec.pre6 enc Try.prog Try.f4 Rows.fnExactDupSeenRow.domain false) (Rows.fnExactDupSeenSpec.post enc Try.prog Try.f4 false true false false) := by
  refine returnsInHanded_of_change (C := Try.checked) own started (by kernel_rfl) Try.func4
    (ChangeSpec.witness6 (enc := enc) (C := Try.checked) false ⟨#[], #[.slice none 0 0, .int .i64 0, .int .i64 0, .int .i64 0], []⟩ 8 (by kernel_rfl) (by kernel_rfl) (by kernel_rfl) (by kernel_rfl)) ?_
  intro W base args ds gs before hval0 hW hcnd _
  have hval : ∀ (j : Nat) t v, Try.f4.params[j]? = some t → args[j]? = some v → Value.okWide Try.prog W .any base t v := hval0
  have hW' := hW
  obtain ⟨p, q, hA0, hV, rfl, hfz, hnd⟩ := hW
  have hA : DataW.TrodAll enc Try.prog W 0 (fun _ => true) true Try.f4.params.toList args.toList ds p := hA0
  rw [Try.params4] at hA hval
  obtain ⟨v0, vs0, d0, ds0, p0, q0, hargs0, rfl, rfl, h0, r0⟩ := trodAll_cons hA
  obtain ⟨v1, vs1, d1, ds1, p1, q1, hargs1, rfl, rfl, h1, r1⟩ := trodAll_cons r0
  obtain ⟨v2, vs2, d2, ds2, p2, q2, hargs2, rfl, rfl, h2, r2⟩ := trodAll_cons r1
  obtain ⟨v3, vs3, d3, ds3, p3, q3, hargs3, rfl, rfl, h3, r3⟩ := trodAll_cons r2
  obtain ⟨rfl, rfl, rfl⟩ := trodAll_nil r3
  obtain rfl : args = #[v0, v1, v2, v3] := by cases args; simp_all
  obtain ⟨rfl, rfl⟩ := trodVars_none hV
  have k0 := h0
  have lt0 : ∀ x ∈ p0, x.block < W.heap.size := by obtain ⟨m, hm⟩ := k0; exact DataW.trod_lt m _ _ _ hm
  have k1 := h1
  have lt1 : ∀ x ∈ p1, x.block < W.heap.size := by obtain ⟨m, hm⟩ := k1; exact DataW.trod_lt m _ _ _ hm
  have k2 := h2
  have lt2 : ∀ x ∈ p2, x.block < W.heap.size := by obtain ⟨m, hm⟩ := k2; exact DataW.trod_lt m _ _ _ hm
  have k3 := h3
  have lt3 : ∀ x ∈ p3, x.block < W.heap.size := by obtain ⟨m, hm⟩ := k3; exact DataW.trod_lt m _ _ _ hm
  obtain ⟨a0, len0, cap0, rfl⟩ := okWide_slice Try.underlying25 (hval 0 25 v0 rfl rfl)
  obtain ⟨ms0, hlen0, hmx0, hrd0⟩ := Tu.open_list h0
  subst hlen0
  obtain ⟨n1, rfl, _, _, wf1⟩ := open_int Try.underlying3 (hval 1 3 v1 rfl rfl) h1
  obtain ⟨n2, rfl, _, _, wf2⟩ := open_int Try.underlying3 (hval 2 3 v2 rfl rfl) h2
  obtain ⟨n3, rfl, _, _, wf3⟩ := open_int Try.underlying3 (hval 3 3 v3 rfl rfl) h3
  clear hA0 hval0
  refine (walk a0 ms0 cap0 hmx0 n1 wf1 n2 wf2 n3 wf3 W hrd0).mono fun e W' ⟨he, bel⟩ => ?_
  subst he
  exact ⟨_, rfl, _, _, _, [], _, [], hW', trodAll_mk1 (shut_bool Try.underlying4 _), (trodAll_cons_mk (Below.trod laidOut (by kernel_rfl) (of_decide_eq_true (by kernel_rfl)) k0 bel lt0) (trodAll_cons_mk (Below.trod laidOut (by kernel_rfl) (of_decide_eq_true (by kernel_rfl)) k1 bel lt1) (trodAll_cons_mk (Below.trod laidOut (by kernel_rfl) (of_decide_eq_true (by kernel_rfl)) k2 bel lt2) (trodAll_cons_mk (Below.trod laidOut (by kernel_rfl) (of_decide_eq_true (by kernel_rfl)) k3 bel lt3) trodAll_mk0)))), rfl, bel.frame _, fun h => by cases h⟩

theorem over : Rows.fnExactDupSeenRow.holds Try.pinned (OpenSpec.ofChange Rows.fnExactDupSeenSpec) :=
  OpenClaim.holds_of_wide 4 Try.f4 rfl rfl rfl rfl rfl rfl rfl ⟨rfl, rfl, rfl, rfl, rfl⟩ rfl rfl rfl rfl rfl (by kernel_rfl) Try.func4 (by kernel_rfl)
    (of_decide_eq_true (by kernel_rfl)) (by unfold Func.isWrapper; first | (rw [if_pos (by decide +kernel)]; kernel_rfl) | (rw [if_neg (by decide +kernel)]; exact ⟨rfl, rfl⟩))
    (fun os started H enc _ => lifted os started H enc)
end Go.Proofs.Ytlcppgnnlgigmab.fnExactDupSeen
namespace Go.Proofs.Ytlcppgnnlgigmab
/-- At every argument the program's DupSeen answers as its model. -/
theorem fnExactDupSeen_holds : Rows.FnExactDupSeenSaid := fnExactDupSeen.over
end Go.Proofs.Ytlcppgnnlgigmab
