/-
  Proved here: for every argument, laws.FnExactDegree returns true (the program's Degree answers as its model, leaves its arguments alone, and answers in memory of its own), and leaves what came in as it was. No condition. (The walk is written by mklaw.py.)
-/
import Derived.Test.YtmelbilepfnmjapGrpD
import Derived.Test.YtmelbilepfnmjapMprG
import Derived.Test.YtmelbilepfnmjapIntsL
namespace Go.Proofs.Ytmelbilepfnmjap.fnExactDegree
open Go.ChangeShapes Go.WideShapes Go.ChangeAt Go.RowKit
open W1 Tw Mr Gp
set_option linter.unusedVariables false
theorem own : ownKnob Try.prog.godebug = none := by kernel_rfl
theorem laidOut : laidOutB Try.prog = true := by kernel_rfl
theorem sH1 {w : World} {b : Nat} {x y : Int} {v : Value} (h : Bx3 w b x y v) : Bx3 w b x y v ∧ w.cell? ⟨b, 0, none⟩ = some (.int .i64 x) ∧ w.cell? ⟨b, 1, none⟩ = some (.int .i64 y) ∧ w.cell? ⟨b, 2, none⟩ = some v := ⟨h, h⟩
theorem sH2 {w : World} {b b' : Nat} {x y x' y' : Int} {v v' : Value} (h : Bx3 w b x y v) (h' : Bx3 w b' x' y' v') :
    (Bx3 w b x y v ∧ Bx3 w b' x' y' v') ∧ w.cell? ⟨b, 0, none⟩ = some (.int .i64 x) ∧ w.cell? ⟨b, 1, none⟩ = some (.int .i64 y) ∧ w.cell? ⟨b, 2, none⟩ = some v ∧ w.cell? ⟨b', 0, none⟩ = some (.int .i64 x') ∧ w.cell? ⟨b', 1, none⟩ = some (.int .i64 y') ∧ w.cell? ⟨b', 2, none⟩ = some v' := ⟨⟨h, h'⟩, h.1, h.2.1, h.2.2, h'.1, h'.2.1, h'.2.2⟩

set_option maxRecDepth 100000 in
set_option maxHeartbeats 8000000 in
theorem walk (a : Option Addr) (ms : List Tu.R) (cap : Nat) (hm_ms : ms.length ≤ maxLen) (b : Option Addr) (ls : List Lk.R) (capl : Nat) (hm_ls : ls.length ≤ maxLen) (me : Int) (wf_me : (Lit.int .i64 me).wf = true) (now : Int) (wf_now : (Lit.int .i64 now).wf = true) (adr : Int) (wf_adr : (Lit.int .i64 adr).wf = true) (w : World) (hr_ms : Tu.RM w a ms) (hr_ls : Lk.RM w b ls) :
    Calls Try.prog 3 #[.slice a ms.length cap, .slice b ls.length capl, .int .i64 me, .int .i64 now, .int .i64 adr] w fun e w' => e = .returned (.bool true) ∧ Below w.heap.size w w' := by
  have HR_ms := hide hr_ms
  clear hr_ms
  have HR_ls := hide hr_ls
  clear hr_ls
  go_enter Try.func3, Try.ntmps3
  have B1 : Below w.heap.size w w := Below.refl _ _
  go_wp2_with fail
  refine (Tu.szS a ms.length cap 1048576 _ (by omega) (by omega) hm_ms).mono ?_
  rintro e w2 ⟨r2, rfl, hw2, hr01⟩
  have b2 : Below w.heap.size w w2 := by rw [hw2]; exact Below.refl _ _
  clear hw2
  have B2 : Below w.heap.size w w2 := b2
  have sz2 : w.heap.size ≤ w2.heap.size := b2.size
  rcases hr01 with hr0 | ⟨hr0, hr1⟩
  · go_wp2_with fail
    go_ret
    exact ⟨rfl, B2⟩
  have hnn2 : ¬ r2 < 0 := by omega
  have hml_ms : ms.length ≤ 1048576 := by omega
  have hrl2 : r2 ≤ 1048576 := by omega
  clear hr1 hm_ms
  go_wp2_with fail
  refine (Lk.szS b ls.length capl r2 _ (by omega) (by omega) hm_ls).mono ?_
  rintro e w3 ⟨r3, rfl, hw3, hr01⟩
  have b3 : Below w2.heap.size w2 w3 := by rw [hw3]; exact Below.refl _ _
  clear hw3
  have B3 := B2.trans (b3.mono B2.size)
  have sz3 : w2.heap.size ≤ w3.heap.size := b3.size
  rcases hr01 with hr0 | ⟨hr0, hr1⟩
  · go_wp2_with fail
    go_ret
    exact ⟨rfl, B3⟩
  have hnn3 : ¬ r3 < 0 := by omega
  have hml_ls : ls.length ≤ 1048576 := by omega
  have hrl3 : r3 ≤ 1048576 := by omega
  clear hr1 hm_ls
  go_wp2_with fail
  refine (Tu.toS a ms cap _ hml_ms ((unhide HR_ms).below B3)).mono ?_
  rintro e w4 ⟨g4, rfl, b4, hg4, hz4, u4⟩
  have B4 := B3.trans (b4.mono B3.size)
  have sz4 : w3.heap.size ≤ w4.heap.size := b4.size
  have Sa4 : Hid (Tu.Lst w4 (some ⟨g4, 0, none⟩) ms w3.heap.size w4.heap.size) := hide (.inr ⟨g4, rfl, hg4, hz4, hz4, u4⟩)
  clear u4
  go_wp2_with fail
  refine (Lk.toS b ls capl _ hml_ls ((unhide HR_ls).below B4)).mono ?_
  rintro e w5 ⟨g5, rfl, b5, hg5, hz5, u5⟩
  have B5 := B4.trans (b5.mono B4.size)
  have sz5 : w4.heap.size ≤ w5.heap.size := b5.size
  have Sa5 := hide ((unhide Sa4).below b5)
  clear Sa4
  have Sb5 : Hid (Lk.Lst w5 (some ⟨g5, 0, none⟩) ls w4.heap.size w5.heap.size) := hide (.inr ⟨g5, rfl, hg5, hz5, hz5, u5⟩)
  clear u5
  go_wp2_with fail
  refine (specDegree _ _ ms _ _ ls _ me now adr _ hml_ms hml_ls (unhide Sa5).rm (unhide Sb5).rm).mono ?_
  rintro e w6 ⟨rfl, b6⟩
  have B6 := B5.trans (b6.mono B5.size)
  have sz6 : w5.heap.size ≤ w6.heap.size := b6.size
  have Sa6 := hide ((unhide Sa5).below b6)
  have Sb6 := hide ((unhide Sb5).below b6)
  clear Sa5 Sb5
  obtain ⟨vv, hvv⟩ : ∃ vv, degA ms ls me now adr = vv := ⟨_, rfl⟩
  have HVV := hide hvv
  rw [hvv]
  clear hvv
  have hnv : (vv != vv) = false := by simp
  obtain ⟨cd, hcd⟩ : ∃ cd, codeTL ms ls = cd := ⟨_, rfl⟩
  have HC := hide hcd
  rw [hcd]
  clear hcd
  have hne : (cd != cd) = false := by simp
  clear Sa6
  clear Sb6
  go_wp2_with fail
  refine (Tu.toS a ms cap _ hml_ms ((unhide HR_ms).below B6)).mono ?_
  rintro e w7 ⟨g7, rfl, b7, hg7, hz7, u7⟩
  have B7 := B6.trans (b7.mono B6.size)
  have sz7 : w6.heap.size ≤ w7.heap.size := b7.size
  have Xa7 : Hid (Tu.Lst w7 (some ⟨g7, 0, none⟩) ms w6.heap.size w7.heap.size) := hide (.inr ⟨g7, rfl, hg7, hz7, hz7, u7⟩)
  clear u7
  go_wp2_with fail
  refine (Lk.toS b ls capl _ hml_ls ((unhide HR_ls).below B7)).mono ?_
  rintro e w8 ⟨g8, rfl, b8, hg8, hz8, u8⟩
  have B8 := B7.trans (b8.mono B7.size)
  have sz8 : w7.heap.size ≤ w8.heap.size := b8.size
  have Xa8 := hide ((unhide Xa7).below b8)
  clear Xa7
  have Xb8 : Hid (Lk.Lst w8 (some ⟨g8, 0, none⟩) ls w7.heap.size w8.heap.size) := hide (.inr ⟨g8, rfl, hg8, hz8, hz8, u8⟩)
  clear u8
  go_wp2_with fail
  refine (implDegree _ ms _ _ ls _ me now adr _ hml_ms hml_ls (unhide Xa8).rm (unhide Xb8).rm).mono ?_
  rintro e w9 ⟨rfl, b9⟩
  have B9 := B8.trans (b9.mono B8.size)
  have sz9 : w8.heap.size ≤ w9.heap.size := b9.size
  have Xa9 := hide ((unhide Xa8).below b9)
  have Xb9 := hide ((unhide Xb8).below b9)
  clear Xa8 Xb8
  rw [unhide HVV, unhide HC]
  go_wp2_with fail
  refine (Tu.toS a ms cap _ hml_ms ((unhide HR_ms).below B9)).mono ?_
  rintro e w10 ⟨g10, rfl, b10, hg10, hz10, u10⟩
  have B10 := B9.trans (b10.mono B9.size)
  have sz10 : w9.heap.size ≤ w10.heap.size := b10.size
  have Xa10 := hide ((unhide Xa9).below b10)
  have Xb10 := hide ((unhide Xb9).below b10)
  clear Xa9 Xb9
  have Y10 : Hid (Tu.Lst w10 (some ⟨g10, 0, none⟩) ms w9.heap.size w10.heap.size) := hide (.inr ⟨g10, rfl, hg10, hz10, hz10, u10⟩)
  clear u10
  go_wp2_with fail
  refine (Tu.eqS _ _ ms _ _ _ hml_ms (unhide Xa10).rm (unhide Y10).rm).mono ?_
  rintro e w11 ⟨rfl, b11⟩
  have B11 := B10.trans (b11.mono B10.size)
  have sz11 : w10.heap.size ≤ w11.heap.size := b11.size
  have Xa11 := hide ((unhide Xa10).below b11)
  have Xb11 := hide ((unhide Xb10).below b11)
  have Y11 := hide ((unhide Y10).below b11)
  clear Xa10 Xb10 Y10
  clear Y11
  go_wp2_with fail
  refine (Lk.toS b ls capl _ hml_ls ((unhide HR_ls).below B11)).mono ?_
  rintro e w12 ⟨g12, rfl, b12, hg12, hz12, u12⟩
  have B12 := B11.trans (b12.mono B11.size)
  have sz12 : w11.heap.size ≤ w12.heap.size := b12.size
  have Xa12 := hide ((unhide Xa11).below b12)
  have Xb12 := hide ((unhide Xb11).below b12)
  clear Xa11 Xb11
  have Y12 : Hid (Lk.Lst w12 (some ⟨g12, 0, none⟩) ls w11.heap.size w12.heap.size) := hide (.inr ⟨g12, rfl, hg12, hz12, hz12, u12⟩)
  clear u12
  go_wp2_with fail
  refine (Lk.eqS _ _ ls _ _ _ hml_ls (unhide Xb12).rm (unhide Y12).rm).mono ?_
  rintro e w13 ⟨rfl, b13⟩
  have B13 := B12.trans (b13.mono B12.size)
  have sz13 : w12.heap.size ≤ w13.heap.size := b13.size
  have Xa13 := hide ((unhide Xa12).below b13)
  have Xb13 := hide ((unhide Xb12).below b13)
  have Y13 := hide ((unhide Y12).below b13)
  clear Xa12 Xb12 Y12
  clear Y13
  have HF := hide B13
  go_wp2_with fail
  go_ret
  exact ⟨rfl, unhide HF⟩

set_option maxRecDepth 100000 in
theorem lifted (os : Os) (started : os.Started) (H : Type) (enc : TypeId × Value → H) :
    ReturnsInHanded {} Try.checked os 3 .any (Rows.fnExactDegreeSpec.pre6 enc Try.prog Try.f3 Rows.fnExactDegreeRow.domain false) (Rows.fnExactDegreeSpec.post enc Try.prog Try.f3 false true false false) := by
  refine returnsInHanded_of_change (C := Try.checked) own started (by kernel_rfl) Try.func3
    (ChangeSpec.witness6 (enc := enc) (C := Try.checked) false ⟨#[], #[.slice none 0 0, .slice none 0 0, .int .i64 0, .int .i64 0, .int .i64 0], []⟩ 8 (by kernel_rfl) (by kernel_rfl) (by kernel_rfl) (by kernel_rfl)) ?_
  intro W base args ds gs before hval0 hW hcnd _
  have hval : ∀ (j : Nat) t v, Try.f3.params[j]? = some t → args[j]? = some v → Value.okWide Try.prog W .any base t v := hval0
  have hW' := hW
  obtain ⟨p, q, hA0, hV, rfl, hfz, hnd⟩ := hW
  have hA : DataW.TrodAll enc Try.prog W 0 (fun _ => true) true Try.f3.params.toList args.toList ds p := hA0
  rw [Try.params3] at hA hval
  obtain ⟨v0, vs0, d0, ds0, p0, q0, hargs0, rfl, rfl, h0, r0⟩ := trodAll_cons hA
  obtain ⟨v1, vs1, d1, ds1, p1, q1, hargs1, rfl, rfl, h1, r1⟩ := trodAll_cons r0
  obtain ⟨v2, vs2, d2, ds2, p2, q2, hargs2, rfl, rfl, h2, r2⟩ := trodAll_cons r1
  obtain ⟨v3, vs3, d3, ds3, p3, q3, hargs3, rfl, rfl, h3, r3⟩ := trodAll_cons r2
  obtain ⟨v4, vs4, d4, ds4, p4, q4, hargs4, rfl, rfl, h4, r4⟩ := trodAll_cons r3
  obtain ⟨rfl, rfl, rfl⟩ := trodAll_nil r4
  obtain rfl : args = #[v0, v1, v2, v3, v4] := by cases args; simp_all
  obtain ⟨rfl, rfl⟩ := trodVars_none hV
  have k0 := h0
  have lt0 : ∀ x ∈ p0, x.block < W.heap.size := by obtain ⟨m, hm⟩ := k0; exact DataW.trod_lt m _ _ _ hm
  have k1 := h1
  have lt1 : ∀ x ∈ p1, x.block < W.heap.size := by obtain ⟨m, hm⟩ := k1; exact DataW.trod_lt m _ _ _ hm
  have k2 := h2
  have lt2 : ∀ x ∈ p2, x.block < W.heap.size := by obtain ⟨m, hm⟩ := k2; exact DataW.trod_lt m _ _ _ hm
  have k3 := h3
  have lt3 : ∀ x ∈ p3, x.block < W.heap.size := by obtain ⟨m, hm⟩ := k3; exact DataW.trod_lt m _ _ _ hm
  have k4 := h4
  have lt4 : ∀ x ∈ p4, x.block < W.heap.size := by obtain ⟨m, hm⟩ := k4; exact DataW.trod_lt m _ _ _ hm
  obtain ⟨a0, len0, cap0, rfl⟩ := okWide_slice Try.underlying22 (hval 0 22 v0 rfl rfl)
  obtain ⟨ms0, hlen0, hmx0, hrd0⟩ := Tu.open_list h0
  subst hlen0
  obtain ⟨a1, len1, cap1, rfl⟩ := okWide_slice Try.underlying23 (hval 1 23 v1 rfl rfl)
  obtain ⟨ms1, hlen1, hmx1, hrd1⟩ := Lk.open_list h1
  subst hlen1
  obtain ⟨n2, rfl, _, _, wf2⟩ := open_int Try.underlying3 (hval 2 3 v2 rfl rfl) h2
  obtain ⟨n3, rfl, _, _, wf3⟩ := open_int Try.underlying3 (hval 3 3 v3 rfl rfl) h3
  obtain ⟨n4, rfl, _, _, wf4⟩ := open_int Try.underlying3 (hval 4 3 v4 rfl rfl) h4
  clear hA0 hval0
  refine (walk a0 ms0 cap0 hmx0 a1 ms1 cap1 hmx1 n2 wf2 n3 wf3 n4 wf4 W hrd0 hrd1).mono fun e W' ⟨he, bel⟩ => ?_
  subst he
  exact ⟨_, rfl, _, _, _, [], _, [], hW', trodAll_mk1 (shut_bool Try.underlying4 _), (trodAll_cons_mk (Below.trod laidOut (by kernel_rfl) (of_decide_eq_true (by kernel_rfl)) k0 bel lt0) (trodAll_cons_mk (Below.trod laidOut (by kernel_rfl) (of_decide_eq_true (by kernel_rfl)) k1 bel lt1) (trodAll_cons_mk (Below.trod laidOut (by kernel_rfl) (of_decide_eq_true (by kernel_rfl)) k2 bel lt2) (trodAll_cons_mk (Below.trod laidOut (by kernel_rfl) (of_decide_eq_true (by kernel_rfl)) k3 bel lt3) (trodAll_cons_mk (Below.trod laidOut (by kernel_rfl) (of_decide_eq_true (by kernel_rfl)) k4 bel lt4) trodAll_mk0))))), rfl, bel.frame _, fun h => by cases h⟩

theorem over : Rows.fnExactDegreeRow.holds Try.pinned (OpenSpec.ofChange Rows.fnExactDegreeSpec) :=
  OpenClaim.holds_of_wide 3 Try.f3 rfl rfl rfl rfl rfl rfl rfl ⟨rfl, rfl, rfl, rfl, rfl⟩ rfl rfl rfl rfl rfl (by kernel_rfl) Try.func3 (by kernel_rfl)
    (of_decide_eq_true (by kernel_rfl)) (by unfold Func.isWrapper; first | (rw [if_pos (by decide +kernel)]; kernel_rfl) | (rw [if_neg (by decide +kernel)]; exact ⟨rfl, rfl⟩))
    (fun os started H enc _ => lifted os started H enc)
end Go.Proofs.Ytmelbilepfnmjap.fnExactDegree
namespace Go.Proofs.Ytmelbilepfnmjap
/-- At every argument the program's Degree answers as its model. -/
theorem fnExactDegree_holds : Rows.FnExactDegreeSaid := fnExactDegree.over
end Go.Proofs.Ytmelbilepfnmjap
