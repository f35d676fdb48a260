/-
  Proved here: for every argument, laws.FnExactSetRange returns true (the program's SetRange answers as its model, leaves its argument alone, and answers in memory of its own), and leaves what came in as it was. No condition. (The walk is written by mkown.py.)
-/
import Derived.Test.YtmelbilepfnmjakSetR
namespace Go.Proofs.Ytmelbilepfnmjak.fnExactSetRange
open Go.ChangeShapes Go.WideShapes Go.ChangeAt Go.RowKit
open W1 St
set_option linter.unusedVariables false
theorem own : ownKnob Try.prog.godebug = none := by kernel_rfl
theorem laidOut : laidOutB Try.prog = true := by kernel_rfl

set_option maxHeartbeats 8000000 in
theorem walk (a : Option Addr) (ms : List Tu.R) (cap : Nat) (hm : ms.length ≤ maxLen) (low : Int) (wf_low : (Lit.int .i64 low).wf = true) (high : Int) (wf_high : (Lit.int .i64 high).wf = true) (w : World) (hr : Tu.RM w a ms) :
    Calls Try.prog 3 #[.slice a ms.length cap, .int .i64 low, .int .i64 high] w fun e w' => e = .returned (.bool true) ∧ Below w.heap.size w w' := by
  have HR := hide hr
  clear hr
  go_enter Try.func3, Try.ntmps3
  go_wp2_with fail
  refine (Tu.szS a ms.length cap 1048576 _ (by omega) (by omega) hm).mono ?_
  rintro e w1 ⟨r, rfl, rfl, hr0 | ⟨hr0, hr1⟩⟩
  · go_wp2_with fail
    go_ret
    exact ⟨rfl, Below.refl _ _⟩
  have hnn : ¬ r < 0 := by omega
  have hml : ms.length ≤ 1048576 := by omega
  clear hr1 hm
  have hol : (rangeA ms low high).length ≤ 1048576 := (Nat.le_trans (range_len ms low high) hml)
  have B1 : Below w1.heap.size w1 w1 := Below.refl _ _
  go_wp2_with fail
  refine (Tu.toS a ms cap _ hml ((unhide HR).below B1)).mono ?_
  rintro e w2 ⟨g2, rfl, b2, hg2, hz2, u2⟩
  have B2 := B1.trans (b2.mono B1.size)
  have S2 : Hid (Tu.Lst w2 (some ⟨g2, 0, none⟩) ms w1.heap.size w2.heap.size) := hide (.inr ⟨g2, rfl, hg2, hz2, hz2, u2⟩)
  clear u2
  go_wp2_with fail
  refine (specRange _ _ ms _ low high _ rfl hml (unhide S2).rm).mono ?_
  rintro e w3 ⟨v3, rfl, b3, l3⟩
  have B3 := B2.trans (b3.mono B2.size)
  have S3 := hide ((unhide S2).below b3)
  clear S2
  obtain ⟨a3, c3, rfl, L3⟩ := l3
  have W3 := hide L3
  clear L3
  obtain ⟨cd, hcd⟩ : ∃ cd, codeS ms = cd := ⟨_, rfl⟩
  have HC := hide hcd
  rw [hcd]
  clear hcd
  clear S3
  go_wp2_with fail
  refine (Tu.toS a ms cap _ hml ((unhide HR).below B3)).mono ?_
  rintro e w4 ⟨g4, rfl, b4, hg4, hz4, u4⟩
  have B4 := B3.trans (b4.mono B3.size)
  have W4 := hide ((unhide W3).below b4)
  clear W3
  have X4 : Hid (Tu.Lst w4 (some ⟨g4, 0, none⟩) ms w3.heap.size w4.heap.size) := hide (.inr ⟨g4, rfl, hg4, hz4, hz4, u4⟩)
  clear u4
  go_wp2_with fail
  refine (implRange _ _ ms _ low high _ rfl hml (unhide X4).rm).mono ?_
  rintro e w5 ⟨v5, rfl, b5, l5⟩
  have B5 := B4.trans (b5.mono B4.size)
  have W5 := hide ((unhide W4).below b5)
  have X5 := hide ((unhide X4).below b5)
  clear W4 X4
  obtain ⟨a5, c5, rfl, L5⟩ := l5
  have G5 := hide L5
  clear L5
  rw [unhide HC]
  go_wp2_with fail
  refine (Tu.eqS _ _ (rangeA ms low high) _ _ _ hol (unhide G5).rm (unhide W5).rm).mono ?_
  rintro e w6 ⟨rfl, b6⟩
  have B6 := B5.trans (b6.mono B5.size)
  have W6 := hide ((unhide W5).below b6)
  have X6 := hide ((unhide X5).below b6)
  have G6 := hide ((unhide G5).below b6)
  clear W5 X5 G5
  go_wp2_with fail
  refine (Tu.toS a ms cap _ hml ((unhide HR).below B6)).mono ?_
  rintro e w7 ⟨g7, rfl, b7, hg7, hz7, u7⟩
  have B7 := B6.trans (b7.mono B6.size)
  have W7 := hide ((unhide W6).below b7)
  have X7 := hide ((unhide X6).below b7)
  have G7 := hide ((unhide G6).below b7)
  clear W6 X6 G6
  have Y7 : Hid (Tu.Lst w7 (some ⟨g7, 0, none⟩) ms w6.heap.size w7.heap.size) := hide (.inr ⟨g7, rfl, hg7, hz7, hz7, u7⟩)
  clear u7
  go_wp2_with fail
  refine (Tu.eqS _ _ ms _ _ _ hml (unhide X7).rm (unhide Y7).rm).mono ?_
  rintro e w8 ⟨rfl, b8⟩
  have B8 := B7.trans (b8.mono B7.size)
  have W8 := hide ((unhide W7).below b8)
  have X8 := hide ((unhide X7).below b8)
  have G8 := hide ((unhide G7).below b8)
  have Y8 := hide ((unhide Y7).below b8)
  clear W7 X7 G7 Y7
  clear Y8
  go_wp2_with fail
  refine (Tu.markF _ _ _ _ 1 ms _ (by omega) (by omega) hml (unhide X8)).mono ?_
  rintro e w9 ⟨rfl, hz9, b9, _, k9⟩
  have s9 : w1.heap.size ≤ w3.heap.size := B3.size
  have s9' : w1.heap.size ≤ w8.heap.size := B8.size
  have B9 := B8.trans (b9.mono (by omega))
  have W9 := hide ((unhide W8).but (p := fun k => k < w3.heap.size ∨ w4.heap.size ≤ k) hz9 (fun k hk h => k9 k hk h) (fun k h1 h2 => .inl (Nat.lt_of_lt_of_le h2 (Nat.le_refl _))))
  have G9 := hide ((unhide G8).but (p := fun k => k < w3.heap.size ∨ w4.heap.size ≤ k) hz9 (fun k hk h => k9 k hk h) (fun k h1 h2 => .inr (Nat.le_trans (Nat.le_of_eq rfl) h1)))
  clear W8 G8 X8 k9 b9
  have hp9 : ¬ (1 + 3 * (ms.length : Int) < 0) := by omega
  go_wp2_with fail
  refine (Tu.eqS _ _ (rangeA ms low high) _ _ _ hol (unhide G9).rm (unhide W9).rm).mono ?_
  rintro e w10 ⟨rfl, b10⟩
  have B10 := B9.trans (b10.mono B9.size)
  have W10 := hide ((unhide W9).below b10)
  have G10 := hide ((unhide G9).below b10)
  clear W9 G9
  go_wp2_with fail
  refine (Tu.markF _ _ _ _ 1 (rangeA ms low high) _ (by omega) (by omega) hol (unhide G10)).mono ?_
  rintro e w11 ⟨rfl, hz11, b11, f11, k11⟩
  have s11 : w1.heap.size ≤ w4.heap.size := B4.size
  have s11' : w1.heap.size ≤ w10.heap.size := B10.size
  have B11 := B10.trans (b11.mono (by omega))
  have q11 : w3.heap.size ≤ w4.heap.size := by have := b4.size; omega
  have W11 := hide ((unhide W10).but (p := fun k => k < w4.heap.size ∨ w5.heap.size ≤ k) hz11 (fun k hk h => k11 k hk h) (fun k h1 h2 => .inl (by omega)))
  have M11 := hide f11
  clear W10 G10 f11 k11 b11
  have hp11 : ¬ (1 + 3 * ((rangeA ms low high).length : Int) < 0) := by omega
  go_wp2_with fail
  refine (Tu.heldF _ _ (rangeA ms low high).length _ _ 1 _ (by omega) (by omega) hol (unhide M11)).mono ?_
  rintro e wh ⟨rfl, hwh⟩
  rw [hwh]
  clear hwh wh
  go_wp2_with fail
  refine (Tu.toS a ms cap _ hml ((unhide HR).below B11)).mono ?_
  rintro e w12 ⟨g12, rfl, b12, hg12, hz12, u12⟩
  have B12 := B11.trans (b12.mono B11.size)
  have W12 := hide ((unhide W11).below b12)
  have M12 := hide ((unhide M11).below b12)
  clear W11 M11
  have Z12 : Hid (Tu.Lst w12 (some ⟨g12, 0, none⟩) ms w11.heap.size w12.heap.size) := hide (.inr ⟨g12, rfl, hg12, hz12, hz12, u12⟩)
  clear u12
  go_wp2_with fail
  refine (implRange _ _ ms _ low high _ rfl hml (unhide Z12).rm).mono ?_
  rintro e w13 ⟨v13, rfl, b13, l13⟩
  have B13 := B12.trans (b13.mono B12.size)
  have W13 := hide ((unhide W12).below b13)
  have M13 := hide ((unhide M12).below b13)
  have Z13 := hide ((unhide Z12).below b13)
  clear W12 M12 Z12
  obtain ⟨a13, c13, rfl, L13⟩ := l13
  have H13 := hide L13
  clear L13
  rw [unhide HC]
  go_wp2_with fail
  refine (Tu.eqS _ _ (rangeA ms low high) _ _ _ hol (unhide H13).rm (unhide W13).rm).mono ?_
  rintro e w14 ⟨rfl, b14⟩
  have B14 := B13.trans (b14.mono B13.size)
  have W14 := hide ((unhide W13).below b14)
  have M14 := hide ((unhide M13).below b14)
  have Z14 := hide ((unhide Z13).below b14)
  have H14 := hide ((unhide H13).below b14)
  clear W13 M13 Z13 H13
  go_wp2_with fail
  refine (Tu.heldF _ _ (rangeA ms low high).length _ _ 1 _ (by omega) (by omega) hol (unhide M14)).mono ?_
  rintro e wh ⟨rfl, hwh⟩
  rw [hwh]
  clear hwh wh
  have HF := hide B14
  go_wp2_with fail
  go_ret
  exact ⟨rfl, unhide HF⟩

set_option maxRecDepth 100000 in
theorem lifted (os : Os) (started : os.Started) (H : Type) (enc : TypeId × Value → H) :
    ReturnsInHanded {} Try.checked os 3 .any (Rows.fnExactSetRangeSpec.pre6 enc Try.prog Try.f3 Rows.fnExactSetRangeRow.domain false) (Rows.fnExactSetRangeSpec.post enc Try.prog Try.f3 false true false false) := by
  refine returnsInHanded_of_change (C := Try.checked) own started (by kernel_rfl) Try.func3
    (ChangeSpec.witness6 (enc := enc) (C := Try.checked) false ⟨#[], #[.slice none 0 0, .int .i64 0, .int .i64 0], []⟩ 8 (by kernel_rfl) (by kernel_rfl) (by kernel_rfl) (by kernel_rfl)) ?_
  intro W base args ds gs before hval0 hW hcnd _
  have hval : ∀ (j : Nat) t v, Try.f3.params[j]? = some t → args[j]? = some v → Value.okWide Try.prog W .any base t v := hval0
  have hW' := hW
  obtain ⟨p, q, hA0, hV, rfl, hfz, hnd⟩ := hW
  have hA : DataW.TrodAll enc Try.prog W 0 (fun _ => true) true Try.f3.params.toList args.toList ds p := hA0
  rw [Try.params3] at hA hval
  obtain ⟨v0, vs0, d0, ds0, p0, q0, hargs0, rfl, rfl, h0, r0⟩ := trodAll_cons hA
  obtain ⟨v1, vs1, d1, ds1, p1, q1, hargs1, rfl, rfl, h1, r1⟩ := trodAll_cons r0
  obtain ⟨v2, vs2, d2, ds2, p2, q2, hargs2, rfl, rfl, h2, r2⟩ := trodAll_cons r1
  obtain ⟨rfl, rfl, rfl⟩ := trodAll_nil r2
  obtain rfl : args = #[v0, v1, v2] := by cases args; simp_all
  obtain ⟨rfl, rfl⟩ := trodVars_none hV
  have k0 := h0
  have lt0 : ∀ x ∈ p0, x.block < W.heap.size := by obtain ⟨m, hm⟩ := k0; exact DataW.trod_lt m _ _ _ hm
  have k1 := h1
  have lt1 : ∀ x ∈ p1, x.block < W.heap.size := by obtain ⟨m, hm⟩ := k1; exact DataW.trod_lt m _ _ _ hm
  have k2 := h2
  have lt2 : ∀ x ∈ p2, x.block < W.heap.size := by obtain ⟨m, hm⟩ := k2; exact DataW.trod_lt m _ _ _ hm
  obtain ⟨a0, len0, cap0, rfl⟩ := okWide_slice Try.underlying22 (hval 0 22 v0 rfl rfl)
  obtain ⟨ms0, hlen0, hmx0, hrd0⟩ := Tu.open_list h0
  subst hlen0
  obtain ⟨n1, rfl, _, _, wf1⟩ := open_int Try.underlying3 (hval 1 3 v1 rfl rfl) h1
  obtain ⟨n2, rfl, _, _, wf2⟩ := open_int Try.underlying3 (hval 2 3 v2 rfl rfl) h2
  clear hA0 hval0
  refine (walk a0 ms0 cap0 hmx0 n1 wf1 n2 wf2 W hrd0).mono fun e W' ⟨he, bel⟩ => ?_
  subst he
  exact ⟨_, rfl, _, _, _, [], _, [], hW', trodAll_mk1 (shut_bool Try.underlying4 _), (trodAll_cons_mk (Below.trod laidOut (by kernel_rfl) (of_decide_eq_true (by kernel_rfl)) k0 bel lt0) (trodAll_cons_mk (Below.trod laidOut (by kernel_rfl) (of_decide_eq_true (by kernel_rfl)) k1 bel lt1) (trodAll_cons_mk (Below.trod laidOut (by kernel_rfl) (of_decide_eq_true (by kernel_rfl)) k2 bel lt2) trodAll_mk0))), rfl, bel.frame _, fun h => by cases h⟩

theorem over : Rows.fnExactSetRangeRow.holds Try.pinned (OpenSpec.ofChange Rows.fnExactSetRangeSpec) :=
  OpenClaim.holds_of_wide 3 Try.f3 rfl rfl rfl rfl rfl rfl rfl ⟨rfl, rfl, rfl, rfl, rfl⟩ rfl rfl rfl rfl rfl (by kernel_rfl) Try.func3 (by kernel_rfl)
    (of_decide_eq_true (by kernel_rfl)) (by unfold Func.isWrapper; first | (rw [if_pos (by decide +kernel)]; kernel_rfl) | (rw [if_neg (by decide +kernel)]; exact ⟨rfl, rfl⟩))
    (fun os started H enc _ => lifted os started H enc)
end Go.Proofs.Ytmelbilepfnmjak.fnExactSetRange
namespace Go.Proofs.Ytmelbilepfnmjak
/-- For every list of tuples and every two bounds the program's SetRange answers as its model. -/
theorem fnExactSetRange_holds : Rows.FnExactSetRangeSaid := fnExactSetRange.over
end Go.Proofs.Ytmelbilepfnmjak
