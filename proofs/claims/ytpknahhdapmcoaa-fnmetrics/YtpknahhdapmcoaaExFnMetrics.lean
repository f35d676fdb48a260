/-
  Proved here: for all slices of bytes, laws.FnMetrics returns true (a metric's code is the least whose metric is no less; up to 256 metrics are exact) and leaves the slices as they were. No condition.
-/
import Derived.Test.YtpknahhdapmcoaaNums
import Derived.Test.YtpknahhdapmcoaaAt
namespace Go.Proofs.Ytpknahhdapmcoaa.fnMetrics
open Go.ChangeShapes Go.WideShapes Go.ChangeAt Go.RowKit
open W1 By Mtr At
set_option linter.unusedVariables false
theorem own : ownKnob Try.prog.godebug = none := by kernel_rfl
theorem laidOut : laidOutB Try.prog = true := by kernel_rfl
theorem below_drewN {B : Nat} {w w' : World} (h : Below B w w') (q : Nat) : Below B w (w'.drewN q) := ⟨h.os, h.tape, h.output, h.size, h.block⟩
theorem ofIn (c : Nat) (h : c ≤ 4095) (w : World) : Calls Try.prog 17 #[.int .i64 c] w fun e w' => e = .returned (.tuple #[.int .i64 (met c), .int .i64 0]) ∧ w' = w := by
  have hi : inB (c : Int) 0 4095 = true := by simp [inB]; omega
  simpa [hi] using implOf c w

set_option maxHeartbeats 2000000 in
theorem walk (a : Option Addr) (bs : List UInt8) (cap : Nat) (hm : bs.length ≤ maxLen) (a' : Option Addr) (bs' : List UInt8) (cap' : Nat) (hm' : bs'.length ≤ maxLen) (w : World) (hr : Reads w a bs) (hr' : Reads w a' bs') :
    Calls Try.prog 4 #[.slice a bs.length cap, .slice a' bs'.length cap'] w fun e w' => e = .returned (.bool true) ∧ Below w.heap.size w w' := by
  have HR := hide hr
  have HR' := hide hr'
  clear hr hr'
  unfold maxLen at hm hm'
  by_cases hbig : (1048576 : Int) < bs.length
  · go_enter Try.func4, Try.ntmps4
    go_wp2
    go_ret
    exact ⟨rfl, Below.refl _ _⟩
  by_cases hbig' : (1048576 : Int) < bs'.length
  · go_enter Try.func4, Try.ntmps4
    go_wp2
    go_ret
    exact ⟨rfl, Below.refl _ _⟩
  have hml : bs.length ≤ 1048576 := by omega
  have hml' : bs'.length ≤ 1048576 := by omega
  go_enter Try.func4, Try.ntmps4
  go_wp2_with fail
  refine (choice a bs cap 0 3000 _ (by omega) (by omega) (by omega) hml (by exact unhide HR)).mono ?_
  rintro e w1 ⟨r1, rfl, h1, q1, rfl⟩
  go_wp2_with fail
  refine (choice a' bs' cap' 0 300 _ (by omega) (by omega) (by omega) hml' (by exact unhide HR')).mono ?_
  rintro e w2 ⟨r2, rfl, h2, q2, rfl⟩
  go_wp2_with fail
  have hn : 1 ≤ 1 + (r1 : Int) + 5000 * r2 ∧ 1 + (r1 : Int) + 5000 * r2 ≤ 1500000 := by omega
  generalize 1 + (r1 : Int) + 5000 * r2 = n at *
  have HF : Hid (Below w.heap.size w (w.drewN (q1 + q2))) := hide (below_drewN (Below.refl _ _) _)
  generalize w.drewN (q1 + q2) = u at *
  clear h1 h2 hm hm' hml hml' hbig hbig' HR HR'
  refine (implCode n hn.1 (by omega) _).mono ?_
  rintro e w3 ⟨⟨k, rfl, ⟨k1, k2, k3⟩, k4⟩, rfl⟩
  by_cases hk0 : k = 0
  · subst hk0
    have e0 : met 0 = 1 := by decide
    obtain rfl : n = 1 := by omega
    clear k1 k2 k3 k4 hn
    go_wp2_with fail
    refine (ofIn 0 (by omega) _).mono ?_
    rintro e w4 ⟨rfl, rfl⟩
    rw [e0]
    clear e0
    go_wp2_with fail
    go_ret
    exact ⟨rfl, unhide HF⟩
  obtain ⟨j, rfl⟩ : ∃ j, k = j + 1 := ⟨k - 1, by omega⟩
  have k3' : met j < n := by rcases k3 with h | h; · omega
                             · exact h
  clear k3 hk0
  have hlt : ¬ met (j + 1) < n := by omega
  have K3 := hide k3'
  have KL := hide hlt
  have K4 := hide k4
  clear k2 k3' k4 hlt
  go_wp2_with fail
  refine (ofIn (j + 1) k1 _).mono ?_
  rintro e w4 ⟨rfl, rfl⟩
  generalize met (j + 1) = t at *
  have hjz : ¬ ((j : Int) + 1 == 0) = true := by simp; omega
  by_cases h256 : n ≤ 256
  · obtain rfl : t = n := unhide K4 h256
    clear KL K4
    go_wp2_with fail
    refine (ofIn j (by omega) _).mono ?_
    rintro e w5 ⟨rfl, rfl⟩
    have hless := unhide K3
    generalize met j = l at *
    go_wp2_with fail
    go_ret
    exact ⟨rfl, unhide HF⟩
  · have hlt := unhide KL
    clear KL K4
    go_wp2_with fail
    refine (ofIn j (by omega) _).mono ?_
    rintro e w5 ⟨rfl, rfl⟩
    have hless := unhide K3
    generalize met j = l at *
    go_wp2_with fail
    go_ret
    exact ⟨rfl, unhide HF⟩

set_option maxRecDepth 100000 in
theorem lifted (os : Os) (started : os.Started) (H : Type) (enc : TypeId × Value → H) :
    ReturnsInHanded {} Try.checked os 4 .any (Rows.fnMetricsSpec.pre6 enc Try.prog Try.f4 Rows.fnMetricsRow.domain false) (Rows.fnMetricsSpec.post enc Try.prog Try.f4 false true false false) := by
  refine returnsInHanded_of_change (C := Try.checked) own started (by kernel_rfl) Try.func4
    (ChangeSpec.witness6 (enc := enc) (C := Try.checked) false ⟨#[], #[.slice none 0 0, .slice none 0 0], []⟩ 8 (by kernel_rfl) (by kernel_rfl) (by kernel_rfl) (by kernel_rfl)) ?_
  intro W base args ds gs before hval0 hW hcnd _
  have hval : ∀ (j : Nat) t v, Try.f4.params[j]? = some t → args[j]? = some v → Value.okWide Try.prog W .any base t v := hval0
  have hW' := hW
  obtain ⟨p, q, hA0, hV, rfl, hfz, hnd⟩ := hW
  have hA : DataW.TrodAll enc Try.prog W 0 (fun _ => true) true Try.f4.params.toList args.toList ds p := hA0
  rw [Try.params4] at hA hval
  obtain ⟨v0, vs0, d0, ds0, p0, q0, hargs0, rfl, rfl, h0, r0⟩ := trodAll_cons hA
  obtain ⟨v1, vs1, d1, ds1, p1, q1, hargs1, rfl, rfl, h1, r1⟩ := trodAll_cons r0
  obtain ⟨rfl, rfl, rfl⟩ := trodAll_nil r1
  obtain rfl : args = #[v0, v1] := by cases args; simp_all
  obtain ⟨rfl, rfl⟩ := trodVars_none hV
  have k0 := h0
  have lt0 : ∀ x ∈ p0, x.block < W.heap.size := by obtain ⟨m, hm⟩ := k0; exact DataW.trod_lt m _ _ _ hm
  have k1 := h1
  have lt1 : ∀ x ∈ p1, x.block < W.heap.size := by obtain ⟨m, hm⟩ := k1; exact DataW.trod_lt m _ _ _ hm
  obtain ⟨a0, len0, cap0, rfl⟩ := okWide_slice Try.underlying22 (hval 0 22 v0 rfl rfl)
  obtain ⟨bs0, hlen0, hmx0, hrd0⟩ := Op.open_bytes h0
  subst hlen0
  obtain ⟨a1, len1, cap1, rfl⟩ := okWide_slice Try.underlying22 (hval 1 22 v1 rfl rfl)
  obtain ⟨bs1, hlen1, hmx1, hrd1⟩ := Op.open_bytes h1
  subst hlen1
  clear hA0 hval0
  refine (walk a0 bs0 cap0 hmx0 a1 bs1 cap1 hmx1 W hrd0 hrd1).mono fun e W' ⟨he, bel⟩ => ?_
  subst he
  exact ⟨_, rfl, _, _, _, [], _, [], hW', trodAll_mk1 (shut_bool Try.underlying4 _), (trodAll_cons_mk (Below.trod laidOut (by kernel_rfl) (of_decide_eq_true (by kernel_rfl)) k0 bel lt0) (trodAll_cons_mk (Below.trod laidOut (by kernel_rfl) (of_decide_eq_true (by kernel_rfl)) k1 bel lt1) trodAll_mk0)), rfl, bel.frame _, fun h => by cases h⟩

theorem over : Rows.fnMetricsRow.holds Try.pinned (OpenSpec.ofChange Rows.fnMetricsSpec) :=
  OpenClaim.holds_of_wide 4 Try.f4 rfl rfl rfl rfl rfl rfl rfl ⟨rfl, rfl, rfl, rfl, rfl⟩ rfl rfl rfl rfl rfl (by kernel_rfl) Try.func4 (by kernel_rfl)
    (of_decide_eq_true (by kernel_rfl)) (by unfold Func.isWrapper; first | (rw [if_pos (by decide +kernel)]; kernel_rfl) | (rw [if_neg (by decide +kernel)]; exact ⟨rfl, rfl⟩))
    (fun os started H enc _ => lifted os started H enc)
end Go.Proofs.Ytpknahhdapmcoaa.fnMetrics
namespace Go.Proofs.Ytpknahhdapmcoaa
/-- For all bytes a metric's code is the least whose metric is no less, and metrics up to 256 are exact. -/
theorem fnMetrics_holds : Rows.FnMetricsSaid := fnMetrics.over
end Go.Proofs.Ytpknahhdapmcoaa
