/-
  Proved here: for every argument, laws.FnExactForwarded returns true (the program's Forwarded answers as its model), and leaves what came in as it was. No condition.
-/
import Derived.Test.YtlcppgnnlgigmabDupF
import Derived.Test.YtlcppgnnlgigmabOpenMsg
namespace Go.Proofs.Ytlcppgnnlgigmab.fnExactForwarded
open Go.ChangeShapes Go.WideShapes Go.ChangeAt Go.RowKit
open W1 Tu St Du
set_option linter.unusedVariables false
theorem own : ownKnob Try.prog.godebug = none := by kernel_rfl
theorem laidOut : laidOutB Try.prog = true := by kernel_rfl
/-- A message in a variable's block, the laws' type. -/
def Lm (w : World) (b : Nat) (ty og sq hl hp : Int) (body : ByteArray) : Prop := w.heap[b]? = some (.cells #[.int .i64 ty, .int .i64 og, .int .i64 sq, .int .i64 hl, .int .i64 hp, .string body] 38 (0, 0))
theorem Lm.cells {w : World} {b : Nat} {ty og sq hl hp : Int} {body : ByteArray} (h : Lm w b ty og sq hl hp body) : (w.cell? ⟨b, 0, none⟩ = some (.int .i64 ty) ∧ w.cell? ⟨b, 1, none⟩ = some (.int .i64 og) ∧ w.cell? ⟨b, 2, none⟩ = some (.int .i64 sq)) ∧ w.cell? ⟨b, 3, none⟩ = some (.int .i64 hl) ∧ w.cell? ⟨b, 4, none⟩ = some (.int .i64 hp) ∧ w.cell? ⟨b, 5, none⟩ = some (.string body) := by
  unfold Lm at h; refine ⟨⟨?_, ?_, ?_⟩, ?_, ?_, ?_⟩ <;> simp [World.cell?, h]
theorem Lm.lt {w : World} {b : Nat} {ty og sq hl hp : Int} {body : ByteArray} (h : Lm w b ty og sq hl hp body) : b < w.heap.size := (Array.getElem?_eq_some_iff.1 h).1
theorem Lm.below {w w' : World} {b : Nat} {ty og sq hl hp : Int} {body : ByteArray} (h : Lm w b ty og sq hl hp body) (hb : Below w.heap.size w w') : Lm w' b ty og sq hl hp body := (hb.block b h.lt).trans h
theorem fwd_form (ok : Bool) (ty og sq hl hp : Int) (body : ByteArray) : ∃ (x0 x1 x2 x3 x4 : Int) (x5 : ByteArray), fwdV ok ty og sq hl hp body = .agg #[.int .i64 x0, .int .i64 x1, .int .i64 x2, .int .i64 x3, .int .i64 x4, .string x5] := by
  unfold fwdV; split <;> exact ⟨_, _, _, _, _, _, rfl⟩
set_option maxHeartbeats 1000000 in
theorem eqMessage (ty og sq hl hp : Int) (body : ByteArray) (w : World) :
    Calls Try.prog 25 #[.agg #[.int .i64 ty, .int .i64 og, .int .i64 sq, .int .i64 hl, .int .i64 hp, .string body], .agg #[.int .i64 ty, .int .i64 og, .int .i64 sq, .int .i64 hl, .int .i64 hp, .string body]] w fun e w' => e = .returned (.bool true) ∧ Below w.heap.size w w' := by
  go_enter Try.func25, Try.ntmps25
  go_wp2
  go_ret
  exact ⟨rfl, ((Below.refl _ _).alloc (Nat.le_refl _) _).alloc (by simp) _⟩
set_option maxRecDepth 100000 in
set_option maxHeartbeats 4000000 in
theorem walk (ty og sq hl hp : Int) (body : ByteArray) (hb : body.size ≤ maxLen) (w : World) :
    Calls Try.prog 7 #[.agg #[.int .i64 ty, .int .i64 og, .int .i64 sq, .int .i64 hl, .int .i64 hp, .string body]] w fun e w' => e = .returned (.bool true) ∧ Below w.heap.size w w' := by
  obtain ⟨x0, x1, x2, x3, x4, x5, hx⟩ := fwd_form (okB ty og sq hl hp body) ty og sq hl hp body
  have HX := hide hx
  clear hx
  obtain ⟨cd, hcd⟩ : ∃ cd, codeG (okB ty og sq hl hp body) hl hp = cd := ⟨_, rfl⟩
  have HC := hide hcd
  clear hcd
  have hne : (cd != cd) = false := by simp
  have hm := hb
  unfold maxLen at hm
  have HBX : Hid (Below w.heap.size w (w.alloc (.cells #[.int .i64 ty, .int .i64 og, .int .i64 sq, .int .i64 hl, .int .i64 hp, .string body] 38))) := hide ((Below.refl _ _).alloc (Nat.le_refl _) _)
  have HVX : Hid (Lm (w.alloc (.cells #[.int .i64 ty, .int .i64 og, .int .i64 sq, .int .i64 hl, .int .i64 hp, .string body] 38)) w.heap.size ty og sq hl hp body) := hide ((MapKept.heap_alloc w _).1)
  go_enter Try.func7, Try.ntmps7
  go_wp2_with fail
  refine (szMessage ty og sq hl hp body 1048576 (by omega) (by omega) hb _).mono ?_
  rintro e w1 ⟨rfl, b1⟩
  have B1 := (unhide HBX).trans (b1.mono (unhide HBX).size)
  have HV1 := hide ((unhide HVX).below b1)
  clear b1 HBX HVX
  by_cases hneg : (1048576 : Int) - body.size < 0
  · have hleft : left 1048576 body.size = -1 := by unfold left; omega
    rw [hleft]; clear hleft
    have HF := hide B1
    clear B1
    go_wp2_with fail
    go_ret
    exact ⟨rfl, unhide HF⟩
  obtain ⟨r1, hr1⟩ : ∃ r1 : Int, left 1048576 body.size = r1 := ⟨_, rfl⟩
  rw [hr1]
  have hnn : ¬ r1 < 0 := by unfold left at hr1; omega
  have hrl : r1 ≤ 1048576 := by unfold left at hr1; omega
  clear hr1
  obtain ⟨⟨c0, c1, c2⟩, c3, c4, c5⟩ := (unhide HV1).cells
  go_wp2_with fail
  refine (toMessage ty og sq hl hp body _).mono ?_
  rintro e w2 ⟨rfl, b2⟩
  have B2 := B1.trans (b2.mono B1.size)
  have HV2 := hide ((unhide HV1).below b2)
  clear c0 c1 c2 c3 c4 c5
  go_wp2_with fail
  refine (specFwd ty og sq hl hp body _).mono ?_
  rintro e w3 ⟨rfl, b3⟩
  rw [unhide HX, unhide HC]
  have B3 := B2.trans (b3.mono B2.size)
  have HV3 := hide ((unhide HV2).below b3)
  obtain ⟨w4, hw4⟩ : ∃ w4, w3.alloc (.cells #[.int .i64 x0, .int .i64 x1, .int .i64 x2, .int .i64 x3, .int .i64 x4, .string x5] 42) = w4 := ⟨_, rfl⟩
  have b4 : Below w3.heap.size w3 w4 := by rw [← hw4]; exact (Below.refl _ _).alloc (Nat.le_refl _) _
  have B4 := B3.trans (b4.mono B3.size)
  have HV4 := hide ((unhide HV3).below b4)
  have HW4 : Hid (Mb w4 w3.heap.size x0 x1 x2 x3 x4 x5) := hide (by rw [← hw4]; exact mb_new _ _ _ _ _ _ _)
  have HE4 := hide hw4
  clear hw4 b3 b4
  obtain ⟨⟨c0, c1, c2⟩, c3, c4, c5⟩ := (unhide HV4).cells
  have hcc := And.intro c0 (And.intro c1 (And.intro c2 (And.intro c3 (And.intro c4 c5))))
  clear c0 c1 c2 c3 c4 c5
  rw [← unhide HE4] at hcc
  obtain ⟨c0, c1, c2, c3, c4, c5⟩ := hcc
  go_wp2_with fail
  rw [unhide HE4]
  refine (toMessage ty og sq hl hp body _).mono ?_
  rintro e w5 ⟨rfl, b5⟩
  have B5 := B4.trans (b5.mono B4.size)
  have HV5 := hide ((unhide HV4).below b5)
  have HW5 := hide ((unhide HW4).below b5)
  clear c0 c1 c2 c3 c4 c5
  go_wp2_with fail
  refine (implFwd ty og sq hl hp body _).mono ?_
  rintro e w6 ⟨rfl, b6⟩
  rw [unhide HX, unhide HC]
  have B6 := B5.trans (b6.mono B5.size)
  have HV6 := hide ((unhide HV5).below b6)
  have HW6 := hide ((unhide HW5).below b6)
  obtain ⟨w7, hw7⟩ : ∃ w7, w6.alloc (.cells #[.int .i64 x0, .int .i64 x1, .int .i64 x2, .int .i64 x3, .int .i64 x4, .string x5] 42) = w7 := ⟨_, rfl⟩
  have b7 : Below w6.heap.size w6 w7 := by rw [← hw7]; exact (Below.refl _ _).alloc (Nat.le_refl _) _
  have B7 := B6.trans (b7.mono B6.size)
  have HV7 := hide ((unhide HV6).below b7)
  have HG7 : Hid (Mb w7 w6.heap.size x0 x1 x2 x3 x4 x5) := hide (by rw [← hw7]; exact mb_new _ _ _ _ _ _ _)
  have HW7 := hide ((unhide HW6).below b7)
  have HE7 := hide hw7
  clear hw7 b6 b7
  obtain ⟨⟨c0, c1, c2⟩, c3, c4, c5⟩ := (unhide HG7).cells
  obtain ⟨⟨d0, d1, d2⟩, d3, d4, d5⟩ := (unhide HW7).cells
  have hcc := And.intro c0 (And.intro c1 (And.intro c2 (And.intro c3 (And.intro c4 c5))))
  have hdd := And.intro d0 (And.intro d1 (And.intro d2 (And.intro d3 (And.intro d4 d5))))
  clear c0 c1 c2 c3 c4 c5 d0 d1 d2 d3 d4 d5
  rw [← unhide HE7] at hcc hdd
  obtain ⟨c0, c1, c2, c3, c4, c5⟩ := hcc
  obtain ⟨d0, d1, d2, d3, d4, d5⟩ := hdd
  go_wp2_with fail
  rw [unhide HE7]
  refine (eqMessage x0 x1 x2 x3 x4 x5 _).mono ?_
  rintro e w8 ⟨rfl, b8⟩
  have HF := hide (B7.trans (b8.mono B7.size))
  clear c0 c1 c2 c3 c4 c5 d0 d1 d2 d3 d4 d5 b8
  go_wp2_with fail
  go_ret
  exact ⟨rfl, unhide HF⟩

set_option maxRecDepth 100000 in
theorem lifted (os : Os) (started : os.Started) (H : Type) (enc : TypeId × Value → H) :
    ReturnsInHanded {} Try.checked os 7 .any (Rows.fnExactForwardedSpec.pre6 enc Try.prog Try.f7 Rows.fnExactForwardedRow.domain false) (Rows.fnExactForwardedSpec.post enc Try.prog Try.f7 false true false false) := by
  refine returnsInHanded_of_change (C := Try.checked) own started (by kernel_rfl) Try.func7
    (ChangeSpec.witness6 (enc := enc) (C := Try.checked) false ⟨#[], #[.agg #[.int .i64 0, .int .i64 0, .int .i64 0, .int .i64 0, .int .i64 0, .string ByteArray.empty]], []⟩ 8 (by kernel_rfl) (by kernel_rfl) (by kernel_rfl) (by kernel_rfl)) ?_
  intro W base args ds gs before hval0 hW hcnd _
  have hval : ∀ (j : Nat) t v, Try.f7.params[j]? = some t → args[j]? = some v → Value.okWide Try.prog W .any base t v := hval0
  have hW' := hW
  obtain ⟨p, q, hA0, hV, rfl, hfz, hnd⟩ := hW
  have hA : DataW.TrodAll enc Try.prog W 0 (fun _ => true) true Try.f7.params.toList args.toList ds p := hA0
  rw [Try.params7] at hA hval
  obtain ⟨v0, vs0, d0, ds0, p0, q0, hargs0, rfl, rfl, h0, r0⟩ := trodAll_cons hA
  obtain ⟨rfl, rfl, rfl⟩ := trodAll_nil r0
  obtain rfl : args = #[v0] := by cases args; simp_all
  obtain ⟨rfl, rfl⟩ := trodVars_none hV
  have k0 := h0
  have lt0 : ∀ x ∈ p0, x.block < W.heap.size := by obtain ⟨m, hm⟩ := k0; exact DataW.trod_lt m _ _ _ hm
  obtain ⟨ty0, og0, sq0, hl0, hp0, body0, rfl, _, _, _, _, _, hb0⟩ := OM.open_msg (hval 0 38 v0 rfl rfl) h0
  clear hA0 hval0
  refine (walk ty0 og0 sq0 hl0 hp0 body0 hb0 W).mono fun e W' ⟨he, bel⟩ => ?_
  subst he
  exact ⟨_, rfl, _, _, _, [], _, [], hW', trodAll_mk1 (shut_bool Try.underlying4 _), (trodAll_cons_mk (Below.trod laidOut (by kernel_rfl) (of_decide_eq_true (by kernel_rfl)) k0 bel lt0) trodAll_mk0), rfl, bel.frame _, fun h => by cases h⟩

theorem over : Rows.fnExactForwardedRow.holds Try.pinned (OpenSpec.ofChange Rows.fnExactForwardedSpec) :=
  OpenClaim.holds_of_wide 7 Try.f7 rfl rfl rfl rfl rfl rfl rfl ⟨rfl, rfl, rfl, rfl, rfl⟩ rfl rfl rfl rfl rfl (by kernel_rfl) Try.func7 (by kernel_rfl)
    (of_decide_eq_true (by kernel_rfl)) (by unfold Func.isWrapper; first | (rw [if_pos (by decide +kernel)]; kernel_rfl) | (rw [if_neg (by decide +kernel)]; exact ⟨rfl, rfl⟩))
    (fun os started H enc _ => lifted os started H enc)
end Go.Proofs.Ytlcppgnnlgigmab.fnExactForwarded
namespace Go.Proofs.Ytlcppgnnlgigmab
/-- At every argument the program's Forwarded answers as its model. -/
theorem fnExactForwarded_holds : Rows.FnExactForwardedSaid := fnExactForwarded.over
end Go.Proofs.Ytlcppgnnlgigmab
