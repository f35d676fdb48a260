/-
  Proved here: for every argument, laws.FnExactMayForward returns true (the program's MayForward answers as its model), and leaves what came in as it was. No condition.
-/
import Derived.Test.YtlcppgnnlgigmabDupF
import Derived.Test.YtlcppgnnlgigmabOpenMsg
namespace Go.Proofs.Ytlcppgnnlgigmab.fnExactMayForward
open Go.ChangeShapes Go.WideShapes Go.ChangeAt Go.RowKit
open W1 Tu St Du
set_option linter.unusedVariables false
theorem own : ownKnob Try.prog.godebug = none := by kernel_rfl
theorem laidOut : laidOutB Try.prog = true := by kernel_rfl
/-- A message in a variable's block, the laws' type. -/
def Lm (w : World) (b : Nat) (ty og sq hl hp : Int) (body : ByteArray) : Prop := w.heap[b]? = some (.cells #[.int .i64 ty, .int .i64 og, .int .i64 sq, .int .i64 hl, .int .i64 hp, .string body] 38 (0, 0))
theorem Lm.cells {w : World} {b : Nat} {ty og sq hl hp : Int} {body : ByteArray} (h : Lm w b ty og sq hl hp body) : (w.cell? ⟨b, 0, none⟩ = some (.int .i64 ty) ∧ w.cell? ⟨b, 1, none⟩ = some (.int .i64 og) ∧ w.cell? ⟨b, 2, none⟩ = some (.int .i64 sq)) ∧ w.cell? ⟨b, 3, none⟩ = some (.int .i64 hl) ∧ w.cell? ⟨b, 4, none⟩ = some (.int .i64 hp) ∧ w.cell? ⟨b, 5, none⟩ = some (.string body) := by
  unfold Lm at h; refine ⟨⟨?_, ?_, ?_⟩, ?_, ?_, ?_⟩ <;> simp [World.cell?, h]
theorem Lm.lt {w : World} {b : Nat} {ty og sq hl hp : Int} {body : ByteArray} (h : Lm w b ty og sq hl hp body) : b < w.heap.size := (Array.getElem?_eq_some_iff.1 h).1
theorem Lm.below {w w' : World} {b : Nat} {ty og sq hl hp : Int} {body : ByteArray} (h : Lm w b ty og sq hl hp body) (hb : Below w.heap.size w w') : Lm w' b ty og sq hl hp body := (hb.block b h.lt).trans h
set_option maxRecDepth 100000 in
set_option maxHeartbeats 4000000 in
theorem walk (ty og sq hl hp : Int) (body : ByteArray) (hb : body.size ≤ maxLen) (a : Option Addr) (ms : List Tu.R) (cap : Nat) (hm_ms : ms.length ≤ maxLen) (frm : Int) (wf_frm : (Lit.int .i64 frm).wf = true) (now : Int) (wf_now : (Lit.int .i64 now).wf = true) (w : World) (hr : Tu.RM w a ms) :
    Calls Try.prog 6 #[.agg #[.int .i64 ty, .int .i64 og, .int .i64 sq, .int .i64 hl, .int .i64 hp, .string body], .slice a ms.length cap, .int .i64 frm, .int .i64 now] w fun e w' => e = .returned (.bool true) ∧ Below w.heap.size w w' := by
  have HR := hide hr
  clear hr
  obtain ⟨vv, hvv⟩ : ∃ vv, mayF (okB ty og sq hl hp body) ty hl hp ms frm now = vv := ⟨_, rfl⟩
  have HVV := hide hvv
  clear hvv
  obtain ⟨cd, hcd⟩ : ∃ cd, codeF (okB ty og sq hl hp body) ty ms = cd := ⟨_, rfl⟩
  have HC := hide hcd
  clear hcd
  have hne : (cd != cd) = false := by simp
  have hnv : (vv != vv) = false := by simp
  have hm := hb
  unfold maxLen at hm
  have HBX : Hid (Below w.heap.size w (w.alloc (.cells #[.int .i64 ty, .int .i64 og, .int .i64 sq, .int .i64 hl, .int .i64 hp, .string body] 38))) := hide ((Below.refl _ _).alloc (Nat.le_refl _) _)
  have HVX : Hid (Lm (w.alloc (.cells #[.int .i64 ty, .int .i64 og, .int .i64 sq, .int .i64 hl, .int .i64 hp, .string body] 38)) w.heap.size ty og sq hl hp body) := hide ((MapKept.heap_alloc w _).1)
  go_enter Try.func6, Try.ntmps6
  go_wp2_with fail
  refine (szMessage ty og sq hl hp body 1048576 (by omega) (by omega) hb _).mono ?_
  rintro e w1 ⟨rfl, b1⟩
  have B1 := (unhide HBX).trans (b1.mono (unhide HBX).size)
  have HV1 := hide ((unhide HVX).below b1)
  clear b1 HBX HVX
  by_cases hneg : (1048576 : Int) - body.size < 0
  · have hleft : left 1048576 body.size = -1 := by unfold left; omega
    rw [hleft]; clear hleft
    have HF := hide B1
    clear B1
    go_wp2_with fail
    go_ret
    exact ⟨rfl, unhide HF⟩
  obtain ⟨r1, hr1⟩ : ∃ r1 : Int, left 1048576 body.size = r1 := ⟨_, rfl⟩
  rw [hr1]
  have hnn : ¬ r1 < 0 := by unfold left at hr1; omega
  have hrl : r1 ≤ 1048576 := by unfold left at hr1; omega
  clear hr1
  go_wp2_with fail
  refine (Tu.szS a ms.length cap r1 _ (by omega) (by omega) hm_ms).mono ?_
  rintro e w2 ⟨r2, rfl, hw2, hr01⟩
  have b2 : Below w1.heap.size w1 w2 := by rw [hw2]; exact Below.refl _ _
  clear hw2
  have B2 := B1.trans (b2.mono B1.size)
  have HV2 := hide ((unhide HV1).below b2)
  rcases hr01 with hr0 | ⟨hr0, hr1⟩
  · go_wp2_with fail
    go_ret
    exact ⟨rfl, B2⟩
  have hnn2 : ¬ r2 < 0 := by omega
  have hml : ms.length ≤ 1048576 := by omega
  clear hr1 hm_ms
  obtain ⟨⟨c0, c1, c2⟩, c3, c4, c5⟩ := (unhide HV2).cells
  go_wp2_with fail
  refine (toMessage ty og sq hl hp body _).mono ?_
  rintro e w3 ⟨rfl, b3⟩
  have B3 := B2.trans (b3.mono B2.size)
  have HV3 := hide ((unhide HV2).below b3)
  clear c0 c1 c2 c3 c4 c5
  go_wp2_with fail
  refine (Tu.toS a ms cap _ hml ((unhide HR).below B3)).mono ?_
  rintro e w4 ⟨g4, rfl, b4, hg4, hz4, u4⟩
  have B4 := B3.trans (b4.mono B3.size)
  have HV4 := hide ((unhide HV3).below b4)
  have S4 : Hid (Tu.Lst w4 (some ⟨g4, 0, none⟩) ms w3.heap.size w4.heap.size) := hide (.inr ⟨g4, rfl, hg4, hz4, hz4, u4⟩)
  clear u4
  go_wp2_with fail
  refine (specMay ty og sq hl hp body _ _ ms _ frm now _ hml (unhide S4).rm).mono ?_
  rintro e w5 ⟨rfl, b5⟩
  rw [unhide HVV, unhide HC]
  have B5 := B4.trans (b5.mono B4.size)
  have HV5 := hide ((unhide HV4).below b5)
  go_wp2_with fail
  refine (Tu.toS a ms cap _ hml ((unhide HR).below B5)).mono ?_
  rintro e w6 ⟨g6, rfl, b6, hg6, hz6, u6⟩
  have B6 := B5.trans (b6.mono B5.size)
  have HV6 := hide ((unhide HV5).below b6)
  have X6 : Hid (Tu.Lst w6 (some ⟨g6, 0, none⟩) ms w5.heap.size w6.heap.size) := hide (.inr ⟨g6, rfl, hg6, hz6, hz6, u6⟩)
  clear u6
  obtain ⟨⟨c0, c1, c2⟩, c3, c4, c5⟩ := (unhide HV6).cells
  go_wp2_with fail
  refine (toMessage ty og sq hl hp body _).mono ?_
  rintro e w7 ⟨rfl, b7⟩
  have B7 := B6.trans (b7.mono B6.size)
  have HV7 := hide ((unhide HV6).below b7)
  clear c0 c1 c2 c3 c4 c5
  have X7 := hide ((unhide X6).below b7)
  go_wp2_with fail
  refine (implMay ty og sq hl hp body _ _ ms _ frm now _ hml (unhide X7).rm).mono ?_
  rintro e w8 ⟨rfl, b8⟩
  rw [unhide HVV, unhide HC]
  have B8 := B7.trans (b8.mono B7.size)
  have HV8 := hide ((unhide HV7).below b8)
  have X8 := hide ((unhide X7).below b8)
  go_wp2_with fail
  refine (Tu.toS a ms cap _ hml ((unhide HR).below B8)).mono ?_
  rintro e w9 ⟨g9, rfl, b9, hg9, hz9, u9⟩
  have B9 := B8.trans (b9.mono B8.size)
  have HV9 := hide ((unhide HV8).below b9)
  have Y9 : Hid (Tu.Lst w9 (some ⟨g9, 0, none⟩) ms w8.heap.size w9.heap.size) := hide (.inr ⟨g9, rfl, hg9, hz9, hz9, u9⟩)
  clear u9
  have X9 := hide ((unhide X8).below b9)
  go_wp2_with fail
  refine (Tu.eqS _ _ ms _ _ _ hml (unhide X9).rm (unhide Y9).rm).mono ?_
  rintro e w10 ⟨rfl, b10⟩
  have HF := hide (B9.trans (b10.mono B9.size))
  go_wp2_with fail
  go_ret
  exact ⟨rfl, unhide HF⟩

set_option maxRecDepth 100000 in
theorem lifted (os : Os) (started : os.Started) (H : Type) (enc : TypeId × Value → H) :
    ReturnsInHanded {} Try.checked os 6 .any (Rows.fnExactMayForwardSpec.pre6 enc Try.prog Try.f6 Rows.fnExactMayForwardRow.domain false) (Rows.fnExactMayForwardSpec.post enc Try.prog Try.f6 false true false false) := by
  refine returnsInHanded_of_change (C := Try.checked) own started (by kernel_rfl) Try.func6
    (ChangeSpec.witness6 (enc := enc) (C := Try.checked) false ⟨#[], #[.agg #[.int .i64 0, .int .i64 0, .int .i64 0, .int .i64 0, .int .i64 0, .string ByteArray.empty], .slice none 0 0, .int .i64 0, .int .i64 0], []⟩ 8 (by kernel_rfl) (by kernel_rfl) (by kernel_rfl) (by kernel_rfl)) ?_
  intro W base args ds gs before hval0 hW hcnd _
  have hval : ∀ (j : Nat) t v, Try.f6.params[j]? = some t → args[j]? = some v → Value.okWide Try.prog W .any base t v := hval0
  have hW' := hW
  obtain ⟨p, q, hA0, hV, rfl, hfz, hnd⟩ := hW
  have hA : DataW.TrodAll enc Try.prog W 0 (fun _ => true) true Try.f6.params.toList args.toList ds p := hA0
  rw [Try.params6] at hA hval
  obtain ⟨v0, vs0, d0, ds0, p0, q0, hargs0, rfl, rfl, h0, r0⟩ := trodAll_cons hA
  obtain ⟨v1, vs1, d1, ds1, p1, q1, hargs1, rfl, rfl, h1, r1⟩ := trodAll_cons r0
  obtain ⟨v2, vs2, d2, ds2, p2, q2, hargs2, rfl, rfl, h2, r2⟩ := trodAll_cons r1
  obtain ⟨v3, vs3, d3, ds3, p3, q3, hargs3, rfl, rfl, h3, r3⟩ := trodAll_cons r2
  obtain ⟨rfl, rfl, rfl⟩ := trodAll_nil r3
  obtain rfl : args = #[v0, v1, v2, v3] := by cases args; simp_all
  obtain ⟨rfl, rfl⟩ := trodVars_none hV
  have k0 := h0
  have lt0 : ∀ x ∈ p0, x.block < W.heap.size := by obtain ⟨m, hm⟩ := k0; exact DataW.trod_lt m _ _ _ hm
  have k1 := h1
  have lt1 : ∀ x ∈ p1, x.block < W.heap.size := by obtain ⟨m, hm⟩ := k1; exact DataW.trod_lt m _ _ _ hm
  have k2 := h2
  have lt2 : ∀ x ∈ p2, x.block < W.heap.size := by obtain ⟨m, hm⟩ := k2; exact DataW.trod_lt m _ _ _ hm
  have k3 := h3
  have lt3 : ∀ x ∈ p3, x.block < W.heap.size := by obtain ⟨m, hm⟩ := k3; exact DataW.trod_lt m _ _ _ hm
  obtain ⟨ty0, og0, sq0, hl0, hp0, body0, rfl, _, _, _, _, _, hb0⟩ := OM.open_msg (hval 0 38 v0 rfl rfl) h0
  obtain ⟨a1, len1, cap1, rfl⟩ := okWide_slice Try.underlying25 (hval 1 25 v1 rfl rfl)
  obtain ⟨ms1, hlen1, hmx1, hrd1⟩ := Tu.open_list h1
  subst hlen1
  obtain ⟨n2, rfl, _, _, wf2⟩ := open_int Try.underlying3 (hval 2 3 v2 rfl rfl) h2
  obtain ⟨n3, rfl, _, _, wf3⟩ := open_int Try.underlying3 (hval 3 3 v3 rfl rfl) h3
  clear hA0 hval0
  refine (walk ty0 og0 sq0 hl0 hp0 body0 hb0 a1 ms1 cap1 hmx1 n2 wf2 n3 wf3 W hrd1).mono fun e W' ⟨he, bel⟩ => ?_
  subst he
  exact ⟨_, rfl, _, _, _, [], _, [], hW', trodAll_mk1 (shut_bool Try.underlying4 _), (trodAll_cons_mk (Below.trod laidOut (by kernel_rfl) (of_decide_eq_true (by kernel_rfl)) k0 bel lt0) (trodAll_cons_mk (Below.trod laidOut (by kernel_rfl) (of_decide_eq_true (by kernel_rfl)) k1 bel lt1) (trodAll_cons_mk (Below.trod laidOut (by kernel_rfl) (of_decide_eq_true (by kernel_rfl)) k2 bel lt2) (trodAll_cons_mk (Below.trod laidOut (by kernel_rfl) (of_decide_eq_true (by kernel_rfl)) k3 bel lt3) trodAll_mk0)))), rfl, bel.frame _, fun h => by cases h⟩

theorem over : Rows.fnExactMayForwardRow.holds Try.pinned (OpenSpec.ofChange Rows.fnExactMayForwardSpec) :=
  OpenClaim.holds_of_wide 6 Try.f6 rfl rfl rfl rfl rfl rfl rfl ⟨rfl, rfl, rfl, rfl, rfl⟩ rfl rfl rfl rfl rfl (by kernel_rfl) Try.func6 (by kernel_rfl)
    (of_decide_eq_true (by kernel_rfl)) (by unfold Func.isWrapper; first | (rw [if_pos (by decide +kernel)]; kernel_rfl) | (rw [if_neg (by decide +kernel)]; exact ⟨rfl, rfl⟩))
    (fun os started H enc _ => lifted os started H enc)
end Go.Proofs.Ytlcppgnnlgigmab.fnExactMayForward
namespace Go.Proofs.Ytlcppgnnlgigmab
/-- At every argument the program's MayForward answers as its model. -/
theorem fnExactMayForward_holds : Rows.FnExactMayForwardSaid := fnExactMayForward.over
end Go.Proofs.Ytlcppgnnlgigmab
