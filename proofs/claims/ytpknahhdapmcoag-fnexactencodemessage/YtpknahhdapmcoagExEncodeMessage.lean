/-
  Proved here: for every message, laws.FnExactEncodeMessage returns true (the program's EncodeMessage answers as its model, in memory of its own that a later call leaves alone) and leaves the message as it was. No condition.
-/
import Derived.Test.YtpknahhdapmcoagEnc
import Derived.Test.YtpknahhdapmcoagOpenMsg
namespace Go.Proofs.Ytpknahhdapmcoag.fnExactEncodeMessage
open Go.ChangeShapes Go.WideShapes Go.ChangeAt Go.RowKit
open W1 Nu By En
set_option linter.unusedVariables false

theorem own : ownKnob Try.prog.godebug = none := by kernel_rfl
theorem laidOut : laidOutB Try.prog = true := by kernel_rfl
theorem enc_len (ty og sq hl hp : Int) (body : ByteArray) : (enc ty og sq hl hp body).length ≤ 128 := by
  unfold enc
  split
  · rename_i h
    have := Ms.msgStr_size ty og sq hl hp body
    have := (okB_bounds h).2.2.2.2.2.2.2.2.2.2
    have : (Ms.msgStr ty og sq hl hp body).data.toList.length = (Ms.msgStr ty og sq hl hp body).size := by simp
    omega
  · simp
theorem reads_below {w w' : World} {a : Option Addr} {bs : List UInt8} (h : Reads w a bs) (hb : Below w.heap.size w w') : Reads w' a bs := by
  rcases h with h | ⟨g, off, rfl, hc⟩
  · exact .inl h
  · refine .inr ⟨g, off, rfl, fun i hi => ?_⟩
    rw [hb.cell (World.block_lt_of_cell? _ _ (hc i hi))]; exact hc i hi
theorem reads_wrote {w w' : World} {a : Option Addr} {bs : List UInt8} {g B : Nat} (h : Reads w a bs) (hb : Wrote w w' g) (ha : ∀ g' off, a = some ⟨g', off, none⟩ → 0 < bs.length → g' ≠ g) : Reads w' a bs := by
  rcases h with h | ⟨g', off, rfl, hc⟩
  · exact .inl h
  · by_cases h0 : 0 < bs.length
    · refine .inr ⟨g', off, rfl, fun i hi => ?_⟩
      rw [hb.cell (ha g' off rfl h0)]; exact hc i hi
    · exact .inl (by cases bs with | nil => rfl | cons x y => simp at h0)
theorem marks_below {w w' : World} {a : Option Addr} {n : Nat} {k : Int} (h : Marks w a n k) (hb : Below w.heap.size w w') : Marks w' a n k := by
  rcases h with h | ⟨g, off, rfl, hc⟩
  · exact .inl h
  · refine .inr ⟨g, off, rfl, fun i hi => ?_⟩
    rw [hb.cell (World.block_lt_of_cell? _ _ (hc i hi))]; exact hc i hi
theorem reads_lt {w : World} {a : Option Addr} {bs : List UInt8} (h : Reads w a bs) (h0 : 0 < bs.length) : ∀ g off, a = some ⟨g, off, none⟩ → g < w.heap.size := by
  intro g off e
  rcases h with rfl | ⟨g', off', e', hc⟩
  · simp at h0
  · rw [e'] at e; cases e
    exact World.block_lt_of_cell? _ _ (hc 0 h0)
theorem below_drewN (w : World) (n : Nat) : Below w.heap.size w (w.drewN n) := ⟨rfl, rfl, rfl, Nat.le_refl _, fun _ _ => rfl⟩

set_option maxHeartbeats 2000000 in
theorem walk (ty og sq hl hp : Int) (body : ByteArray) (hb : body.size ≤ maxLen) (w : World) :
    Calls Try.prog 5 #[.agg #[.int .i64 ty, .int .i64 og, .int .i64 sq, .int .i64 hl, .int .i64 hp, .string body]] w fun e w' => e = .returned (.bool true) ∧ Below w.heap.size w w' := by
  have hm := hb
  unfold maxLen at hm
  have hel := enc_len ty og sq hl hp body
  go_enter Try.func5, Try.ntmps5
  go_wp2_with fail
  refine (szMessage ty og sq hl hp body 1048576 (by omega) (by omega) hb _).mono ?_
  rintro e w1 ⟨rfl, b1⟩
  obtain ⟨c1, f1⟩ := bcell b1
  by_cases hneg : (1048576 : Int) - body.size < 0
  · have hleft : left 1048576 body.size = -1 := by unfold left; omega
    rw [hleft]; clear hleft
    go_wp2
    go_ret
    exact ⟨rfl, ((Below.refl _ _).alloc (Nat.le_refl _) _).trans (b1.mono (by simp))⟩
  · have hleft : left 1048576 body.size = 1048576 - body.size := by unfold left; omega
    rw [hleft]; clear hleft
    go_wp2_with fail
    refine (toMessage ty og sq hl hp body _).mono ?_
    rintro e w2 ⟨rfl, b2⟩
    have B2 := b1.trans (b2.mono b1.size)
    clear c1 f1
    obtain ⟨c2, f2⟩ := bcell B2
    go_wp2_with fail
    refine (specEnc ty og sq hl hp body _).mono ?_
    rintro e w3 ⟨aw, cw, rfl, b3, r3⟩
    have B3 := B2.trans (b3.mono B2.size)
    clear c2 f2
    obtain ⟨c3, f3⟩ := bcell B3
    generalize hbs : enc ty og sq hl hp body = bs at *
    have HBS := hide hbs
    clear hbs
    generalize hcd : code ty og sq hl hp body = cd at *
    have HCD := hide hcd
    clear hcd
    have R3 := hide r3
    clear r3
    go_wp2_with fail
    refine (toMessage ty og sq hl hp body _).mono ?_
    rintro e w4 ⟨rfl, b4⟩
    have B4 := B3.trans (b4.mono B3.size)
    have R4 := hide (reads_below (unhide R3) b4)
    clear c3 f3 R3
    obtain ⟨c4, f4⟩ := bcell B4
    go_wp2_with fail
    refine (implEnc ty og sq hl hp body _).mono ?_
    rintro e w5 ⟨ag, cg, g5, rfl, b5, r5, hg5, o5⟩
    rw [unhide HBS] at r5 o5
    rw [unhide HBS, unhide HCD]
    have B5 := B4.trans (b5.mono B4.size)
    have R5 := hide (reads_below (unhide R4) b5)
    have A5 := hide (reads_lt (unhide R4))
    have G5 := hide r5
    have O5 := hide o5
    clear c4 f4 r5 o5 R4
    go_wp2_with fail
    refine (eqSame ag aw cg cw bs _ (unhide G5) (unhide R5) (by unfold maxLen; omega)).mono ?_
    rintro e w6 ⟨rfl, q6, rfl⟩
    go_wp2_with fail
    refine (By.mark ag bs.length cg g5 1 (by omega) (by omega) (w5.drewN q6) (by omega) (unhide O5)).mono ?_
    rintro e w7 ⟨rfl, wr7, mk7⟩
    have R7 := hide (reads_wrote (B := 0) (w := w5.drewN q6) (unhide R5) wr7 (fun g' off e1 h0 => by have := unhide A5 h0 g' off e1; omega))
    have B7 := (B5.trans ((below_drewN w5 q6).mono B5.size)).trans (wr7.below (B := (w.alloc (.cells #[.int .i64 ty, .int .i64 og, .int .i64 sq, .int .i64 hl, .int .i64 hp, .string body] 24)).heap.size) (by have := B4.size; omega))
    have M7 := hide mk7
    clear mk7 wr7
    go_wp2_with fail
    refine (By.held ag bs.length cg 1 (by omega) (by omega) _ (by omega) (unhide M7)).mono ?_
    rintro e w8 ⟨rfl, rfl⟩
    obtain ⟨c7, f7⟩ := bcell B7
    have hp1 : ¬ (1 + (bs.length : Int) < 0) := by omega
    go_wp2_with fail
    refine (toMessage ty og sq hl hp body _).mono ?_
    rintro e w9 ⟨rfl, b9⟩
    have B9 := B7.trans (b9.mono B7.size)
    have R9 := hide (reads_below (unhide R7) b9)
    have M9 := hide (marks_below (unhide M7) b9)
    clear c7 f7 R7 M7
    go_wp2_with fail
    refine (implEnc ty og sq hl hp body _).mono ?_
    rintro e w10 ⟨ah, ch, g10, rfl, b10, r10, hg10, o10⟩
    rw [unhide HBS] at r10 o10
    rw [unhide HBS, unhide HCD]
    have B10 := B9.trans (b10.mono B9.size)
    have R10 := hide (reads_below (unhide R9) b10)
    have M10 := hide (marks_below (unhide M9) b10)
    have H10 := hide r10
    clear r10 o10 R9 M9
    go_wp2_with fail
    refine (eqSame ah aw ch cw bs _ (unhide H10) (unhide R10) (by unfold maxLen; omega)).mono ?_
    rintro e w11 ⟨rfl, q11, rfl⟩
    go_wp2_with fail
    refine (By.held ag bs.length cg 1 (by omega) (by omega) (w10.drewN q11) (by omega) (unhide M10)).mono ?_
    rintro e w12 ⟨rfl, rfl⟩
    have hfin : Below w.heap.size w (w10.drewN q11) := ((Below.refl _ _).alloc (Nat.le_refl _) _).trans ((B10.trans ((below_drewN w10 q11).mono B10.size)).mono (by simp))
    have HF := hide hfin
    clear hfin
    go_wp2
    go_ret
    exact ⟨rfl, unhide HF⟩

set_option maxRecDepth 100000 in
theorem lifted (os : Os) (started : os.Started) (H : Type) (enc : TypeId × Value → H) :
    ReturnsInHanded {} Try.checked os 5 .any (Rows.fnExactEncodeMessageSpec.pre6 enc Try.prog Try.f5 Rows.fnExactEncodeMessageRow.domain false) (Rows.fnExactEncodeMessageSpec.post enc Try.prog Try.f5 false true false false) := by
  refine returnsInHanded_of_change (C := Try.checked) own started (by kernel_rfl) Try.func5
    (ChangeSpec.witness6 (enc := enc) (C := Try.checked) false ⟨#[], #[.agg #[.int .i64 0, .int .i64 0, .int .i64 0, .int .i64 0, .int .i64 0, .string ByteArray.empty]], []⟩ 8 (by kernel_rfl) (by kernel_rfl) (by kernel_rfl) (by kernel_rfl)) ?_
  intro W base args ds gs before hval0 hW hcnd _
  have hval : ∀ (j : Nat) t v, Try.f5.params[j]? = some t → args[j]? = some v → Value.okWide Try.prog W .any base t v := hval0
  have hW' := hW
  obtain ⟨p, q, hA0, hV, rfl, hfz, hnd⟩ := hW
  have hA : DataW.TrodAll enc Try.prog W 0 (fun _ => true) true Try.f5.params.toList args.toList ds p := hA0
  rw [Try.params5] at hA hval
  obtain ⟨v0, vs0, d0, ds0, p0, q0, hargs, rfl, rfl, h0, r0⟩ := trodAll_cons hA
  obtain ⟨rfl, rfl, rfl⟩ := trodAll_nil r0
  obtain rfl : args = #[v0] := by cases args; simp_all
  obtain ⟨rfl, rfl⟩ := trodVars_none hV
  have k0 := h0
  have lt0 : ∀ x ∈ p0, x.block < W.heap.size := by obtain ⟨m, hm⟩ := k0; exact DataW.trod_lt m _ _ _ hm
  obtain ⟨ty, og, sq, hl, hp, body, rfl, _, _, _, _, _, hb⟩ := OM.open_msg (hval 0 24 v0 rfl rfl) h0
  clear hA0 hval0
  refine (walk ty og sq hl hp body hb W).mono fun e W' ⟨he, bel⟩ => ?_
  subst he
  exact ⟨_, rfl, _, _, _, [], _, [], hW', trodAll_mk1 (shut_bool Try.underlying4 _), (trodAll_cons_mk (Below.trod laidOut (by kernel_rfl) (of_decide_eq_true (by kernel_rfl)) k0 bel lt0) trodAll_mk0), rfl, bel.frame _, fun h => by cases h⟩

theorem over : Rows.fnExactEncodeMessageRow.holds Try.pinned (OpenSpec.ofChange Rows.fnExactEncodeMessageSpec) :=
  OpenClaim.holds_of_wide 5 Try.f5 rfl rfl rfl rfl rfl rfl rfl ⟨rfl, rfl, rfl, rfl, rfl⟩ rfl rfl rfl rfl rfl (by kernel_rfl) Try.func5 (by kernel_rfl)
    (of_decide_eq_true (by kernel_rfl)) (by unfold Func.isWrapper; first | (rw [if_pos (by decide +kernel)]; kernel_rfl) | (rw [if_neg (by decide +kernel)]; exact ⟨rfl, rfl⟩))
    (fun os started H enc _ => lifted os started H enc)
end Go.Proofs.Ytpknahhdapmcoag.fnExactEncodeMessage
namespace Go.Proofs.Ytpknahhdapmcoag
/-- For every message the program's EncodeMessage answers as its model. -/
theorem fnExactEncodeMessage_holds : Rows.FnExactEncodeMessageSaid := fnExactEncodeMessage.over
end Go.Proofs.Ytpknahhdapmcoag
