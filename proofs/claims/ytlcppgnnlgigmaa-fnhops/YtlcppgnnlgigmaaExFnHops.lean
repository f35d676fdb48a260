/-
  Proved here: for all slices of bytes, laws.FnHops returns true (a message is passed on only with hops left, for one that has chosen us; each time it has one less) and leaves the slices as they were. No condition.
-/
import Derived.Test.YtlcppgnnlgigmaaMsgDh
import Derived.Test.YtlcppgnnlgigmaaDupD
import Derived.Test.YtlcppgnnlgigmaaDupF
import Derived.Test.YtlcppgnnlgigmaaAt
namespace Go.Proofs.Ytlcppgnnlgigmaa.fnHops
open Go.ChangeShapes Go.WideShapes Go.ChangeAt Go.RowKit
open W1 By Tu St Du
set_option linter.unusedVariables false
set_option linter.unusedSimpArgs false
attribute [local go_sem ↓] Go.wp_at_zero Go.wp_at_succ
theorem own : ownKnob Try.prog.godebug = none := by kernel_rfl
theorem laidOut : laidOutB Try.prog = true := by kernel_rfl
theorem ok_two {ty og sq hl hp : Int} {body : ByteArray} (h : okB ty og sq hl hp body = true) : okB 2 og sq hl hp body = true := by
  unfold okB inB at *
  simp at h ⊢
  omega
theorem ok_in {ty og sq hl hp : Int} {body : ByteArray} (h : okB ty og sq hl hp body = true) : 0 ≤ hl ∧ hl ≤ 255 ∧ 0 ≤ hp ∧ hp ≤ 255 := by
  unfold okB inB at h
  simp at h
  omega
theorem below_dN {w : World} (q : Nat) : Below w.heap.size w (w.drewN q) := ⟨rfl, rfl, rfl, Nat.le_refl _, fun _ _ => rfl⟩
theorem Tu_lt {w : World} {b : Nat} {m : R} (h : Bx w b m) : b < w.heap.size := World.block_lt_of_cell? _ _ h.1
set_option maxRecDepth 100000 in
set_option maxHeartbeats 8000000 in
theorem walk (a : Option Addr) (bs : List UInt8) (cap : Nat) (hm0 : bs.length ≤ maxLen) (a' : Option Addr) (bs' : List UInt8) (cap' : Nat) (hm0' : bs'.length ≤ maxLen) (w : World) (hr : Reads w a bs) (hr' : Reads w a' bs') :
    Calls Try.prog 5 #[.slice a bs.length cap, .slice a' bs'.length cap'] w fun e w' => e = .returned (.bool true) ∧ Below w.heap.size w w' := by
  unfold maxLen at hm0 hm0'
  by_cases hb : (1048576 : Int) < bs.length
  · go_enter Try.func5, Try.ntmps5
    go_wp2
    go_ret
    exact ⟨rfl, Below.refl _ _⟩
  by_cases hb' : (1048576 : Int) < bs'.length
  · go_enter Try.func5, Try.ntmps5
    go_wp2
    go_ret
    exact ⟨rfl, Below.refl _ _⟩
  have hbm : bs.length ≤ 1048576 := by omega
  have hbm' : bs'.length ≤ 1048576 := by omega
  have HR := hide hr
  have HR' := hide hr'
  clear hr hr'
  go_enter Try.func5, Try.ntmps5
  go_wp2_with fail
  refine (Md.messageOf a bs cap _ hbm (unhide HR)).mono ?_
  rintro e w1 ⟨ty, og, sq, hl, hp, body, rfl, ⟨hok, hp3⟩, b1⟩
  have HOK := hide (ok_two hok)
  have hin := ok_in hok
  have HB2 := hide (b1.alloc b1.size (.cells #[.int .i64 2, .int .i64 og, .int .i64 sq, .int .i64 hl, .int .i64 hp, .string body] 62))
  have HM2 : Hid (Mb (w1.alloc (.cells #[.int .i64 2, .int .i64 og, .int .i64 sq, .int .i64 hl, .int .i64 hp, .string body] 62)) w1.heap.size 2 og sq hl hp body) := hide (mb_new _ _ _ _ _ _ _)
  clear hok b1
  obtain ⟨w2, hw2⟩ : ∃ w2, w1.alloc (.cells #[.int .i64 2, .int .i64 og, .int .i64 sq, .int .i64 hl, .int .i64 hp, .string body] 62) = w2 := ⟨_, rfl⟩
  rw [hw2] at HB2 HM2
  have HW2 := hide hw2
  clear hw2
  go_wp2_with fail
  rw [unhide HW2]
  refine (selectorsOf a' bs' cap' _ hbm' (Md.reads_under (unhide HR') (unhide HB2))).mono ?_
  rintro e w3 ⟨v3, ms, rfl, hv3, hset, hl3, b3⟩
  obtain ⟨g3, cp, rfl, hg3, hz3, hrm⟩ := hv3
  have HB3 := hide ((unhide HB2).trans (b3.mono (unhide HB2).size))
  have HM3 := hide ((unhide HM2).below b3)
  have HS := hide hset
  have HRM3 := hide hrm
  clear b3 hset hrm hg3 hz3 HM2 HB2
  go_wp2_with fail
  refine (At.choice a' bs' cap' 0 8 _ (by omega) (by omega) (by omega) hbm' (Md.reads_under (unhide HR') (unhide HB3))).mono ?_
  rintro e w4 ⟨k0, rfl, hk0, q4, hq4⟩
  have b4 : Below w3.heap.size w3 w4 := by rw [hq4]; exact below_dN _
  have HB4 := hide ((unhide HB3).trans (b4.mono (unhide HB3).size))
  have HM4 := hide ((unhide HM3).below b4)
  have HRM4 := hide ((unhide HRM3).below b4)
  clear b4 hq4 HM3 HRM3
  go_wp2_with fail
  refine (At.choice a' bs' cap' 1 20 _ (by omega) (by omega) (by omega) hbm' (Md.reads_under (unhide HR') (unhide HB4))).mono ?_
  rintro e w5 ⟨k1, rfl, hk1, q5, hq5⟩
  have b5 : Below w4.heap.size w4 w5 := by rw [hq5]; exact below_dN _
  have HB5 := hide ((unhide HB4).trans (b5.mono (unhide HB4).size))
  have HM5 := hide ((unhide HM4).below b5)
  have HRM5 := hide ((unhide HRM4).below b5)
  clear b5 hq5 HM4 HRM4
  have hfr1 : 1 ≤ 1 + (k0 : Int) ∧ 1 + (k0 : Int) ≤ 8 := by omega
  obtain ⟨frm, hfrm⟩ : ∃ frm : Int, 1 + (k0 : Int) = frm := ⟨_, rfl⟩
  rw [hfrm] at hfr1
  have HFR := hide hfrm
  clear hfrm
  obtain ⟨T, hT⟩ : ∃ T, thereB ms frm = T := ⟨_, rfl⟩
  obtain ⟨m, hm⟩ : ∃ m, findA ms frm = m := ⟨_, rfl⟩
  have hc0 := code_zero (unhide HS)
  have HCF : Hid (codeF (okB 2 og sq hl hp body) 2 ms = 0) := hide (by rw [unhide HOK]; unfold codeF; rw [if_pos hc0]; rfl)
  have HMY : Hid (mayF (okB 2 og sq hl hp body) 2 hl hp ms frm (k1 : Int) = (T && decide ((k1 : Int) < m.til) && decide (1 < hl))) := hide (by
    unfold mayF
    rw [unhide HCF]
    have hfw : fwdB hl hp = decide (1 < hl) := by unfold fwdB; rw [decide_eq_true (show hp < 255 by omega), Bool.and_true]
    have hla : lastB ms frm (k1 : Int) = (T && decide ((k1 : Int) < m.til)) := by
      unfold lastB
      rw [hT]
      cases T
      · rfl
      · rw [← hm]; unfold findA; rw [if_pos ⟨hc0, hT⟩]
    rw [hfw, hla]
    rfl)
  have HDE : Hid (dropE ms frm = if T = true then 0 else 5) := hide (by unfold dropE dropC; rw [if_pos hc0, hT])
  have HCG : Hid (codeG (okB 2 og sq hl hp body) hl hp = if 1 < hl then 0 else 19) := hide (by
    rw [unhide HOK]
    unfold codeG fwdB
    rw [decide_eq_true (show hp < 255 by omega), Bool.and_true, if_pos rfl]
    by_cases h : 1 < hl <;> simp [h])
  have HFV : Hid (1 < hl → fwdV (okB 2 og sq hl hp body) 2 og sq hl hp body = .agg #[.int .i64 2, .int .i64 og, .int .i64 sq, .int .i64 (hl - 1), .int .i64 (hp + 1), .string body]) := hide (fun h => by unfold fwdV; rw [unhide HCG, if_pos h, if_pos rfl])
  have HFZ : Hid (¬ 1 < hl → fwdV (okB 2 og sq hl hp body) 2 og sq hl hp body = .agg #[.int .i64 0, .int .i64 0, .int .i64 0, .int .i64 0, .int .i64 0, .string ⟨#[]⟩]) := hide (fun h => by unfold fwdV; rw [unhide HCG, if_neg h, if_neg (by omega)])
  have HM := hide hm
  clear hT hm hc0 hfr1
  obtain ⟨ke, ti, va⟩ := m
  dsimp only at HMY
  by_cases h1 : 1 < hl
  · rw [if_pos h1] at HCG
    have hfv := hide (unhide HFV h1)
    have h2 : ¬ hl < 2 := by omega
    clear HFV HFZ
    cases T
    rotate_left
    by_cases h3 : (k1 : Int) < ti
    all_goals
      have HMV := hide ((unhide HMY).trans (by first | (rw [decide_eq_true h3]) | (rw [decide_eq_false h3]) | rw [Bool.false_and]))
      first | rw [decide_eq_true h1] at HMV | rw [decide_eq_false h1] at HMV | skip
      try simp only [Bool.true_and, Bool.and_true, Bool.false_and, Bool.and_false] at HMV
      have HDV := hide (unhide HDE)
      first | rw [if_pos rfl] at HDV | rw [if_neg (by simp)] at HDV
      obtain ⟨⟨c0, c1, c2⟩, c3, c4, c5⟩ := (unhide HM5).cells
      go_wp2_with fail
      rw [unhide HFR]
      refine (implMay 2 og sq hl hp body g3 0 ms cp frm k1 _ (by omega) (unhide HRM5)).mono ?_
      rintro e w6 ⟨rfl, b6⟩
      rw [unhide HMV, unhide HCF]
      have HB6 := hide ((unhide HB5).trans (b6.mono (unhide HB5).size))
      have HM6 := hide ((unhide HM5).below b6)
      have HRM6 := hide ((unhide HRM5).below b6)
      clear b6 c0 c1 c2 c3 c4 c5
      go_wp2_with fail
      try rw [unhide HFR]
      refine (implFind g3 0 ms cp frm _ (by omega) (unhide HRM6)).mono ?_
      rintro e w7 ⟨rfl, b7⟩
      rw [unhide HM, unhide HDV]
      unfold R.value
      dsimp only
      have HB7 := hide ((unhide HB6).trans (b7.mono (unhide HB6).size))
      have HM7 := hide ((unhide HM6).below b7)
      have HB8 := hide ((unhide HB7).alloc (unhide HB7).size (.cells #[.int .i64 ke, .int .i64 ti, .int .i64 va] 57))
      have HM8 := hide ((unhide HM7).below ((Below.refl _ _).alloc (Nat.le_refl _) (.cells #[.int .i64 ke, .int .i64 ti, .int .i64 va] 57)))
      have HT8 : Hid (Bx (w7.alloc (.cells #[.int .i64 ke, .int .i64 ti, .int .i64 va] 57)) w7.heap.size ⟨ke, ti, va⟩) := hide (bx_new w7 ⟨ke, ti, va⟩ _)
      obtain ⟨w8, hw8⟩ : ∃ w8, w7.alloc (.cells #[.int .i64 ke, .int .i64 ti, .int .i64 va] 57) = w8 := ⟨_, rfl⟩
      rw [hw8] at HB8 HM8 HT8
      have HW8 := hide hw8
      obtain ⟨⟨c0, c1, c2⟩, c3, c4, c5⟩ := (unhide HM8).cells
      rw [← hw8] at c0 c1 c2 c3 c4 c5
      clear b7 hw8
      go_wp2_with fail
      rw [unhide HW8]
      refine (implFwd 2 og sq hl hp body _).mono ?_
      rintro e w9 ⟨rfl, b9⟩
      rw [unhide hfv, unhide HCG]
      have HB9 := hide ((unhide HB8).trans (b9.mono (unhide HB8).size))
      have HM9 := hide ((unhide HM8).below b9)
      have HT9 := hide ((unhide HT8).below b9)
      have hlm := (unhide HM9).lt
      have hlt := Tu_lt (unhide HT9)
      have HBA := hide (fun o => (unhide HB9).alloc (unhide HB9).size o)
      clear b9 c0 c1 c2 c3 c4 c5
      obtain ⟨⟨c0, c1, c2⟩, c3, c4, c5⟩ := (unhide HM9).cells
      obtain ⟨t0, t1, t2⟩ := unhide HT9
      go_wp2_with fail
      go_ret
      exact ⟨rfl, unhide HBA _⟩
  · rw [if_neg h1] at HCG
    have hfv := hide (unhide HFZ h1)
    have h2 : hl < 2 := by omega
    clear HFV HFZ
    cases T
    rotate_left
    by_cases h3 : (k1 : Int) < ti
    all_goals
      have HMV := hide ((unhide HMY).trans (by first | (rw [decide_eq_true h3]) | (rw [decide_eq_false h3]) | rw [Bool.false_and]))
      first | rw [decide_eq_true h1] at HMV | rw [decide_eq_false h1] at HMV | skip
      try simp only [Bool.true_and, Bool.and_true, Bool.false_and, Bool.and_false] at HMV
      have HDV := hide (unhide HDE)
      first | rw [if_pos rfl] at HDV | rw [if_neg (by simp)] at HDV
      obtain ⟨⟨c0, c1, c2⟩, c3, c4, c5⟩ := (unhide HM5).cells
      go_wp2_with fail
      rw [unhide HFR]
      refine (implMay 2 og sq hl hp body g3 0 ms cp frm k1 _ (by omega) (unhide HRM5)).mono ?_
      rintro e w6 ⟨rfl, b6⟩
      rw [unhide HMV, unhide HCF]
      have HB6 := hide ((unhide HB5).trans (b6.mono (unhide HB5).size))
      have HM6 := hide ((unhide HM5).below b6)
      have HRM6 := hide ((unhide HRM5).below b6)
      clear b6 c0 c1 c2 c3 c4 c5
      go_wp2_with fail
      try rw [unhide HFR]
      refine (implFind g3 0 ms cp frm _ (by omega) (unhide HRM6)).mono ?_
      rintro e w7 ⟨rfl, b7⟩
      rw [unhide HM, unhide HDV]
      unfold R.value
      dsimp only
      have HB7 := hide ((unhide HB6).trans (b7.mono (unhide HB6).size))
      have HM7 := hide ((unhide HM6).below b7)
      have HB8 := hide ((unhide HB7).alloc (unhide HB7).size (.cells #[.int .i64 ke, .int .i64 ti, .int .i64 va] 57))
      have HM8 := hide ((unhide HM7).below ((Below.refl _ _).alloc (Nat.le_refl _) (.cells #[.int .i64 ke, .int .i64 ti, .int .i64 va] 57)))
      have HT8 : Hid (Bx (w7.alloc (.cells #[.int .i64 ke, .int .i64 ti, .int .i64 va] 57)) w7.heap.size ⟨ke, ti, va⟩) := hide (bx_new w7 ⟨ke, ti, va⟩ _)
      obtain ⟨w8, hw8⟩ : ∃ w8, w7.alloc (.cells #[.int .i64 ke, .int .i64 ti, .int .i64 va] 57) = w8 := ⟨_, rfl⟩
      rw [hw8] at HB8 HM8 HT8
      have HW8 := hide hw8
      obtain ⟨⟨c0, c1, c2⟩, c3, c4, c5⟩ := (unhide HM8).cells
      rw [← hw8] at c0 c1 c2 c3 c4 c5
      clear b7 hw8
      go_wp2_with fail
      rw [unhide HW8]
      refine (implFwd 2 og sq hl hp body _).mono ?_
      rintro e w9 ⟨rfl, b9⟩
      rw [unhide hfv, unhide HCG]
      have HB9 := hide ((unhide HB8).trans (b9.mono (unhide HB8).size))
      have HM9 := hide ((unhide HM8).below b9)
      have HT9 := hide ((unhide HT8).below b9)
      have hlm := (unhide HM9).lt
      have hlt := Tu_lt (unhide HT9)
      have HBA := hide (fun o => (unhide HB9).alloc (unhide HB9).size o)
      clear b9 c0 c1 c2 c3 c4 c5
      obtain ⟨⟨c0, c1, c2⟩, c3, c4, c5⟩ := (unhide HM9).cells
      obtain ⟨t0, t1, t2⟩ := unhide HT9
      go_wp2_with fail
      go_ret
      exact ⟨rfl, unhide HBA _⟩

set_option maxRecDepth 100000 in
theorem lifted (os : Os) (started : os.Started) (H : Type) (enc : TypeId × Value → H) :
    ReturnsInHanded {} Try.checked os 5 .any (Rows.fnHopsSpec.pre6 enc Try.prog Try.f5 Rows.fnHopsRow.domain false) (Rows.fnHopsSpec.post enc Try.prog Try.f5 false true false false) := by
  refine returnsInHanded_of_change (C := Try.checked) own started (by kernel_rfl) Try.func5
    (ChangeSpec.witness6 (enc := enc) (C := Try.checked) false ⟨#[], #[.slice none 0 0, .slice none 0 0], []⟩ 8 (by kernel_rfl) (by kernel_rfl) (by kernel_rfl) (by kernel_rfl)) ?_
  intro W base args ds gs before hval0 hW hcnd _
  have hval : ∀ (j : Nat) t v, Try.f5.params[j]? = some t → args[j]? = some v → Value.okWide Try.prog W .any base t v := hval0
  have hW' := hW
  obtain ⟨p, q, hA0, hV, rfl, hfz, hnd⟩ := hW
  have hA : DataW.TrodAll enc Try.prog W 0 (fun _ => true) true Try.f5.params.toList args.toList ds p := hA0
  rw [Try.params5] at hA hval
  obtain ⟨v0, vs0, d0, ds0, p0, q0, hargs0, rfl, rfl, h0, r0⟩ := trodAll_cons hA
  obtain ⟨v1, vs1, d1, ds1, p1, q1, hargs1, rfl, rfl, h1, r1⟩ := trodAll_cons r0
  obtain ⟨rfl, rfl, rfl⟩ := trodAll_nil r1
  obtain rfl : args = #[v0, v1] := by cases args; simp_all
  obtain ⟨rfl, rfl⟩ := trodVars_none hV
  have k0 := h0
  have lt0 : ∀ x ∈ p0, x.block < W.heap.size := by obtain ⟨m, hm⟩ := k0; exact DataW.trod_lt m _ _ _ hm
  have k1 := h1
  have lt1 : ∀ x ∈ p1, x.block < W.heap.size := by obtain ⟨m, hm⟩ := k1; exact DataW.trod_lt m _ _ _ hm
  obtain ⟨a0, len0, cap0, rfl⟩ := okWide_slice Try.underlying22 (hval 0 22 v0 rfl rfl)
  obtain ⟨bs0, hlen0, hmx0, hrd0⟩ := Op.open_bytes h0
  subst hlen0
  obtain ⟨a1, len1, cap1, rfl⟩ := okWide_slice Try.underlying22 (hval 1 22 v1 rfl rfl)
  obtain ⟨bs1, hlen1, hmx1, hrd1⟩ := Op.open_bytes h1
  subst hlen1
  clear hA0 hval0
  refine (walk a0 bs0 cap0 hmx0 a1 bs1 cap1 hmx1 W hrd0 hrd1).mono fun e W' ⟨he, bel⟩ => ?_
  subst he
  exact ⟨_, rfl, _, _, _, [], _, [], hW', trodAll_mk1 (shut_bool Try.underlying4 _), (trodAll_cons_mk (Below.trod laidOut (by kernel_rfl) (of_decide_eq_true (by kernel_rfl)) k0 bel lt0) (trodAll_cons_mk (Below.trod laidOut (by kernel_rfl) (of_decide_eq_true (by kernel_rfl)) k1 bel lt1) trodAll_mk0)), rfl, bel.frame _, fun h => by cases h⟩

theorem over : Rows.fnHopsRow.holds Try.pinned (OpenSpec.ofChange Rows.fnHopsSpec) :=
  OpenClaim.holds_of_wide 5 Try.f5 rfl rfl rfl rfl rfl rfl rfl ⟨rfl, rfl, rfl, rfl, rfl⟩ rfl rfl rfl rfl rfl (by kernel_rfl) Try.func5 (by kernel_rfl)
    (of_decide_eq_true (by kernel_rfl)) (by unfold Func.isWrapper; first | (rw [if_pos (by decide +kernel)]; kernel_rfl) | (rw [if_neg (by decide +kernel)]; exact ⟨rfl, rfl⟩))
    (fun os started H enc _ => lifted os started H enc)
end Go.Proofs.Ytlcppgnnlgigmaa.fnHops
namespace Go.Proofs.Ytlcppgnnlgigmaa
/-- A message is passed on only with hops left, for one that has chosen us; each time it has one less. -/
theorem fnHops_holds : Rows.FnHopsSaid := fnHops.over
end Go.Proofs.Ytlcppgnnlgigmaa
