/-
  Proved here: for all slices of bytes, laws.FnSeqs returns true (numbers go round: the next one is newer, and of two that are not just opposite one is newer than the other) and leaves the slices as they were. No condition.
-/
import Derived.Test.YtpknahhdapmcoaaNums
import Derived.Test.YtpknahhdapmcoaaAt
namespace Go.Proofs.Ytpknahhdapmcoaa.fnSeqs
open Go.ChangeShapes Go.WideShapes Go.ChangeAt Go.RowKit
open W1 By Mtr At
set_option linter.unusedVariables false
theorem own : ownKnob Try.prog.godebug = none := by kernel_rfl
theorem laidOut : laidOutB Try.prog = true := by kernel_rfl
theorem reads_drewN {w : World} {a : Option Addr} {bs : List UInt8} (h : Reads w a bs) (q : Nat) : Reads (w.drewN q) a bs := h
theorem below_drewN {B : Nat} {w w' : World} (h : Below B w w') (q : Nat) : Below B w (w'.drewN q) := ⟨h.os, h.tape, h.output, h.size, h.block⟩

theorem nextIn (n : Int) (h : 0 ≤ n ∧ n ≤ 65535) (w : World) : Calls Try.prog 18 #[.int .i64 n] w fun e w' => e = .returned (.tuple #[.int .i64 ((n + 1) % 65536), .int .i64 0]) ∧ w' = w := by
  have hi : inB n 0 65535 = true := by simpa [inB] using h
  simpa [hi] using implNext n w
theorem newerIn (a b : Int) (ha : 0 ≤ a ∧ a ≤ 65535) (hb : 0 ≤ b ∧ b ≤ 65535) (v : Bool) (hv : newB a b = v) (w : World) : Calls Try.prog 19 #[.int .i64 a, .int .i64 b] w fun e w' => e = .returned (.tuple #[.bool v, .int .i64 0]) ∧ w' = w := by
  have hi : inB a 0 65535 = true := by simpa [inB] using ha
  have hj : inB b 0 65535 = true := by simpa [inB] using hb
  simpa [hi, hj, hv] using implNewer a b w
theorem newerInS (a b : Int) (ha : 0 ≤ a ∧ a ≤ 65535) (hb : 0 ≤ b ∧ b ≤ 65535) (v : Bool) (hv : newB a b = v) (w : World) : Calls Try.prog 20 #[.int .i64 a, .int .i64 b] w fun e w' => e = .returned (.tuple #[.bool v, .int .i64 0]) ∧ w' = w := by
  have hi : inB a 0 65535 = true := by simpa [inB] using ha
  have hj : inB b 0 65535 = true := by simpa [inB] using hb
  simpa [hi, hj, hv] using specNewer a b w
theorem up {a : Int} (ha : 0 ≤ a ∧ a ≤ 65535) : newB ((a + 1) % 65536) a = true := by simp [newB, inB]; omega
theorem down {a : Int} (ha : 0 ≤ a ∧ a ≤ 65535) : newB a ((a + 1) % 65536) = false := by simp [newB, inB]; omega
/-- How two numbers stand to each other. -/
theorem ways {a b : Int} (ha : 0 ≤ a ∧ a ≤ 65535) (hb : 0 ≤ b ∧ b ≤ 65535) :
    ((a == b) = true ∧ newB a b = false ∧ newB b a = false) ∨ ((a == b) = false ∧ ((a + 32768) % 65536 == b) = true ∧ newB a b = false ∧ newB b a = false) ∨
    ((a == b) = false ∧ ((a + 32768) % 65536 == b) = false ∧ newB a b = true ∧ newB b a = false) ∨ ((a == b) = false ∧ ((a + 32768) % 65536 == b) = false ∧ newB a b = false ∧ newB b a = true) := by
  simp [newB, inB]; omega
theorem rem_in (a : Int) : 0 ≤ a % 65536 ∧ a % 65536 ≤ 65535 := by omega

set_option maxHeartbeats 2000000 in
theorem walk (a : Option Addr) (bs : List UInt8) (cap : Nat) (hm : bs.length ≤ maxLen) (a' : Option Addr) (bs' : List UInt8) (cap' : Nat) (hm' : bs'.length ≤ maxLen) (w : World) (hr : Reads w a bs) (hr' : Reads w a' bs') :
    Calls Try.prog 5 #[.slice a bs.length cap, .slice a' bs'.length cap'] w fun e w' => e = .returned (.bool true) ∧ Below w.heap.size w w' := by
  have HR := hide hr
  have HR' := hide hr'
  clear hr hr'
  unfold maxLen at hm hm'
  by_cases hbig : (1048576 : Int) < bs.length
  · go_enter Try.func5, Try.ntmps5
    go_wp2
    go_ret
    exact ⟨rfl, Below.refl _ _⟩
  by_cases hbig' : (1048576 : Int) < bs'.length
  · go_enter Try.func5, Try.ntmps5
    go_wp2
    go_ret
    exact ⟨rfl, Below.refl _ _⟩
  have hml : bs.length ≤ 1048576 := by omega
  have hml' : bs'.length ≤ 1048576 := by omega
  go_enter Try.func5, Try.ntmps5
  go_wp2_with fail
  refine (choice a bs cap 0 65536 _ (by omega) (by omega) (by omega) hml (by exact unhide HR)).mono ?_
  rintro e w1 ⟨r1, rfl, h1, q1, rfl⟩
  go_wp2_with fail
  refine (choice a' bs' cap' 0 300 _ (by omega) (by omega) (by omega) hml' (by exact unhide HR')).mono ?_
  rintro e w2 ⟨r2, rfl, h2, q2, rfl⟩
  go_wp2_with fail
  refine (choice a' bs' cap' 1 223 _ (by omega) (by omega) (by omega) hml' (by exact unhide HR')).mono ?_
  rintro e w3 ⟨r3, rfl, h3, q3, rfl⟩
  go_wp2_with fail
  refine (choice a' bs' cap' 2 3 _ (by omega) (by omega) (by omega) hml' (by exact unhide HR')).mono ?_
  rintro e w4 ⟨r4, rfl, h4, q4, rfl⟩
  have ha : 0 ≤ (r1 : Int) ∧ (r1 : Int) ≤ 65535 := by omega
  by_cases hz : r4 = 0
  · subst hz
    go_wp2_with fail
    refine (choice a' bs' cap' 3 9 _ (by omega) (by omega) (by omega) hml' (by exact unhide HR')).mono ?_
    rintro e w5 ⟨r5, rfl, h5, q5, rfl⟩
    go_wp2_with fail
    have hb : 0 ≤ ((r1 : Int) + 65536 - r5) % 65536 ∧ ((r1 : Int) + 65536 - r5) % 65536 ≤ 65535 := rem_in _
    generalize ((r1 : Int) + 65536 - r5) % 65536 = b at *
    have HF : Hid (Below w.heap.size w (w.drewN (q1 + q2 + q3 + q4 + q5))) := hide (below_drewN (Below.refl _ _) _)
    generalize w.drewN (q1 + q2 + q3 + q4 + q5) = u at *
    clear h2 h3 h4 h5 hm hm' hml hml' hbig hbig' HR HR'
    generalize (r1 : Int) = x at *
    have hn := rem_in (x + 1)
    have hup := up ha
    have hdn := down ha
    have HU := hide hup
    have HD := hide hdn
    have HN := hide hn
    have HA := hide ha
    have HB := hide hb
    clear hup hdn hn
    rcases ways ha hb with ⟨e1, n1, n2⟩ | ⟨e1, e2, n1, n2⟩ | ⟨e1, e2, n1, n2⟩ | ⟨e1, e2, n1, n2⟩
    all_goals
      have N1 := hide n1
      have N2 := hide n2
      have E1 := hide e1
      try have E2 := hide e2
      try clear e2
      clear n1 n2 e1
      refine (nextIn x (unhide HA) _).mono ?_
      rintro e w6 ⟨rfl, rfl⟩
      go_wp2_with fail
      refine (newerIn ((x + 1) % 65536) x (by exact unhide HN) (by exact unhide HA) true (by exact unhide HU) _).mono ?_
      rintro e w7 ⟨rfl, rfl⟩
      go_wp2_with fail
      refine (newerIn x ((x + 1) % 65536) (by exact unhide HA) (by exact unhide HN) false (by exact unhide HD) _).mono ?_
      rintro e w8 ⟨rfl, rfl⟩
      go_wp2_with fail
      refine (newerIn x b (by exact unhide HA) (by exact unhide HB) _ (unhide N1) _).mono ?_
      rintro e w9 ⟨rfl, rfl⟩
      go_wp2_with fail
      refine (newerIn b x (by exact unhide HB) (by exact unhide HA) _ (unhide N2) _).mono ?_
      rintro e w10 ⟨rfl, rfl⟩
      go_wp2_with fail
      refine (newerInS x b (by exact unhide HA) (by exact unhide HB) _ (unhide N1) _).mono ?_
      rintro e w11 ⟨rfl, rfl⟩
      have e1 := unhide E1
      try have e2 := unhide E2
      clear N1 N2 HU HD HN HA HB
      go_wp2_with fail
      go_ret
      exact ⟨rfl, unhide HF⟩
  · go_wp2_with fail
    have hb : 0 ≤ ((r2 : Int) * 223 + r3) % 65536 ∧ ((r2 : Int) * 223 + r3) % 65536 ≤ 65535 := rem_in _
    generalize ((r2 : Int) * 223 + r3) % 65536 = b at *
    have HF : Hid (Below w.heap.size w (w.drewN (q1 + q2 + q3 + q4))) := hide (below_drewN (Below.refl _ _) _)
    generalize w.drewN (q1 + q2 + q3 + q4) = u at *
    clear h2 h3 h4 hm hm' hml hml' hbig hbig' HR HR'
    generalize (r1 : Int) = x at *
    have hn := rem_in (x + 1)
    have hup := up ha
    have hdn := down ha
    have HU := hide hup
    have HD := hide hdn
    have HN := hide hn
    have HA := hide ha
    have HB := hide hb
    clear hup hdn hn
    rcases ways ha hb with ⟨e1, n1, n2⟩ | ⟨e1, e2, n1, n2⟩ | ⟨e1, e2, n1, n2⟩ | ⟨e1, e2, n1, n2⟩
    all_goals
      have N1 := hide n1
      have N2 := hide n2
      have E1 := hide e1
      try have E2 := hide e2
      try clear e2
      clear n1 n2 e1
      refine (nextIn x (unhide HA) _).mono ?_
      rintro e w6 ⟨rfl, rfl⟩
      go_wp2_with fail
      refine (newerIn ((x + 1) % 65536) x (by exact unhide HN) (by exact unhide HA) true (by exact unhide HU) _).mono ?_
      rintro e w7 ⟨rfl, rfl⟩
      go_wp2_with fail
      refine (newerIn x ((x + 1) % 65536) (by exact unhide HA) (by exact unhide HN) false (by exact unhide HD) _).mono ?_
      rintro e w8 ⟨rfl, rfl⟩
      go_wp2_with fail
      refine (newerIn x b (by exact unhide HA) (by exact unhide HB) _ (unhide N1) _).mono ?_
      rintro e w9 ⟨rfl, rfl⟩
      go_wp2_with fail
      refine (newerIn b x (by exact unhide HB) (by exact unhide HA) _ (unhide N2) _).mono ?_
      rintro e w10 ⟨rfl, rfl⟩
      go_wp2_with fail
      refine (newerInS x b (by exact unhide HA) (by exact unhide HB) _ (unhide N1) _).mono ?_
      rintro e w11 ⟨rfl, rfl⟩
      have e1 := unhide E1
      try have e2 := unhide E2
      clear N1 N2 HU HD HN HA HB
      go_wp2_with fail
      go_ret
      exact ⟨rfl, unhide HF⟩

set_option maxRecDepth 100000 in
theorem lifted (os : Os) (started : os.Started) (H : Type) (enc : TypeId × Value → H) :
    ReturnsInHanded {} Try.checked os 5 .any (Rows.fnSeqsSpec.pre6 enc Try.prog Try.f5 Rows.fnSeqsRow.domain false) (Rows.fnSeqsSpec.post enc Try.prog Try.f5 false true false false) := by
  refine returnsInHanded_of_change (C := Try.checked) own started (by kernel_rfl) Try.func5
    (ChangeSpec.witness6 (enc := enc) (C := Try.checked) false ⟨#[], #[.slice none 0 0, .slice none 0 0], []⟩ 8 (by kernel_rfl) (by kernel_rfl) (by kernel_rfl) (by kernel_rfl)) ?_
  intro W base args ds gs before hval0 hW hcnd _
  have hval : ∀ (j : Nat) t v, Try.f5.params[j]? = some t → args[j]? = some v → Value.okWide Try.prog W .any base t v := hval0
  have hW' := hW
  obtain ⟨p, q, hA0, hV, rfl, hfz, hnd⟩ := hW
  have hA : DataW.TrodAll enc Try.prog W 0 (fun _ => true) true Try.f5.params.toList args.toList ds p := hA0
  rw [Try.params5] at hA hval
  obtain ⟨v0, vs0, d0, ds0, p0, q0, hargs0, rfl, rfl, h0, r0⟩ := trodAll_cons hA
  obtain ⟨v1, vs1, d1, ds1, p1, q1, hargs1, rfl, rfl, h1, r1⟩ := trodAll_cons r0
  obtain ⟨rfl, rfl, rfl⟩ := trodAll_nil r1
  obtain rfl : args = #[v0, v1] := by cases args; simp_all
  obtain ⟨rfl, rfl⟩ := trodVars_none hV
  have k0 := h0
  have lt0 : ∀ x ∈ p0, x.block < W.heap.size := by obtain ⟨m, hm⟩ := k0; exact DataW.trod_lt m _ _ _ hm
  have k1 := h1
  have lt1 : ∀ x ∈ p1, x.block < W.heap.size := by obtain ⟨m, hm⟩ := k1; exact DataW.trod_lt m _ _ _ hm
  obtain ⟨a0, len0, cap0, rfl⟩ := okWide_slice Try.underlying22 (hval 0 22 v0 rfl rfl)
  obtain ⟨bs0, hlen0, hmx0, hrd0⟩ := Op.open_bytes h0
  subst hlen0
  obtain ⟨a1, len1, cap1, rfl⟩ := okWide_slice Try.underlying22 (hval 1 22 v1 rfl rfl)
  obtain ⟨bs1, hlen1, hmx1, hrd1⟩ := Op.open_bytes h1
  subst hlen1
  clear hA0 hval0
  refine (walk a0 bs0 cap0 hmx0 a1 bs1 cap1 hmx1 W hrd0 hrd1).mono fun e W' ⟨he, bel⟩ => ?_
  subst he
  exact ⟨_, rfl, _, _, _, [], _, [], hW', trodAll_mk1 (shut_bool Try.underlying4 _), (trodAll_cons_mk (Below.trod laidOut (by kernel_rfl) (of_decide_eq_true (by kernel_rfl)) k0 bel lt0) (trodAll_cons_mk (Below.trod laidOut (by kernel_rfl) (of_decide_eq_true (by kernel_rfl)) k1 bel lt1) trodAll_mk0)), rfl, bel.frame _, fun h => by cases h⟩

theorem over : Rows.fnSeqsRow.holds Try.pinned (OpenSpec.ofChange Rows.fnSeqsSpec) :=
  OpenClaim.holds_of_wide 5 Try.f5 rfl rfl rfl rfl rfl rfl rfl ⟨rfl, rfl, rfl, rfl, rfl⟩ rfl rfl rfl rfl rfl (by kernel_rfl) Try.func5 (by kernel_rfl)
    (of_decide_eq_true (by kernel_rfl)) (by unfold Func.isWrapper; first | (rw [if_pos (by decide +kernel)]; kernel_rfl) | (rw [if_neg (by decide +kernel)]; exact ⟨rfl, rfl⟩))
    (fun os started H enc _ => lifted os started H enc)
end Go.Proofs.Ytpknahhdapmcoaa.fnSeqs
namespace Go.Proofs.Ytpknahhdapmcoaa
/-- For all bytes numbers go round. -/
theorem fnSeqs_holds : Rows.FnSeqsSaid := fnSeqs.over
end Go.Proofs.Ytpknahhdapmcoaa
