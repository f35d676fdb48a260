/-
  Of the texts NetN, LnkA, LnkF, RtrQ, NetP, NetX, NetC, LnkS, TwoN, LnkE, LnkV, TwoV, TwoX, TwoW, TwoY: what this claim needs of them. (put together by mkprune.py)
-/
import Derived.Test.YtpknmiccgbjoiabGreatQa4
import Derived.Deep.Cut
import Derived.Deep.QuietTactic
import Derived.BigQuiet
import Derived.Deep.AppendLies
namespace Go.Proofs.YtpknmiccgbjoiabGreat
open Go.ChangeShapes Go.WideShapes Go.ChangeAt Go.RowKit
set_option linter.unusedVariables false
set_option linter.unusedSimpArgs false
set_option maxRecDepth 100000
attribute [local go_sem ↓] Go.wp_at_zero Go.wp_at_succ
namespace Nt
open W1 Rt
/-- A router read whole by an operation with a guard that lets it pass. -/
theorem wpList_loadRg {ops : Array Oper} {rest : List Oper} {op : Oper} {a : Act} {w : World} {Q : Exit → Act → World → Prop} (x : Operand) (hw : Region.wanted op (yielded ops a.tmps) = true) (ho : op.op = .load 60 x) {b : Nat} {cs : List Value} (hx : a.eval x = .pointer (some ⟨b, 0, none⟩)) (h : RA w b cs)
    (hk : wpList Tryz.prog ops Q rest (a.put op.dst (.agg cs.toArray)) w) : wpList Tryz.prog ops Q (op :: rest) a w :=
  wpList_step fun K hK => by rw [if_pos hw]; exact wp_load_mid 60 x ho b 0 hx cs _ h.1 infoR.1 infoR.2.1 (h.2.2 ▸ infoR.2.2) (hK _ _ hk)
theorem implOkM (m : Rm) (p : Pl) (w : World) (hs : Sm m) (hr : Rd w m p) : Calls Tryz.prog 73 #[.agg (cl m p).toArray] w fun e w' => e = .returned (.bool (okM m)) ∧ Below w.heap.size w w' := by
  obtain ⟨s1, s2, s3, s4, s5, s6, s7⟩ := hs
  obtain ⟨r1, r2, r3, r4, r5, r6, r7⟩ := hr
  exact implRtr m.x1 m.x2 m.x3 m.x4 m.x5 m.x6 p.a1 p.a2 p.a3 p.a4 p.a5 p.a6 p.a7 p.c1 p.c2 p.c3 p.c4 p.c5 p.c6 p.c7 m.ls m.tw m.se m.du m.ss m.es m.la w s1 s2 s3 s4 s5 s6 s7 r1 r2 r3 r4 r5 r6 r7
set_option maxHeartbeats 16000000 in
theorem areRouters (a : Option Addr) (ms : List Rm) (ps : List Pl) (cap : Nat) (t : Int) (w : World) (hm : ms.length ≤ 1048576) (hs : ∀ i, i < ms.length → Sm (ms.getD i Rm.zero)) (hr : NR w a ms ps) :
    Calls Tryz.prog 68 #[.slice a ms.length cap, .int .i64 t] w fun e w' => e = .returned (.bool (inB ms.length 1 6 && rtsB ms t)) ∧ Below w.heap.size w w' := by
  have HR := hide hr
  have HS := hide hs
  clear hr hs
  have E : Hid ((inB ms.length 1 6 && rtsB ms t) = (inB ms.length 1 6 && allI ms.length fun i => rok (ms.getD i Rm.zero) i t)) := hide rfl
  rw [unhide E]
  clear E
  have HAN : Hid (∀ j, j < ms.length → rok (ms.getD j Rm.zero) j t = false → (allI ms.length fun i => rok (ms.getD i Rm.zero) i t) = false) := hide (fun j h h' => allI_no (p := fun i => rok (ms.getD i Rm.zero) i t) h h')
  have HAY : Hid ((∀ i, i < ms.length → rok (ms.getD i Rm.zero) i t = true) → (allI ms.length fun i => rok (ms.getD i Rm.zero) i t) = true) := hide (fun h => allI_yes h)
  generalize (allI ms.length fun i => rok (ms.getD i Rm.zero) i t) = AA at *
  obtain ⟨n, hN⟩ : ∃ n, ms.length = n := ⟨_, rfl⟩
  rw [hN] at hm HAY ⊢
  have HN := hide hN
  clear hN
  have KW := hide (fun W => within (n : Int) 1 6 W)
  cases hin : inB (n : Int) 1 6
  · rw [hin] at KW
    clear hin
    go_enter Tryz.func68, Tryz.ntmps68
    go_wp2_with (go_at_call 67; refine (unhide KW _).mono ?_; rintro e w_ ⟨rfl, rfl⟩)
    go_ret
    exact ⟨rfl, Below.refl _ _⟩
  rw [hin] at KW
  have hn6 : (n : Int) ≤ 6 := by simp [inB] at hin; omega
  clear hin
  go_enter Tryz.func68, Tryz.ntmps68
  go_wp2_with (go_at_call 67; refine (unhide KW _).mono ?_; rintro e w_ ⟨rfl, hw_⟩; subst w_)
  clear KW
  go_loopw [13] (fun i wr => ∃ j : Nat, j ≤ n ∧ i = .int .i64 j ∧ Hid (∀ i, i < j → rok (ms.getD i Rm.zero) i t = true) ∧ Hid (Below w.heap.size w wr)) (fun i _ => n - (intOf i).toNat)
  case atStart => exact ⟨0, by omega, rfl, hide (fun i hi => absurd hi (Nat.not_lt_zero i)), hide (Below.refl _ _)⟩
  case round =>
    obtain ⟨j, hj, rfl, hall, hbl⟩ := hrel
    by_cases hlt : (j : Int) < (n : Int)
    · have k0 : (0 : Int) ≤ (j : Int) := by omega
      have hlen : j < ms.length := by rw [unhide HN]; omega
      obtain ⟨g, off, rfl, hA, hD⟩ := ((unhide HR).below (unhide hbl)).at hlen
      have HA := hide hA
      have HD := hide hD
      have HM := hide ((unhide HS) j hlen)
      have HNO := hide (unhide HAN j hlen)
      have HUP := hide (fun h => up_to (p := fun i => rok (ms.getD i Rm.zero) i t) (j := j) (unhide hall) h)
      have HRK : Hid (rok (ms.getD j Rm.zero) j t = (okM (ms.getD j Rm.zero) && ((ms.getD j Rm.zero).x1 == (j : Int) + 1 && decide ((ms.getD j Rm.zero).x5 ≤ t)))) := hide rfl
      try dsimp only at HUP
      clear hlen hA hD
      generalize hmj : ms.getD j Rm.zero = m at HA HD HM HNO HUP HRK
      clear hmj
      generalize ps.getD j Pl.zero = p at *
      obtain ⟨y1, hy1⟩ : ∃ y, m.x1 = y := ⟨_, rfl⟩
      obtain ⟨y5, hy5⟩ : ∃ y, m.x5 = y := ⟨_, rfl⟩
      rw [hy1, hy5] at HRK
      have hsz := (unhide hbl).size
      cases hx : (y1 != (j : Int) + 1)
      rotate_left
      · have EB := hide (unhide HNO (by rw [unhide HRK]; have : (y1 == (j : Int) + 1) = false := (by simpa using hx); rw [this]; simp))
        go_upto_region 6 with (first | (refine loadI _ rfl rfl (unhide HA) rfl ?_) | (refine wpList_storeR _ _ rfl rfl (cl m p) (cl_ones m p) rfl rfl (ra_new wr (rC 0 0 0 0 0 (.slice none 0 0) (.slice none 0 0) (.slice none 0 0) (.slice none 0 0) (.slice none 0 0) (.slice none 0 0) (.slice none 0 0) 0) rfl 60).2.1 ?_; intro w1 ra bb hs1))
        have HB1 := hide (bb _ _ ((unhide hbl).alloc hsz _) hsz)
        have e0 := ra.at (i := 0) (v := .int .i64 y1) (by rw [← hy1]; rfl)
        have e4 := ra.at (i := 4) (v := .int .i64 y5) (by rw [← hy5]; rfl)
        clear ra bb hs1 hy1 hy5 HA HD
        go_wp2_with fail
        go_ret
        exact ⟨ret_bool (by rw [unhide EB, Bool.and_false]), unhide HB1⟩
      by_cases h5 : t < y5
      · have EB := hide (unhide HNO (by rw [unhide HRK]; have : decide (y5 ≤ t) = false := (by simp; omega); rw [this]; simp))
        go_upto_region 6 with (first | (refine loadI _ rfl rfl (unhide HA) rfl ?_) | (refine wpList_storeR _ _ rfl rfl (cl m p) (cl_ones m p) rfl rfl (ra_new wr (rC 0 0 0 0 0 (.slice none 0 0) (.slice none 0 0) (.slice none 0 0) (.slice none 0 0) (.slice none 0 0) (.slice none 0 0) (.slice none 0 0) 0) rfl 60).2.1 ?_; intro w1 ra bb hs1))
        have HB1 := hide (bb _ _ ((unhide hbl).alloc hsz _) hsz)
        have e0 := ra.at (i := 0) (v := .int .i64 y1) (by rw [← hy1]; rfl)
        have e4 := ra.at (i := 4) (v := .int .i64 y5) (by rw [← hy5]; rfl)
        clear ra bb hs1 hy1 hy5 HA HD
        go_wp2_with fail
        go_ret
        exact ⟨ret_bool (by rw [unhide EB, Bool.and_false]), unhide HB1⟩
      have HRK2 : Hid (rok m j t = okM m) := hide (by rw [unhide HRK]; have h1 : (y1 == (j : Int) + 1) = true := (by simpa using hx); have h2 : decide (y5 ≤ t) = true := (by simp; omega); rw [h1, h2]; simp)
      rw [unhide HRK2] at HNO HUP
      clear HRK HRK2
      go_upto_region 6 with (first | (refine loadI _ rfl rfl (unhide HA) rfl ?_) | (refine wpList_storeR _ _ rfl rfl (cl m p) (cl_ones m p) rfl rfl (ra_new wr (rC 0 0 0 0 0 (.slice none 0 0) (.slice none 0 0) (.slice none 0 0) (.slice none 0 0) (.slice none 0 0) (.slice none 0 0) (.slice none 0 0) 0) rfl 60).2.1 ?_; intro w1 ra bb hs1))
      have HB1 := hide (bb _ _ ((unhide hbl).alloc hsz _) hsz)
      have HD1 := hide ((unhide HD).below (w' := w1) (bb _ _ ((Below.refl _ _).alloc (Nat.le_refl _) _) (Nat.le_refl _)))
      have HRA := hide ra
      have e0 := ra.at (i := 0) (v := .int .i64 y1) (by rw [← hy1]; rfl)
      have e4 := ra.at (i := 4) (v := .int .i64 y5) (by rw [← hy5]; rfl)
      clear ra bb hs1 hy1 hy5 HA HD
      have hwj : IntKind.i64.wrap ((j : Int) + 1) = (j : Int) + 1 := by rw [IntKind.wrap_i64]; omega
      refine wp_region_lit ?_
      (refine wpList_plain rfl (fun K hK => ?_); go_simp; refine hK _ _ ?_; clear hK K; (try simp only [Act.put, List.setIfInBounds_toArray, List.set_cons_zero, List.set_cons_succ]))
      (refine wpList_plain rfl (fun K hK => ?_); go_simp; refine hK _ _ ?_; clear hK K; (try simp only [Act.put, List.setIfInBounds_toArray, List.set_cons_zero, List.set_cons_succ]))
      (refine wpList_plain rfl (fun K hK => ?_); go_simp; refine hK _ _ ?_; clear hK K; (try simp only [Act.put, List.setIfInBounds_toArray, List.set_cons_zero, List.set_cons_succ]))
      (refine wpList_plain rfl (fun K hK => ?_); go_simp; refine hK _ _ ?_; clear hK K; (try simp only [Act.put, List.setIfInBounds_toArray, List.set_cons_zero, List.set_cons_succ]))
      (refine wpList_plain rfl (fun K hK => ?_); go_simp; refine hK _ _ ?_; clear hK K; (try simp only [Act.put, List.setIfInBounds_toArray, List.set_cons_zero, List.set_cons_succ]))
      (refine wpList_plain rfl (fun K hK => ?_); go_simp; refine hK _ _ ?_; clear hK K; (try simp only [Act.put, List.setIfInBounds_toArray, List.set_cons_zero, List.set_cons_succ]))
      (refine Rg.y (by simp [Region.wanted, yielded]) (fun K hK => ?_); go_simp; refine hK _ _ ?_; clear hK K; (try simp only [Act.put, List.setIfInBounds_toArray, List.set_cons_zero, List.set_cons_succ]))
      (refine Rg.y (by simp [Region.wanted, yielded]) (fun K hK => ?_); go_simp; refine hK _ _ ?_; clear hK K; (try simp only [Act.put, List.setIfInBounds_toArray, List.set_cons_zero, List.set_cons_succ]))
      (refine Rg.y (by simp [Region.wanted, yielded]) (fun K hK => ?_); go_simp; refine hK _ _ ?_; clear hK K; (try simp only [Act.put, List.setIfInBounds_toArray, List.set_cons_zero, List.set_cons_succ]))
      (refine Rg.y (by simp [Region.wanted, yielded]) (fun K hK => ?_); go_simp; refine hK _ _ ?_; clear hK K; (try simp only [Act.put, List.setIfInBounds_toArray, List.set_cons_zero, List.set_cons_succ]))
      (refine wpList_plain rfl (fun K hK => ?_); go_simp; refine hK _ _ ?_; clear hK K; (try simp only [Act.put, List.setIfInBounds_toArray, List.set_cons_zero, List.set_cons_succ]))
      (refine wpList_plain rfl (fun K hK => ?_); go_simp; refine hK _ _ ?_; clear hK K; (try simp only [Act.put, List.setIfInBounds_toArray, List.set_cons_zero, List.set_cons_succ]))
      refine wpList_loadRg _ (by simp [Region.wanted, yielded]) rfl rfl (unhide HRA) ?_
      (try simp only [Act.put, List.setIfInBounds_toArray, List.set_cons_zero, List.set_cons_succ])
      clear e0 e4
      go_wp2_with fail
      refine (implOkM m p _ (unhide HM) (unhide HD1)).mono ?_
      rintro e w2 ⟨rfl, b2⟩
      have HB2 := hide ((unhide HB1).trans (b2.mono (unhide HB1).size))
      clear b2 HRA HD1
      cases hk : okM m
      · have EB := hide (unhide HNO hk)
        go_wp2_with fail
        go_ret
        exact ⟨ret_bool (by rw [unhide EB, Bool.and_false]), unhide HB2⟩
      · have OK := hide (unhide HUP hk)
        clear hk HNO HUP
        go_wp2_with fail
        go_roundw
        case rel => exact ⟨j + 1, by omega, by go_num, OK, HB2⟩
        case measure => simp [intOf]; omega
    · obtain rfl : j = n := by omega
      have EA := hide (unhide HAY (unhide hall))
      go_wp2_with fail
      go_ret
      exact ⟨ret_bool (by rw [unhide EA]), unhide hbl⟩
set_option maxHeartbeats 16000000 in
theorem areFrames (a b d : Option Addr) (n k ca cb cd : Nat) (t : Int) (fs : List Fm.R) (w : World) (ht : 0 ≤ t) (ht1 : t ≤ 100000) (hm : fs.length ≤ 1048576) (hz : ∀ i, i < fs.length → (fs.getD i Fm.R.zero).bs.size ≤ maxLen) (hr : Fm.RM w d fs) :
    Calls Tryz.prog 70 #[.agg #[.slice a n ca, .slice b k cb, .slice d fs.length cd, .int .i64 t]] w fun e w' => e = .returned (.bool (airB fs n t)) ∧ Below w.heap.size w w' := by
  have HX0 := hide (nb_new w (.slice a n ca) (.slice b k cb) (.slice d fs.length cd) t 33)
  have b0 := bel_new w (.cells #[.slice a n ca, .slice b k cb, .slice d fs.length cd, .int .i64 t] 33)
  have HR := hide (hr.below b0)
  have HB0 := hide b0
  have HZ := hide hz
  clear hr b0 hz
  have E : Hid (airB fs n t = (decide (fs.length ≤ 200) && allI fs.length fun i => fok (fs.getD i Fm.R.zero) n t)) := hide rfl
  have HAN : Hid (∀ j, j < fs.length → fok (fs.getD j Fm.R.zero) n t = false → (allI fs.length fun i => fok (fs.getD i Fm.R.zero) n t) = false) := hide (fun j h h' => allI_no (p := fun i => fok (fs.getD i Fm.R.zero) n t) h h')
  have HAY : Hid ((∀ i, i < fs.length → fok (fs.getD i Fm.R.zero) n t = true) → (allI fs.length fun i => fok (fs.getD i Fm.R.zero) n t) = true) := hide (fun h => allI_yes h)
  rw [unhide E]
  clear E
  generalize (allI fs.length fun i => fok (fs.getD i Fm.R.zero) n t) = AA at *
  obtain ⟨N, hN⟩ : ∃ N, fs.length = N := ⟨_, rfl⟩
  rw [hN] at hm HAY HX0 HB0 HR ⊢
  have HN := hide hN
  clear hN
  by_cases h200 : (200 : Int) < (N : Int)
  · go_enter Tryz.func70, Tryz.ntmps70
    go_wp2_with fail
    go_ret
    exact ⟨ret_bool (by have : decide (N ≤ 200) = false := (by simp; omega); rw [this]; rfl), unhide HB0⟩
  have E2 : Hid ((decide (N ≤ 200) && AA) = AA) := hide (by have : decide (N ≤ 200) = true := (by simp; omega); rw [this]; rfl)
  rw [unhide E2]
  clear E2
  go_enter Tryz.func70, Tryz.ntmps70
  go_wp2_with fail
  generalize w.alloc (.cells #[.slice a n ca, .slice b k cb, .slice d N cd, .int .i64 t] 33) = w0 at *
  go_loopw [12] (fun i wr => ∃ j : Nat, j ≤ N ∧ i = .int .i64 j ∧ Hid (∀ i, i < j → fok (fs.getD i Fm.R.zero) n t = true) ∧ Hid (Below w.heap.size w wr) ∧ Hid (NB wr w.heap.size (.slice a n ca) (.slice b k cb) (.slice d N cd) t) ∧ Hid (Fm.RM wr d fs)) (fun i _ => N - (intOf i).toNat)
  case atStart => exact ⟨0, by omega, rfl, hide (fun i hi => absurd hi (Nat.not_lt_zero i)), HB0, HX0, HR⟩
  case round =>
    obtain ⟨j, hj, rfl, hall, hbl, hnb, hrm⟩ := hrel
    by_cases hlt : (j : Int) < (N : Int)
    · have k0 : (0 : Int) ≤ (j : Int) := by omega
      have hlen : j < fs.length := by rw [unhide HN]; omega
      rcases (unhide hrm) with e0 | ⟨g, off, rfl, hc⟩
      · exfalso; rw [e0] at hlen; simp at hlen
      have hA := hc j hlen
      have hzz := (unhide HZ) j hlen
      unfold maxLen at hzz
      have HNO := hide (unhide HAN j hlen)
      have HUP := hide (fun h => up_to (p := fun i => fok (fs.getD i Fm.R.zero) n t) (j := j) (unhide hall) h)
      have HFK : Hid (fok (fs.getD j Fm.R.zero) n t = (apB (fs.getD j Fm.R.zero).fr (fs.getD j Fm.R.zero).tt n && (inB (fs.getD j Fm.R.zero).ti t (t + 1) && decide (((fs.getD j Fm.R.zero).bs.size : Int) ≤ 900)))) := hide (by unfold fok apB; simp only [Bool.and_assoc])
      try dsimp only at HUP
      clear hc hlen
      generalize hmj : fs.getD j Fm.R.zero = m at hA hzz HNO HUP HFK
      clear hmj
      obtain ⟨fr, tt, ti, bs⟩ := m
      obtain ⟨c0, c1, c2, c3⟩ := hA
      dsimp only at c0 c1 c2 c3 hzz HFK
      have b1 := bel_new wr (.cells #[.int .i64 fr, .int .i64 tt, .int .i64 ti, .string bs] 103)
      have HN1 := hide ((unhide hnb).below b1)
      have HR1 := hide ((unhide hrm).below b1)
      have HB1 := hide ((unhide hbl).trans (b1.mono (unhide hbl).size))
      have q0 : (wr.alloc (.cells #[.int .i64 fr, .int .i64 tt, .int .i64 ti, .string bs] 103)).cell? ⟨wr.heap.size, 2, none⟩ = some (.int .i64 ti) := by simp [World.cell?_alloc_new]
      have q3 : (wr.alloc (.cells #[.int .i64 fr, .int .i64 tt, .int .i64 ti, .string bs] 103)).cell? ⟨wr.heap.size, 3, none⟩ = some (.string bs) := by simp [World.cell?_alloc_new]
      have hw1 : wr.heap.size < (wr.alloc (.cells #[.int .i64 fr, .int .i64 tt, .int .i64 ti, .string bs] 103)).heap.size := by simp
      have Q0 := hide q0
      have Q3 := hide q3
      have HW1 := hide hw1
      have KA := hide (fun W => areApart a b (some ⟨g, off, none⟩) n k N ca cb cd t fr tt W)
      have KI := hide (fun W => within ti t (t + 1) W)
      clear q0 q3 hw1 b1
      obtain ⟨p0, p1, p2, p3⟩ := unhide HN1
      go_wp2_with fail
      clear p0 p1 p2 p3 c0 c1 c2 c3
      generalize wr.alloc (.cells #[.int .i64 fr, .int .i64 tt, .int .i64 ti, .string bs] 103) = w1 at *
      refine (unhide KA _).mono ?_
      rintro e w2 ⟨rfl, b2⟩
      have HN2 := hide ((unhide HN1).below b2)
      have HR2 := hide ((unhide HR1).below b2)
      have HB2 := hide ((unhide HB1).trans (b2.mono (unhide HB1).size))
      have q2 := (b2.cell (p := ⟨wr.heap.size, 2, none⟩) (unhide HW1)).trans (unhide Q0)
      have q3 := (b2.cell (p := ⟨wr.heap.size, 3, none⟩) (unhide HW1)).trans (unhide Q3)
      clear Q0 Q3 HW1 HN1 HR1 HB1 b2 KA hnb hrm hbl
      cases hap : apB fr tt n
      · have EB := hide (unhide HNO (by rw [unhide HFK, hap]; rfl))
        clear hap
        obtain ⟨p0, p1, p2, p3⟩ := unhide HN2
        go_wp2_with fail
        go_ret
        exact ⟨ret_bool (unhide EB).symm, unhide HB2⟩
      rw [hap] at HFK
      clear hap
      cases hti : inB ti t (t + 1)
      · rw [hti] at KI
        have EB := hide (unhide HNO (by rw [unhide HFK, hti]; rfl))
        clear hti
        obtain ⟨p0, p1, p2, p3⟩ := unhide HN2
        go_wp2_with (go_at_call 67; refine (unhide KI _).mono ?_; rintro e w_ ⟨rfl, rfl⟩)
        go_ret
        exact ⟨ret_bool (unhide EB).symm, unhide HB2⟩
      rw [hti] at KI HFK
      clear hti
      by_cases h900 : (900 : Int) < (bs.size : Int)
      · have EB := hide (unhide HNO (by rw [unhide HFK]; have : decide ((bs.size : Int) ≤ 900) = false := (by simp; omega); rw [this]; rfl))
        obtain ⟨p0, p1, p2, p3⟩ := unhide HN2
        go_wp2_with (go_at_call 67; refine (unhide KI _).mono ?_; rintro e w_ ⟨rfl, rfl⟩)
        go_ret
        exact ⟨ret_bool (unhide EB).symm, unhide HB2⟩
      · have OK := hide (unhide HUP (by rw [unhide HFK]; have : decide ((bs.size : Int) ≤ 900) = true := (by simp; omega); rw [this]; rfl))
        clear HNO HUP HFK
        obtain ⟨p0, p1, p2, p3⟩ := unhide HN2
        go_wp2_with (go_at_call 67; refine (unhide KI _).mono ?_; rintro e w_ ⟨rfl, rfl⟩)
        clear p0 p1 p2 p3 q2 q3 KI
        go_roundw
        case rel => exact ⟨j + 1, by omega, by go_num, OK, HB2, HN2, HR2⟩
        case measure => simp [intOf]; omega
    · obtain rfl : j = N := by omega
      have EA := hide (unhide HAY (unhide hall))
      go_wp2_with fail
      go_ret
      exact ⟨ret_bool (unhide EA).symm, unhide hbl⟩
set_option maxHeartbeats 16000000 in
theorem implNet (a b d : Option Addr) (ca cb cd : Nat) (t : Int) (ms : List Rm) (ps : List Pl) (cs : List Int) (fs : List Fm.R) (w : World) (hm : ms.length ≤ 1048576) (hc : cs.length ≤ 1048576) (hf : fs.length ≤ 1048576) (hs : ∀ i, i < ms.length → Sm (ms.getD i Rm.zero)) (hg : ∀ i, i < fs.length → (fs.getD i Fm.R.zero).bs.size ≤ maxLen) (hr : NR w a ms ps) (hi : In.RM w b cs) (hz : Fm.RM w d fs) :
    Calls Tryz.prog 33 #[.agg #[.slice a ms.length ca, .slice b cs.length cb, .slice d fs.length cd, .int .i64 t]] w fun e w' => e = .returned (.bool (netB ms cs fs t)) ∧ Below w.heap.size w w' := by
  have HX0 := hide (nb_new w (.slice a ms.length ca) (.slice b cs.length cb) (.slice d fs.length cd) t 33)
  have b0 := bel_new w (.cells #[.slice a ms.length ca, .slice b cs.length cb, .slice d fs.length cd, .int .i64 t] 33)
  have HR := hide (hr.below b0)
  have HI := hide (hi.below b0)
  have HZ := hide (hz.below b0)
  have HB0 := hide b0
  have HS := hide hs
  have HG := hide hg
  have E : Hid (netB ms cs fs t = (inB t 0 100000 && ((inB ms.length 1 6 && rtsB ms t) && (costB cs ms.length && airB fs ms.length t)))) := hide (by unfold netB; simp only [Bool.and_assoc])
  have KT := hide (fun W => within t 0 100000 W)
  clear b0 hr hi hz hs hg
  cases h1 : inB t 0 100000
  · rw [h1] at KT E
    clear h1
    go_enter Tryz.func33, Tryz.ntmps33
    go_wp2_with (go_at_call 67; refine (unhide KT _).mono ?_; rintro e w_ ⟨rfl, rfl⟩)
    go_ret
    exact ⟨ret_bool (by rw [unhide E]; rfl), unhide HB0⟩
  have ht0 : 0 ≤ t := by simp [inB] at h1; omega
  have ht1 : t ≤ 100000 := by simp [inB] at h1; omega
  rw [h1] at KT E
  clear h1
  go_enter Tryz.func33, Tryz.ntmps33
  go_wp2_with (go_at_call 67; refine (unhide KT _).mono ?_; rintro e w_ ⟨rfl, rfl⟩)
  clear KT
  generalize w.alloc (.cells #[.slice a ms.length ca, .slice b cs.length cb, .slice d fs.length cd, .int .i64 t] 33) = w0 at *
  refine (areRouters _ ms ps _ t _ hm (unhide HS) (unhide HR)).mono ?_
  rintro e w1 ⟨rfl, b1⟩
  have HX1 := hide ((unhide HX0).below b1)
  have HI1 := hide ((unhide HI).below b1)
  have HZ1 := hide ((unhide HZ).below b1)
  have HB1 := hide ((unhide HB0).trans (b1.mono (unhide HB0).size))
  clear HX0 HI HZ HR HB0 b1
  cases h2 : (inB ms.length 1 6 && rtsB ms t)
  · rw [h2] at E
    go_wp2_with fail
    go_ret
    exact ⟨ret_bool (by rw [unhide E]; rfl), unhide HB1⟩
  have hn : 1 ≤ ms.length ∧ ms.length ≤ 6 := by simp [inB] at h2; omega
  rw [h2] at E
  clear h2
  obtain ⟨p0, p1, p2, p3⟩ := unhide HX1
  go_wp2_with fail
  clear p0 p1 p2 p3
  refine (areCosts _ cs _ ms.length _ hc hn.1 hn.2 (unhide HI1)).mono ?_
  rintro e w2 ⟨rfl, b2⟩
  have HX2 := hide ((unhide HX1).below b2)
  have HZ2 := hide ((unhide HZ1).below b2)
  have HB2 := hide ((unhide HB1).trans (b2.mono (unhide HB1).size))
  clear HX1 HI1 HZ1 HB1 b2
  cases h3 : costB cs ms.length
  · rw [h3] at E
    go_wp2_with fail
    go_ret
    exact ⟨ret_bool (by rw [unhide E]; rfl), unhide HB2⟩
  rw [h3] at E
  clear h3
  obtain ⟨p0, p1, p2, p3⟩ := unhide HX2
  go_wp2_with fail
  clear p0 p1 p2 p3
  refine (areFrames a b d ms.length cs.length ca cb cd t fs _ ht0 ht1 hf (unhide HG) (unhide HZ2)).mono ?_
  rintro e w3 ⟨rfl, b3⟩
  have HB3 := hide ((unhide HB2).trans (b3.mono (unhide HB2).size))
  clear b3
  go_wp2_with fail
  go_ret
  exact ⟨ret_bool (by rw [unhide E]; simp), unhide HB3⟩
end Nt
end Go.Proofs.YtpknmiccgbjoiabGreat
namespace Go.Proofs.YtpknmiccgbjoiabGreat
open Go.ChangeShapes Go.WideShapes Go.ChangeAt Go.RowKit
set_option linter.unusedVariables false
set_option linter.unusedSimpArgs false
attribute [local go_sem ↓] Go.wp_at_zero Go.wp_at_succ
namespace Ln
open W1 Lk
def isAd (k : Int) (m : R) : Bool := m.ad == k
def lkF (ms : List R) (k : Int) : R := (ms.find? (isAd k)).getD R.zero
/-- A link's block that may be written. -/
def LV (w : World) (b : Nat) (m : R) : Prop := w.heap[b]? = some (.cells #[.int .i64 m.ad, .int .i64 m.hd, .int .i64 m.sy, .int .i64 m.ci, .int .i64 m.co, .int .i64 m.wl] 129 (0, 0))
theorem LV.cells {w : World} {b : Nat} {m : R} (h : LV w b m) : At w b 0 m := by
  unfold LV at h; refine ⟨?_, ?_, ?_, ?_, ?_, ?_⟩ <;> simp [World.cell?, h]
theorem LV.free {w : World} {b : Nat} {m : R} (h : LV w b m) (i : Nat) : w.frozen? ⟨b, i, none⟩ = false := by unfold LV at h; simp [World.frozen?, h]
theorem LV.lt {w : World} {b : Nat} {m : R} (h : LV w b m) : b < w.heap.size := by
  rcases Nat.lt_or_ge b w.heap.size with hlt | hge
  · exact hlt
  · unfold LV at h; rw [Array.getElem?_eq_none hge] at h; cases h
theorem LV.below {w w' : World} {b : Nat} {m : R} (h : LV w b m) (hb : Below w.heap.size w w') : LV w' b m := (hb.block b h.lt).trans h
theorem lv_new (w : World) (m : R) : LV (w.alloc (.cells #[.int .i64 m.ad, .int .i64 m.hd, .int .i64 m.sy, .int .i64 m.ci, .int .i64 m.co, .int .i64 m.wl] 129)) w.heap.size m := heap_alloc_new w _
end Ln
end Go.Proofs.YtpknmiccgbjoiabGreat
namespace Go.Proofs.YtpknmiccgbjoiabGreat
open Go.ChangeShapes Go.WideShapes Go.ChangeAt Go.RowKit
set_option linter.unusedVariables false
set_option linter.unusedSimpArgs false
attribute [local go_sem ↓] Go.wp_at_zero Go.wp_at_succ
namespace Ln
open W1 Lk
set_option maxRecDepth 100000 in
set_option maxHeartbeats 4000000 in
theorem l06Find (a : Option Addr) (ms : List R) (cap : Nat) (k : Int) (w : World) (hm : ms.length ≤ 1048576) (hr : RM w a ms) :
    Calls Tryz.prog 120 #[.slice a ms.length cap, .int .i64 k] w fun e w' => e = .returned (.tuple #[(lkF ms k).value, .bool (ms.find? (isAd k)).isSome]) ∧ Below w.heap.size w w' := by
  have HA : Hid (Below w.heap.size w (w.alloc (.cells #[.int .i64 0, .int .i64 0, .int .i64 0, .int .i64 0, .int .i64 0, .int .i64 0] 129))) := hide ((Below.refl _ _).alloc (Nat.le_refl _) _)
  have HV : Hid (LV (w.alloc (.cells #[.int .i64 0, .int .i64 0, .int .i64 0, .int .i64 0, .int .i64 0, .int .i64 0] 129)) w.heap.size R.zero) := hide (lv_new w R.zero)
  have HR := hide ((hr).below (unhide HA))
  clear hr
  have HT : Hid (∀ j, j < ms.length → (∀ i, i < j → isAd k (ms.getD i R.zero) = false) → isAd k (ms.getD j R.zero) = true → lkF ms k = ms.getD j R.zero ∧ (ms.find? (isAd k)).isSome = true) := hide (fun j hj h1 h2 => by
    have hf := Ri.find_at (z := R.zero) (isAd k) ms j hj h1 h2
    unfold lkF; rw [hf]; exact ⟨rfl, rfl⟩)
  have HN : Hid ((∀ i, i < ms.length → isAd k (ms.getD i R.zero) = false) → lkF ms k = R.zero ∧ (ms.find? (isAd k)).isSome = false) := hide (fun h1 => by
    have hf := Ri.find_no (z := R.zero) (isAd k) ms h1
    unfold lkF; rw [hf]; exact ⟨rfl, rfl⟩)
  obtain ⟨A, hA⟩ : ∃ A, lkF ms k = A := ⟨_, rfl⟩
  obtain ⟨E, hE⟩ : ∃ E, (ms.find? (isAd k)).isSome = E := ⟨_, rfl⟩
  rw [hA, hE] at HT HN ⊢
  clear hA hE
  generalize hN : ms.length = n at *
  have HL := hide hN
  clear hN
  go_enter Tryz.func120, Tryz.ntmps120
  go_wp2_with fail
  generalize hW : w.alloc (.cells #[.int .i64 0, .int .i64 0, .int .i64 0, .int .i64 0, .int .i64 0, .int .i64 0] 129) = W0 at *
  clear hW
  go_loopw [6] (fun i wr => ∃ j : Nat, j ≤ n ∧ i = .int .i64 j ∧ Hid (∀ i, i < j → isAd k (ms.getD i R.zero) = false) ∧ W0 = wr) (fun i _ => n - (intOf i).toNat)
  case atStart => exact ⟨0, by omega, rfl, hide (fun i hi => by omega), rfl⟩
  case round =>
    obtain ⟨j, hj, rfl, hrl, rfl⟩ := hrel
    obtain ⟨x0, x1, x2, x3, x4, x5⟩ := (unhide HV).cells
    simp only [Nat.zero_add] at x1 x2 x3 x4 x5
    have y0 := (unhide HV).free 0
    have y1 := (unhide HV).free 1
    have y2 := (unhide HV).free 2
    have y3 := (unhide HV).free 3
    have y4 := (unhide HV).free 4
    have y5 := (unhide HV).free 5
    unfold R.zero at x0 x1 x2 x3 x4 x5
    dsimp only at x0 x1 x2 x3 x4 x5
    by_cases hlt : (j : Int) < (n : Int)
    · have k0 : (0 : Int) ≤ (j : Int) := by omega
      have hlen : j < ms.length := by rw [unhide HL]; omega
      rcases (unhide HR) with e0 | ⟨g, off, rfl, hc⟩
      · exfalso; rw [e0] at hlen; simp at hlen
      have hA := hc j hlen
      clear hc
      cases hk : isAd k (ms.getD j R.zero)
      · have HST : Hid (∀ i, i < j + 1 → isAd k (ms.getD i R.zero) = false) := hide (fun i hi => by
          by_cases e : i = j
          · subst e; exact hk
          · exact unhide hrl i (by omega))
        have hne : ((ms.getD j R.zero).ad == k) = false := hk
        clear hk
        generalize ms.getD j R.zero = m at *
        obtain ⟨ad, hd, sy, ci, co, wl⟩ := m
        obtain ⟨c0, c1, c2, c3, c4, c5⟩ := hA
        dsimp only at c0 c1 c2 c3 c4 c5 hne
        go_wp2_with fail
        go_roundw
        case rel => exact ⟨j + 1, by omega, by go_num, HST, trivial⟩
        case measure => simp [intOf]; omega
      · have HAE := hide (unhide HT j (by have := unhide HL; omega) (unhide hrl) hk)
        have hne : ((ms.getD j R.zero).ad == k) = true := hk
        clear hk
        generalize ms.getD j R.zero = m at *
        obtain ⟨ad, hd, sy, ci, co, wl⟩ := m
        obtain ⟨c0, c1, c2, c3, c4, c5⟩ := hA
        dsimp only at c0 c1 c2 c3 c4 c5 hne
        go_wp2_with fail
        refine bodyPost_ret (v := .tuple #[.agg #[.int .i64 ad, .int .i64 hd, .int .i64 sy, .int .i64 ci, .int .i64 co, .int .i64 wl], .bool true]) (by simp [results, Tryz.results120, go_sem, x0, x1, x2, x3, x4, x5]) rfl ⟨by rw [(unhide HAE).1, (unhide HAE).2]; rfl, ?_⟩
        have hB := unhide HA
        (repeat (first | (with_reducible exact hB) | (with_reducible refine Below.drew ?_) | (with_reducible refine Below.setCell ?_ ?_ _; rotate_left; (first | exact Nat.le_refl _ | (simp; done) | (dsimp only; omega))) | (with_reducible refine Below.alloc ?_ ?_ _; rotate_left; (first | exact Nat.le_refl _ | omega | (simp [World.setCell]; omega)))))
    · obtain rfl : j = n := by omega
      have HAE := hide (unhide HN (unhide hrl))
      go_wp2_with fail
      refine bodyPost_ret (v := .tuple #[.agg #[.int .i64 0, .int .i64 0, .int .i64 0, .int .i64 0, .int .i64 0, .int .i64 0], .bool false]) (by simp [results, Tryz.results120, go_sem, x0, x1, x2, x3, x4, x5]) rfl ⟨by rw [(unhide HAE).1, (unhide HAE).2]; rfl, ?_⟩
      have hB := unhide HA
      (repeat (first | (with_reducible exact hB) | (with_reducible refine Below.drew ?_) | (with_reducible refine Below.setCell ?_ ?_ _; rotate_left; (first | exact Nat.le_refl _ | (simp; done) | (dsimp only; omega))) | (with_reducible refine Below.alloc ?_ ?_ _; rotate_left; (first | exact Nat.le_refl _ | omega | (simp [World.setCell]; omega)))))
end Ln
end Go.Proofs.YtpknmiccgbjoiabGreat
namespace Go.Proofs.YtpknmiccgbjoiabGreat
open Go.ChangeShapes Go.WideShapes Go.ChangeAt Go.RowKit
set_option linter.unusedVariables false
set_option linter.unusedSimpArgs false
set_option maxRecDepth 100000
attribute [local go_sem ↓] Go.wp_at_zero Go.wp_at_succ
namespace Rt
open W1
set_option maxHeartbeats 400000 in
theorem l04ExM (n : Int) (h0 : 1 ≤ n) (h1 : n ≤ 16776960) (w : World) : Calls Tryz.prog 122 #[.int .i64 n] w fun e w' => e = .returned (.bool (Av.exM n)) ∧ w' = w := by
  have hk := (Mtr.mcode_is (n := n) (by omega) (by omega)).1
  have E : Hid (Av.exM n = (Mtr.met (Mtr.mcode n) == n)) := hide rfl
  generalize hq : Mtr.mcode n = k at *
  have HQ := hide hq
  clear hq
  cases hx : Mtr.met k == n
  all_goals
    go_enter Tryz.func122, Tryz.ntmps122
    go_wp2_with (first | (go_at_call 174; refine (Mtr.l02MetricCodeE n (by omega) (by omega) _).mono ?_; rintro e w' ⟨rfl, rfl⟩; rw [unhide HQ]) | (go_at_call 173; refine (Mtr.l02Metric k hk _).mono ?_; rintro e w' ⟨rfl, rfl⟩))
    go_ret
    exact ⟨ret_bool (by rw [unhide E, hx]), rfl⟩
def obB (x : Lk.R) : Bool := outB x.co x.sy
theorem lks_found {me : Int} {ls : List Lk.R} (h : (ls.find? (Ln.isAd me)).isSome = true) : lksB me ls = false := by
  obtain ⟨x, hx⟩ := Option.isSome_iff_exists.1 h
  have h1 := List.mem_of_find?_eq_some hx
  have h2 := List.find?_some hx
  unfold lksB
  have : ls.all (lkB me) = false := by
    rw [List.all_eq_false]
    refine ⟨x, h1, ?_⟩
    unfold Ln.isAd at h2
    unfold lkB; rw [h2]; simp
  rw [this, Bool.and_false]
theorem lks_all {me : Int} {ls : List Lk.R} (hl : Ln.linksB ls = true) (h : (ls.find? (Ln.isAd me)).isSome = false) : lksB me ls = ls.all obB := by
  have hn : ∀ x ∈ ls, (x.ad == me) = false := by
    intro x hx
    have h' : ls.find? (Ln.isAd me) = none := by cases e : ls.find? (Ln.isAd me) <;> simp_all
    have := List.find?_eq_none.1 h' x hx
    unfold Ln.isAd at this
    simpa using this
  unfold lksB; rw [hl, Bool.true_and]
  cases e : ls.all obB
  · rw [List.all_eq_false] at e ⊢
    obtain ⟨x, hx, hb⟩ := e
    exact ⟨x, hx, by unfold lkB; unfold obB at hb; rw [hn x hx]; simpa using hb⟩
  · rw [List.all_eq_true] at e ⊢
    intro x hx
    have := e x hx
    unfold obB at this
    unfold lkB; rw [hn x hx, this]; rfl
theorem bel_drewN (w : World) (n : Nat) : Below w.heap.size w (w.drewN n) := by
  have h := Below.refl w.heap.size w
  exact ⟨h.os, h.tape, h.output, h.size, h.block⟩
/-- The ways of a link's numbers. -/
theorem ob_ways {co sy : Int} (h0 : 0 ≤ co) (h1 : co ≤ 16744448) (hs : 0 ≤ sy) :
    (co = 0 ∧ sy = 0 ∧ outB co sy = true) ∨ (co = 0 ∧ 0 < sy ∧ outB co sy = false) ∨ (0 < co ∧ Av.exM co = false ∧ outB co sy = false) ∨ (0 < co ∧ Av.exM co = true ∧ 16744192 < co ∧ outB co sy = false) ∨ (0 < co ∧ Av.exM co = true ∧ ¬ 16744192 < co ∧ outB co sy = true) := by
  by_cases e : co = 0
  · subst e
    by_cases e2 : sy = 0
    · subst e2; exact .inl ⟨rfl, rfl, rfl⟩
    · exact .inr (.inl ⟨rfl, by omega, by unfold outB; simp [e2]⟩)
  · have hc : (co == 0) = false := by simpa using e
    cases ex : Av.exM co
    · exact .inr (.inr (.inl ⟨by omega, rfl, by unfold outB Av.toldB; rw [hc, ex]; simp⟩))
    · by_cases e3 : 16744192 < co
      · exact .inr (.inr (.inr (.inl ⟨by omega, rfl, e3, by unfold outB Av.toldB inB; rw [hc, ex]; simp; omega⟩)))
      · exact .inr (.inr (.inr (.inr ⟨by omega, rfl, e3, by unfold outB Av.toldB inB; rw [hc, ex]; simp; omega⟩)))
set_option maxHeartbeats 32000000 in
theorem specRtr (x1 x2 x3 x4 x5 x6 : Int) (a1 a2 a3 a4 a5 a6 a7 : Option Addr) (c1 c2 c3 c4 c5 c6 c7 : Nat) (ls : List Lk.R) (tw : List Tu.R) (se : List Tu.R) (du : List Tu.R) (ss : List So.R) (es : List Tu.R) (la : List Ed.R) (w : World) (hm1 : ls.length ≤ 1048576) (hm2 : tw.length ≤ 1048576) (hm3 : se.length ≤ 1048576) (hm4 : du.length ≤ 1048576) (hm5 : ss.length ≤ 1048576) (hm6 : es.length ≤ 1048576) (hm7 : la.length ≤ 1048576) (hr1 : Lk.RM w a1 ls) (hr2 : Tu.RM w a2 tw) (hr3 : Tu.RM w a3 se) (hr4 : Tu.RM w a4 du) (hr5 : So.RM w a5 ss) (hr6 : Tu.RM w a6 es) (hr7 : Ed.RM w a7 la) :
    Calls Tryz.prog 60 #[.agg #[.int .i64 x1, .int .i64 x2, .int .i64 x3, .int .i64 x4, .int .i64 x5, .slice a1 ls.length c1, .slice a2 tw.length c2, .slice a3 se.length c3, .slice a4 du.length c4, .slice a5 ss.length c5, .slice a6 es.length c6, .slice a7 la.length c7, .int .i64 x6]] w fun e w' => e = .returned (.bool (rtrB x1 x2 x3 x4 x5 x6 ls tw se du ss es la)) ∧ Below w.heap.size w w' := by
  have HAL : Hid (Al w (w.alloc (.cells #[.int .i64 x1, .int .i64 x2, .int .i64 x3, .int .i64 x4, .int .i64 x5, .slice a1 ls.length c1, .slice a2 tw.length c2, .slice a3 se.length c3, .slice a4 du.length c4, .slice a5 ss.length c5, .slice a6 es.length c6, .slice a7 la.length c7, .int .i64 x6] 60)) (rC x1 x2 x3 x4 x5 (.slice a1 ls.length c1) (.slice a2 tw.length c2) (.slice a3 se.length c3) (.slice a4 du.length c4) (.slice a5 ss.length c5) (.slice a6 es.length c6) (.slice a7 la.length c7) x6)) := hide ⟨(Below.refl _ _).alloc (Nat.le_refl _) _, ra_new w _ rfl _⟩
  have HR1 := hide hr1
  clear hr1
  have HR2 := hide hr2
  clear hr2
  have HR3 := hide hr3
  clear hr3
  have HR4 := hide hr4
  clear hr4
  have HR5 := hide hr5
  clear hr5
  have HR6 := hide hr6
  clear hr6
  have HR7 := hide hr7
  clear hr7
  have K7 := hide (fun W => Ln.specOK a1 ls c1 W hm1)
  have K8 := hide (fun W => Tw.l07OK a2 tw c2 W hm2)
  have K9 := hide (fun W => St.specOK a3 se c3 W hm3)
  have K10 := hide (fun W => St.specOK a4 du c4 W hm4)
  have K11 := hide (fun W => Tp.specOK a5 ss c5 a6 es c6 W hm5 hm6)
  have K12 := hide (fun W => Av.l05Edges a7 la c7 W hm7)
  have K13 := hide (fun W => Ln.l06Find a1 ls c1 x1 W hm1)
  have K14 := hide (fun W => Tp.l09Find a5 ss c5 (.slice a6 es.length c6) x1 W hm5)
  obtain ⟨y1, y2, y3, y4, y5, y6, hy⟩ : ∃ y1 y2 y3 y4 y5 y6, Ln.lkF ls x1 = ⟨y1, y2, y3, y4, y5, y6⟩ := ⟨_, _, _, _, _, _, rfl⟩
  obtain ⟨v1, v2, v3, hu⟩ : ∃ v1 v2 v3, Tp.fS ss x1 = ⟨v1, v2, v3⟩ := ⟨_, _, _, rfl⟩
  rw [hy] at K13
  rw [hu] at K14
  dsimp only [Lk.R.value] at K13
  dsimp only [So.R.value] at K14
  clear hy hu
  cases h1 : inB x1 1 8
  · have hv : rtrB x1 x2 x3 x4 x5 x6 ls tw se du ss es la = false := by unfold rtrB; rw [h1]; rfl
    rw [hv]
    clear hv
    go_enter Tryz.func60, Tryz.ntmps60
    go_wp2_with (first | (go_at_call 107; refine (l01Addr _ _).mono ?_; rintro e w_ ⟨rfl, rfl⟩) | (go_at_call 58; refine (l01In _ _ _ _).mono ?_; rintro e w_ ⟨rfl, rfl⟩))
    go_ret
    exact ⟨rfl, (unhide HAL).1⟩
  cases h2 : inB x2 0 7
  · have hv : rtrB x1 x2 x3 x4 x5 x6 ls tw se du ss es la = false := by unfold rtrB; rw [h1, h2]; rfl
    rw [hv]
    clear hv
    go_enter Tryz.func60, Tryz.ntmps60
    go_wp2_with (first | (go_at_call 107; refine (l01Addr _ _).mono ?_; rintro e w_ ⟨rfl, rfl⟩) | (go_at_call 58; refine (l01In _ _ _ _).mono ?_; rintro e w_ ⟨rfl, rfl⟩))
    go_ret
    exact ⟨rfl, (unhide HAL).1⟩
  cases h3 : inB x3 0 65535
  · have hv : rtrB x1 x2 x3 x4 x5 x6 ls tw se du ss es la = false := by unfold rtrB; rw [h1, h2, h3]; rfl
    rw [hv]
    clear hv
    go_enter Tryz.func60, Tryz.ntmps60
    go_wp2_with (first | (go_at_call 107; refine (l01Addr _ _).mono ?_; rintro e w_ ⟨rfl, rfl⟩) | (go_at_call 58; refine (l01In _ _ _ _).mono ?_; rintro e w_ ⟨rfl, rfl⟩))
    go_ret
    exact ⟨rfl, (unhide HAL).1⟩
  cases h4 : inB x4 0 65535
  · have hv : rtrB x1 x2 x3 x4 x5 x6 ls tw se du ss es la = false := by unfold rtrB; rw [h1, h2, h3, h4]; rfl
    rw [hv]
    clear hv
    go_enter Tryz.func60, Tryz.ntmps60
    go_wp2_with (first | (go_at_call 107; refine (l01Addr _ _).mono ?_; rintro e w_ ⟨rfl, rfl⟩) | (go_at_call 58; refine (l01In _ _ _ _).mono ?_; rintro e w_ ⟨rfl, rfl⟩))
    go_ret
    exact ⟨rfl, (unhide HAL).1⟩
  cases h5 : inB x5 0 100000
  · have hv : rtrB x1 x2 x3 x4 x5 x6 ls tw se du ss es la = false := by unfold rtrB; rw [h1, h2, h3, h4, h5]; rfl
    rw [hv]
    clear hv
    go_enter Tryz.func60, Tryz.ntmps60
    go_wp2_with (first | (go_at_call 107; refine (l01Addr _ _).mono ?_; rintro e w_ ⟨rfl, rfl⟩) | (go_at_call 58; refine (l01In _ _ _ _).mono ?_; rintro e w_ ⟨rfl, rfl⟩))
    go_ret
    exact ⟨rfl, (unhide HAL).1⟩
  cases h6 : inB x6 0 1000000
  · have hv : rtrB x1 x2 x3 x4 x5 x6 ls tw se du ss es la = false := by unfold rtrB; rw [h1, h2, h3, h4, h5, h6]; rfl
    rw [hv]
    clear hv
    go_enter Tryz.func60, Tryz.ntmps60
    go_wp2_with (first | (go_at_call 107; refine (l01Addr _ _).mono ?_; rintro e w_ ⟨rfl, rfl⟩) | (go_at_call 58; refine (l01In _ _ _ _).mono ?_; rintro e w_ ⟨rfl, rfl⟩))
    go_ret
    exact ⟨rfl, (unhide HAL).1⟩
  cases h7 : Ln.linksB ls
  · have e7 : lksB x1 ls = false := by unfold lksB; rw [h7]; rfl
    have hv : rtrB x1 x2 x3 x4 x5 x6 ls tw se du ss es la = false := by unfold rtrB; rw [e7]; simp
    clear e7
    rw [hv]
    clear hv
    rw [h7] at K7
    clear h7
    go_enter Tryz.func60, Tryz.ntmps60
    go_wp2_with (first | (go_at_call 107; refine (l01Addr _ _).mono ?_; rintro e w_ ⟨rfl, rfl⟩) | (go_at_call 58; refine (l01In _ _ _ _).mono ?_; rintro e w_ ⟨rfl, rfl⟩))
    clear h1 h2 h3 h4 h5 h6
    generalize hW0 : w.alloc (.cells #[.int .i64 x1, .int .i64 x2, .int .i64 x3, .int .i64 x4, .int .i64 x5, .slice a1 ls.length c1, .slice a2 tw.length c2, .slice a3 se.length c3, .slice a4 du.length c4, .slice a5 ss.length c5, .slice a6 es.length c6, .slice a7 la.length c7, .int .i64 x6] 60) = W0 at *
    clear hW0
    refine (unhide K7 _ ((unhide HR1).below (unhide HAL).1)).mono ?_
    rintro e V7 ⟨rfl, b_⟩
    replace HAL := hide (al_below (unhide HAL) b_)
    clear b_
    go_wp2_with fail
    go_ret
    exact ⟨rfl, (unhide HAL).1⟩
  cases h8 : Tw.twoB tw
  · have e8 : twoOf x1 tw = false := by unfold twoOf; rw [h8]; rfl
    have hv : rtrB x1 x2 x3 x4 x5 x6 ls tw se du ss es la = false := by unfold rtrB; rw [e8]; simp
    clear e8
    rw [hv]
    clear hv
    rw [h7] at K7
    rw [h8] at K8
    clear h7 h8
    go_enter Tryz.func60, Tryz.ntmps60
    go_wp2_with (first | (go_at_call 107; refine (l01Addr _ _).mono ?_; rintro e w_ ⟨rfl, rfl⟩) | (go_at_call 58; refine (l01In _ _ _ _).mono ?_; rintro e w_ ⟨rfl, rfl⟩))
    clear h1 h2 h3 h4 h5 h6
    generalize hW0 : w.alloc (.cells #[.int .i64 x1, .int .i64 x2, .int .i64 x3, .int .i64 x4, .int .i64 x5, .slice a1 ls.length c1, .slice a2 tw.length c2, .slice a3 se.length c3, .slice a4 du.length c4, .slice a5 ss.length c5, .slice a6 es.length c6, .slice a7 la.length c7, .int .i64 x6] 60) = W0 at *
    clear hW0
    refine (unhide K7 _ ((unhide HR1).below (unhide HAL).1)).mono ?_
    rintro e V7 ⟨rfl, b_⟩
    replace HAL := hide (al_below (unhide HAL) b_)
    clear b_
    have z6 := (unhide HAL).2.at (i := 6) rfl
    go_wp2_with fail
    clear z6
    refine (unhide K8 _ ((unhide HR2).below (unhide HAL).1)).mono ?_
    rintro e V8 ⟨rfl, b_⟩
    replace HAL := hide (al_below (unhide HAL) b_)
    clear b_
    go_wp2_with fail
    go_ret
    exact ⟨rfl, (unhide HAL).1⟩
  cases h9 : St.setB se
  · have hv : rtrB x1 x2 x3 x4 x5 x6 ls tw se du ss es la = false := by unfold rtrB; rw [h9]; simp
    rw [hv]
    clear hv
    rw [h7] at K7
    rw [h8] at K8
    rw [h9] at K9
    clear h7 h8 h9
    go_enter Tryz.func60, Tryz.ntmps60
    go_wp2_with (first | (go_at_call 107; refine (l01Addr _ _).mono ?_; rintro e w_ ⟨rfl, rfl⟩) | (go_at_call 58; refine (l01In _ _ _ _).mono ?_; rintro e w_ ⟨rfl, rfl⟩))
    clear h1 h2 h3 h4 h5 h6
    generalize hW0 : w.alloc (.cells #[.int .i64 x1, .int .i64 x2, .int .i64 x3, .int .i64 x4, .int .i64 x5, .slice a1 ls.length c1, .slice a2 tw.length c2, .slice a3 se.length c3, .slice a4 du.length c4, .slice a5 ss.length c5, .slice a6 es.length c6, .slice a7 la.length c7, .int .i64 x6] 60) = W0 at *
    clear hW0
    refine (unhide K7 _ ((unhide HR1).below (unhide HAL).1)).mono ?_
    rintro e V7 ⟨rfl, b_⟩
    replace HAL := hide (al_below (unhide HAL) b_)
    clear b_
    have z6 := (unhide HAL).2.at (i := 6) rfl
    go_wp2_with fail
    clear z6
    refine (unhide K8 _ ((unhide HR2).below (unhide HAL).1)).mono ?_
    rintro e V8 ⟨rfl, b_⟩
    replace HAL := hide (al_below (unhide HAL) b_)
    clear b_
    have z7 := (unhide HAL).2.at (i := 7) rfl
    go_wp2_with fail
    clear z7
    refine (unhide K9 _ ((unhide HR3).below (unhide HAL).1)).mono ?_
    rintro e V9 ⟨rfl, b_⟩
    replace HAL := hide (al_below (unhide HAL) b_)
    clear b_
    go_wp2_with fail
    go_ret
    exact ⟨rfl, (unhide HAL).1⟩
  cases h10 : St.setB du
  · have hv : rtrB x1 x2 x3 x4 x5 x6 ls tw se du ss es la = false := by unfold rtrB; rw [h10]; simp
    rw [hv]
    clear hv
    rw [h7] at K7
    rw [h8] at K8
    rw [h9] at K9
    rw [h10] at K10
    clear h7 h8 h9 h10
    go_enter Tryz.func60, Tryz.ntmps60
    go_wp2_with (first | (go_at_call 107; refine (l01Addr _ _).mono ?_; rintro e w_ ⟨rfl, rfl⟩) | (go_at_call 58; refine (l01In _ _ _ _).mono ?_; rintro e w_ ⟨rfl, rfl⟩))
    clear h1 h2 h3 h4 h5 h6
    generalize hW0 : w.alloc (.cells #[.int .i64 x1, .int .i64 x2, .int .i64 x3, .int .i64 x4, .int .i64 x5, .slice a1 ls.length c1, .slice a2 tw.length c2, .slice a3 se.length c3, .slice a4 du.length c4, .slice a5 ss.length c5, .slice a6 es.length c6, .slice a7 la.length c7, .int .i64 x6] 60) = W0 at *
    clear hW0
    refine (unhide K7 _ ((unhide HR1).below (unhide HAL).1)).mono ?_
    rintro e V7 ⟨rfl, b_⟩
    replace HAL := hide (al_below (unhide HAL) b_)
    clear b_
    have z6 := (unhide HAL).2.at (i := 6) rfl
    go_wp2_with fail
    clear z6
    refine (unhide K8 _ ((unhide HR2).below (unhide HAL).1)).mono ?_
    rintro e V8 ⟨rfl, b_⟩
    replace HAL := hide (al_below (unhide HAL) b_)
    clear b_
    have z7 := (unhide HAL).2.at (i := 7) rfl
    go_wp2_with fail
    clear z7
    refine (unhide K9 _ ((unhide HR3).below (unhide HAL).1)).mono ?_
    rintro e V9 ⟨rfl, b_⟩
    replace HAL := hide (al_below (unhide HAL) b_)
    clear b_
    have z8 := (unhide HAL).2.at (i := 8) rfl
    go_wp2_with fail
    clear z8
    refine (unhide K10 _ ((unhide HR4).below (unhide HAL).1)).mono ?_
    rintro e V10 ⟨rfl, b_⟩
    replace HAL := hide (al_below (unhide HAL) b_)
    clear b_
    go_wp2_with fail
    go_ret
    exact ⟨rfl, (unhide HAL).1⟩
  cases h11 : Tp.topB ss es
  · have hv : rtrB x1 x2 x3 x4 x5 x6 ls tw se du ss es la = false := by unfold rtrB; rw [h11]; simp
    rw [hv]
    clear hv
    rw [h7] at K7
    rw [h8] at K8
    rw [h9] at K9
    rw [h10] at K10
    rw [h11] at K11
    clear h7 h8 h9 h10 h11
    go_enter Tryz.func60, Tryz.ntmps60
    go_wp2_with (first | (go_at_call 107; refine (l01Addr _ _).mono ?_; rintro e w_ ⟨rfl, rfl⟩) | (go_at_call 58; refine (l01In _ _ _ _).mono ?_; rintro e w_ ⟨rfl, rfl⟩))
    clear h1 h2 h3 h4 h5 h6
    generalize hW0 : w.alloc (.cells #[.int .i64 x1, .int .i64 x2, .int .i64 x3, .int .i64 x4, .int .i64 x5, .slice a1 ls.length c1, .slice a2 tw.length c2, .slice a3 se.length c3, .slice a4 du.length c4, .slice a5 ss.length c5, .slice a6 es.length c6, .slice a7 la.length c7, .int .i64 x6] 60) = W0 at *
    clear hW0
    refine (unhide K7 _ ((unhide HR1).below (unhide HAL).1)).mono ?_
    rintro e V7 ⟨rfl, b_⟩
    replace HAL := hide (al_below (unhide HAL) b_)
    clear b_
    have z6 := (unhide HAL).2.at (i := 6) rfl
    go_wp2_with fail
    clear z6
    refine (unhide K8 _ ((unhide HR2).below (unhide HAL).1)).mono ?_
    rintro e V8 ⟨rfl, b_⟩
    replace HAL := hide (al_below (unhide HAL) b_)
    clear b_
    have z7 := (unhide HAL).2.at (i := 7) rfl
    go_wp2_with fail
    clear z7
    refine (unhide K9 _ ((unhide HR3).below (unhide HAL).1)).mono ?_
    rintro e V9 ⟨rfl, b_⟩
    replace HAL := hide (al_below (unhide HAL) b_)
    clear b_
    have z8 := (unhide HAL).2.at (i := 8) rfl
    go_wp2_with fail
    clear z8
    refine (unhide K10 _ ((unhide HR4).below (unhide HAL).1)).mono ?_
    rintro e V10 ⟨rfl, b_⟩
    replace HAL := hide (al_below (unhide HAL) b_)
    clear b_
    have z9 := (unhide HAL).2.at (i := 9) rfl
    have z10 := (unhide HAL).2.at (i := 10) rfl
    go_wp2_with fail
    clear z9 z10
    refine (unhide K11 _ ((unhide HR5).below (unhide HAL).1) ((unhide HR6).below (unhide HAL).1)).mono ?_
    rintro e V11 ⟨rfl, b_⟩
    replace HAL := hide (al_below (unhide HAL) b_)
    clear b_
    go_wp2_with fail
    go_ret
    exact ⟨rfl, (unhide HAL).1⟩
  cases h12 : Av.allN la la.length
  · have hv : rtrB x1 x2 x3 x4 x5 x6 ls tw se du ss es la = false := by unfold rtrB; rw [h12]; simp
    rw [hv]
    clear hv
    rw [h7] at K7
    rw [h8] at K8
    rw [h9] at K9
    rw [h10] at K10
    rw [h11] at K11
    rw [h12] at K12
    clear h7 h8 h9 h10 h11 h12
    go_enter Tryz.func60, Tryz.ntmps60
    go_wp2_with (first | (go_at_call 107; refine (l01Addr _ _).mono ?_; rintro e w_ ⟨rfl, rfl⟩) | (go_at_call 58; refine (l01In _ _ _ _).mono ?_; rintro e w_ ⟨rfl, rfl⟩))
    clear h1 h2 h3 h4 h5 h6
    generalize hW0 : w.alloc (.cells #[.int .i64 x1, .int .i64 x2, .int .i64 x3, .int .i64 x4, .int .i64 x5, .slice a1 ls.length c1, .slice a2 tw.length c2, .slice a3 se.length c3, .slice a4 du.length c4, .slice a5 ss.length c5, .slice a6 es.length c6, .slice a7 la.length c7, .int .i64 x6] 60) = W0 at *
    clear hW0
    refine (unhide K7 _ ((unhide HR1).below (unhide HAL).1)).mono ?_
    rintro e V7 ⟨rfl, b_⟩
    replace HAL := hide (al_below (unhide HAL) b_)
    clear b_
    have z6 := (unhide HAL).2.at (i := 6) rfl
    go_wp2_with fail
    clear z6
    refine (unhide K8 _ ((unhide HR2).below (unhide HAL).1)).mono ?_
    rintro e V8 ⟨rfl, b_⟩
    replace HAL := hide (al_below (unhide HAL) b_)
    clear b_
    have z7 := (unhide HAL).2.at (i := 7) rfl
    go_wp2_with fail
    clear z7
    refine (unhide K9 _ ((unhide HR3).below (unhide HAL).1)).mono ?_
    rintro e V9 ⟨rfl, b_⟩
    replace HAL := hide (al_below (unhide HAL) b_)
    clear b_
    have z8 := (unhide HAL).2.at (i := 8) rfl
    go_wp2_with fail
    clear z8
    refine (unhide K10 _ ((unhide HR4).below (unhide HAL).1)).mono ?_
    rintro e V10 ⟨rfl, b_⟩
    replace HAL := hide (al_below (unhide HAL) b_)
    clear b_
    have z9 := (unhide HAL).2.at (i := 9) rfl
    have z10 := (unhide HAL).2.at (i := 10) rfl
    go_wp2_with fail
    clear z9 z10
    refine (unhide K11 _ ((unhide HR5).below (unhide HAL).1) ((unhide HR6).below (unhide HAL).1)).mono ?_
    rintro e V11 ⟨rfl, b_⟩
    replace HAL := hide (al_below (unhide HAL) b_)
    clear b_
    have z11 := (unhide HAL).2.at (i := 11) rfl
    go_wp2_with fail
    clear z11
    refine (unhide K12 _ ((unhide HR7).below (unhide HAL).1)).mono ?_
    rintro e V12 ⟨rfl, q_, hq_⟩
    have b_ : Below V11.heap.size V11 V12 := by rw [hq_]; exact bel_drewN _ _
    replace HAL := hide (al_below (unhide HAL) b_)
    clear hq_ q_ b_
    go_wp2_with fail
    go_ret
    exact ⟨rfl, (unhide HAL).1⟩
  cases h13 : (ls.find? (Ln.isAd x1)).isSome
  rotate_left
  · have e7 : lksB x1 ls = false := by exact lks_found h13
    have hv : rtrB x1 x2 x3 x4 x5 x6 ls tw se du ss es la = false := by unfold rtrB; rw [e7]; simp
    clear e7
    rw [hv]
    clear hv
    rw [h7] at K7
    rw [h8] at K8
    rw [h9] at K9
    rw [h10] at K10
    rw [h11] at K11
    rw [h12] at K12
    rw [h13] at K13
    clear h7 h8 h9 h10 h11 h12 h13
    go_enter Tryz.func60, Tryz.ntmps60
    go_wp2_with (first | (go_at_call 107; refine (l01Addr _ _).mono ?_; rintro e w_ ⟨rfl, rfl⟩) | (go_at_call 58; refine (l01In _ _ _ _).mono ?_; rintro e w_ ⟨rfl, rfl⟩))
    clear h1 h2 h3 h4 h5 h6
    generalize hW0 : w.alloc (.cells #[.int .i64 x1, .int .i64 x2, .int .i64 x3, .int .i64 x4, .int .i64 x5, .slice a1 ls.length c1, .slice a2 tw.length c2, .slice a3 se.length c3, .slice a4 du.length c4, .slice a5 ss.length c5, .slice a6 es.length c6, .slice a7 la.length c7, .int .i64 x6] 60) = W0 at *
    clear hW0
    refine (unhide K7 _ ((unhide HR1).below (unhide HAL).1)).mono ?_
    rintro e V7 ⟨rfl, b_⟩
    replace HAL := hide (al_below (unhide HAL) b_)
    clear b_
    have z6 := (unhide HAL).2.at (i := 6) rfl
    go_wp2_with fail
    clear z6
    refine (unhide K8 _ ((unhide HR2).below (unhide HAL).1)).mono ?_
    rintro e V8 ⟨rfl, b_⟩
    replace HAL := hide (al_below (unhide HAL) b_)
    clear b_
    have z7 := (unhide HAL).2.at (i := 7) rfl
    go_wp2_with fail
    clear z7
    refine (unhide K9 _ ((unhide HR3).below (unhide HAL).1)).mono ?_
    rintro e V9 ⟨rfl, b_⟩
    replace HAL := hide (al_below (unhide HAL) b_)
    clear b_
    have z8 := (unhide HAL).2.at (i := 8) rfl
    go_wp2_with fail
    clear z8
    refine (unhide K10 _ ((unhide HR4).below (unhide HAL).1)).mono ?_
    rintro e V10 ⟨rfl, b_⟩
    replace HAL := hide (al_below (unhide HAL) b_)
    clear b_
    have z9 := (unhide HAL).2.at (i := 9) rfl
    have z10 := (unhide HAL).2.at (i := 10) rfl
    go_wp2_with fail
    clear z9 z10
    refine (unhide K11 _ ((unhide HR5).below (unhide HAL).1) ((unhide HR6).below (unhide HAL).1)).mono ?_
    rintro e V11 ⟨rfl, b_⟩
    replace HAL := hide (al_below (unhide HAL) b_)
    clear b_
    have z11 := (unhide HAL).2.at (i := 11) rfl
    go_wp2_with fail
    clear z11
    refine (unhide K12 _ ((unhide HR7).below (unhide HAL).1)).mono ?_
    rintro e V12 ⟨rfl, q_, hq_⟩
    have b_ : Below V11.heap.size V11 V12 := by rw [hq_]; exact bel_drewN _ _
    replace HAL := hide (al_below (unhide HAL) b_)
    clear hq_ q_ b_
    have z5 := (unhide HAL).2.at (i := 5) rfl
    have z0 := (unhide HAL).2.at (i := 0) rfl
    go_wp2_with fail
    clear z5 z0
    refine (unhide K13 _ ((unhide HR1).below (unhide HAL).1)).mono ?_
    rintro e V13 ⟨rfl, b_⟩
    replace HAL := hide (al_below (unhide HAL) b_)
    clear b_
    have HAL2 := hide (al_below (unhide HAL) ((Below.refl _ _).alloc (Nat.le_refl _) (.cells #[.int .i64 y1, .int .i64 y2, .int .i64 y3, .int .i64 y4, .int .i64 y5, .int .i64 y6] 129)))
    go_wp2_with fail
    go_ret
    exact ⟨rfl, (unhide HAL2).1⟩
  cases h14 : Tp.hasS ss x1
  rotate_left
  · have hv : rtrB x1 x2 x3 x4 x5 x6 ls tw se du ss es la = false := by unfold rtrB; rw [h14]; simp
    rw [hv]
    clear hv
    rw [h7] at K7
    rw [h8] at K8
    rw [h9] at K9
    rw [h10] at K10
    rw [h11] at K11
    rw [h12] at K12
    rw [h13] at K13
    rw [h14] at K14
    clear h7 h8 h9 h10 h11 h12 h13 h14
    go_enter Tryz.func60, Tryz.ntmps60
    go_wp2_with (first | (go_at_call 107; refine (l01Addr _ _).mono ?_; rintro e w_ ⟨rfl, rfl⟩) | (go_at_call 58; refine (l01In _ _ _ _).mono ?_; rintro e w_ ⟨rfl, rfl⟩))
    clear h1 h2 h3 h4 h5 h6
    generalize hW0 : w.alloc (.cells #[.int .i64 x1, .int .i64 x2, .int .i64 x3, .int .i64 x4, .int .i64 x5, .slice a1 ls.length c1, .slice a2 tw.length c2, .slice a3 se.length c3, .slice a4 du.length c4, .slice a5 ss.length c5, .slice a6 es.length c6, .slice a7 la.length c7, .int .i64 x6] 60) = W0 at *
    clear hW0
    refine (unhide K7 _ ((unhide HR1).below (unhide HAL).1)).mono ?_
    rintro e V7 ⟨rfl, b_⟩
    replace HAL := hide (al_below (unhide HAL) b_)
    clear b_
    have z6 := (unhide HAL).2.at (i := 6) rfl
    go_wp2_with fail
    clear z6
    refine (unhide K8 _ ((unhide HR2).below (unhide HAL).1)).mono ?_
    rintro e V8 ⟨rfl, b_⟩
    replace HAL := hide (al_below (unhide HAL) b_)
    clear b_
    have z7 := (unhide HAL).2.at (i := 7) rfl
    go_wp2_with fail
    clear z7
    refine (unhide K9 _ ((unhide HR3).below (unhide HAL).1)).mono ?_
    rintro e V9 ⟨rfl, b_⟩
    replace HAL := hide (al_below (unhide HAL) b_)
    clear b_
    have z8 := (unhide HAL).2.at (i := 8) rfl
    go_wp2_with fail
    clear z8
    refine (unhide K10 _ ((unhide HR4).below (unhide HAL).1)).mono ?_
    rintro e V10 ⟨rfl, b_⟩
    replace HAL := hide (al_below (unhide HAL) b_)
    clear b_
    have z9 := (unhide HAL).2.at (i := 9) rfl
    have z10 := (unhide HAL).2.at (i := 10) rfl
    go_wp2_with fail
    clear z9 z10
    refine (unhide K11 _ ((unhide HR5).below (unhide HAL).1) ((unhide HR6).below (unhide HAL).1)).mono ?_
    rintro e V11 ⟨rfl, b_⟩
    replace HAL := hide (al_below (unhide HAL) b_)
    clear b_
    have z11 := (unhide HAL).2.at (i := 11) rfl
    go_wp2_with fail
    clear z11
    refine (unhide K12 _ ((unhide HR7).below (unhide HAL).1)).mono ?_
    rintro e V12 ⟨rfl, q_, hq_⟩
    have b_ : Below V11.heap.size V11 V12 := by rw [hq_]; exact bel_drewN _ _
    replace HAL := hide (al_below (unhide HAL) b_)
    clear hq_ q_ b_
    have z5 := (unhide HAL).2.at (i := 5) rfl
    have z0 := (unhide HAL).2.at (i := 0) rfl
    go_wp2_with fail
    clear z5 z0
    refine (unhide K13 _ ((unhide HR1).below (unhide HAL).1)).mono ?_
    rintro e V13 ⟨rfl, b_⟩
    replace HAL := hide (al_below (unhide HAL) b_)
    clear b_
    have HAL2 := hide (al_below (unhide HAL) ((Below.refl _ _).alloc (Nat.le_refl _) (.cells #[.int .i64 y1, .int .i64 y2, .int .i64 y3, .int .i64 y4, .int .i64 y5, .int .i64 y6] 129)))
    skip
    have z9 := (unhide HAL2).2.at (i := 9) rfl
    have z10 := (unhide HAL2).2.at (i := 10) rfl
    have z0 := (unhide HAL2).2.at (i := 0) rfl
    go_wp2_with fail
    clear z9 z10 z0
    generalize hW13 : V13.alloc (.cells #[.int .i64 y1, .int .i64 y2, .int .i64 y3, .int .i64 y4, .int .i64 y5, .int .i64 y6] 129) = W13 at *
    clear hW13
    replace HAL := HAL2
    clear HAL2
    refine (unhide K14 _ ((unhide HR5).below (unhide HAL).1)).mono ?_
    rintro e V14 ⟨rfl, b_⟩
    replace HAL := hide (al_below (unhide HAL) b_)
    clear b_
    have HAL2 := hide (al_below (unhide HAL) ((Below.refl _ _).alloc (Nat.le_refl _) (.cells #[.int .i64 v1, .int .i64 v2, .int .i64 v3] 167)))
    go_wp2_with fail
    go_ret
    exact ⟨rfl, (unhide HAL2).1⟩
  have HE : Hid (rtrB x1 x2 x3 x4 x5 x6 ls tw se du ss es la = (tw.all (twB x1) && ls.all obB)) := hide (by
    have e8 : twoOf x1 tw = tw.all (twB x1) := by unfold twoOf; rw [h8]; rfl
    unfold rtrB; rw [h1, h2, h3, h4, h5, h6, lks_all h7 h13, e8, h9, h10, h11, h14, h12]; simp [Bool.and_comm])
  obtain ⟨A, hA⟩ : ∃ A, rtrB x1 x2 x3 x4 x5 x6 ls tw se du ss es la = A := ⟨_, rfl⟩
  rw [hA] at HE ⊢
  clear hA
  have hl8 := Ln.links_len h7
  have hl62 := Tw.two_len h8
  have HLB := hide h7
  have HTW := hide h8
  rw [h7] at K7
  rw [h8] at K8
  rw [h9] at K9
  rw [h10] at K10
  rw [h11] at K11
  rw [h12] at K12
  rw [h13] at K13
  rw [h14] at K14
  clear h7 h8 h9 h10 h11 h12 h13 h14
  go_enter Tryz.func60, Tryz.ntmps60
  go_wp2_with (first | (go_at_call 107; refine (l01Addr _ _).mono ?_; rintro e w_ ⟨rfl, rfl⟩) | (go_at_call 58; refine (l01In _ _ _ _).mono ?_; rintro e w_ ⟨rfl, rfl⟩))
  clear h1 h2 h3 h4 h5 h6
  generalize hW0 : w.alloc (.cells #[.int .i64 x1, .int .i64 x2, .int .i64 x3, .int .i64 x4, .int .i64 x5, .slice a1 ls.length c1, .slice a2 tw.length c2, .slice a3 se.length c3, .slice a4 du.length c4, .slice a5 ss.length c5, .slice a6 es.length c6, .slice a7 la.length c7, .int .i64 x6] 60) = W0 at *
  clear hW0
  refine (unhide K7 _ ((unhide HR1).below (unhide HAL).1)).mono ?_
  rintro e V7 ⟨rfl, b_⟩
  replace HAL := hide (al_below (unhide HAL) b_)
  clear b_
  have z6 := (unhide HAL).2.at (i := 6) rfl
  go_wp2_with fail
  clear z6
  refine (unhide K8 _ ((unhide HR2).below (unhide HAL).1)).mono ?_
  rintro e V8 ⟨rfl, b_⟩
  replace HAL := hide (al_below (unhide HAL) b_)
  clear b_
  have z7 := (unhide HAL).2.at (i := 7) rfl
  go_wp2_with fail
  clear z7
  refine (unhide K9 _ ((unhide HR3).below (unhide HAL).1)).mono ?_
  rintro e V9 ⟨rfl, b_⟩
  replace HAL := hide (al_below (unhide HAL) b_)
  clear b_
  have z8 := (unhide HAL).2.at (i := 8) rfl
  go_wp2_with fail
  clear z8
  refine (unhide K10 _ ((unhide HR4).below (unhide HAL).1)).mono ?_
  rintro e V10 ⟨rfl, b_⟩
  replace HAL := hide (al_below (unhide HAL) b_)
  clear b_
  have z9 := (unhide HAL).2.at (i := 9) rfl
  have z10 := (unhide HAL).2.at (i := 10) rfl
  go_wp2_with fail
  clear z9 z10
  refine (unhide K11 _ ((unhide HR5).below (unhide HAL).1) ((unhide HR6).below (unhide HAL).1)).mono ?_
  rintro e V11 ⟨rfl, b_⟩
  replace HAL := hide (al_below (unhide HAL) b_)
  clear b_
  have z11 := (unhide HAL).2.at (i := 11) rfl
  go_wp2_with fail
  clear z11
  refine (unhide K12 _ ((unhide HR7).below (unhide HAL).1)).mono ?_
  rintro e V12 ⟨rfl, q_, hq_⟩
  have b_ : Below V11.heap.size V11 V12 := by rw [hq_]; exact bel_drewN _ _
  replace HAL := hide (al_below (unhide HAL) b_)
  clear hq_ q_ b_
  have z5 := (unhide HAL).2.at (i := 5) rfl
  have z0 := (unhide HAL).2.at (i := 0) rfl
  go_wp2_with fail
  clear z5 z0
  refine (unhide K13 _ ((unhide HR1).below (unhide HAL).1)).mono ?_
  rintro e V13 ⟨rfl, b_⟩
  replace HAL := hide (al_below (unhide HAL) b_)
  clear b_
  have HAL2 := hide (al_below (unhide HAL) ((Below.refl _ _).alloc (Nat.le_refl _) (.cells #[.int .i64 y1, .int .i64 y2, .int .i64 y3, .int .i64 y4, .int .i64 y5, .int .i64 y6] 129)))
  skip
  have z9 := (unhide HAL2).2.at (i := 9) rfl
  have z10 := (unhide HAL2).2.at (i := 10) rfl
  have z0 := (unhide HAL2).2.at (i := 0) rfl
  go_wp2_with fail
  clear z9 z10 z0
  generalize hW13 : V13.alloc (.cells #[.int .i64 y1, .int .i64 y2, .int .i64 y3, .int .i64 y4, .int .i64 y5, .int .i64 y6] 129) = W13 at *
  clear hW13
  replace HAL := HAL2
  clear HAL2
  refine (unhide K14 _ ((unhide HR5).below (unhide HAL).1)).mono ?_
  rintro e V14 ⟨rfl, b_⟩
  replace HAL := hide (al_below (unhide HAL) b_)
  clear b_
  have HAL2 := hide (al_below (unhide HAL) ((Below.refl _ _).alloc (Nat.le_refl _) (.cells #[.int .i64 v1, .int .i64 v2, .int .i64 v3] 167)))
  skip
  have z6 := (unhide HAL2).2.at (i := 6) rfl
  go_wp2_with fail
  clear z6
  generalize hW14 : V14.alloc (.cells #[.int .i64 v1, .int .i64 v2, .int .i64 v3] 167) = W14 at *
  clear hW14
  replace HAL := HAL2
  clear HAL2
  go_loopw [7] (fun i wr => ∃ j : Nat, j ≤ tw.length ∧ i = .int .i64 j ∧ Hid ((tw.take j).all (twB x1) = true) ∧ Hid (Al w wr (rC x1 x2 x3 x4 x5 (.slice a1 ls.length c1) (.slice a2 tw.length c2) (.slice a3 se.length c3) (.slice a4 du.length c4) (.slice a5 ss.length c5) (.slice a6 es.length c6) (.slice a7 la.length c7) x6))) (fun i _ => tw.length - (intOf i).toNat)
  case atStart => exact ⟨0, by omega, rfl, hide rfl, HAL⟩
  case round =>
    obtain ⟨j, hj, rfl, hal, hAl⟩ := hrel
    have z6 := (unhide hAl).2.at (i := 6) rfl
    have z0 := (unhide hAl).2.at (i := 0) rfl
    by_cases hlt : (j : Int) < (tw.length : Int)
    · have k0 : (0 : Int) ≤ (j : Int) := by omega
      have hlen : j < tw.length := by omega
      obtain ⟨g, off, ha2⟩ := (unhide HR2).form (by omega)
      have HC := (unhide HR2).below (unhide hAl).1
      rw [ha2] at HC z6
      have hA := HC.at hlen
      have HY : Hid (twB x1 (tw.getD j Tu.R.zero) = true → (tw.take (j + 1)).all (twB x1) = true) := hide (fun h => all_step hlen (unhide hal) h)
      have HZ : Hid (twB x1 (tw.getD j Tu.R.zero) = false → A = false) := hide (fun h => by rw [unhide HE, all_no hlen h]; rfl)
      have hbd := St.ok_bounds (St.setB_ok (Tw.two_set (unhide HTW)) hlen)
      generalize tw.getD j Tu.R.zero = m at *
      obtain ⟨key, til, val⟩ := m
      obtain ⟨t0, t1, t2⟩ := hA
      dsimp only at t0 t1 t2 hbd
      obtain ⟨hb0, hb1, _⟩ := hbd
      have EK : Hid (twB x1 ⟨key, til, val⟩ = (!(key / 100 == x1) && !(key % 100 == x1))) := hide (by unfold twB Tw.hv Tw.ha; dsimp only; rw [Int.tdiv_eq_ediv_of_nonneg hb0, Int.tmod_eq_emod_of_nonneg hb0])
      have HAD : Hid (∀ n, Al w (wr.drewN n) (rC x1 x2 x3 x4 x5 (.slice a1 ls.length c1) (.slice a2 tw.length c2) (.slice a3 se.length c3) (.slice a4 du.length c4) (.slice a5 ss.length c5) (.slice a6 es.length c6) (.slice a7 la.length c7) x6)) := hide (fun n => al_below (unhide hAl) (bel_drewN _ _))
      clear HC
      cases q1 : (key / 100 == x1)
      · cases q2 : (key % 100 == x1)
        · have hy := hide (unhide HY (by rw [unhide EK, q1, q2]; rfl))
          clear HY HZ EK
          go_wp2_with fail
          go_quiet (fail)
          go_wp2_with fail
          go_roundw
          case rel => exact ⟨j + 1, by omega, by go_num, hy, hide (unhide HAD _)⟩
          case measure => simp [intOf]; omega
        · have hf := hide (unhide HZ (by rw [unhide EK, q1, q2]; rfl))
          clear HY HZ EK
          go_wp2_with fail
          go_quiet (fail)
          go_wp2_with fail
          go_ret
          exact ⟨ret_bool (unhide hf).symm, (unhide HAD _).1⟩
      · have hf := hide (unhide HZ (by rw [unhide EK, q1]; rfl))
        clear HY HZ EK
        go_wp2_with fail
        go_quiet (fail)
        go_wp2_with fail
        go_ret
        exact ⟨ret_bool (unhide hf).symm, (unhide HAD _).1⟩
    · obtain rfl : j = tw.length := by omega
      have HE2 : Hid (A = ls.all obB) := hide (by have e := unhide hal; rw [List.take_length] at e; rw [unhide HE, e]; rfl)
      have z5 := (unhide hAl).2.at (i := 5) rfl
      go_wp2_with fail
      clear z5 z6 z0
      go_loopw [8] (fun i wr => ∃ j : Nat, j ≤ ls.length ∧ i = .int .i64 j ∧ Hid ((ls.take j).all obB = true) ∧ Hid (Al w wr (rC x1 x2 x3 x4 x5 (.slice a1 ls.length c1) (.slice a2 tw.length c2) (.slice a3 se.length c3) (.slice a4 du.length c4) (.slice a5 ss.length c5) (.slice a6 es.length c6) (.slice a7 la.length c7) x6))) (fun i _ => ls.length - (intOf i).toNat)
      case atStart => exact ⟨0, by omega, rfl, hide rfl, hAl⟩
      case round =>
        obtain ⟨k, hk, rfl, hal2, hAl2⟩ := hrel
        have z5 := (unhide hAl2).2.at (i := 5) rfl
        by_cases hlt2 : (k : Int) < (ls.length : Int)
        · have k0 : (0 : Int) ≤ (k : Int) := by omega
          have hlen : k < ls.length := by omega
          obtain ⟨g, off, ha1⟩ := (unhide HR1).form (by omega)
          have HC := (unhide HR1).below (unhide hAl2).1
          rw [ha1] at HC z5
          have hA := HC.at hlen
          clear ha1
          have HY : Hid (obB (ls.getD k Lk.R.zero) = true → (ls.take (k + 1)).all obB = true) := hide (fun h => all_step hlen (unhide hal2) h)
          have HZ : Hid (obB (ls.getD k Lk.R.zero) = false → A = false) := hide (fun h => by rw [unhide HE2]; exact all_no hlen h)
          have hco := Ln.ok_co (Ri.all_ok (unhide HLB) hlen)
          have hsy := Ln.ok_sy (Ri.all_ok (unhide HLB) hlen)
          generalize ls.getD k Lk.R.zero = m at *
          obtain ⟨ad, hd, sy, ci, co, wl⟩ := m
          obtain ⟨t0, t1, t2, t3, t4, t5⟩ := hA
          dsimp only at t0 t1 t2 t3 t4 t5 hco hsy
          have hw := ob_ways hco.1 hco.2 hsy.1
          have EK : Hid (obB ⟨ad, hd, sy, ci, co, wl⟩ = outB co sy) := hide rfl
          have HA3 := hide (al_below (unhide hAl2) ((Below.refl _ _).alloc (Nat.le_refl _) (.cells #[.int .i64 ad, .int .i64 hd, .int .i64 sy, .int .i64 ci, .int .i64 co, .int .i64 wl] 129)))
          clear HC
          rcases hw with ⟨rfl, rfl, e⟩ | ⟨rfl, q2, e⟩ | ⟨q1, q2, e⟩ | ⟨q1, q2, q3, e⟩ | ⟨q1, q2, q3, e⟩
          · have hy := hide (unhide HY ((unhide EK).trans e))
            clear HY HZ EK e
            go_wp2_with fail
            go_roundw
            case rel => exact ⟨k + 1, by omega, by go_num, hy, HA3⟩
            case measure => simp [intOf]; omega
          · have hf := hide (unhide HZ ((unhide EK).trans e))
            clear HY HZ EK e
            go_wp2_with fail
            go_ret
            exact ⟨ret_bool (unhide hf).symm, (unhide HA3).1⟩
          · have hf := hide (unhide HZ ((unhide EK).trans e))
            clear HY HZ EK e
            go_wp2_with (go_at_call 122; refine (l04ExM co (by omega) (by omega) _).mono ?_; rintro e w_ ⟨rfl, rfl⟩)
            go_ret
            exact ⟨ret_bool (unhide hf).symm, (unhide HA3).1⟩
          · have hf := hide (unhide HZ ((unhide EK).trans e))
            clear HY HZ EK e
            go_wp2_with (go_at_call 122; refine (l04ExM co (by omega) (by omega) _).mono ?_; rintro e w_ ⟨rfl, rfl⟩)
            go_ret
            exact ⟨ret_bool (unhide hf).symm, (unhide HA3).1⟩
          · have hy := hide (unhide HY ((unhide EK).trans e))
            have q4 : (co == 0) = false := by simp; omega
            clear HY HZ EK e
            go_wp2_with (go_at_call 122; refine (l04ExM co (by omega) (by omega) _).mono ?_; rintro e w_ ⟨rfl, rfl⟩)
            go_roundw
            case rel => exact ⟨k + 1, by omega, by go_num, hy, HA3⟩
            case measure => simp [intOf]; omega
        · obtain rfl : k = ls.length := by omega
          have hf := hide (show A = true by have e := unhide hal2; rw [List.take_length] at e; rw [unhide HE2, e])
          go_wp2_with fail
          go_ret
          exact ⟨ret_bool (unhide hf).symm, (unhide hAl2).1⟩
end Rt
end Go.Proofs.YtpknmiccgbjoiabGreat
namespace Go.Proofs.YtpknmiccgbjoiabGreat
open Go.ChangeShapes Go.WideShapes Go.ChangeAt Go.RowKit
set_option linter.unusedVariables false
set_option linter.unusedSimpArgs false
set_option maxRecDepth 100000
attribute [local go_sem ↓] Go.wp_at_zero Go.wp_at_succ
namespace Nt
open W1 Rt
theorem specOkM (m : Rm) (p : Pl) (w : World) (hs : Sm m) (hr : Rd w m p) : Calls Tryz.prog 60 #[.agg (cl m p).toArray] w fun e w' => e = .returned (.bool (okM m)) ∧ Below w.heap.size w w' := by
  obtain ⟨s1, s2, s3, s4, s5, s6, s7⟩ := hs
  obtain ⟨r1, r2, r3, r4, r5, r6, r7⟩ := hr
  exact specRtr m.x1 m.x2 m.x3 m.x4 m.x5 m.x6 p.a1 p.a2 p.a3 p.a4 p.a5 p.a6 p.a7 p.c1 p.c2 p.c3 p.c4 p.c5 p.c6 p.c7 m.ls m.tw m.se m.du m.ss m.es m.la w s1 s2 s3 s4 s5 s6 s7 r1 r2 r3 r4 r5 r6 r7
theorem sNet {w : World} {g o p : Nat} {m : Rm} {pl : Pl} {y1 y5 t : Int} {v1 v2 v3 : Value} (hn : NB w p v1 v2 v3 t) (hA : w.rangeAt g o (cl m pl)) (e1 : m.x1 = y1) (e5 : m.x5 = y5) :
    (NB w p v1 v2 v3 t ∧ w.rangeAt g o (cl m pl)) ∧ w.cell? ⟨p, 0, none⟩ = some v1 ∧ w.cell? ⟨p, 3, none⟩ = some (.int .i64 t) ∧ w.cell? ⟨g, o, none⟩ = some (.int .i64 y1) ∧ w.cell? ⟨g, o + 4, none⟩ = some (.int .i64 y5) :=
  ⟨⟨hn, hA⟩, hn.1, hn.2.2.2, by rw [← e1]; exact hA 0 _ rfl, by rw [← e5]; exact hA 4 _ rfl⟩
set_option maxHeartbeats 32000000 in
theorem specNet (a b d : Option Addr) (ca cb cd : Nat) (t : Int) (ms : List Rm) (ps : List Pl) (cs : List Int) (fs : List Fm.R) (w : World) (hm : ms.length ≤ 1048576) (hc : cs.length ≤ 1048576) (hf : fs.length ≤ 1048576) (hs : ∀ i, i < ms.length → Sm (ms.getD i Rm.zero)) (hg : ∀ i, i < fs.length → (fs.getD i Fm.R.zero).bs.size ≤ maxLen) (hr : NR w a ms ps) (hi : In.RM w b cs) (hz : Fm.RM w d fs) :
    Calls Tryz.prog 28 #[.agg #[.slice a ms.length ca, .slice b cs.length cb, .slice d fs.length cd, .int .i64 t]] w fun e w' => e = .returned (.bool (netB ms cs fs t)) ∧ Below w.heap.size w w' := by
  have HX0 := hide (nb_new w (.slice a ms.length ca) (.slice b cs.length cb) (.slice d fs.length cd) t 33)
  have b0 := bel_new w (.cells #[.slice a ms.length ca, .slice b cs.length cb, .slice d fs.length cd, .int .i64 t] 33)
  have HR := hide (hr.below b0)
  have HI := hide (hi.below b0)
  have HZ := hide (hz.below b0)
  have HB0 := hide b0
  have HS := hide hs
  have HG := hide hg
  have E0 : Hid (netB ms cs fs t = (inB t 0 100000 && (inB ms.length 1 6 && ((allI ms.length fun i => rok (ms.getD i Rm.zero) i t) && (costB cs ms.length && (decide (fs.length ≤ 200) && allI fs.length fun i => fok (fs.getD i Fm.R.zero) ms.length t)))))) := hide rfl
  have HAN : Hid (∀ j, j < ms.length → rok (ms.getD j Rm.zero) j t = false → (allI ms.length fun i => rok (ms.getD i Rm.zero) i t) = false) := hide (fun j h h' => allI_no (p := fun i => rok (ms.getD i Rm.zero) i t) h h')
  have HAY : Hid ((∀ i, i < ms.length → rok (ms.getD i Rm.zero) i t = true) → (allI ms.length fun i => rok (ms.getD i Rm.zero) i t) = true) := hide (fun h => allI_yes h)
  have HFN : Hid (∀ j, j < fs.length → fok (fs.getD j Fm.R.zero) ms.length t = false → (allI fs.length fun i => fok (fs.getD i Fm.R.zero) ms.length t) = false) := hide (fun j h h' => allI_no (p := fun i => fok (fs.getD i Fm.R.zero) ms.length t) h h')
  have HFY : Hid ((∀ i, i < fs.length → fok (fs.getD i Fm.R.zero) ms.length t = true) → (allI fs.length fun i => fok (fs.getD i Fm.R.zero) ms.length t) = true) := hide (fun h => allI_yes h)
  generalize (allI ms.length fun i => rok (ms.getD i Rm.zero) i t) = AA at *
  generalize (allI fs.length fun i => fok (fs.getD i Fm.R.zero) ms.length t) = FF at *
  obtain ⟨N, hN⟩ : ∃ N, ms.length = N := ⟨_, rfl⟩
  obtain ⟨K, hK⟩ : ∃ K, fs.length = K := ⟨_, rfl⟩
  rw [hN, hK] at HX0 HB0 HR HI HZ E0 ⊢
  rw [hN] at hm HAY HFN HFY
  rw [hK] at hf HFY
  have HN := hide hN
  have HKK := hide hK
  clear hN hK hr hi hz hs hg b0
  have KN := hide (fun W => l01In (N : Int) 1 6 W)
  have KT := hide (fun W => l01In t 0 100000 W)
  cases h1 : inB (N : Int) 1 6
  · rw [h1] at KN E0
    clear h1
    go_enter Tryz.func28, Tryz.ntmps28
    go_wp2_with (go_at_call 58; refine (unhide KN _).mono ?_; rintro e w_ ⟨rfl, rfl⟩)
    go_ret
    exact ⟨ret_bool (by rw [unhide E0]; simp), unhide HB0⟩
  have hn1 : 1 ≤ N := by simp [inB] at h1; omega
  have hn6 : N ≤ 6 := by simp [inB] at h1; omega
  rw [h1] at KN E0
  clear h1
  go_enter Tryz.func28, Tryz.ntmps28
  go_wp2_with (go_at_call 58; refine (unhide KN _).mono ?_; rintro e w_ ⟨rfl, hw_⟩; subst w_)
  clear KN
  generalize w.alloc (.cells #[.slice a N ca, .slice b cs.length cb, .slice d K cd, .int .i64 t] 33) = w0 at *
  refine (l13Costs _ cs _ N _ hc hn1 hn6 (unhide HI)).mono ?_
  rintro e w1 ⟨rfl, b1⟩
  have HX1 := hide ((unhide HX0).below b1)
  have HR1 := hide ((unhide HR).below b1)
  have HZ1 := hide ((unhide HZ).below b1)
  have HB1 := hide ((unhide HB0).trans (b1.mono (unhide HB0).size))
  clear HX0 HI HZ HR HB0 b1
  cases h3 : costB cs N
  · rw [h3] at E0
    go_wp2_with fail
    go_ret
    exact ⟨ret_bool (by rw [unhide E0]; simp), unhide HB1⟩
  rw [h3] at E0
  clear h3
  cases h2 : inB t 0 100000
  · rw [h2] at E0 KT
    clear h2
    obtain ⟨p0, p1, p2, p3⟩ := unhide HX1
    go_wp2_with (go_at_call 58; refine (unhide KT _).mono ?_; rintro e w_ ⟨rfl, rfl⟩)
    go_ret
    exact ⟨ret_bool (by rw [unhide E0]; simp), unhide HB1⟩
  have ht0 : 0 ≤ t := by simp [inB] at h2; omega
  have ht1 : t ≤ 100000 := by simp [inB] at h2; omega
  rw [h2] at E0 KT
  clear h2
  by_cases h200 : (200 : Int) < (K : Int)
  · obtain ⟨p0, p1, p2, p3⟩ := unhide HX1
    go_wp2_with (go_at_call 58; refine (unhide KT _).mono ?_; rintro e w_ ⟨rfl, rfl⟩)
    go_ret
    exact ⟨ret_bool (by rw [unhide E0]; have : decide (K ≤ 200) = false := (by simp; omega); rw [this]; simp), unhide HB1⟩
  have E : Hid (netB ms cs fs t = (AA && FF)) := hide (by rw [unhide E0]; have : decide (K ≤ 200) = true := (by simp; omega); rw [this]; simp)
  clear E0
  obtain ⟨p0, p1, p2, p3⟩ := unhide HX1
  go_wp2_with (go_at_call 58; refine (unhide KT _).mono ?_; rintro e w_ ⟨rfl, hw_⟩; subst w_)
  clear p0 p1 p2 p3 KT
  go_loopw [3] (fun i wr => ∃ j : Nat, j ≤ N ∧ i = .int .i64 j ∧ Hid (∀ i, i < j → rok (ms.getD i Rm.zero) i t = true) ∧ Hid (Below w.heap.size w wr) ∧ Hid (NB wr w.heap.size (.slice a N ca) (.slice b cs.length cb) (.slice d K cd) t) ∧ Hid (NR wr a ms ps) ∧ Hid (Fm.RM wr d fs)) (fun i _ => N - (intOf i).toNat)
  case atStart => exact ⟨0, by omega, rfl, hide (fun i hi => absurd hi (Nat.not_lt_zero i)), HB1, HX1, HR1, HZ1⟩
  case round =>
    obtain ⟨j, hj, rfl, hall, hbl, HNB, HRR, HFF⟩ := hrel
    by_cases hlt : (j : Int) < (N : Int)
    · have k0 : (0 : Int) ≤ (j : Int) := by omega
      have hwj : IntKind.i64.wrap ((j : Int) + 1) = (j : Int) + 1 := by rw [IntKind.wrap_i64]; omega
      have hlen : j < ms.length := by rw [unhide HN]; omega
      obtain ⟨g, off, rfl, hA, hD⟩ := (unhide HRR).at hlen
      have HA := hide hA
      have HD := hide hD
      have HM := hide ((unhide HS) j hlen)
      have HNO := hide (unhide HAN j hlen)
      have HUP := hide (fun h => up_to (p := fun i => rok (ms.getD i Rm.zero) i t) (j := j) (unhide hall) h)
      have HRK : Hid (rok (ms.getD j Rm.zero) j t = (okM (ms.getD j Rm.zero) && ((ms.getD j Rm.zero).x1 == (j : Int) + 1 && decide ((ms.getD j Rm.zero).x5 ≤ t)))) := hide rfl
      try dsimp only at HUP
      clear hlen hA hD
      generalize hmj : ms.getD j Rm.zero = m at HA HD HM HNO HUP HRK
      clear hmj
      generalize hpj : ps.getD j Pl.zero = p at HA HD
      clear hpj
      obtain ⟨y1, hy1⟩ : ∃ y, m.x1 = y := ⟨_, rfl⟩
      obtain ⟨y5, hy5⟩ : ∃ y, m.x5 = y := ⟨_, rfl⟩
      rw [hy1, hy5] at HRK
      have HY1 := hide hy1
      have HY5 := hide hy5
      clear hy1 hy5
      obtain ⟨p0, p1, p2, p3⟩ := unhide HNB
      cases hk : okM m
      · have EB := hide (unhide HNO (by rw [unhide HRK, hk]; rfl))
        have HK := hide hk
        clear hk
        go_wp2_with fail
        refine wp_region_noPanic ?_
        refine wp_region_held_drew (S := fun w' => (NB w' w.heap.size (.slice (some ⟨g, off, none⟩) N ca) (.slice b cs.length cb) (.slice d K cd) t ∧ w'.rangeAt g (off + j * 13) (cl m p)) ∧ w'.cell? ⟨w.heap.size, 0, none⟩ = some (.slice (some ⟨g, off, none⟩) N ca) ∧ w'.cell? ⟨w.heap.size, 3, none⟩ = some (.int .i64 t) ∧ w'.cell? ⟨g, off + j * 13, none⟩ = some (.int .i64 y1) ∧ w'.cell? ⟨g, off + j * 13 + 4, none⟩ = some (.int .i64 y5)) (by kernel_rfl) (sNet (unhide HNB).drew (unhide HA) (unhide HY1) (unhide HY5)) (fun hHeld => ?_)
        refine Rg.t 0 39 ?_
        refine Rg.t 1 40 ?_
        refine Rg.t 2 41 ?_
        refine Rg.t 3 42 ?_
        refine Rg.t (v := .agg (cl m p).toArray) 4 43 ?_ (hv := fun w0 hSw => execI _ rfl rfl hSw.1.2)
        (refine Rg.o 5 (fun K hK => ?_); go_simp)
        refine (specOkM m p wr.drew (unhide HM) (unhide HD).drew).mono ?_
        rintro e w1 ⟨rfl, b1⟩
        rw [unhide HK]
        refine hK.out _ _ (sNet ((unhide HNB).drew.below b1) (rng_below (w := wr.drew) (unhide HA) b1) (unhide HY1) (unhide HY5)) (fun hHeld => ?_)
        clear hK K
        (try simp only [Act.put, List.setIfInBounds_toArray, List.set_cons_zero, List.set_cons_succ])
        refine Rg.t 6 45 ?_
        refine Rg.t 7 46 ?_
        refine Rg.s 8 47 ?_
        refine Rg.s 9 48 ?_
        refine Rg.s 10 49 ?_
        refine Rg.s 11 50 ?_
        refine Rg.s 12 51 ?_
        refine Rg.s 13 52 ?_
        refine Rg.s 14 53 ?_
        refine Rg.s 15 54 ?_
        refine Rg.s 16 55 ?_
        refine Rg.t 17 56 ?_
        refine Rg.t 18 57 ?_
        refine Rg.s 19 58 ?_
        refine Rg.s 20 59 ?_
        refine Rg.s 21 60 ?_
        refine Rg.s 22 61 ?_
        refine Rg.s 23 62 ?_
        refine Rg.s 24 63 ?_
        refine Rg.s 25 64 ?_
        refine Rg.s 26 65 ?_
        refine Rg.s 27 66 ?_
        refine Rg.t 28 67 ?_
        refine wpAnyH_done (by kernel_rfl) (NoPanic.normal ?_) _
        have HB1 := hide ((unhide hbl).drew.trans (b1.mono (by show w.heap.size ≤ wr.heap.size; exact (unhide hbl).size)))
        have HN1 := hide ((unhide HNB).drew.below b1)
        have HR1 := hide ((unhide HRR).drew.below b1)
        have HI1 := hide (Fm.RM.below (w := wr.drew) (unhide HFF) b1)
        clear hHeld b1 HA HD
        go_wp2_with fail
        go_ret
        exact ⟨ret_bool (by rw [unhide E, unhide EB]; simp), unhide HB1⟩
      have HK := hide hk
      rw [hk] at HRK
      clear hk
      cases hx : (y1 != (j : Int) + 1)
      rotate_left
      · have EB := hide (unhide HNO (by rw [unhide HRK]; have : (y1 == (j : Int) + 1) = false := (by simpa using hx); rw [this]; rfl))
        go_wp2_with fail
        refine wp_region_noPanic ?_
        refine wp_region_held_drew (S := fun w' => (NB w' w.heap.size (.slice (some ⟨g, off, none⟩) N ca) (.slice b cs.length cb) (.slice d K cd) t ∧ w'.rangeAt g (off + j * 13) (cl m p)) ∧ w'.cell? ⟨w.heap.size, 0, none⟩ = some (.slice (some ⟨g, off, none⟩) N ca) ∧ w'.cell? ⟨w.heap.size, 3, none⟩ = some (.int .i64 t) ∧ w'.cell? ⟨g, off + j * 13, none⟩ = some (.int .i64 y1) ∧ w'.cell? ⟨g, off + j * 13 + 4, none⟩ = some (.int .i64 y5)) (by kernel_rfl) (sNet (unhide HNB).drew (unhide HA) (unhide HY1) (unhide HY5)) (fun hHeld => ?_)
        refine Rg.t 0 39 ?_
        refine Rg.t 1 40 ?_
        refine Rg.t 2 41 ?_
        refine Rg.t 3 42 ?_
        refine Rg.t (v := .agg (cl m p).toArray) 4 43 ?_ (hv := fun w0 hSw => execI _ rfl rfl hSw.1.2)
        (refine Rg.o 5 (fun K hK => ?_); go_simp)
        refine (specOkM m p wr.drew (unhide HM) (unhide HD).drew).mono ?_
        rintro e w1 ⟨rfl, b1⟩
        rw [unhide HK]
        refine hK.out _ _ (sNet ((unhide HNB).drew.below b1) (rng_below (w := wr.drew) (unhide HA) b1) (unhide HY1) (unhide HY5)) (fun hHeld => ?_)
        clear hK K
        (try simp only [Act.put, List.setIfInBounds_toArray, List.set_cons_zero, List.set_cons_succ])
        refine Rg.t 6 45 ?_
        refine Rg.t 7 46 ?_
        refine Rg.t 8 47 ?_
        refine Rg.t 9 48 ?_
        refine Rg.t 10 49 ?_
        refine Rg.t 11 50 ?_
        refine Rg.t 12 51 ?_
        refine Rg.t 13 52 ?_
        refine Rg.t 14 53 ?_
        refine Rg.t 15 54 ?_
        refine Rg.t 16 55 ?_
        refine Rg.t 17 56 ?_
        refine Rg.t 18 57 ?_
        refine Rg.s 19 58 ?_
        refine Rg.s 20 59 ?_
        refine Rg.s 21 60 ?_
        refine Rg.s 22 61 ?_
        refine Rg.s 23 62 ?_
        refine Rg.s 24 63 ?_
        refine Rg.s 25 64 ?_
        refine Rg.s 26 65 ?_
        refine Rg.s 27 66 ?_
        refine Rg.t 28 67 ?_
        refine wpAnyH_done (by kernel_rfl) (NoPanic.normal ?_) _
        have HB1 := hide ((unhide hbl).drew.trans (b1.mono (by show w.heap.size ≤ wr.heap.size; exact (unhide hbl).size)))
        have HN1 := hide ((unhide HNB).drew.below b1)
        have HR1 := hide ((unhide HRR).drew.below b1)
        have HI1 := hide (Fm.RM.below (w := wr.drew) (unhide HFF) b1)
        clear hHeld b1 HA HD
        go_wp2_with fail
        go_ret
        exact ⟨ret_bool (by rw [unhide E, unhide EB]; simp), unhide HB1⟩
      by_cases h5 : t < y5
      · have EB := hide (unhide HNO (by rw [unhide HRK]; have : decide (y5 ≤ t) = false := (by simp; omega); rw [this]; simp))
        go_wp2_with fail
        refine wp_region_noPanic ?_
        refine wp_region_held_drew (S := fun w' => (NB w' w.heap.size (.slice (some ⟨g, off, none⟩) N ca) (.slice b cs.length cb) (.slice d K cd) t ∧ w'.rangeAt g (off + j * 13) (cl m p)) ∧ w'.cell? ⟨w.heap.size, 0, none⟩ = some (.slice (some ⟨g, off, none⟩) N ca) ∧ w'.cell? ⟨w.heap.size, 3, none⟩ = some (.int .i64 t) ∧ w'.cell? ⟨g, off + j * 13, none⟩ = some (.int .i64 y1) ∧ w'.cell? ⟨g, off + j * 13 + 4, none⟩ = some (.int .i64 y5)) (by kernel_rfl) (sNet (unhide HNB).drew (unhide HA) (unhide HY1) (unhide HY5)) (fun hHeld => ?_)
        refine Rg.t 0 39 ?_
        refine Rg.t 1 40 ?_
        refine Rg.t 2 41 ?_
        refine Rg.t 3 42 ?_
        refine Rg.t (v := .agg (cl m p).toArray) 4 43 ?_ (hv := fun w0 hSw => execI _ rfl rfl hSw.1.2)
        (refine Rg.o 5 (fun K hK => ?_); go_simp)
        refine (specOkM m p wr.drew (unhide HM) (unhide HD).drew).mono ?_
        rintro e w1 ⟨rfl, b1⟩
        rw [unhide HK]
        refine hK.out _ _ (sNet ((unhide HNB).drew.below b1) (rng_below (w := wr.drew) (unhide HA) b1) (unhide HY1) (unhide HY5)) (fun hHeld => ?_)
        clear hK K
        (try simp only [Act.put, List.setIfInBounds_toArray, List.set_cons_zero, List.set_cons_succ])
        refine Rg.t 6 45 ?_
        refine Rg.t 7 46 ?_
        refine Rg.t 8 47 ?_
        refine Rg.t 9 48 ?_
        refine Rg.t 10 49 ?_
        refine Rg.t 11 50 ?_
        refine Rg.t 12 51 ?_
        refine Rg.t 13 52 ?_
        refine Rg.t 14 53 ?_
        refine Rg.t 15 54 ?_
        refine Rg.t 16 55 ?_
        refine Rg.t 17 56 ?_
        refine Rg.t 18 57 ?_
        refine Rg.t 19 58 ?_
        refine Rg.t 20 59 ?_
        refine Rg.t 21 60 ?_
        refine Rg.t 22 61 ?_
        refine Rg.t 23 62 ?_
        refine Rg.t 24 63 ?_
        refine Rg.t 25 64 ?_
        refine Rg.t 26 65 ?_
        refine Rg.t 27 66 ?_
        refine Rg.t 28 67 ?_
        refine wpAnyH_done (by kernel_rfl) (NoPanic.normal ?_) _
        have HB1 := hide ((unhide hbl).drew.trans (b1.mono (by show w.heap.size ≤ wr.heap.size; exact (unhide hbl).size)))
        have HN1 := hide ((unhide HNB).drew.below b1)
        have HR1 := hide ((unhide HRR).drew.below b1)
        have HI1 := hide (Fm.RM.below (w := wr.drew) (unhide HFF) b1)
        clear hHeld b1 HA HD
        go_wp2_with fail
        go_ret
        exact ⟨ret_bool (by rw [unhide E, unhide EB]; simp), unhide HB1⟩
      · have OK := hide (unhide HUP (by rw [unhide HRK]; have h1 : (y1 == (j : Int) + 1) = true := (by simpa using hx); have h2 : decide (y5 ≤ t) = true := (by simp; omega); rw [h1, h2]; rfl))
        clear HRK HNO HUP
        go_wp2_with fail
        refine wp_region_noPanic ?_
        refine wp_region_held_drew (S := fun w' => (NB w' w.heap.size (.slice (some ⟨g, off, none⟩) N ca) (.slice b cs.length cb) (.slice d K cd) t ∧ w'.rangeAt g (off + j * 13) (cl m p)) ∧ w'.cell? ⟨w.heap.size, 0, none⟩ = some (.slice (some ⟨g, off, none⟩) N ca) ∧ w'.cell? ⟨w.heap.size, 3, none⟩ = some (.int .i64 t) ∧ w'.cell? ⟨g, off + j * 13, none⟩ = some (.int .i64 y1) ∧ w'.cell? ⟨g, off + j * 13 + 4, none⟩ = some (.int .i64 y5)) (by kernel_rfl) (sNet (unhide HNB).drew (unhide HA) (unhide HY1) (unhide HY5)) (fun hHeld => ?_)
        refine Rg.t 0 39 ?_
        refine Rg.t 1 40 ?_
        refine Rg.t 2 41 ?_
        refine Rg.t 3 42 ?_
        refine Rg.t (v := .agg (cl m p).toArray) 4 43 ?_ (hv := fun w0 hSw => execI _ rfl rfl hSw.1.2)
        (refine Rg.o 5 (fun K hK => ?_); go_simp)
        refine (specOkM m p wr.drew (unhide HM) (unhide HD).drew).mono ?_
        rintro e w1 ⟨rfl, b1⟩
        rw [unhide HK]
        refine hK.out _ _ (sNet ((unhide HNB).drew.below b1) (rng_below (w := wr.drew) (unhide HA) b1) (unhide HY1) (unhide HY5)) (fun hHeld => ?_)
        clear hK K
        (try simp only [Act.put, List.setIfInBounds_toArray, List.set_cons_zero, List.set_cons_succ])
        refine Rg.t 6 45 ?_
        refine Rg.t 7 46 ?_
        refine Rg.t 8 47 ?_
        refine Rg.t 9 48 ?_
        refine Rg.t 10 49 ?_
        refine Rg.t 11 50 ?_
        refine Rg.t 12 51 ?_
        refine Rg.t 13 52 ?_
        refine Rg.t 14 53 ?_
        refine Rg.t 15 54 ?_
        refine Rg.t 16 55 ?_
        refine Rg.t 17 56 ?_
        refine Rg.t 18 57 ?_
        refine Rg.t 19 58 ?_
        refine Rg.t 20 59 ?_
        refine Rg.t 21 60 ?_
        refine Rg.t 22 61 ?_
        refine Rg.t 23 62 ?_
        refine Rg.t 24 63 ?_
        refine Rg.t 25 64 ?_
        refine Rg.t 26 65 ?_
        refine Rg.t 27 66 ?_
        refine Rg.t 28 67 ?_
        refine wpAnyH_done (by kernel_rfl) (NoPanic.normal ?_) _
        have HB1 := hide ((unhide hbl).drew.trans (b1.mono (by show w.heap.size ≤ wr.heap.size; exact (unhide hbl).size)))
        have HN1 := hide ((unhide HNB).drew.below b1)
        have HR1 := hide ((unhide HRR).drew.below b1)
        have HI1 := hide (Fm.RM.below (w := wr.drew) (unhide HFF) b1)
        clear hHeld b1 HA HD
        clear p0 p1 p2 p3
        go_wp2_with fail
        go_roundw
        case rel => exact ⟨j + 1, by omega, by go_num, OK, HB1, HN1, HR1, HI1⟩
        case measure => simp [intOf]; omega
    · obtain rfl : j = N := by omega
      have EA := hide (unhide HAY (unhide hall))
      have E2 : Hid (netB ms cs fs t = FF) := hide (by rw [unhide E, unhide EA]; rfl)
      clear E EA HAN HAY hall HS
      obtain ⟨p0, p1, p2, p3⟩ := unhide HNB
      go_wp2_with fail
      clear p0 p1 p2 p3
      rename World => wq
      go_loopw [4] (fun i wr => ∃ q : Nat, q ≤ K ∧ i = .int .i64 q ∧ Hid (∀ i, i < q → fok (fs.getD i Fm.R.zero) j t = true) ∧ Hid (Below w.heap.size w wr) ∧ Hid (NB wr w.heap.size (.slice a j ca) (.slice b cs.length cb) (.slice d K cd) t) ∧ Hid (Fm.RM wr d fs)) (fun i _ => K - (intOf i).toNat)
      case atStart => exact ⟨0, by omega, rfl, hide (fun i hi => absurd hi (Nat.not_lt_zero i)), hbl, HNB, HFF⟩
      case round =>
        clear hbl HNB HFF HRR HX1 HR1 HZ1 HB1
        obtain ⟨q, hq, rfl, hall, hbl, hnb, hrm⟩ := hrel
        by_cases hltq : (q : Int) < (K : Int)
        · have k0 : (0 : Int) ≤ (q : Int) := by omega
          have hlen : q < fs.length := by rw [unhide HKK]; omega
          rcases (unhide hrm) with e0 | ⟨g, off, rfl, hc⟩
          · exfalso; rw [e0] at hlen; simp at hlen
          have hA := hc q hlen
          have hzz := (unhide HG) q hlen
          unfold maxLen at hzz
          have HNO := hide (unhide HFN q hlen)
          have HUP := hide (fun h => up_to (p := fun i => fok (fs.getD i Fm.R.zero) j t) (j := q) (unhide hall) h)
          have HFK : Hid (fok (fs.getD q Fm.R.zero) j t = (apB (fs.getD q Fm.R.zero).fr (fs.getD q Fm.R.zero).tt j && (inB (fs.getD q Fm.R.zero).ti t (t + 1) && decide (((fs.getD q Fm.R.zero).bs.size : Int) ≤ 900)))) := hide (by unfold fok apB; simp only [Bool.and_assoc])
          try dsimp only at HUP
          clear hc hlen
          generalize hmj : fs.getD q Fm.R.zero = m at hA hzz HNO HUP HFK
          clear hmj
          obtain ⟨fr, tt, ti, bs⟩ := m
          obtain ⟨c0, c1, c2, c3⟩ := hA
          dsimp only at c0 c1 c2 c3 hzz HFK
          have b1 := bel_new wr (.cells #[.int .i64 fr, .int .i64 tt, .int .i64 ti, .string bs] 103)
          have HN1 := hide ((unhide hnb).below b1)
          have HR1 := hide ((unhide hrm).below b1)
          have HB1 := hide ((unhide hbl).trans (b1.mono (unhide hbl).size))
          have q0 : (wr.alloc (.cells #[.int .i64 fr, .int .i64 tt, .int .i64 ti, .string bs] 103)).cell? ⟨wr.heap.size, 2, none⟩ = some (.int .i64 ti) := by simp [World.cell?_alloc_new]
          have q3 : (wr.alloc (.cells #[.int .i64 fr, .int .i64 tt, .int .i64 ti, .string bs] 103)).cell? ⟨wr.heap.size, 3, none⟩ = some (.string bs) := by simp [World.cell?_alloc_new]
          have hw1 : wr.heap.size < (wr.alloc (.cells #[.int .i64 fr, .int .i64 tt, .int .i64 ti, .string bs] 103)).heap.size := by simp
          have Q0 := hide q0
          have Q3 := hide q3
          have HW1 := hide hw1
          have KA := hide (fun W => l13Pair a b (some ⟨g, off, none⟩) j cs.length K ca cb cd t fr tt W)
          have KI := hide (fun W => l01In ti t (t + 1) W)
          clear q0 q3 hw1 b1
          obtain ⟨p0, p1, p2, p3⟩ := unhide hnb
          go_upto_region 12 with fail
          clear p0 p1 p2 p3 c0 c1 c2 c3
          obtain ⟨p0, p1, p2, p3⟩ := unhide HN1
          go_wp2_with fail
          clear p0 p1 p2 p3
          generalize wr.alloc (.cells #[.int .i64 fr, .int .i64 tt, .int .i64 ti, .string bs] 103) = w1 at *
          refine (unhide KA _).mono ?_
          rintro e w2 ⟨rfl, b2⟩
          have HN2 := hide ((unhide HN1).below b2)
          have HR2 := hide ((unhide HR1).below b2)
          have HB2 := hide ((unhide HB1).trans (b2.mono (unhide HB1).size))
          have q2 := (b2.cell (p := ⟨wr.heap.size, 2, none⟩) (unhide HW1)).trans (unhide Q0)
          have q3 := (b2.cell (p := ⟨wr.heap.size, 3, none⟩) (unhide HW1)).trans (unhide Q3)
          clear Q0 Q3 HW1 HN1 HR1 HB1 b2 KA hnb hrm hbl
          cases hap : apB fr tt j
          · have EB := hide (unhide HNO (by rw [unhide HFK, hap]; rfl))
            clear hap
            obtain ⟨p0, p1, p2, p3⟩ := unhide HN2
            go_wp2_with fail
            go_ret
            exact ⟨ret_bool (by rw [unhide E2, unhide EB]), unhide HB2⟩
          rw [hap] at HFK
          clear hap
          cases hti : inB ti t (t + 1)
          · rw [hti] at KI
            have EB := hide (unhide HNO (by rw [unhide HFK, hti]; rfl))
            clear hti
            obtain ⟨p0, p1, p2, p3⟩ := unhide HN2
            go_wp2_with (go_at_call 58; refine (unhide KI _).mono ?_; rintro e w_ ⟨rfl, rfl⟩)
            go_ret
            exact ⟨ret_bool (by rw [unhide E2, unhide EB]), unhide HB2⟩
          rw [hti] at KI HFK
          clear hti
          by_cases h900 : (900 : Int) < (bs.size : Int)
          · have EB := hide (unhide HNO (by rw [unhide HFK]; have : decide ((bs.size : Int) ≤ 900) = false := (by simp; omega); rw [this]; rfl))
            obtain ⟨p0, p1, p2, p3⟩ := unhide HN2
            go_wp2_with (go_at_call 58; refine (unhide KI _).mono ?_; rintro e w_ ⟨rfl, rfl⟩)
            go_ret
            exact ⟨ret_bool (by rw [unhide E2, unhide EB]), unhide HB2⟩
          · have OK := hide (unhide HUP (by rw [unhide HFK]; have : decide ((bs.size : Int) ≤ 900) = true := (by simp; omega); rw [this]; rfl))
            clear HNO HUP HFK
            obtain ⟨p0, p1, p2, p3⟩ := unhide HN2
            go_wp2_with (go_at_call 58; refine (unhide KI _).mono ?_; rintro e w_ ⟨rfl, rfl⟩)
            clear p0 p1 p2 p3 q2 q3 KI
            go_roundw
            case rel => exact ⟨q + 1, by omega, by go_num, OK, HB2, HN2, HR2⟩
            case measure => simp [intOf]; omega
        · obtain rfl : q = K := by omega
          have EA := hide (unhide HFY (unhide hall))
          obtain ⟨p0, p1, p2, p3⟩ := unhide hnb
          go_wp2_with fail
          go_ret
          exact ⟨ret_bool (by rw [unhide E2, unhide EA]), unhide hbl⟩
end Nt
end Go.Proofs.YtpknmiccgbjoiabGreat
namespace Go.Proofs.YtpknmiccgbjoiabGreat
open Go.ChangeShapes Go.WideShapes Go.ChangeAt Go.RowKit
set_option linter.unusedVariables false
set_option linter.unusedSimpArgs false
set_option maxRecDepth 100000
attribute [local go_sem ↓] Go.wp_at_zero Go.wp_at_succ
namespace Nt
open W1 Rt
theorem drewI {w : World} {a : Option Addr} {cs : List Int} (h : In.RM w a cs) : In.RM w.drew a cs := h
theorem execNB {op : Oper} {a : Act} {w : World} (x : Operand) (ho : op.op = .load 33 x) {b : Nat} {v1 v2 v3 : Value} {t : Int} (hx : a.eval x = .pointer (some ⟨b, 0, none⟩)) (h : NB w b v1 v2 v3 t) : (execOp a.eval op).run Tryz.prog w = .ok (.value (.agg #[v1, v2, v3, .int .i64 t])) w := by
  unfold execOp
  simp only [ho, hx, Instr.loadAt, Instr.sureAddr, Sem.run_bind, Sem.run_pure, Result.andThen_ok, run_loadVar_mid w b 0 33 [v1, v2, v3, .int .i64 t] _ (nb_range h) infoN.1 infoN.2.1 infoN.2.2]
theorem infoNW : Tryz.prog.underlying 26 = some (Tryz.prog.underlying 26).get! ∧ ((Tryz.prog.underlying 26).get!).isRow = true ∧ (Tryz.prog.info? 26).map (·.size) = some 4 := ⟨by kernel_rfl, by kernel_rfl, by kernel_rfl⟩
theorem execNW {op : Oper} {a : Act} {w : World} (x : Operand) (ho : op.op = .load 26 x) {b : Nat} {v1 v2 v3 : Value} {t : Int} (hx : a.eval x = .pointer (some ⟨b, 0, none⟩)) (h : NB w b v1 v2 v3 t) : (execOp a.eval op).run Tryz.prog w = .ok (.value (.agg #[v1, v2, v3, .int .i64 t])) w := by
  unfold execOp
  simp only [ho, hx, Instr.loadAt, Instr.sureAddr, Sem.run_bind, Sem.run_pure, Result.andThen_ok, run_loadVar_mid w b 0 26 [v1, v2, v3, .int .i64 t] _ (nb_range h) infoNW.1 infoNW.2.1 infoNW.2.2]
end Nt
end Go.Proofs.YtpknmiccgbjoiabGreat
namespace Go.Proofs.YtpknmiccgbjoiabGreat
open Go.ChangeShapes Go.WideShapes Go.ChangeAt Go.RowKit
set_option linter.unusedVariables false
set_option linter.unusedSimpArgs false
set_option maxRecDepth 100000
attribute [local go_sem ↓] Go.wp_at_zero Go.wp_at_succ
namespace Nt
open W1 Rt
theorem netB_n {ms : List Rm} {cs : List Int} {fs : List Fm.R} {t : Int} (h : netB ms cs fs t = true) : 1 ≤ ms.length ∧ ms.length ≤ 6 ∧ cs.length = ms.length * ms.length ∧ 0 ≤ t ∧ t ≤ 100000 := by
  unfold netB costB at h
  simp only [Bool.and_eq_true, beq_iff_eq] at h
  obtain ⟨ht, hn, _, ⟨hc, _⟩, _⟩ := h
  simp [inB] at ht hn
  exact ⟨by omega, by omega, hc, ht.1, ht.2⟩
end Nt
end Go.Proofs.YtpknmiccgbjoiabGreat
namespace Go.Proofs.YtpknmiccgbjoiabGreat
open Go.ChangeShapes Go.WideShapes Go.ChangeAt Go.RowKit
set_option linter.unusedVariables false
set_option linter.unusedSimpArgs false
attribute [local go_sem ↓] Go.wp_at_zero Go.wp_at_succ
namespace Ln
open W1 Lk
def isSym (now : Int) (m : R) : Bool := statusV m now == 2
def symN (now : Int) (ms : List R) (j : Nat) : List Int := ((ms.take j).filter (isSym now)).map (·.ad)
def symA (ms : List R) (now : Int) : List Int := if codeL ms = 0 then symN now ms ms.length else []
theorem symN_yes {now : Int} {ms : List R} {j : Nat} (h : j < ms.length) (hs : isSym now (ms.getD j R.zero) = true) : symN now ms (j + 1) = symN now ms j ++ [(ms.getD j R.zero).ad] := by
  unfold symN
  rw [List.getD_eq_getElem?_getD, List.getElem?_eq_getElem h] at hs ⊢
  rw [List.take_add_one, List.getElem?_eq_getElem h, List.filter_append, List.map_append]
  simp only [Option.toList_some, Option.getD_some] at hs ⊢
  rw [List.filter_cons_of_pos hs]; rfl
theorem symN_no {now : Int} {ms : List R} {j : Nat} (h : j < ms.length) (hs : isSym now (ms.getD j R.zero) = false) : symN now ms (j + 1) = symN now ms j := by
  unfold symN
  rw [List.getD_eq_getElem?_getD, List.getElem?_eq_getElem h] at hs
  rw [List.take_add_one, List.getElem?_eq_getElem h, List.filter_append, List.map_append]
  simp only [Option.toList_some, Option.getD_some] at hs ⊢
  rw [List.filter_cons_of_neg (by simp [hs])]; simp
theorem symN_len (now : Int) (ms : List R) (j : Nat) : (symN now ms j).length ≤ j := by
  unfold symN; rw [List.length_map]
  have := List.length_filter_le (isSym now) (ms.take j)
  rw [List.length_take] at this; omega
theorem sym_len (ms : List R) (now : Int) : (symA ms now).length ≤ ms.length := by
  unfold symA; split
  · exact symN_len _ _ _
  · exact Nat.zero_le _
theorem own_belowI {w w' : World} {base : Nat} {v : Value} {n : Nat} {xs : List Value} (h : w.ownsRow base 3 1 v n xs) (hb : Below w.heap.size w w') : w'.ownsRow base 3 1 v n xs := by
  refine h.kept (row := none) ⟨hb.os, hb.tape, hb.output, hb.size, fun k hk _ => hb.block k hk⟩ ?_
  cases v.ownBlock
  · exact .inl rfl
  · exact .inr (by simp)
set_option maxRecDepth 100000 in
set_option maxHeartbeats 4000000 in
theorem l06Sym (a : Option Addr) (ms : List R) (cap : Nat) (now : Int) (w : World) (hm : ms.length ≤ 4096) (hr : RM w a ms) :
    Calls Tryz.prog 160 #[.slice a ms.length cap, .int .i64 now] w fun e w' => ∃ v, e = .returned v ∧ Below w.heap.size w w' ∧ In.LstV w' v (symN now ms ms.length) w.heap.size w'.heap.size := by
  have HR1 := hide hr
  clear hr
  have O0 := hide (In.own_empty w w.heap.size (Nat.le_refl _))
  have P0 := hide ((Below.refl w.heap.size w).alloc (Nat.le_refl _) (.cells #[] 3))
  generalize hN : ms.length = n at *
  have HN := hide hN
  clear hN
  go_enter Tryz.func160, Tryz.ntmps160
  go_wp2_with fail
  go_loopw [5, 6] (fun v i wr => ∃ j : Nat, j ≤ n ∧ i = .int .i64 j ∧ Hid (wr.ownsRow w.heap.size 3 1 v (symN now ms j).length (In.flat (symN now ms j))) ∧ Hid (Below w.heap.size w wr)) (fun _ i _ => n - (intOf i).toNat)
  case atStart => exact ⟨0, by omega, rfl, O0, P0⟩
  case round =>
    obtain ⟨j, hj, rfl, how, hbl⟩ := hrel
    by_cases hlt : (j : Int) < (n : Int)
    · have k0 : (0 : Int) ≤ (j : Int) := by omega
      have hlen : j < ms.length := by rw [unhide HN]; omega
      obtain ⟨g, off, rfl⟩ := (unhide HR1).form (by omega)
      obtain ⟨c0, c1, c2, c3, c4, c5⟩ := ((unhide HR1).below (unhide hbl)).at hlen
      have HC := hide (fun (w2 : World) (b : Below wr.heap.size wr w2) => (((unhide HR1).below (unhide hbl)).below b).at hlen)
      have HY := hide (fun (h : isSym now (ms.getD j R.zero) = true) => symN_yes hlen h)
      have HZ := hide (fun (h : isSym now (ms.getD j R.zero) = false) => symN_no hlen h)
      generalize ms.getD j R.zero = m at *
      have hfl := symN_len now ms j
      have hbs := (unhide hbl).size
      go_wp2_with fail
      refine (l06Status _ _ _ _ _ _ now _).mono ?_
      rintro e w2 ⟨rfl, b2⟩
      have HBL := hide ((unhide hbl).trans (b2.mono hbs))
      have HOW := hide (own_belowI (unhide how) b2)
      have hsz := b2.size
      obtain ⟨d0, d1, d2, d3, d4, d5⟩ := unhide HC w2 b2
      clear b2 c0 c1 c2 c3 c4 c5
      have e2 : statusV ⟨m.ad, m.hd, m.sy, m.ci, m.co, m.wl⟩ now = statusV m now := rfl
      rw [e2]
      clear e2
      have hsw := (unhide HBL).size
      cases hs : isSym now m
      · have HTF := hide (unhide HZ hs)
        have hne : (statusV m now == 2) = false := hs
        clear hs
        clear HY HZ HC
        generalize statusV m now = sv at *
        have HOS : Hid (w2.ownsRow w.heap.size 3 1 u5 (symN now ms (j + 1)).length (In.flat (symN now ms (j + 1)))) := hide (by rw [unhide HTF]; exact unhide HOW)
        go_wp2_with fail
        go_roundw
        case rel => exact ⟨j + 1, by omega, by go_num, HOS, HBL⟩
        case measure => simp [intOf]; omega
      · have HTF := hide (unhide HY hs)
        have hne : (statusV m now == 2) = true := hs
        clear hs
        clear HY HZ HC
        generalize statusV m now = sv at *
        go_wp2_with (at_builtin; refine In.wpList_apS ((unhide HOW).alloc _) w2.heap.size 0 1 1 [m.ad] rfl (In.rm_new w2 m.ad) (by simp only [List.length_cons, List.length_nil]; omega) (by simp; omega) rfl _ _ rfl rfl rfl ?_; intro v' w' ho hg; have HO : Hid (w'.ownsRow w.heap.size 3 1 v' (symN now ms (j + 1)).length (In.flat (symN now ms (j + 1)))) := hide (by rw [unhide HTF]; exact ho); have HB := hide (In.below_own ((unhide HBL).alloc hsw _) ((unhide HOW).alloc _) hg (Nat.le_refl _) (by simp; omega)); clear ho hg)
        go_roundw
        case rel => exact ⟨j + 1, by omega, by go_num, HO, HB⟩
        case measure => simp [intOf]; omega
    · obtain rfl : j = n := by omega
      have hl := In.lst_own rfl (unhide how)
      have ej : symN now ms j = symN now ms ms.length := by rw [unhide HN]
      rw [ej, unhide HN] at hl
      have HL := hide hl
      clear hl ej
      go_wp2_with fail
      go_ret
      exact ⟨_, rfl, unhide hbl, unhide HL⟩
end Ln
end Go.Proofs.YtpknmiccgbjoiabGreat
namespace Go.Proofs.YtpknmiccgbjoiabGreat
set_option linter.unusedVariables false
namespace Tw
open W1 Tu St
def keptB (o : Option R) (now : Int) : Bool := match o with | some t => decide (now < t.til) | none => false
def viaOk (f : Int → Int → Option R) (addr now : Int) (m : Lk.R) : Bool := (Ln.statusV m now == 2) && (decide (0 < m.wl) && keptB (f m.ad addr) now)
def viaL (f : Int → Int → Option R) (ls : List Lk.R) (addr now : Int) (j : Nat) : List Int := ((ls.take j).filter (viaOk f addr now)).map (·.ad)
theorem ls_take {ls : List Lk.R} {j : Nat} (h : j < ls.length) : ls.take (j + 1) = ls.take j ++ [ls.getD j Lk.R.zero] := by
  rw [List.take_add_one, List.getElem?_eq_getElem h, List.getD_eq_getElem?_getD, List.getElem?_eq_getElem h]; rfl
theorem viaL_yes {f : Int → Int → Option R} {ls : List Lk.R} {addr now : Int} {j : Nat} (h : j < ls.length) (hs : viaOk f addr now (ls.getD j Lk.R.zero) = true) : viaL f ls addr now (j + 1) = viaL f ls addr now j ++ [(ls.getD j Lk.R.zero).ad] := by
  unfold viaL; rw [ls_take h, List.filter_append, List.filter_cons_of_pos hs, List.map_append]; rfl
theorem viaL_no {f : Int → Int → Option R} {ls : List Lk.R} {addr now : Int} {j : Nat} (h : j < ls.length) (hs : viaOk f addr now (ls.getD j Lk.R.zero) = false) : viaL f ls addr now (j + 1) = viaL f ls addr now j := by
  unfold viaL; rw [ls_take h, List.filter_append, List.filter_cons_of_neg (by rw [hs]; simp), List.filter_nil, List.append_nil]
theorem viaL_len (f : Int → Int → Option R) (ls : List Lk.R) (addr now : Int) (j : Nat) : (viaL f ls addr now j).length ≤ j := by
  unfold viaL; rw [List.length_map]
  have := List.length_filter_le (viaOk f addr now) (ls.take j)
  have := List.length_take_le j ls
  omega
/-- What a key finds in a right set. -/
theorem find_there {ms : List R} (h : setB ms = true) {v a : Int} (h1 : 0 ≤ v) (h2 : 0 ≤ a) (h3 : a < 100) : findT ms v a = if thereB ms (100 * v + a) = true then some (ms.getD (place ms (100 * v + a)) R.zero) else none := by
  cases ht : thereB ms (100 * v + a)
  · rw [if_neg (by simp)]
    exact find_no (fun m hm hh => by
      have hk : m.key = 100 * v + a := by rw [key_eq m, hh.1, hh.2]
      have := (mem_find h hm).2.2
      rw [hk, ht] at this; cases this)
  · rw [if_pos rfl]
    unfold thereB at ht
    rw [Bool.and_eq_true] at ht
    have hp := of_decide_eq_true ht.1
    have hk := of_decide_eq_true ht.2
    have hop : hv (ms.getD (place ms (100 * v + a)) R.zero) = v ∧ ha (ms.getD (place ms (100 * v + a)) R.zero) = a := by
      unfold hv ha; rw [hk]; exact hop_mk (t := 0) (u := 0) h1 h2 h3
    generalize place ms (100 * v + a) = p at *
    have e : ms = ms.take p ++ ms.getD p R.zero :: ms.drop (p + 1) := by
      rw [getD_get hp, ← List.drop_eq_getElem_cons hp]; exact (List.take_append_drop _ _).symm
    have hn : (ms.take p).find? (isHp v a) = none := find_no (fun m hm hh => by
      obtain ⟨i, hi, rfl⟩ := List.getElem_of_mem hm
      have hij : i < p ∧ i < ms.length := by simp at hi; omega
      have hr := rises h p i hij.1 hp
      rw [List.getElem_take] at hh
      have hk2 : (ms[i]'hij.2).key = 100 * v + a := by rw [key_eq, hh.1, hh.2]
      rw [getD_get hij.2, hk2, hk] at hr
      omega)
    unfold findT
    conv => lhs; rw [e]
    rw [List.find?_append, hn, List.find?_cons_of_pos (by rw [isHp_iff]; exact hop)]
    rfl
def keptM (ms : List R) (k now : Int) : Bool := thereB ms k && decide (now < (ms.getD (place ms k) R.zero).til)
theorem kept_eq {ms : List R} (h : setB ms = true) {v a : Int} (now : Int) (h1 : 0 ≤ v) (h2 : 0 ≤ a) (h3 : a < 100) : keptM ms (100 * v + a) now = keptB (findT ms v a) now := by
  rw [find_there h h1 h2 h3]
  unfold keptM
  cases thereB ms (100 * v + a) <;> rfl
/-- Those of the first n addresses of which a condition holds. -/
def strN (c : Int → Bool) (n : Nat) : List Int := ((List.range n).filter (fun t : Nat => c ((t : Int) + 1))).map (fun t : Nat => (t : Int) + 1)
theorem strN_yes {c : Int → Bool} {n : Nat} (h : c ((n : Int) + 1) = true) : strN c (n + 1) = strN c n ++ [(n : Int) + 1] := by
  have e : (List.filter (fun t : Nat => c ((t : Int) + 1)) [n]) = [n] := by simp [h]
  unfold strN; rw [List.range_succ, List.filter_append, e, List.map_append]; rfl
theorem strN_no {c : Int → Bool} {n : Nat} (h : c ((n : Int) + 1) = false) : strN c (n + 1) = strN c n := by
  have e : (List.filter (fun t : Nat => c ((t : Int) + 1)) [n]) = [] := by simp [h]
  unfold strN; rw [List.range_succ, List.filter_append, e, List.append_nil]
theorem strN_len (c : Int → Bool) (n : Nat) : (strN c n).length ≤ n := by
  unfold strN; rw [List.length_map]
  have := List.length_filter_le (fun t : Nat => c ((t : Int) + 1)) (List.range n)
  rw [List.length_range] at this; exact this
def condS (ms : List R) (ls : List Lk.R) (me now a : Int) : Bool := (a != me) && (!(Ln.symN now ls ls.length).contains a && decide (0 < (viaL (findT ms) ls a now ls.length).length))
/-- The code of a set and of links; what StrictTwo, ViaOf answer. -/
def codeTL (ms : List R) (ls : List Lk.R) : Int := if 4096 < ms.length ∨ 4096 < ls.length then 2 else if (twoB ms && Ln.linksB ls) = true then 0 else 1
theorem codeTL_ok {ms : List R} {ls : List Lk.R} (h : codeTL ms ls = 0) : twoB ms = true ∧ Ln.linksB ls = true := by
  unfold codeTL at h
  split at h
  · omega
  · split at h
    · rename_i h2; rw [Bool.and_eq_true] at h2; exact h2
    · omega
theorem has_succ {zs : List Int} {z : Int} {j : Nat} (hj : j < zs.length) (h : (zs.take j).contains z = false) (hk : (z == zs.getD j 0) = false) : (zs.take (j + 1)).contains z = false := by
  have e : zs.take (j + 1) = zs.take j ++ [zs.getD j 0] := by rw [List.take_add_one, List.getElem?_eq_getElem hj, List.getD_eq_getElem?_getD, List.getElem?_eq_getElem hj]; rfl
  rw [e]
  generalize zs.take j = A at *
  generalize zs.getD j 0 = y at *
  simp at h hk ⊢
  exact ⟨h, hk⟩
theorem has_yes {zs : List Int} {z : Int} {j : Nat} (hj : j < zs.length) (hk : (z == zs.getD j 0) = true) : zs.contains z = true := by
  rw [List.getD_eq_getElem?_getD, List.getElem?_eq_getElem hj] at hk
  simp at hk
  rw [hk]; simp
end Tw
end Go.Proofs.YtpknmiccgbjoiabGreat
namespace Go.Proofs.YtpknmiccgbjoiabGreat
open Go.ChangeShapes Go.WideShapes Go.ChangeAt Go.RowKit
set_option linter.unusedVariables false
set_option linter.unusedSimpArgs false
attribute [local go_sem ↓] Go.wp_at_zero Go.wp_at_succ
namespace Ln
open W1 Lk
end Ln
end Go.Proofs.YtpknmiccgbjoiabGreat
namespace Go.Proofs.YtpknmiccgbjoiabGreat
open Go.ChangeShapes Go.WideShapes Go.ChangeAt Go.RowKit
set_option linter.unusedVariables false
set_option linter.unusedSimpArgs false
attribute [local go_sem ↓] Go.wp_at_zero Go.wp_at_succ
namespace Ln
open W1 Lk
theorem code_nine (ms : List R) (h : codeL ms = 0) : linksB ms = true := by
  cases hh : linksB ms
  · unfold codeL at h; rw [hh] at h; split at h <;> simp at h
  · rfl
set_option maxRecDepth 100000 in
set_option maxHeartbeats 4000000 in
theorem implSym (a : Option Addr) (ms : List R) (cap : Nat) (now : Int) (w : World) (hm : ms.length ≤ 1048576) (hr : RM w a ms) :
    Calls Tryz.prog 200 #[.slice a ms.length cap, .int .i64 now] w fun e w' => ∃ v, e = .returned (.tuple #[v, .int .i64 (codeL ms)]) ∧ Below w.heap.size w w' ∧ In.LstV w' v (symA ms now) w.heap.size w'.heap.size := by
  have HR := hide hr
  clear hr
  by_cases hc : codeL ms = 0
  rotate_left
  · have h1 : symA ms now = [] := by unfold symA; rw [if_neg hc]
    rw [h1]
    clear h1
    generalize hcd : codeL ms = cd at *
    have HC := hide hcd
    clear hcd
    have q1 : (cd != 0) = true := by simpa using hc
    go_enter Tryz.func200, Tryz.ntmps200
    go_wp2_with fail
    refine (linksCode _ ms cap _ hm (unhide HR)).mono ?_
    rintro e w1 ⟨rfl, b1⟩
    rw [unhide HC]
    have HB1 := hide b1
    clear b1
    go_wp2_with fail
    go_ret2
    exact ⟨_, rfl, unhide HB1, In.lstV_nil _ _ _ _ _⟩
  have hok := code_nine ms hc
  have h8 := links_len hok
  have h1 : symA ms now = symN now ms ms.length := by unfold symA; rw [if_pos hc]
  rw [h1, hc]
  have HC := hide hc
  have HOK := hide hok
  clear h1 hc hok
  generalize hN : ms.length = n at *
  have HN := hide hN
  clear hN
  go_enter Tryz.func200, Tryz.ntmps200
  go_wp2_with fail
  rw [← unhide HN]
  refine (linksCode _ ms cap _ (by have := unhide HN; omega) (unhide HR)).mono ?_
  rintro e w1 ⟨rfl, b1⟩
  rw [unhide HC]
  have HB1 := hide b1
  have HR1 := hide ((unhide HR).below b1)
  have O0 := hide (In.own_nil w1 w.heap.size)
  clear b1
  go_wp2_with fail
  rw [unhide HN]
  go_loopw [7, 17] (fun v i wr => ∃ j : Nat, j ≤ n ∧ i = .int .i64 j ∧ Hid (wr.ownsRow w.heap.size 3 1 v (symN now ms j).length (In.flat (symN now ms j))) ∧ Hid (Below w.heap.size w wr)) (fun _ i _ => n - (intOf i).toNat)
  case atStart => exact ⟨0, by omega, rfl, O0, HB1⟩
  case round =>
    obtain ⟨j, hj, rfl, how, hbl⟩ := hrel
    by_cases hlt : (j : Int) < (n : Int)
    · have k0 : (0 : Int) ≤ (j : Int) := by omega
      have hlen : j < ms.length := by rw [unhide HN]; omega
      obtain ⟨g, off, rfl⟩ := (unhide HR).form (by omega)
      obtain ⟨c0, c1, c2, c3, c4, c5⟩ := ((unhide HR).below (unhide hbl)).at hlen
      have hbs := (unhide hbl).size
      have HY := hide (fun (h : isSym now (ms.getD j R.zero) = true) => symN_yes hlen h)
      have HZ := hide (fun (h : isSym now (ms.getD j R.zero) = false) => symN_no hlen h)
      generalize ms.getD j R.zero = m at *
      have hfl := symN_len now ms j
      have HBA := hide ((unhide hbl).alloc hbs (.cells #[.int .i64 m.ad, .int .i64 m.hd, .int .i64 m.sy, .int .i64 m.ci, .int .i64 m.co, .int .i64 m.wl] 129))
      have HOA := hide ((unhide how).alloc (.cells #[.int .i64 m.ad, .int .i64 m.hd, .int .i64 m.sy, .int .i64 m.ci, .int .i64 m.co, .int .i64 m.wl] 129))
      have HX := hide (bx_new wr m 129)
      go_wp2_with fail
      generalize hW : wr.alloc (.cells #[.int .i64 m.ad, .int .i64 m.hd, .int .i64 m.sy, .int .i64 m.ci, .int .i64 m.co, .int .i64 m.wl] 129) = W0 at *
      clear hW
      refine (implStatus _ _ _ _ _ _ now _).mono ?_
      rintro e w2 ⟨rfl, b2⟩
      have HBL := hide ((unhide HBA).trans (b2.mono (unhide HBA).size))
      have HOW := hide (own_belowI (unhide HOA) b2)
      have hsz := b2.size
      obtain ⟨d0, d1, d2, d3, d4, d5⟩ := (unhide HX).below b2
      clear b2 c0 c1 c2 c3 c4 c5
      have e2 : statusV ⟨m.ad, m.hd, m.sy, m.ci, m.co, m.wl⟩ now = statusV m now := rfl
      rw [e2]
      clear e2
      have hsw := (unhide HBL).size
      cases hs : isSym now m
      · have HTF := hide (unhide HZ hs)
        have hne : (statusV m now == 2) = false := hs
        clear hs
        clear HY HZ
        generalize statusV m now = sv at *
        have HOS : Hid (w2.ownsRow w.heap.size 3 1 u7 (symN now ms (j + 1)).length (In.flat (symN now ms (j + 1)))) := hide (by rw [unhide HTF]; exact unhide HOW)
        go_wp2_with fail
        go_roundw
        case rel => exact ⟨j + 1, by omega, by go_num, HOS, HBL⟩
        case measure => simp [intOf]; omega
      · have HTF := hide (unhide HY hs)
        have hne : (statusV m now == 2) = true := hs
        clear hs
        clear HY HZ
        generalize statusV m now = sv at *
        go_wp2_with (at_builtin; refine In.wpList_apS ((unhide HOW).alloc _) w2.heap.size 0 1 1 [m.ad] rfl (In.rm_new w2 m.ad) (by simp only [List.length_cons, List.length_nil]; omega) (by simp; omega) rfl _ _ rfl rfl rfl ?_; intro v' w' ho hg; have HO : Hid (w'.ownsRow w.heap.size 3 1 v' (symN now ms (j + 1)).length (In.flat (symN now ms (j + 1)))) := hide (by rw [unhide HTF]; exact ho); have HB := hide (In.below_own ((unhide HBL).alloc hsw _) ((unhide HOW).alloc _) hg (Nat.le_refl _) (by simp; omega)); clear ho hg)
        go_roundw
        case rel => exact ⟨j + 1, by omega, by go_num, HO, HB⟩
        case measure => simp [intOf]; omega
    · obtain rfl : j = n := by omega
      have hl := In.lst_own rfl (unhide how)
      have HL := hide hl
      clear hl
      go_wp2_with fail
      go_ret2
      exact ⟨_, rfl, unhide hbl, unhide HL⟩
end Ln
end Go.Proofs.YtpknmiccgbjoiabGreat
namespace Go.Proofs.YtpknmiccgbjoiabGreat
open Go.ChangeShapes Go.WideShapes Go.ChangeAt Go.RowKit
set_option linter.unusedVariables false
set_option linter.unusedSimpArgs false
attribute [local go_sem ↓] Go.wp_at_zero Go.wp_at_succ
namespace Tw
open W1 Tu St Mt
def IxOk (k : Int) (zs : List Int) (z : Int) : Prop := decide (0 ≤ k) = zs.contains z
set_option maxHeartbeats 2000000 in
theorem index (a : Option Addr) (zs : List Int) (cap : Nat) (z : Int) (w : World) (hm : zs.length ≤ 1048576) (hr : In.RM w a zs) :
    Calls Tryz.prog 213 #[.slice a zs.length cap, .int .i64 z] w fun e w' => ∃ k : Int, e = .returned (.int .i64 k) ∧ w' = w ∧ IxOk k zs z := by
  have HR := hide hr
  clear hr
  generalize hN : zs.length = n at *
  have HN := hide hN
  clear hN
  go_enter Tryz.func213, Tryz.ntmps213
  go_wp2_with fail
  go_loopw [8] (fun i wr => ∃ j : Nat, j ≤ n ∧ i = .int .i64 j ∧ Hid ((zs.take j).contains z = false) ∧ Hid (wr = w)) (fun i _ => n - (intOf i).toNat)
  case atStart => exact ⟨0, by omega, rfl, hide rfl, hide rfl⟩
  case round =>
    obtain ⟨j, hj, rfl, hno, hwr⟩ := hrel
    have HRr : Hid (In.RM wr a zs) := hide (by rw [unhide hwr]; exact unhide HR)
    by_cases hlt : (j : Int) < (n : Int)
    · have k0 : (0 : Int) ≤ (j : Int) := by omega
      have hlen : j < zs.length := by rw [unhide HN]; omega
      rcases unhide HRr with e0 | ⟨g, off, rfl, hc⟩
      · exfalso; rw [e0] at hlen; simp at hlen
      have c0 := hc j hlen
      clear hc
      have HY : Hid ((z == zs.getD j 0) = true → zs.contains z = true) := hide (fun h => has_yes hlen h)
      have HZ : Hid ((z == zs.getD j 0) = false → (zs.take (j + 1)).contains z = false) := hide (fun h => has_succ hlen (unhide hno) h)
      generalize zs.getD j 0 = y at *
      cases hk : (z == y)
      · have HT := hide (unhide HZ hk)
        go_wp2_with fail
        go_roundw
        case rel => exact ⟨j + 1, by omega, by go_num, HT, hwr⟩
        case measure => simp [intOf]; omega
      · have HT := hide (unhide HY hk)
        go_wp2_with fail
        go_ret
        exact ⟨_, rfl, unhide hwr, by unfold IxOk; rw [unhide HT]; simp⟩
    · obtain rfl : j = n := by omega
      have HT : Hid (zs.contains z = false) := hide (by have := unhide hno; rw [← unhide HN, List.take_length] at this; exact this)
      go_wp2_with fail
      go_ret
      exact ⟨_, rfl, unhide hwr, by unfold IxOk; rw [unhide HT]; rfl⟩
set_option maxHeartbeats 1000000 in
theorem contains (a : Option Addr) (zs : List Int) (cap : Nat) (z : Int) (w : World) (hm : zs.length ≤ 1048576) (hr : In.RM w a zs) :
    Calls Tryz.prog 201 #[.slice a zs.length cap, .int .i64 z] w fun e w' => e = .returned (.bool (zs.contains z)) ∧ w' = w := by
  go_enter Tryz.func201, Tryz.ntmps201
  go_wp2_with fail
  refine (index a zs cap z _ hm hr).mono ?_
  rintro e w1 ⟨k, rfl, rfl, hk⟩
  have HK : Hid (decide (0 ≤ k) = zs.contains z) := hide hk
  clear hk
  by_cases h0 : 0 ≤ k
  · have HT : Hid (zs.contains z = true) := hide (by rw [← unhide HK]; exact decide_eq_true h0)
    go_wp2_with fail
    go_ret
    exact ⟨ret_bool (by rw [unhide HT]), rfl⟩
  · have HT : Hid (zs.contains z = false) := hide (by rw [← unhide HK]; exact decide_eq_false h0)
    go_wp2_with fail
    go_ret
    exact ⟨ret_bool (by rw [unhide HT]; exact decide_eq_false (by omega)), rfl⟩
set_option maxRecDepth 100000 in
set_option maxHeartbeats 2000000 in
theorem isKept (b n : Nat) (f : Int → Int → Option R) (v u now : Int) (w : World) (hw1 : (Lit.int .i64 v).wf = true) (hw2 : (Lit.int .i64 u).wf = true) (hom : OM w b n f) :
    Calls Tryz.prog 202 #[.map (some b), .agg #[.int .i64 v, .int .i64 u], .int .i64 now] w fun e w' => e = .returned (.bool (keptB (f v u) now)) ∧ Below w.heap.size w w' := by
  have H1 := hide hw1
  have H2 := hide hw2
  have P0 : Hid (Below w.heap.size w (w.alloc (.cells #[.int .i64 v, .int .i64 u] 112))) := hide ((Below.refl _ _).alloc (Nat.le_refl _) _)
  have HM : Hid (OM (w.alloc (.cells #[.int .i64 v, .int .i64 u] 112)) b n f) := hide (hom.below (unhide P0))
  clear hw1 hw2 hom
  cases hf : f v u with
  | none =>
    have HA : Hid ((f v u).getD R.zero = ⟨0, 0, 0⟩) := hide (by rw [hf]; rfl)
    have HE : Hid ((f v u).isSome = false) := hide (by rw [hf]; rfl)
    clear hf
    have P1 := hide ((unhide P0).alloc (unhide P0).size (.cells #[.int .i64 0, .int .i64 0, .int .i64 0] 82))
    go_enter Tryz.func202, Tryz.ntmps202
    go_wp2_with (at_lookup; refine wpList_lookA _ rfl _ _ rfl b _ _ rfl (unhide HM) v u (unhide H1) (unhide H2) rfl 0 0 0 false (unhide HA) (unhide HE) ?_)
    go_ret
    exact ⟨rfl, unhide P1⟩
  | some m =>
    obtain ⟨ke, ti, va⟩ := m
    have HA : Hid ((f v u).getD R.zero = ⟨ke, ti, va⟩) := hide (by rw [hf]; rfl)
    have HE : Hid ((f v u).isSome = true) := hide (by rw [hf]; rfl)
    clear hf
    have P1 := hide ((unhide P0).alloc (unhide P0).size (.cells #[.int .i64 ke, .int .i64 ti, .int .i64 va] 82))
    by_cases hk : now < ti
    · have HT : Hid (keptB (some ⟨ke, ti, va⟩) now = true) := hide (decide_eq_true hk)
      go_enter Tryz.func202, Tryz.ntmps202
      go_wp2_with (at_lookup; refine wpList_lookA _ rfl _ _ rfl b _ _ rfl (unhide HM) v u (unhide H1) (unhide H2) rfl ke ti va true (unhide HA) (unhide HE) ?_)
      go_ret
      exact ⟨ret_bool (unhide HT).symm, unhide P1⟩
    · have HT : Hid (keptB (some ⟨ke, ti, va⟩) now = false) := hide (decide_eq_false hk)
      go_enter Tryz.func202, Tryz.ntmps202
      go_wp2_with (at_lookup; refine wpList_lookA _ rfl _ _ rfl b _ _ rfl (unhide HM) v u (unhide H1) (unhide H2) rfl ke ti va true (unhide HA) (unhide HE) ?_)
      go_ret
      exact ⟨ret_bool (unhide HT).symm, unhide P1⟩
set_option maxRecDepth 100000 in
set_option maxHeartbeats 4000000 in
theorem viasOf (bm q : Nat) (f : Int → Int → Option R) (a : Option Addr) (ls : List Lk.R) (cap : Nat) (addr now : Int) (w : World) (hwa : (Lit.int .i64 addr).wf = true) (hok : Ln.linksB ls = true) (hom : OM w bm q f) (hr : Lk.RM w a ls) :
    Calls Tryz.prog 165 #[.map (some bm), .slice a ls.length cap, .int .i64 addr, .int .i64 now] w fun e w' => ∃ v, e = .returned v ∧ Below w.heap.size w w' ∧ In.LstV w' v (viaL f ls addr now ls.length) w.heap.size w'.heap.size := by
  have HR := hide hr
  have HOM := hide hom
  have HWA := hide hwa
  have HOK := hide hok
  have h8 := Ln.links_len hok
  clear hr hom hwa hok
  have O0 : Hid (w.ownsRow w.heap.size 3 1 (.slice none 0 0) (viaL f ls addr now 0).length (In.flat (viaL f ls addr now 0))) := hide (In.own_nil w w.heap.size)
  generalize hN : ls.length = n at *
  have HN := hide hN
  clear hN
  go_enter Tryz.func165, Tryz.ntmps165
  go_wp2_with fail
  go_loopw [9, 14] (fun v i wr => ∃ j : Nat, j ≤ n ∧ i = .int .i64 j ∧ Hid (wr.ownsRow w.heap.size 3 1 v (viaL f ls addr now j).length (In.flat (viaL f ls addr now j))) ∧ Hid (Below w.heap.size w wr)) (fun _ i _ => n - (intOf i).toNat)
  case atStart => exact ⟨0, by omega, rfl, O0, hide (Below.refl _ _)⟩
  case round =>
    obtain ⟨j, hj, rfl, how, hbl⟩ := hrel
    by_cases hlt : (j : Int) < (n : Int)
    · have k0 : (0 : Int) ≤ (j : Int) := by omega
      have hlen : j < ls.length := by rw [unhide HN]; omega
      obtain ⟨g, off, rfl⟩ := (unhide HR).form (by omega)
      obtain ⟨c0, c1, c2, c3, c4, c5⟩ := ((unhide HR).below (unhide hbl)).at hlen
      have hbs := (unhide hbl).size
      have had := Ln.ok_ad (Ri.all_ok (unhide HOK) hlen)
      have HY := hide (fun (h : viaOk f addr now (ls.getD j Lk.R.zero) = true) => viaL_yes hlen h)
      have HZ := hide (fun (h : viaOk f addr now (ls.getD j Lk.R.zero) = false) => viaL_no hlen h)
      generalize ls.getD j Lk.R.zero = m at *
      have hfl := viaL_len f ls addr now j
      have HBA := hide ((unhide hbl).alloc hbs (.cells #[.int .i64 m.ad, .int .i64 m.hd, .int .i64 m.sy, .int .i64 m.ci, .int .i64 m.co, .int .i64 m.wl] 129))
      have HOA := hide ((unhide how).alloc (.cells #[.int .i64 m.ad, .int .i64 m.hd, .int .i64 m.sy, .int .i64 m.ci, .int .i64 m.co, .int .i64 m.wl] 129))
      have HMA := hide ((unhide HOM).below ((unhide hbl).alloc hbs (.cells #[.int .i64 m.ad, .int .i64 m.hd, .int .i64 m.sy, .int .i64 m.ci, .int .i64 m.co, .int .i64 m.wl] 129)))
      have HX := hide (Ln.bx_new wr m 129)
      have HWD : Hid ((Lit.int .i64 m.ad).wf = true) := hide (WalkArith.wf_i64 ⟨by omega, by omega⟩)
      have hvo : viaOk f addr now m = ((Ln.statusV m now == 2) && (decide (0 < m.wl) && keptB (f m.ad addr) now)) := rfl
      have HVO := hide hvo
      clear hvo
      go_wp2_with fail
      generalize hW : wr.alloc (.cells #[.int .i64 m.ad, .int .i64 m.hd, .int .i64 m.sy, .int .i64 m.ci, .int .i64 m.co, .int .i64 m.wl] 129) = W0 at *
      clear hW
      refine (Ln.implStatus _ _ _ _ _ _ now _).mono ?_
      rintro e w2 ⟨rfl, b2⟩
      have HBL := hide ((unhide HBA).trans (b2.mono (unhide HBA).size))
      have HOW := hide (Ln.own_belowI (unhide HOA) b2)
      have HM2 := hide ((unhide HMA).below b2)
      have HX2 := hide ((unhide HX).below b2)
      obtain ⟨d0, d1, d2, d3, d4, d5⟩ := unhide HX2
      clear b2 c0 c1 c2 c3 c4 c5
      have e2 : Ln.statusV ⟨m.ad, m.hd, m.sy, m.ci, m.co, m.wl⟩ now = Ln.statusV m now := rfl
      rw [e2]
      clear e2
      have hsw := (unhide HBL).size
      cases hs : (Ln.statusV m now == 2)
      · have HTF := hide (unhide HZ (by rw [unhide HVO, hs]; rfl))
        clear HY HZ HVO
        generalize Ln.statusV m now = sv at *
        have HOS : Hid (w2.ownsRow w.heap.size 3 1 u9 (viaL f ls addr now (j + 1)).length (In.flat (viaL f ls addr now (j + 1)))) := hide (by rw [unhide HTF]; exact unhide HOW)
        go_wp2_with fail
        go_roundw
        case rel => exact ⟨j + 1, by omega, by go_num, HOS, HBL⟩
        case measure => simp [intOf]; omega
      by_cases hwl : 0 < m.wl
      rotate_left
      · have HTF := hide (unhide HZ (by rw [unhide HVO, hs, decide_eq_false hwl]; rfl))
        clear HY HZ HVO
        generalize Ln.statusV m now = sv at *
        have HOS : Hid (w2.ownsRow w.heap.size 3 1 u9 (viaL f ls addr now (j + 1)).length (In.flat (viaL f ls addr now (j + 1)))) := hide (by rw [unhide HTF]; exact unhide HOW)
        go_wp2_with fail
        go_roundw
        case rel => exact ⟨j + 1, by omega, by go_num, HOS, HBL⟩
        case measure => simp [intOf]; omega
      obtain ⟨kb, hkb⟩ : ∃ kb, keptB (f m.ad addr) now = kb := ⟨_, rfl⟩
      have HKB := hide hkb
      have HTY : Hid (kb = true → viaL f ls addr now (j + 1) = viaL f ls addr now j ++ [m.ad]) := hide (fun h => unhide HY (by rw [unhide HVO, hs, decide_eq_true hwl, hkb, h]; rfl))
      have HTZ : Hid (kb = false → viaL f ls addr now (j + 1) = viaL f ls addr now j) := hide (fun h => unhide HZ (by rw [unhide HVO, hs, decide_eq_true hwl, hkb, h]; rfl))
      clear HY HZ HVO hkb
      generalize Ln.statusV m now = sv at *
      go_wp2_with fail
      refine (isKept bm q f m.ad addr now _ (unhide HWD) (unhide HWA) (unhide HM2)).mono ?_
      rintro e w3 ⟨rfl, b3⟩
      rw [unhide HKB]
      have HB3 := hide ((unhide HBL).trans (b3.mono (unhide HBL).size))
      have HO3 := hide (Ln.own_belowI (unhide HOW) b3)
      clear d0 d1 d2 d3 d4 d5
      obtain ⟨d0, d1, d2, d3, d4, d5⟩ := (unhide HX2).below b3
      have hs3 := (unhide HB3).size
      clear b3
      cases kb
      · have HTF := hide (unhide HTZ rfl)
        have HOS : Hid (w3.ownsRow w.heap.size 3 1 u9 (viaL f ls addr now (j + 1)).length (In.flat (viaL f ls addr now (j + 1)))) := hide (by rw [unhide HTF]; exact unhide HO3)
        go_wp2_with fail
        go_roundw
        case rel => exact ⟨j + 1, by omega, by go_num, HOS, HB3⟩
        case measure => simp [intOf]; omega
      · have HTF := hide (unhide HTY rfl)
        go_wp2_with (at_builtin; refine In.wpList_apS ((unhide HO3).alloc _) w3.heap.size 0 1 1 [m.ad] rfl (In.rm_new w3 m.ad) (by simp only [List.length_cons, List.length_nil]; omega) (by simp; omega) rfl _ _ rfl rfl rfl ?_; intro v' w' ho hg; have HO : Hid (w'.ownsRow w.heap.size 3 1 v' (viaL f ls addr now (j + 1)).length (In.flat (viaL f ls addr now (j + 1)))) := hide (by rw [unhide HTF]; exact ho); have HB := hide (In.below_own ((unhide HB3).alloc hs3 _) ((unhide HO3).alloc _) hg (Nat.le_refl _) (by simp; omega)); clear ho hg)
        go_roundw
        case rel => exact ⟨j + 1, by omega, by go_num, HO, HB⟩
        case measure => simp [intOf]; omega
    · obtain rfl : j = n := by omega
      have HL := hide (In.lst_own rfl (unhide how))
      go_wp2_with fail
      go_ret
      exact ⟨_, rfl, unhide hbl, unhide HL⟩
end Tw
end Go.Proofs.YtpknmiccgbjoiabGreat
namespace Go.Proofs.YtpknmiccgbjoiabGreat
open Go.ChangeShapes Go.WideShapes Go.ChangeAt Go.RowKit
set_option linter.unusedVariables false
set_option linter.unusedSimpArgs false
attribute [local go_sem ↓] Go.wp_at_zero Go.wp_at_succ
namespace Tw
open W1 Tu St Mt
theorem codeTL_long {ms : List R} {ls : List Lk.R} (h : 4096 < ms.length ∨ 4096 < ls.length) : codeTL ms ls = 2 := by unfold codeTL; rw [if_pos h]
theorem codeTL_bad {ms : List R} {ls : List Lk.R} (h : ¬ 4096 < ms.length) (h' : ¬ 4096 < ls.length) (hb : (twoB ms && Ln.linksB ls) = false) : codeTL ms ls = 1 := by unfold codeTL; rw [if_neg (by omega), if_neg (by rw [hb]; simp)]
theorem codeTL_zero {ms : List R} {ls : List Lk.R} (h : ¬ 4096 < ms.length) (h' : ¬ 4096 < ls.length) (hb : (twoB ms && Ln.linksB ls) = true) : codeTL ms ls = 0 := by unfold codeTL; rw [if_neg (by omega), if_pos hb]
set_option maxHeartbeats 2000000 in
theorem twoLinksCode (a : Option Addr) (ms : List R) (cap : Nat) (b : Option Addr) (ls : List Lk.R) (capl : Nat) (w : World) (hm : ms.length ≤ 1048576) (hl : ls.length ≤ 1048576) (hr : RM w a ms) (hr' : Lk.RM w b ls) :
    Calls Tryz.prog 162 #[.slice a ms.length cap, .slice b ls.length capl] w fun e w' => e = .returned (.int .i64 (codeTL ms ls)) ∧ Below w.heap.size w w' := by
  have HR := hide hr
  have HL := hide hr'
  clear hr hr'
  by_cases hb1 : (4096 : Int) < ms.length
  · rw [codeTL_long (.inl (by omega))]
    go_enter Tryz.func162, Tryz.ntmps162
    go_wp2
    go_ret
    exact ⟨rfl, Below.refl _ _⟩
  by_cases hb2 : (4096 : Int) < ls.length
  · rw [codeTL_long (.inr (by omega))]
    go_enter Tryz.func162, Tryz.ntmps162
    go_wp2
    go_ret
    exact ⟨rfl, Below.refl _ _⟩
  cases hs : twoB ms
  · rw [codeTL_bad (by omega) (by omega) (by rw [hs]; rfl)]
    have HS := hide hs
    clear hs
    go_enter Tryz.func162, Tryz.ntmps162
    go_wp2_with fail
    refine (areHops _ ms cap _ hm (unhide HR)).mono ?_
    rintro e w1 ⟨rfl, b1⟩
    rw [unhide HS]
    have HB := hide b1
    clear b1
    go_wp2_with fail
    go_ret
    exact ⟨rfl, unhide HB⟩
  cases hk : Ln.linksB ls
  · rw [codeTL_bad (by omega) (by omega) (by rw [hs, hk]; rfl)]
    have HS := hide hs
    have HK := hide hk
    clear hs hk
    go_enter Tryz.func162, Tryz.ntmps162
    go_wp2_with fail
    refine (areHops _ ms cap _ hm (unhide HR)).mono ?_
    rintro e w1 ⟨rfl, b1⟩
    rw [unhide HS]
    have HB := hide b1
    have HL1 := hide ((unhide HL).below b1)
    clear b1
    go_wp2_with fail
    refine (Ln.implOK _ ls capl _ hl (unhide HL1)).mono ?_
    rintro e w2 ⟨rfl, b2⟩
    rw [unhide HK]
    have HB2 := hide ((unhide HB).trans (b2.mono (unhide HB).size))
    clear b2
    go_wp2_with fail
    go_ret
    exact ⟨rfl, unhide HB2⟩
  rw [codeTL_zero (by omega) (by omega) (by rw [hs, hk]; rfl)]
  have HS := hide hs
  have HK := hide hk
  clear hs hk
  go_enter Tryz.func162, Tryz.ntmps162
  go_wp2_with fail
  refine (areHops _ ms cap _ hm (unhide HR)).mono ?_
  rintro e w1 ⟨rfl, b1⟩
  rw [unhide HS]
  have HB := hide b1
  have HL1 := hide ((unhide HL).below b1)
  clear b1
  go_wp2_with fail
  refine (Ln.implOK _ ls capl _ hl (unhide HL1)).mono ?_
  rintro e w2 ⟨rfl, b2⟩
  rw [unhide HK]
  have HB2 := hide ((unhide HB).trans (b2.mono (unhide HB).size))
  clear b2
  go_wp2_with fail
  go_ret
  exact ⟨rfl, unhide HB2⟩
set_option maxRecDepth 100000 in
set_option maxHeartbeats 4000000 in
theorem strictOf (bm q : Nat) (ms : List R) (b : Option Addr) (ls : List Lk.R) (capl : Nat) (me now : Int) (w : World) (hok : Ln.linksB ls = true) (hom : OM w bm q (findT ms)) (hr' : Lk.RM w b ls) :
    Calls Tryz.prog 164 #[.map (some bm), .slice b ls.length capl, .int .i64 me, .int .i64 now] w fun e w' => ∃ v, e = .returned v ∧ Below w.heap.size w w' ∧ In.LstV w' v (strN (condS ms ls me now) 8) w.heap.size w'.heap.size := by
  have HL := hide hr'
  have HM := hide hom
  have HOK := hide hok
  have h8 := Ln.links_len hok
  have HSC : Hid (Ln.codeL ls = 0) := hide (Ln.code_zero hok)
  have hsl := Ln.sym_len ls now
  obtain ⟨c, hcc⟩ : ∃ c, condS ms ls me now = c := ⟨_, rfl⟩
  have HCC : Hid (∀ x, c x = ((x != me) && (!(Ln.symA ls now).contains x && decide (0 < (viaL (findT ms) ls x now ls.length).length)))) := hide (fun x => by rw [← hcc]; unfold condS Ln.symA; rw [if_pos (unhide HSC)])
  rw [hcc]
  clear hr' hom hok hcc
  go_enter Tryz.func164, Tryz.ntmps164
  go_wp2_with fail
  refine (Ln.implSym _ ls capl now _ (by omega) (unhide HL)).mono ?_
  rintro e w2 ⟨v2, rfl, b2, hl2⟩
  rw [unhide HSC]
  obtain ⟨a2, c2, rfl, l2⟩ := hl2
  have HN2 := hide l2.rm
  have HB2 := hide b2
  have HL2 := hide ((unhide HL).below b2)
  have HM2 := hide ((unhide HM).below b2)
  clear b2 l2
  generalize Ln.symA ls now = zs at *
  have O0 : Hid (w2.ownsRow w2.heap.size 3 1 (.slice none 0 0) (strN c 0).length (In.flat (strN c 0))) := hide (In.own_nil w2 w2.heap.size)
  go_wp2_with fail
  go_loopw [11, 12] (fun v i wr => ∃ j : Nat, j ≤ 8 ∧ i = .int .i64 ((j : Int) + 1) ∧ Hid (wr.ownsRow w2.heap.size 3 1 v (strN c j).length (In.flat (strN c j))) ∧ Hid (Below w2.heap.size w2 wr)) (fun _ i _ => 9 - (intOf i).toNat)
  case atStart => exact ⟨0, by omega, rfl, O0, hide (Below.refl _ _)⟩
  case round =>
    obtain ⟨j, hj, rfl, how, hbl⟩ := hrel
    have hbs := (unhide hbl).size
    have hfl := strN_len c j
    by_cases hlt : (j : Int) + 1 ≤ 8
    · have HWK : Hid ((Lit.int .i64 ((j : Int) + 1)).wf = true) := hide (WalkArith.wf_i64 ⟨by omega, by omega⟩)
      have HCJ := hide (unhide HCC ((j : Int) + 1))
      have HY := hide (fun (h : c ((j : Int) + 1) = true) => strN_yes h)
      have HZ := hide (fun (h : c ((j : Int) + 1) = false) => strN_no h)
      cases hq : ((j : Int) + 1 != me)
      · have HTF := hide (unhide HZ (by rw [unhide HCJ, hq]; rfl))
        clear HY HZ HCJ
        have HO : Hid (wr.ownsRow w2.heap.size 3 1 u11 (strN c (j + 1)).length (In.flat (strN c (j + 1)))) := hide (by rw [unhide HTF]; exact unhide how)
        go_wp2_with fail
        go_roundw
        case rel => exact ⟨j + 1, by omega, by go_num, HO, hbl⟩
        case measure => simp [intOf]; omega
      obtain ⟨kc, hkc⟩ : ∃ kc, zs.contains ((j : Int) + 1) = kc := ⟨_, rfl⟩
      have HKC := hide hkc
      have HNr := hide ((unhide HN2).below (unhide hbl))
      rw [hkc, hq] at HCJ
      clear hkc
      go_wp2_with fail
      refine (contains a2 zs c2 ((j : Int) + 1) _ (by omega) (unhide HNr)).mono ?_
      rintro e w4 ⟨rfl, hw4⟩
      rw [unhide HKC, hw4]
      clear hw4
      cases kc
      rotate_left
      · have HTF := hide (unhide HZ (by rw [unhide HCJ]; rfl))
        clear HY HZ HCJ
        have HO : Hid (wr.ownsRow w2.heap.size 3 1 u11 (strN c (j + 1)).length (In.flat (strN c (j + 1)))) := hide (by rw [unhide HTF]; exact unhide how)
        go_wp2_with fail
        go_roundw
        case rel => exact ⟨j + 1, by omega, by go_num, HO, hbl⟩
        case measure => simp [intOf]; omega
      have HMr := hide ((unhide HM2).below (unhide hbl))
      have HLr := hide ((unhide HL2).below (unhide hbl))
      obtain ⟨nv, hnv⟩ : ∃ nv, (viaL (findT ms) ls ((j : Int) + 1) now ls.length).length = nv := ⟨_, rfl⟩
      rw [hnv] at HCJ
      have HNV := hide hnv
      clear hnv
      go_wp2_with fail
      refine (viasOf bm q _ _ ls capl ((j : Int) + 1) now _ (unhide HWK) (unhide HOK) (unhide HMr) (unhide HLr)).mono ?_
      rintro e w5 ⟨v5, rfl, b5, hl5⟩
      obtain ⟨a5, c5, rfl, l5⟩ := hl5
      rw [unhide HNV]
      have HB5 := hide ((unhide hbl).trans (b5.mono (unhide hbl).size))
      have HO5 := hide (Ln.own_belowI (unhide how) b5)
      have hs5 := (unhide HB5).size
      clear b5 l5
      rcases nv with _ | nv
      rotate_left
      · have HTF := hide (unhide HY (by rw [unhide HCJ, decide_eq_true (by omega)]; rfl))
        clear HY HZ HCJ
        go_wp2_with (at_builtin; refine In.wpList_apS ((unhide HO5).alloc _) w5.heap.size 0 1 1 [(j : Int) + 1] rfl (In.rm_new w5 ((j : Int) + 1)) (by simp only [List.length_cons, List.length_nil]; omega) (by simp; omega) rfl _ _ rfl rfl rfl ?_; intro v' w' ho hg; have HO : Hid (w'.ownsRow w2.heap.size 3 1 v' (strN c (j + 1)).length (In.flat (strN c (j + 1)))) := hide (by rw [unhide HTF]; exact ho); have HB := hide (In.below_own ((unhide HB5).alloc hs5 _) ((unhide HO5).alloc _) hg (Nat.le_refl _) (by simp; omega)); clear ho hg)
        go_roundw
        case rel => exact ⟨j + 1, by omega, by go_num, HO, HB⟩
        case measure => simp [intOf]; omega
      · have HTF := hide (unhide HZ (by rw [unhide HCJ, decide_eq_false (by omega)]; rfl))
        clear HY HZ HCJ
        have HO : Hid (w5.ownsRow w2.heap.size 3 1 u11 (strN c (j + 1)).length (In.flat (strN c (j + 1)))) := hide (by rw [unhide HTF]; exact unhide HO5)
        go_wp2_with fail
        go_roundw
        case rel => exact ⟨j + 1, by omega, by go_num, HO, HB5⟩
        case measure => simp [intOf]; omega
    · obtain rfl : j = 8 := by omega
      have HLs := hide ((In.lst_own rfl (unhide how)).mono (lo' := w.heap.size) (unhide HB2).size (Nat.le_refl _))
      have HBf := hide ((unhide HB2).trans ((unhide hbl).mono (unhide HB2).size))
      go_wp2_with fail
      go_ret
      exact ⟨_, rfl, unhide HBf, unhide HLs⟩
end Tw
end Go.Proofs.YtpknmiccgbjoiabGreat
namespace Go.Proofs.YtpknmiccgbjoiabGreat
open Go.ChangeShapes Go.WideShapes Go.ChangeAt Go.RowKit
set_option linter.unusedVariables false
set_option linter.unusedSimpArgs false
attribute [local go_sem ↓] Go.wp_at_zero Go.wp_at_succ
namespace Tw
open W1 Tu St
set_option maxHeartbeats 400000 in
theorem l07KeyW (v a : Int) (w : World) (h0 : 0 ≤ v) (h1 : v ≤ 1000000) (h2 : 0 ≤ a) (h3 : a ≤ 1000000) : Calls Tryz.prog 125 #[.int .i64 v, .int .i64 a] w fun e w' => e = .returned (.int .i64 (100 * v + a)) ∧ w' = w := by
  go_enter Tryz.func125, Tryz.ntmps125
  go_wp2
  go_ret
  exact ⟨rfl, rfl⟩
theorem has_yes' {zs : List Int} {z : Int} {j : Nat} (hj : j < zs.length) (hk : (zs.getD j 0 == z) = true) : zs.contains z = true := has_yes hj (by simp at hk ⊢; exact hk.symm)
theorem has_succ' {zs : List Int} {z : Int} {j : Nat} (hj : j < zs.length) (h : (zs.take j).contains z = false) (hk : (zs.getD j 0 == z) = false) : (zs.take (j + 1)).contains z = false := has_succ hj h (by simp at hk ⊢; exact fun e => hk e.symm)
set_option maxHeartbeats 2000000 in
theorem l07Has (a : Option Addr) (zs : List Int) (cap : Nat) (z : Int) (w : World) (hm : zs.length ≤ 1048576) (hr : In.RM w a zs) :
    Calls Tryz.prog 89 #[.slice a zs.length cap, .int .i64 z] w fun e w' => e = .returned (.bool (zs.contains z)) ∧ w' = w := by
  have HR := hide hr
  clear hr
  obtain ⟨A, hA⟩ : ∃ A, zs.contains z = A := ⟨_, rfl⟩
  have HA := hide hA
  rw [hA]
  clear hA
  generalize hN : zs.length = n at *
  have HN := hide hN
  clear hN
  go_enter Tryz.func89, Tryz.ntmps89
  go_wp2_with fail
  go_loopw [5] (fun i wr => ∃ j : Nat, j ≤ n ∧ i = .int .i64 j ∧ Hid ((zs.take j).contains z = false) ∧ Hid (wr = w)) (fun i _ => n - (intOf i).toNat)
  case atStart => exact ⟨0, by omega, rfl, hide rfl, hide rfl⟩
  case round =>
    obtain ⟨j, hj, rfl, hno, hwr⟩ := hrel
    have HRr : Hid (In.RM wr a zs) := hide (by rw [unhide hwr]; exact unhide HR)
    by_cases hlt : (j : Int) < (n : Int)
    · have k0 : (0 : Int) ≤ (j : Int) := by omega
      have hlen : j < zs.length := by rw [unhide HN]; omega
      rcases unhide HRr with e0 | ⟨g, off, rfl, hc⟩
      · exfalso; rw [e0] at hlen; simp at hlen
      have c0 := hc j hlen
      clear hc
      have HY : Hid ((zs.getD j 0 == z) = true → A = true) := hide (fun h => by rw [← unhide HA]; exact has_yes' hlen h)
      have HZ : Hid ((zs.getD j 0 == z) = false → (zs.take (j + 1)).contains z = false) := hide (fun h => has_succ' hlen (unhide hno) h)
      generalize zs.getD j 0 = y at *
      cases hk : (y == z)
      · have HT := hide (unhide HZ hk)
        go_wp2_with fail
        go_roundw
        case rel => exact ⟨j + 1, by omega, by go_num, HT, hwr⟩
        case measure => simp [intOf]; omega
      · have HT := hide (unhide HY hk)
        go_wp2_with fail
        go_ret
        exact ⟨ret_bool (unhide HT).symm, unhide hwr⟩
    · obtain rfl : j = n := by omega
      have HT : Hid (A = false) := hide (by have := unhide hno; rw [← unhide HN, List.take_length, unhide HA] at this; exact this)
      go_wp2_with fail
      go_ret
      exact ⟨ret_bool (unhide HT).symm, unhide hwr⟩
/-- As the model asks: what is kept first. -/
theorem viaOk_m {ms : List R} (h : setB ms = true) {addr now : Int} {m : Lk.R} (ha1 : 0 ≤ addr) (ha2 : addr < 100) (hm : 1 ≤ m.ad) : viaOk (findT ms) addr now m = (keptM ms (100 * m.ad + addr) now && ((Ln.statusV m now == 2) && decide (0 < m.wl))) := by
  unfold viaOk
  rw [kept_eq h now (by omega) ha1 ha2]
  cases Ln.statusV m now == 2 <;> cases decide (0 < m.wl) <;> cases keptB (findT ms m.ad addr) now <;> rfl
set_option maxRecDepth 100000 in
set_option maxHeartbeats 4000000 in
theorem l07Via (g0 o0 : Nat) (ms : List R) (cap : Nat) (a : Option Addr) (ls : List Lk.R) (capl : Nat) (addr now : Int) (w : World) (ha1 : 1 ≤ addr) (ha2 : addr ≤ 8) (hs : setB ms = true) (hok : Ln.linksB ls = true) (hr0 : RM w (some ⟨g0, o0, none⟩) ms) (hr : Lk.RM w a ls) :
    Calls Tryz.prog 88 #[.slice (some ⟨g0, o0, none⟩) ms.length cap, .slice a ls.length capl, .int .i64 addr, .int .i64 now] w fun e w' => ∃ v, e = .returned v ∧ Below w.heap.size w w' ∧ In.LstV w' v (viaL (findT ms) ls addr now ls.length) w.heap.size w'.heap.size := by
  have HR := hide hr
  have HM := hide hr0
  have HS := hide hs
  have HOK := hide hok
  have h8 := Ln.links_len hok
  have hl64 := setB_len hs
  clear hr hr0 hs hok
  obtain ⟨f, hf⟩ : ∃ f, findT ms = f := ⟨_, rfl⟩
  have HF := hide hf
  rw [hf]
  clear hf
  have O0 := hide (In.own_empty w w.heap.size (Nat.le_refl _))
  have P0 := hide ((Below.refl w.heap.size w).alloc (Nat.le_refl _) (.cells #[] 3))
  have O1 : Hid ((w.alloc (.cells #[] 3)).ownsRow w.heap.size 3 1 (.slice (some ⟨w.heap.size, 0, none⟩) 0 0) (viaL f ls addr now 0).length (In.flat (viaL f ls addr now 0))) := O0
  clear O0
  generalize hN : ls.length = n at *
  have HN := hide hN
  clear hN
  go_enter Tryz.func88, Tryz.ntmps88
  go_wp2_with fail
  go_loopw [9, 10] (fun v i wr => ∃ j : Nat, j ≤ n ∧ i = .int .i64 j ∧ Hid (wr.ownsRow w.heap.size 3 1 v (viaL f ls addr now j).length (In.flat (viaL f ls addr now j))) ∧ Hid (Below w.heap.size w wr)) (fun _ i _ => n - (intOf i).toNat)
  case atStart => exact ⟨0, by omega, rfl, O1, P0⟩
  case round =>
    obtain ⟨j, hj, rfl, how, hbl⟩ := hrel
    by_cases hlt : (j : Int) < (n : Int)
    · have k0 : (0 : Int) ≤ (j : Int) := by omega
      have hlen : j < ls.length := by rw [unhide HN]; omega
      obtain ⟨g, off, rfl⟩ := (unhide HR).form (by omega)
      obtain ⟨c0, c1, c2, c3, c4, c5⟩ := ((unhide HR).below (unhide hbl)).at hlen
      have hbs := (unhide hbl).size
      have had := Ln.ok_ad (Ri.all_ok (unhide HOK) hlen)
      have HVO := hide (viaOk_m (now := now) (unhide HS) (addr := addr) (m := ls.getD j Lk.R.zero) (by omega) (by omega) had.1)
      rw [unhide HF] at HVO
      have HY := hide (fun (h : viaOk f addr now (ls.getD j Lk.R.zero) = true) => viaL_yes hlen h)
      have HZ := hide (fun (h : viaOk f addr now (ls.getD j Lk.R.zero) = false) => viaL_no hlen h)
      generalize ls.getD j Lk.R.zero = m at *
      have hfl := viaL_len f ls addr now j
      have HBA := hide ((unhide hbl).alloc hbs (.cells #[.int .i64 m.ad, .int .i64 m.hd, .int .i64 m.sy, .int .i64 m.ci, .int .i64 m.co, .int .i64 m.wl] 129))
      have HOA := hide ((unhide how).alloc (.cells #[.int .i64 m.ad, .int .i64 m.hd, .int .i64 m.sy, .int .i64 m.ci, .int .i64 m.co, .int .i64 m.wl] 129))
      have HMA := hide ((unhide HM).below ((unhide hbl).alloc hbs (.cells #[.int .i64 m.ad, .int .i64 m.hd, .int .i64 m.sy, .int .i64 m.ci, .int .i64 m.co, .int .i64 m.wl] 129)))
      have HX := hide (Ln.bx_new wr m 129)
      go_wp2_with fail
      generalize hW : wr.alloc (.cells #[.int .i64 m.ad, .int .i64 m.hd, .int .i64 m.sy, .int .i64 m.ci, .int .i64 m.co, .int .i64 m.wl] 129) = W0 at *
      clear hW
      refine (l07KeyW m.ad addr _ (by omega) (by omega) (by omega) (by omega)).mono ?_
      rintro e w1 ⟨rfl, hw1⟩
      rw [hw1]
      clear hw1 c0 c1 c2 c3 c4 c5
      go_wp2_with fail
      refine (l03Find g0 o0 ms cap (100 * m.ad + addr) _ (by omega) (unhide HMA)).mono ?_
      rintro e w2 ⟨rfl, b2⟩
      have HBL := hide ((unhide HBA).trans (b2.mono (unhide HBA).size))
      have HOW := hide (Ln.own_belowI (unhide HOA) b2)
      have HX2 := hide ((unhide HX).below b2)
      clear b2
      have hkm : keptM ms (100 * m.ad + addr) now = (thereB ms (100 * m.ad + addr) && decide (now < (if thereB ms (100 * m.ad + addr) = true then ms.getD (place ms (100 * m.ad + addr)) R.zero else R.zero).til)) := by
        unfold keptM
        cases thereB ms (100 * m.ad + addr) <;> rfl
      rw [hkm] at HVO
      clear hkm
      generalize thereB ms (100 * m.ad + addr) = tb at *
      generalize (if tb = true then ms.getD (place ms (100 * m.ad + addr)) R.zero else R.zero) = T at *
      obtain ⟨ke, ti, va⟩ := T
      unfold R.value
      dsimp only at HVO ⊢
      have hsw := (unhide HBL).size
      have HBT := hide ((unhide HBL).alloc hsw (.cells #[.int .i64 ke, .int .i64 ti, .int .i64 va] 82))
      have HOT := hide ((unhide HOW).alloc (.cells #[.int .i64 ke, .int .i64 ti, .int .i64 va] 82))
      have HXT := hide ((unhide HX2).below ((Below.refl _ _).alloc (Nat.le_refl _) (.cells #[.int .i64 ke, .int .i64 ti, .int .i64 va] 82)))
      have hst := (unhide HBT).size
      obtain ⟨d0, d1, d2, d3, d4, d5⟩ := unhide HXT
      have hno : viaOk f addr now m = false → Hid ((w2.alloc (.cells #[.int .i64 ke, .int .i64 ti, .int .i64 va] 82)).ownsRow w.heap.size 3 1 u9 (viaL f ls addr now (j + 1)).length (In.flat (viaL f ls addr now (j + 1)))) := fun h => hide (by rw [unhide HZ h]; exact unhide HOT)
      have HNO := hide hno
      clear hno
      cases tb
      · have HO := unhide HNO (by rw [unhide HVO]; rfl)
        go_wp2_with fail
        go_roundw
        case rel => exact ⟨j + 1, by omega, by go_num, HO, HBT⟩
        case measure => simp [intOf]; omega
      by_cases hti : now < ti
      rotate_left
      · have HO := unhide HNO (by rw [unhide HVO, decide_eq_false hti]; rfl)
        go_wp2_with fail
        go_roundw
        case rel => exact ⟨j + 1, by omega, by go_num, HO, HBT⟩
        case measure => simp [intOf]; omega
      go_wp2_with fail
      generalize hW : w2.alloc (.cells #[.int .i64 ke, .int .i64 ti, .int .i64 va] 82) = W2 at *
      clear hW
      refine (Ln.l06Status _ _ _ _ _ _ now _).mono ?_
      rintro e w3 ⟨rfl, b3⟩
      have HB3 := hide ((unhide HBT).trans (b3.mono (unhide HBT).size))
      have HO3 := hide (Ln.own_belowI (unhide HOT) b3)
      clear d0 d1 d2 d3 d4 d5
      obtain ⟨d0, d1, d2, d3, d4, d5⟩ := (unhide HXT).below b3
      have hs3 := (unhide HB3).size
      clear b3
      have e2 : Ln.statusV ⟨m.ad, m.hd, m.sy, m.ci, m.co, m.wl⟩ now = Ln.statusV m now := rfl
      rw [e2]
      clear e2
      have hno : viaOk f addr now m = false → Hid (w3.ownsRow w.heap.size 3 1 u9 (viaL f ls addr now (j + 1)).length (In.flat (viaL f ls addr now (j + 1)))) := fun h => hide (by rw [unhide HZ h]; exact unhide HO3)
      have HNO3 := hide hno
      clear hno HNO
      cases hsy : (Ln.statusV m now == 2)
      · have HO := unhide HNO3 (by rw [unhide HVO, hsy, decide_eq_true hti]; rfl)
        clear HVO HY HZ HNO3
        generalize Ln.statusV m now = sv at *
        go_wp2_with fail
        go_roundw
        case rel => exact ⟨j + 1, by omega, by go_num, HO, HB3⟩
        case measure => simp [intOf]; omega
      by_cases hwl : 0 < m.wl
      · have HTF := hide (unhide HY (by rw [unhide HVO, hsy, decide_eq_true hti, decide_eq_true hwl]; rfl))
        clear HVO HY HZ HNO3
        generalize Ln.statusV m now = sv at *
        go_wp2_with (at_builtin; refine In.wpList_apS ((unhide HO3).alloc _) w3.heap.size 0 1 1 [m.ad] rfl (In.rm_new w3 m.ad) (by simp only [List.length_cons, List.length_nil]; omega) (by simp; omega) rfl _ _ rfl rfl rfl ?_; intro v' w' ho hg; have HO : Hid (w'.ownsRow w.heap.size 3 1 v' (viaL f ls addr now (j + 1)).length (In.flat (viaL f ls addr now (j + 1)))) := hide (by rw [unhide HTF]; exact ho); have HB := hide (In.below_own ((unhide HB3).alloc hs3 _) ((unhide HO3).alloc _) hg (Nat.le_refl _) (by simp; omega)); clear ho hg)
        go_roundw
        case rel => exact ⟨j + 1, by omega, by go_num, HO, HB⟩
        case measure => simp [intOf]; omega
      · have HO := unhide HNO3 (by rw [unhide HVO, hsy, decide_eq_true hti, decide_eq_false hwl]; rfl)
        clear HVO HY HZ HNO3
        generalize Ln.statusV m now = sv at *
        go_wp2_with fail
        go_roundw
        case rel => exact ⟨j + 1, by omega, by go_num, HO, HB3⟩
        case measure => simp [intOf]; omega
    · obtain rfl : j = n := by omega
      have HL := hide (In.lst_own rfl (unhide how))
      go_wp2_with fail
      go_ret
      exact ⟨_, rfl, unhide hbl, unhide HL⟩
end Tw
end Go.Proofs.YtpknmiccgbjoiabGreat
namespace Go.Proofs.YtpknmiccgbjoiabGreat
open Go.ChangeShapes Go.WideShapes Go.ChangeAt Go.RowKit
set_option linter.unusedVariables false
set_option linter.unusedSimpArgs false
attribute [local go_sem ↓] Go.wp_at_zero Go.wp_at_succ
namespace Tw
open W1 Tu St
/-- append to a row of one's own: where it lies. -/
theorem wpList_apL {ops : Array Oper} {rest : List Oper} {o : Oper} {a : Act} {Q : Exit → Act → World → Prop} {w : World} {base : Nat} {v : Value} {xs : List Int} (hown : w.ownsRow base 3 1 v xs.length (In.flat xs)) (g off m c : Nat) (zs : List Int) (hm : zs.length = m) (hm0 : 0 < m) (hr : In.RM w (some ⟨g, off, none⟩) zs) (hlen : xs.length + zs.length ≤ 4194304) (hbase : base ≤ w.heap.size)
    (hgd : o.guard = none) (s x : Operand) (ho : o.op = .call { callee := .builtin .append, args := #[s, x], argTypes := #[23, 23] }) (hs : a.eval s = v) (hx : a.eval x = .slice (some ⟨g, off, none⟩) m c)
    (h : ∀ v' w', w'.ownsRow base 3 1 v' (xs ++ zs).length (In.flat (xs ++ zs)) → w.grownBy w' v.ownBlock → (v'.ownBlock = v.ownBlock ∨ v'.ownBlock = some w.heap.size) → wpList Tryz.prog ops Q rest (a.put o.dst v') w') : wpList Tryz.prog ops Q (o :: rest) a w := by
  subst hm
  obtain ⟨i0, hi, hz0, hz1, hz2⟩ := In.infoI
  refine wpList_append_lies w hgd s x _ ho base 3 i0 _ 1 8 Tryz.underlying23 hi hz0 hz1 hz2 rfl (by decide) v xs.length (In.flat xs) hs hown ⟨g, off, none⟩ zs.length c (In.flat zs) hx (In.flat_len zs) hr.cells (fun u hu => In.flat_one_cell hu) hm0 (by unfold maxLen; omega) (by omega) hbase _ rfl (fun g' cap w' h1 h2 h3 h4 => ?_)
  refine h _ w' ?_ h2 ?_
  · rw [List.length_append, In.flat_append]; exact h1
  · rcases h3 with h3 | h3
    · exact .inl h3.symm
    · exact .inr (by rw [h3]; rfl)
/-- A list beside a row of one's own. -/
def NearOk (w : World) (v : Value) (a : Option Addr) (zs : List Int) : Prop := zs = [] ∨ ∃ g off, a = some ⟨g, off, none⟩ ∧ v.ownBlock ≠ some g ∧ g < w.heap.size ∧ In.RM w a zs
theorem NearOk.rm {w : World} {v : Value} {a : Option Addr} {zs : List Int} (h : NearOk w v a zs) : In.RM w a zs := by
  rcases h with h | ⟨g, off, rfl, _, _, h⟩
  · exact .inl h
  · exact h
theorem NearOk.below {w w' : World} {v : Value} {a : Option Addr} {zs : List Int} (h : NearOk w v a zs) (hb : Below w.heap.size w w') : NearOk w' v a zs := by
  rcases h with h | ⟨g, off, rfl, h1, h2, h⟩
  · exact .inl h
  · exact .inr ⟨g, off, rfl, h1, Nat.lt_of_lt_of_le h2 hb.size, h.below hb⟩
theorem NearOk.grown {w w' : World} {v v' : Value} {a : Option Addr} {zs : List Int} (h : NearOk w v a zs) (hg : w.grownBy w' v.ownBlock) (hv : v'.ownBlock = v.ownBlock ∨ v'.ownBlock = some w.heap.size) : NearOk w' v' a zs := by
  rcases h with h | ⟨g, off, rfl, h1, h2, h⟩
  · exact .inl h
  · refine .inr ⟨g, off, rfl, ?_, Nat.lt_of_lt_of_le h2 hg.size, ?_⟩
    · rcases hv with e | e
      · rw [e]; exact h1
      · rw [e]; intro e2; cases e2; omega
    · rcases h with h | ⟨g', off', e, hc⟩
      · exact .inl h
      · cases e
        refine .inr ⟨g, off, rfl, fun i hi => ?_⟩
        exact (World.cell?_of_block (a := ⟨g, off + i, none⟩) (hg.block g h2 (fun e => h1 e.symm))).trans (hc i hi)
set_option maxRecDepth 100000 in
set_option maxHeartbeats 4000000 in
theorem l07Strict (g0 o0 : Nat) (ms : List R) (cap : Nat) (b : Option Addr) (ls : List Lk.R) (capl : Nat) (me now : Int) (w : World) (hok : twoB ms = true ∧ Ln.linksB ls = true) (hr : RM w (some ⟨g0, o0, none⟩) ms) (hr' : Lk.RM w b ls) :
    Calls Tryz.prog 87 #[.slice (some ⟨g0, o0, none⟩) ms.length cap, .slice b ls.length capl, .int .i64 me, .int .i64 now] w fun e w' => ∃ v, e = .returned v ∧ Below w.heap.size w w' ∧ In.LstV w' v (strN (condS ms ls me now) 8) w.heap.size w'.heap.size := by
  have HOK := hide hok
  obtain ⟨c, hcc⟩ : ∃ c, condS ms ls me now = c := ⟨_, rfl⟩
  have HCC : Hid (∀ x, c x = ((x != me) && (!(Ln.symN now ls ls.length).contains x && decide (0 < (viaL (findT ms) ls x now ls.length).length)))) := hide (fun x => by rw [← hcc]; rfl)
  rw [hcc]
  have h8 := Ln.links_len hok.2
  have hsl := Ln.symN_len now ls ls.length
  have HR0 := hide hr
  have HL0 := hide hr'
  clear hcc hok
  have P0 := hide ((Below.refl w.heap.size w).alloc (Nat.le_refl _) (.cells #[] 3))
  have HR := hide (hr.below (unhide P0))
  have HL := hide (hr'.below (unhide P0))
  have O1 : Hid ((w.alloc (.cells #[] 3)).ownsRow w.heap.size 3 1 (.slice (some ⟨w.heap.size, 0, none⟩) 0 0) (strN c 0).length (In.flat (strN c 0))) := hide (In.own_empty w w.heap.size (Nat.le_refl _))
  clear hr hr'
  go_enter Tryz.func87, Tryz.ntmps87
  go_wp2_with fail
  refine (Ln.l06Sym _ ls capl now _ (by omega) (unhide HL)).mono ?_
  rintro e w2 ⟨v2, rfl, b2, hl2⟩
  obtain ⟨a2, c2, rfl, l2⟩ := hl2
  have HN2 : Hid (NearOk w2 (.slice (some ⟨w.heap.size, 0, none⟩) 0 0) a2 (Ln.symN now ls ls.length)) := hide (by
    rcases l2 with e | ⟨g2, rfl, h1, h2, h3, h4⟩
    · exact .inl e
    · exact .inr ⟨g2, 0, rfl, by intro e; simp [Value.ownBlock] at e; simp at h1; omega, h3, In.rm_of h4⟩)
  have HB2 := hide ((unhide P0).trans (b2.mono (unhide P0).size))
  have O2 := hide (Ln.own_belowI (unhide O1) b2)
  clear b2 l2 P0 HR HL O1
  generalize Ln.symN now ls ls.length = zs at *
  go_wp2_with fail
  go_loopw [9, 11] (fun v i wr => ∃ j : Nat, j ≤ 8 ∧ i = .int .i64 ((j : Int) + 1) ∧ Hid (wr.ownsRow w.heap.size 3 1 v (strN c j).length (In.flat (strN c j))) ∧ Hid (Below w.heap.size w wr) ∧ Hid (NearOk wr v a2 zs)) (fun _ i _ => 9 - (intOf i).toNat)
  case atStart => exact ⟨0, by omega, rfl, O2, HB2, HN2⟩
  case round =>
    obtain ⟨j, hj, rfl, how, hbl, hnr⟩ := hrel
    have hbs := (unhide hbl).size
    have hfl := strN_len c j
    by_cases hlt : (j : Int) + 1 ≤ 8
    · have HCJ := hide (unhide HCC ((j : Int) + 1))
      have HY := hide (fun (h : c ((j : Int) + 1) = true) => strN_yes h)
      have HZ := hide (fun (h : c ((j : Int) + 1) = false) => strN_no h)
      cases hq : ((j : Int) + 1 != me)
      · have HTF := hide (unhide HZ (by rw [unhide HCJ, hq]; rfl))
        clear HY HZ HCJ
        have HO : Hid (wr.ownsRow w.heap.size 3 1 u9 (strN c (j + 1)).length (In.flat (strN c (j + 1)))) := hide (by rw [unhide HTF]; exact unhide how)
        go_wp2_with fail
        go_roundw
        case rel => exact ⟨j + 1, by omega, by go_num, HO, hbl, hnr⟩
        case measure => simp [intOf]; omega
      obtain ⟨kc, hkc⟩ : ∃ kc, zs.contains ((j : Int) + 1) = kc := ⟨_, rfl⟩
      have HKC := hide hkc
      rw [hkc, hq] at HCJ
      clear hkc
      go_wp2_with fail
      refine (l07Has a2 zs c2 ((j : Int) + 1) _ (by omega) (unhide hnr).rm).mono ?_
      rintro e w4 ⟨rfl, hw4⟩
      rw [unhide HKC, hw4]
      clear hw4
      cases kc
      rotate_left
      · have HTF := hide (unhide HZ (by rw [unhide HCJ]; rfl))
        clear HY HZ HCJ
        have HO : Hid (wr.ownsRow w.heap.size 3 1 u9 (strN c (j + 1)).length (In.flat (strN c (j + 1)))) := hide (by rw [unhide HTF]; exact unhide how)
        go_wp2_with fail
        go_roundw
        case rel => exact ⟨j + 1, by omega, by go_num, HO, hbl, hnr⟩
        case measure => simp [intOf]; omega
      have HMr := hide ((unhide HR0).below (unhide hbl))
      have HLr := hide ((unhide HL0).below (unhide hbl))
      obtain ⟨nv, hnv⟩ : ∃ nv, (viaL (findT ms) ls ((j : Int) + 1) now ls.length).length = nv := ⟨_, rfl⟩
      rw [hnv] at HCJ
      have HNV := hide hnv
      clear hnv
      go_wp2_with fail
      refine (l07Via g0 o0 ms cap _ ls capl ((j : Int) + 1) now _ (by omega) (by omega) (two_set (unhide HOK).1) (unhide HOK).2 (unhide HMr) (unhide HLr)).mono ?_
      rintro e w5 ⟨v5, rfl, b5, hl5⟩
      obtain ⟨a5, c5, rfl, l5⟩ := hl5
      rw [unhide HNV]
      have HB5 := hide ((unhide hbl).trans (b5.mono (unhide hbl).size))
      have HO5 := hide (Ln.own_belowI (unhide how) b5)
      have HN5 := hide ((unhide hnr).below b5)
      have hs5 := (unhide HB5).size
      clear b5 l5
      rcases nv with _ | nv
      rotate_left
      · have HTF := hide (unhide HY (by rw [unhide HCJ, decide_eq_true (by omega)]; rfl))
        clear HY HZ HCJ
        go_wp2_with (at_builtin; refine wpList_apL ((unhide HO5).alloc _) w5.heap.size 0 1 1 [(j : Int) + 1] rfl (by omega) (In.rm_new w5 ((j : Int) + 1)) (by simp only [List.length_cons, List.length_nil]; omega) (by simp; omega) rfl _ _ rfl rfl rfl ?_; intro v' w' ho hg hv; have HO : Hid (w'.ownsRow w.heap.size 3 1 v' (strN c (j + 1)).length (In.flat (strN c (j + 1)))) := hide (by rw [unhide HTF]; exact ho); have HB := hide (In.below_own ((unhide HB5).alloc hs5 _) ((unhide HO5).alloc _) hg (Nat.le_refl _) (by simp; omega)); have HN := hide (((unhide HN5).below ((Below.refl _ _).alloc (Nat.le_refl _) _)).grown hg hv); clear ho hg hv)
        go_roundw
        case rel => exact ⟨j + 1, by omega, by go_num, HO, HB, HN⟩
        case measure => simp [intOf]; omega
      · have HTF := hide (unhide HZ (by rw [unhide HCJ, decide_eq_false (by omega)]; rfl))
        clear HY HZ HCJ
        have HO : Hid (w5.ownsRow w.heap.size 3 1 u9 (strN c (j + 1)).length (In.flat (strN c (j + 1)))) := hide (by rw [unhide HTF]; exact unhide HO5)
        go_wp2_with fail
        go_roundw
        case rel => exact ⟨j + 1, by omega, by go_num, HO, HB5, HN5⟩
        case measure => simp [intOf]; omega
    · obtain rfl : j = 8 := by omega
      have HLs := hide (In.lst_own rfl (unhide how))
      go_wp2_with fail
      go_ret
      exact ⟨_, rfl, unhide hbl, unhide HLs⟩
end Tw
end Go.Proofs.YtpknmiccgbjoiabGreat
