/-
  Of the texts NetN, LnkA, LnkF, RtrQ, NetP, NetX, NetC, NetAn, NetSc, Bytes, Dec, DecS, DecI, DecM: what this claim needs of them. (put together by mkprune.py)
-/
import Derived.Test.YthfcigfgpimimaaGreatQb7
import Derived.Deep.Cut
import Derived.Deep.QuietTactic
import Derived.BigQuiet
import Derived.Deep.RegionHeld3
import Derived.Deep.DrawnRows
import Derived.Laws.BytesArg
import Derived.Laws.BitsAllLaws
namespace Go.Proofs.YthfcigfgpimimaaGreat
open Go.ChangeShapes Go.WideShapes Go.ChangeAt Go.RowKit
set_option linter.unusedVariables false
set_option linter.unusedSimpArgs false
set_option maxRecDepth 100000
attribute [local go_sem ↓] Go.wp_at_zero Go.wp_at_succ
namespace Nt
open W1 Rt
/-- A router read whole by an operation with a guard that lets it pass. -/
theorem wpList_loadRg {ops : Array Oper} {rest : List Oper} {op : Oper} {a : Act} {w : World} {Q : Exit → Act → World → Prop} (x : Operand) (hw : Region.wanted op (yielded ops a.tmps) = true) (ho : op.op = .load 80 x) {b : Nat} {cs : List Value} (hx : a.eval x = .pointer (some ⟨b, 0, none⟩)) (h : RA w b cs)
    (hk : wpList Tryz.prog ops Q rest (a.put op.dst (.agg cs.toArray)) w) : wpList Tryz.prog ops Q (op :: rest) a w :=
  wpList_step fun K hK => by rw [if_pos hw]; exact wp_load_mid 80 x ho b 0 hx cs _ h.1 infoR.1 infoR.2.1 (h.2.2 ▸ infoR.2.2) (hK _ _ hk)
theorem implOkM (m : Rm) (p : Pl) (w : World) (hs : Sm m) (hr : Rd w m p) : Calls Tryz.prog 80 #[.agg (cl m p).toArray] w fun e w' => e = .returned (.bool (okM m)) ∧ Below w.heap.size w w' := by
  obtain ⟨s1, s2, s3, s4, s5, s6, s7⟩ := hs
  obtain ⟨r1, r2, r3, r4, r5, r6, r7⟩ := hr
  exact implRtr m.x1 m.x2 m.x3 m.x4 m.x5 m.x6 p.a1 p.a2 p.a3 p.a4 p.a5 p.a6 p.a7 p.c1 p.c2 p.c3 p.c4 p.c5 p.c6 p.c7 m.ls m.tw m.se m.du m.ss m.es m.la w s1 s2 s3 s4 s5 s6 s7 r1 r2 r3 r4 r5 r6 r7
set_option maxHeartbeats 16000000 in
theorem areRouters (a : Option Addr) (ms : List Rm) (ps : List Pl) (cap : Nat) (t : Int) (w : World) (hm : ms.length ≤ 1048576) (hs : ∀ i, i < ms.length → Sm (ms.getD i Rm.zero)) (hr : NR w a ms ps) :
    Calls Tryz.prog 44 #[.slice a ms.length cap, .int .i64 t] w fun e w' => e = .returned (.bool (inB ms.length 1 6 && rtsB ms t)) ∧ Below w.heap.size w w' := by
  have HR := hide hr
  have HS := hide hs
  clear hr hs
  have E : Hid ((inB ms.length 1 6 && rtsB ms t) = (inB ms.length 1 6 && allI ms.length fun i => rok (ms.getD i Rm.zero) i t)) := hide rfl
  rw [unhide E]
  clear E
  have HAN : Hid (∀ j, j < ms.length → rok (ms.getD j Rm.zero) j t = false → (allI ms.length fun i => rok (ms.getD i Rm.zero) i t) = false) := hide (fun j h h' => allI_no (p := fun i => rok (ms.getD i Rm.zero) i t) h h')
  have HAY : Hid ((∀ i, i < ms.length → rok (ms.getD i Rm.zero) i t = true) → (allI ms.length fun i => rok (ms.getD i Rm.zero) i t) = true) := hide (fun h => allI_yes h)
  generalize (allI ms.length fun i => rok (ms.getD i Rm.zero) i t) = AA at *
  obtain ⟨n, hN⟩ : ∃ n, ms.length = n := ⟨_, rfl⟩
  rw [hN] at hm HAY ⊢
  have HN := hide hN
  clear hN
  have KW := hide (fun W => within (n : Int) 1 6 W)
  cases hin : inB (n : Int) 1 6
  · rw [hin] at KW
    clear hin
    go_enter Tryz.func44, Tryz.ntmps44
    go_wp2_with (go_at_call 43; refine (unhide KW _).mono ?_; rintro e w_ ⟨rfl, rfl⟩)
    go_ret
    exact ⟨rfl, Below.refl _ _⟩
  rw [hin] at KW
  have hn6 : (n : Int) ≤ 6 := by simp [inB] at hin; omega
  clear hin
  go_enter Tryz.func44, Tryz.ntmps44
  go_wp2_with (go_at_call 43; refine (unhide KW _).mono ?_; rintro e w_ ⟨rfl, hw_⟩; subst w_)
  clear KW
  go_loopw [13] (fun i wr => ∃ j : Nat, j ≤ n ∧ i = .int .i64 j ∧ Hid (∀ i, i < j → rok (ms.getD i Rm.zero) i t = true) ∧ Hid (Below w.heap.size w wr)) (fun i _ => n - (intOf i).toNat)
  case atStart => exact ⟨0, by omega, rfl, hide (fun i hi => absurd hi (Nat.not_lt_zero i)), hide (Below.refl _ _)⟩
  case round =>
    obtain ⟨j, hj, rfl, hall, hbl⟩ := hrel
    by_cases hlt : (j : Int) < (n : Int)
    · have k0 : (0 : Int) ≤ (j : Int) := by omega
      have hlen : j < ms.length := by rw [unhide HN]; omega
      obtain ⟨g, off, rfl, hA, hD⟩ := ((unhide HR).below (unhide hbl)).at hlen
      have HA := hide hA
      have HD := hide hD
      have HM := hide ((unhide HS) j hlen)
      have HNO := hide (unhide HAN j hlen)
      have HUP := hide (fun h => up_to (p := fun i => rok (ms.getD i Rm.zero) i t) (j := j) (unhide hall) h)
      have HRK : Hid (rok (ms.getD j Rm.zero) j t = (okM (ms.getD j Rm.zero) && ((ms.getD j Rm.zero).x1 == (j : Int) + 1 && decide ((ms.getD j Rm.zero).x5 ≤ t)))) := hide rfl
      try dsimp only at HUP
      clear hlen hA hD
      generalize hmj : ms.getD j Rm.zero = m at HA HD HM HNO HUP HRK
      clear hmj
      generalize ps.getD j Pl.zero = p at *
      obtain ⟨y1, hy1⟩ : ∃ y, m.x1 = y := ⟨_, rfl⟩
      obtain ⟨y5, hy5⟩ : ∃ y, m.x5 = y := ⟨_, rfl⟩
      rw [hy1, hy5] at HRK
      have hsz := (unhide hbl).size
      cases hx : (y1 != (j : Int) + 1)
      rotate_left
      · have EB := hide (unhide HNO (by rw [unhide HRK]; have : (y1 == (j : Int) + 1) = false := (by simpa using hx); rw [this]; simp))
        go_upto_region 6 with (first | (refine loadI _ rfl rfl (unhide HA) rfl ?_) | (refine wpList_storeR _ _ rfl rfl (cl m p) (cl_ones m p) rfl rfl (ra_new wr (rC 0 0 0 0 0 (.slice none 0 0) (.slice none 0 0) (.slice none 0 0) (.slice none 0 0) (.slice none 0 0) (.slice none 0 0) (.slice none 0 0) 0) rfl 80).2.1 ?_; intro w1 ra bb hs1))
        have HB1 := hide (bb _ _ ((unhide hbl).alloc hsz _) hsz)
        have e0 := ra.at (i := 0) (v := .int .i64 y1) (by rw [← hy1]; rfl)
        have e4 := ra.at (i := 4) (v := .int .i64 y5) (by rw [← hy5]; rfl)
        clear ra bb hs1 hy1 hy5 HA HD
        go_wp2_with fail
        go_ret
        exact ⟨ret_bool (by rw [unhide EB, Bool.and_false]), unhide HB1⟩
      by_cases h5 : t < y5
      · have EB := hide (unhide HNO (by rw [unhide HRK]; have : decide (y5 ≤ t) = false := (by simp; omega); rw [this]; simp))
        go_upto_region 6 with (first | (refine loadI _ rfl rfl (unhide HA) rfl ?_) | (refine wpList_storeR _ _ rfl rfl (cl m p) (cl_ones m p) rfl rfl (ra_new wr (rC 0 0 0 0 0 (.slice none 0 0) (.slice none 0 0) (.slice none 0 0) (.slice none 0 0) (.slice none 0 0) (.slice none 0 0) (.slice none 0 0) 0) rfl 80).2.1 ?_; intro w1 ra bb hs1))
        have HB1 := hide (bb _ _ ((unhide hbl).alloc hsz _) hsz)
        have e0 := ra.at (i := 0) (v := .int .i64 y1) (by rw [← hy1]; rfl)
        have e4 := ra.at (i := 4) (v := .int .i64 y5) (by rw [← hy5]; rfl)
        clear ra bb hs1 hy1 hy5 HA HD
        go_wp2_with fail
        go_ret
        exact ⟨ret_bool (by rw [unhide EB, Bool.and_false]), unhide HB1⟩
      have HRK2 : Hid (rok m j t = okM m) := hide (by rw [unhide HRK]; have h1 : (y1 == (j : Int) + 1) = true := (by simpa using hx); have h2 : decide (y5 ≤ t) = true := (by simp; omega); rw [h1, h2]; simp)
      rw [unhide HRK2] at HNO HUP
      clear HRK HRK2
      go_upto_region 6 with (first | (refine loadI _ rfl rfl (unhide HA) rfl ?_) | (refine wpList_storeR _ _ rfl rfl (cl m p) (cl_ones m p) rfl rfl (ra_new wr (rC 0 0 0 0 0 (.slice none 0 0) (.slice none 0 0) (.slice none 0 0) (.slice none 0 0) (.slice none 0 0) (.slice none 0 0) (.slice none 0 0) 0) rfl 80).2.1 ?_; intro w1 ra bb hs1))
      have HB1 := hide (bb _ _ ((unhide hbl).alloc hsz _) hsz)
      have HD1 := hide ((unhide HD).below (w' := w1) (bb _ _ ((Below.refl _ _).alloc (Nat.le_refl _) _) (Nat.le_refl _)))
      have HRA := hide ra
      have e0 := ra.at (i := 0) (v := .int .i64 y1) (by rw [← hy1]; rfl)
      have e4 := ra.at (i := 4) (v := .int .i64 y5) (by rw [← hy5]; rfl)
      clear ra bb hs1 hy1 hy5 HA HD
      have hwj : IntKind.i64.wrap ((j : Int) + 1) = (j : Int) + 1 := by rw [IntKind.wrap_i64]; omega
      refine wp_region_lit ?_
      (refine wpList_plain rfl (fun K hK => ?_); go_simp; refine hK _ _ ?_; clear hK K; (try simp only [Act.put, List.setIfInBounds_toArray, List.set_cons_zero, List.set_cons_succ]))
      (refine wpList_plain rfl (fun K hK => ?_); go_simp; refine hK _ _ ?_; clear hK K; (try simp only [Act.put, List.setIfInBounds_toArray, List.set_cons_zero, List.set_cons_succ]))
      (refine wpList_plain rfl (fun K hK => ?_); go_simp; refine hK _ _ ?_; clear hK K; (try simp only [Act.put, List.setIfInBounds_toArray, List.set_cons_zero, List.set_cons_succ]))
      (refine wpList_plain rfl (fun K hK => ?_); go_simp; refine hK _ _ ?_; clear hK K; (try simp only [Act.put, List.setIfInBounds_toArray, List.set_cons_zero, List.set_cons_succ]))
      (refine wpList_plain rfl (fun K hK => ?_); go_simp; refine hK _ _ ?_; clear hK K; (try simp only [Act.put, List.setIfInBounds_toArray, List.set_cons_zero, List.set_cons_succ]))
      (refine wpList_plain rfl (fun K hK => ?_); go_simp; refine hK _ _ ?_; clear hK K; (try simp only [Act.put, List.setIfInBounds_toArray, List.set_cons_zero, List.set_cons_succ]))
      (refine Rg.y (by simp [Region.wanted, yielded]) (fun K hK => ?_); go_simp; refine hK _ _ ?_; clear hK K; (try simp only [Act.put, List.setIfInBounds_toArray, List.set_cons_zero, List.set_cons_succ]))
      (refine Rg.y (by simp [Region.wanted, yielded]) (fun K hK => ?_); go_simp; refine hK _ _ ?_; clear hK K; (try simp only [Act.put, List.setIfInBounds_toArray, List.set_cons_zero, List.set_cons_succ]))
      (refine Rg.y (by simp [Region.wanted, yielded]) (fun K hK => ?_); go_simp; refine hK _ _ ?_; clear hK K; (try simp only [Act.put, List.setIfInBounds_toArray, List.set_cons_zero, List.set_cons_succ]))
      (refine Rg.y (by simp [Region.wanted, yielded]) (fun K hK => ?_); go_simp; refine hK _ _ ?_; clear hK K; (try simp only [Act.put, List.setIfInBounds_toArray, List.set_cons_zero, List.set_cons_succ]))
      (refine wpList_plain rfl (fun K hK => ?_); go_simp; refine hK _ _ ?_; clear hK K; (try simp only [Act.put, List.setIfInBounds_toArray, List.set_cons_zero, List.set_cons_succ]))
      (refine wpList_plain rfl (fun K hK => ?_); go_simp; refine hK _ _ ?_; clear hK K; (try simp only [Act.put, List.setIfInBounds_toArray, List.set_cons_zero, List.set_cons_succ]))
      refine wpList_loadRg _ (by simp [Region.wanted, yielded]) rfl rfl (unhide HRA) ?_
      (try simp only [Act.put, List.setIfInBounds_toArray, List.set_cons_zero, List.set_cons_succ])
      clear e0 e4
      go_wp2_with fail
      refine (implOkM m p _ (unhide HM) (unhide HD1)).mono ?_
      rintro e w2 ⟨rfl, b2⟩
      have HB2 := hide ((unhide HB1).trans (b2.mono (unhide HB1).size))
      clear b2 HRA HD1
      cases hk : okM m
      · have EB := hide (unhide HNO hk)
        go_wp2_with fail
        go_ret
        exact ⟨ret_bool (by rw [unhide EB, Bool.and_false]), unhide HB2⟩
      · have OK := hide (unhide HUP hk)
        clear hk HNO HUP
        go_wp2_with fail
        go_roundw
        case rel => exact ⟨j + 1, by omega, by go_num, OK, HB2⟩
        case measure => simp [intOf]; omega
    · obtain rfl : j = n := by omega
      have EA := hide (unhide HAY (unhide hall))
      go_wp2_with fail
      go_ret
      exact ⟨ret_bool (by rw [unhide EA]), unhide hbl⟩
set_option maxHeartbeats 16000000 in
theorem areFrames (a b d : Option Addr) (n k ca cb cd : Nat) (t : Int) (fs : List Fm.R) (w : World) (ht : 0 ≤ t) (ht1 : t ≤ 100000) (hm : fs.length ≤ 1048576) (hz : ∀ i, i < fs.length → (fs.getD i Fm.R.zero).bs.size ≤ maxLen) (hr : Fm.RM w d fs) :
    Calls Tryz.prog 46 #[.agg #[.slice a n ca, .slice b k cb, .slice d fs.length cd, .int .i64 t]] w fun e w' => e = .returned (.bool (airB fs n t)) ∧ Below w.heap.size w w' := by
  have HX0 := hide (nb_new w (.slice a n ca) (.slice b k cb) (.slice d fs.length cd) t 32)
  have b0 := bel_new w (.cells #[.slice a n ca, .slice b k cb, .slice d fs.length cd, .int .i64 t] 32)
  have HR := hide (hr.below b0)
  have HB0 := hide b0
  have HZ := hide hz
  clear hr b0 hz
  have E : Hid (airB fs n t = (decide (fs.length ≤ 200) && allI fs.length fun i => fok (fs.getD i Fm.R.zero) n t)) := hide rfl
  have HAN : Hid (∀ j, j < fs.length → fok (fs.getD j Fm.R.zero) n t = false → (allI fs.length fun i => fok (fs.getD i Fm.R.zero) n t) = false) := hide (fun j h h' => allI_no (p := fun i => fok (fs.getD i Fm.R.zero) n t) h h')
  have HAY : Hid ((∀ i, i < fs.length → fok (fs.getD i Fm.R.zero) n t = true) → (allI fs.length fun i => fok (fs.getD i Fm.R.zero) n t) = true) := hide (fun h => allI_yes h)
  rw [unhide E]
  clear E
  generalize (allI fs.length fun i => fok (fs.getD i Fm.R.zero) n t) = AA at *
  obtain ⟨N, hN⟩ : ∃ N, fs.length = N := ⟨_, rfl⟩
  rw [hN] at hm HAY HX0 HB0 HR ⊢
  have HN := hide hN
  clear hN
  by_cases h200 : (200 : Int) < (N : Int)
  · go_enter Tryz.func46, Tryz.ntmps46
    go_wp2_with fail
    go_ret
    exact ⟨ret_bool (by have : decide (N ≤ 200) = false := (by simp; omega); rw [this]; rfl), unhide HB0⟩
  have E2 : Hid ((decide (N ≤ 200) && AA) = AA) := hide (by have : decide (N ≤ 200) = true := (by simp; omega); rw [this]; rfl)
  rw [unhide E2]
  clear E2
  go_enter Tryz.func46, Tryz.ntmps46
  go_wp2_with fail
  generalize w.alloc (.cells #[.slice a n ca, .slice b k cb, .slice d N cd, .int .i64 t] 32) = w0 at *
  go_loopw [12] (fun i wr => ∃ j : Nat, j ≤ N ∧ i = .int .i64 j ∧ Hid (∀ i, i < j → fok (fs.getD i Fm.R.zero) n t = true) ∧ Hid (Below w.heap.size w wr) ∧ Hid (NB wr w.heap.size (.slice a n ca) (.slice b k cb) (.slice d N cd) t) ∧ Hid (Fm.RM wr d fs)) (fun i _ => N - (intOf i).toNat)
  case atStart => exact ⟨0, by omega, rfl, hide (fun i hi => absurd hi (Nat.not_lt_zero i)), HB0, HX0, HR⟩
  case round =>
    obtain ⟨j, hj, rfl, hall, hbl, hnb, hrm⟩ := hrel
    by_cases hlt : (j : Int) < (N : Int)
    · have k0 : (0 : Int) ≤ (j : Int) := by omega
      have hlen : j < fs.length := by rw [unhide HN]; omega
      rcases (unhide hrm) with e0 | ⟨g, off, rfl, hc⟩
      · exfalso; rw [e0] at hlen; simp at hlen
      have hA := hc j hlen
      have hzz := (unhide HZ) j hlen
      unfold maxLen at hzz
      have HNO := hide (unhide HAN j hlen)
      have HUP := hide (fun h => up_to (p := fun i => fok (fs.getD i Fm.R.zero) n t) (j := j) (unhide hall) h)
      have HFK : Hid (fok (fs.getD j Fm.R.zero) n t = (apB (fs.getD j Fm.R.zero).fr (fs.getD j Fm.R.zero).tt n && (inB (fs.getD j Fm.R.zero).ti t (t + 1) && decide (((fs.getD j Fm.R.zero).bs.size : Int) ≤ 900)))) := hide (by unfold fok apB; simp only [Bool.and_assoc])
      try dsimp only at HUP
      clear hc hlen
      generalize hmj : fs.getD j Fm.R.zero = m at hA hzz HNO HUP HFK
      clear hmj
      obtain ⟨fr, tt, ti, bs⟩ := m
      obtain ⟨c0, c1, c2, c3⟩ := hA
      dsimp only at c0 c1 c2 c3 hzz HFK
      have b1 := bel_new wr (.cells #[.int .i64 fr, .int .i64 tt, .int .i64 ti, .string bs] 49)
      have HN1 := hide ((unhide hnb).below b1)
      have HR1 := hide ((unhide hrm).below b1)
      have HB1 := hide ((unhide hbl).trans (b1.mono (unhide hbl).size))
      have q0 : (wr.alloc (.cells #[.int .i64 fr, .int .i64 tt, .int .i64 ti, .string bs] 49)).cell? ⟨wr.heap.size, 2, none⟩ = some (.int .i64 ti) := by simp [World.cell?_alloc_new]
      have q3 : (wr.alloc (.cells #[.int .i64 fr, .int .i64 tt, .int .i64 ti, .string bs] 49)).cell? ⟨wr.heap.size, 3, none⟩ = some (.string bs) := by simp [World.cell?_alloc_new]
      have hw1 : wr.heap.size < (wr.alloc (.cells #[.int .i64 fr, .int .i64 tt, .int .i64 ti, .string bs] 49)).heap.size := by simp
      have Q0 := hide q0
      have Q3 := hide q3
      have HW1 := hide hw1
      have KA := hide (fun W => areApart a b (some ⟨g, off, none⟩) n k N ca cb cd t fr tt W)
      have KI := hide (fun W => within ti t (t + 1) W)
      clear q0 q3 hw1 b1
      obtain ⟨p0, p1, p2, p3⟩ := unhide HN1
      go_wp2_with fail
      clear p0 p1 p2 p3 c0 c1 c2 c3
      generalize wr.alloc (.cells #[.int .i64 fr, .int .i64 tt, .int .i64 ti, .string bs] 49) = w1 at *
      refine (unhide KA _).mono ?_
      rintro e w2 ⟨rfl, b2⟩
      have HN2 := hide ((unhide HN1).below b2)
      have HR2 := hide ((unhide HR1).below b2)
      have HB2 := hide ((unhide HB1).trans (b2.mono (unhide HB1).size))
      have q2 := (b2.cell (p := ⟨wr.heap.size, 2, none⟩) (unhide HW1)).trans (unhide Q0)
      have q3 := (b2.cell (p := ⟨wr.heap.size, 3, none⟩) (unhide HW1)).trans (unhide Q3)
      clear Q0 Q3 HW1 HN1 HR1 HB1 b2 KA hnb hrm hbl
      cases hap : apB fr tt n
      · have EB := hide (unhide HNO (by rw [unhide HFK, hap]; rfl))
        clear hap
        obtain ⟨p0, p1, p2, p3⟩ := unhide HN2
        go_wp2_with fail
        go_ret
        exact ⟨ret_bool (unhide EB).symm, unhide HB2⟩
      rw [hap] at HFK
      clear hap
      cases hti : inB ti t (t + 1)
      · rw [hti] at KI
        have EB := hide (unhide HNO (by rw [unhide HFK, hti]; rfl))
        clear hti
        obtain ⟨p0, p1, p2, p3⟩ := unhide HN2
        go_wp2_with (go_at_call 43; refine (unhide KI _).mono ?_; rintro e w_ ⟨rfl, rfl⟩)
        go_ret
        exact ⟨ret_bool (unhide EB).symm, unhide HB2⟩
      rw [hti] at KI HFK
      clear hti
      by_cases h900 : (900 : Int) < (bs.size : Int)
      · have EB := hide (unhide HNO (by rw [unhide HFK]; have : decide ((bs.size : Int) ≤ 900) = false := (by simp; omega); rw [this]; rfl))
        obtain ⟨p0, p1, p2, p3⟩ := unhide HN2
        go_wp2_with (go_at_call 43; refine (unhide KI _).mono ?_; rintro e w_ ⟨rfl, rfl⟩)
        go_ret
        exact ⟨ret_bool (unhide EB).symm, unhide HB2⟩
      · have OK := hide (unhide HUP (by rw [unhide HFK]; have : decide ((bs.size : Int) ≤ 900) = true := (by simp; omega); rw [this]; rfl))
        clear HNO HUP HFK
        obtain ⟨p0, p1, p2, p3⟩ := unhide HN2
        go_wp2_with (go_at_call 43; refine (unhide KI _).mono ?_; rintro e w_ ⟨rfl, rfl⟩)
        clear p0 p1 p2 p3 q2 q3 KI
        go_roundw
        case rel => exact ⟨j + 1, by omega, by go_num, OK, HB2, HN2, HR2⟩
        case measure => simp [intOf]; omega
    · obtain rfl : j = N := by omega
      have EA := hide (unhide HAY (unhide hall))
      go_wp2_with fail
      go_ret
      exact ⟨ret_bool (unhide EA).symm, unhide hbl⟩
set_option maxHeartbeats 16000000 in
theorem implNet (a b d : Option Addr) (ca cb cd : Nat) (t : Int) (ms : List Rm) (ps : List Pl) (cs : List Int) (fs : List Fm.R) (w : World) (hm : ms.length ≤ 1048576) (hc : cs.length ≤ 1048576) (hf : fs.length ≤ 1048576) (hs : ∀ i, i < ms.length → Sm (ms.getD i Rm.zero)) (hg : ∀ i, i < fs.length → (fs.getD i Fm.R.zero).bs.size ≤ maxLen) (hr : NR w a ms ps) (hi : In.RM w b cs) (hz : Fm.RM w d fs) :
    Calls Tryz.prog 23 #[.agg #[.slice a ms.length ca, .slice b cs.length cb, .slice d fs.length cd, .int .i64 t]] w fun e w' => e = .returned (.bool (netB ms cs fs t)) ∧ Below w.heap.size w w' := by
  have HX0 := hide (nb_new w (.slice a ms.length ca) (.slice b cs.length cb) (.slice d fs.length cd) t 32)
  have b0 := bel_new w (.cells #[.slice a ms.length ca, .slice b cs.length cb, .slice d fs.length cd, .int .i64 t] 32)
  have HR := hide (hr.below b0)
  have HI := hide (hi.below b0)
  have HZ := hide (hz.below b0)
  have HB0 := hide b0
  have HS := hide hs
  have HG := hide hg
  have E : Hid (netB ms cs fs t = (inB t 0 100000 && ((inB ms.length 1 6 && rtsB ms t) && (costB cs ms.length && airB fs ms.length t)))) := hide (by unfold netB; simp only [Bool.and_assoc])
  have KT := hide (fun W => within t 0 100000 W)
  clear b0 hr hi hz hs hg
  cases h1 : inB t 0 100000
  · rw [h1] at KT E
    clear h1
    go_enter Tryz.func23, Tryz.ntmps23
    go_wp2_with (go_at_call 43; refine (unhide KT _).mono ?_; rintro e w_ ⟨rfl, rfl⟩)
    go_ret
    exact ⟨ret_bool (by rw [unhide E]; rfl), unhide HB0⟩
  have ht0 : 0 ≤ t := by simp [inB] at h1; omega
  have ht1 : t ≤ 100000 := by simp [inB] at h1; omega
  rw [h1] at KT E
  clear h1
  go_enter Tryz.func23, Tryz.ntmps23
  go_wp2_with (go_at_call 43; refine (unhide KT _).mono ?_; rintro e w_ ⟨rfl, rfl⟩)
  clear KT
  generalize w.alloc (.cells #[.slice a ms.length ca, .slice b cs.length cb, .slice d fs.length cd, .int .i64 t] 32) = w0 at *
  refine (areRouters _ ms ps _ t _ hm (unhide HS) (unhide HR)).mono ?_
  rintro e w1 ⟨rfl, b1⟩
  have HX1 := hide ((unhide HX0).below b1)
  have HI1 := hide ((unhide HI).below b1)
  have HZ1 := hide ((unhide HZ).below b1)
  have HB1 := hide ((unhide HB0).trans (b1.mono (unhide HB0).size))
  clear HX0 HI HZ HR HB0 b1
  cases h2 : (inB ms.length 1 6 && rtsB ms t)
  · rw [h2] at E
    go_wp2_with fail
    go_ret
    exact ⟨ret_bool (by rw [unhide E]; rfl), unhide HB1⟩
  have hn : 1 ≤ ms.length ∧ ms.length ≤ 6 := by simp [inB] at h2; omega
  rw [h2] at E
  clear h2
  obtain ⟨p0, p1, p2, p3⟩ := unhide HX1
  go_wp2_with fail
  clear p0 p1 p2 p3
  refine (areCosts _ cs _ ms.length _ hc hn.1 hn.2 (unhide HI1)).mono ?_
  rintro e w2 ⟨rfl, b2⟩
  have HX2 := hide ((unhide HX1).below b2)
  have HZ2 := hide ((unhide HZ1).below b2)
  have HB2 := hide ((unhide HB1).trans (b2.mono (unhide HB1).size))
  clear HX1 HI1 HZ1 HB1 b2
  cases h3 : costB cs ms.length
  · rw [h3] at E
    go_wp2_with fail
    go_ret
    exact ⟨ret_bool (by rw [unhide E]; rfl), unhide HB2⟩
  rw [h3] at E
  clear h3
  obtain ⟨p0, p1, p2, p3⟩ := unhide HX2
  go_wp2_with fail
  clear p0 p1 p2 p3
  refine (areFrames a b d ms.length cs.length ca cb cd t fs _ ht0 ht1 hf (unhide HG) (unhide HZ2)).mono ?_
  rintro e w3 ⟨rfl, b3⟩
  have HB3 := hide ((unhide HB2).trans (b3.mono (unhide HB2).size))
  clear b3
  go_wp2_with fail
  go_ret
  exact ⟨ret_bool (by rw [unhide E]; simp), unhide HB3⟩
end Nt
end Go.Proofs.YthfcigfgpimimaaGreat
namespace Go.Proofs.YthfcigfgpimimaaGreat
open Go.ChangeShapes Go.WideShapes Go.ChangeAt Go.RowKit
set_option linter.unusedVariables false
set_option linter.unusedSimpArgs false
attribute [local go_sem ↓] Go.wp_at_zero Go.wp_at_succ
namespace Ln
open W1 Lk
def isAd (k : Int) (m : R) : Bool := m.ad == k
def lkF (ms : List R) (k : Int) : R := (ms.find? (isAd k)).getD R.zero
/-- A link's block that may be written. -/
def LV (w : World) (b : Nat) (m : R) : Prop := w.heap[b]? = some (.cells #[.int .i64 m.ad, .int .i64 m.hd, .int .i64 m.sy, .int .i64 m.ci, .int .i64 m.co, .int .i64 m.wl] 103 (0, 0))
theorem LV.cells {w : World} {b : Nat} {m : R} (h : LV w b m) : At w b 0 m := by
  unfold LV at h; refine ⟨?_, ?_, ?_, ?_, ?_, ?_⟩ <;> simp [World.cell?, h]
theorem LV.free {w : World} {b : Nat} {m : R} (h : LV w b m) (i : Nat) : w.frozen? ⟨b, i, none⟩ = false := by unfold LV at h; simp [World.frozen?, h]
theorem LV.lt {w : World} {b : Nat} {m : R} (h : LV w b m) : b < w.heap.size := by
  rcases Nat.lt_or_ge b w.heap.size with hlt | hge
  · exact hlt
  · unfold LV at h; rw [Array.getElem?_eq_none hge] at h; cases h
theorem LV.below {w w' : World} {b : Nat} {m : R} (h : LV w b m) (hb : Below w.heap.size w w') : LV w' b m := (hb.block b h.lt).trans h
theorem lv_new (w : World) (m : R) : LV (w.alloc (.cells #[.int .i64 m.ad, .int .i64 m.hd, .int .i64 m.sy, .int .i64 m.ci, .int .i64 m.co, .int .i64 m.wl] 103)) w.heap.size m := heap_alloc_new w _
end Ln
end Go.Proofs.YthfcigfgpimimaaGreat
namespace Go.Proofs.YthfcigfgpimimaaGreat
open Go.ChangeShapes Go.WideShapes Go.ChangeAt Go.RowKit
set_option linter.unusedVariables false
set_option linter.unusedSimpArgs false
attribute [local go_sem ↓] Go.wp_at_zero Go.wp_at_succ
namespace Ln
open W1 Lk
set_option maxRecDepth 100000 in
set_option maxHeartbeats 4000000 in
theorem l06Find (a : Option Addr) (ms : List R) (cap : Nat) (k : Int) (w : World) (hm : ms.length ≤ 1048576) (hr : RM w a ms) :
    Calls Tryz.prog 70 #[.slice a ms.length cap, .int .i64 k] w fun e w' => e = .returned (.tuple #[(lkF ms k).value, .bool (ms.find? (isAd k)).isSome]) ∧ Below w.heap.size w w' := by
  have HA : Hid (Below w.heap.size w (w.alloc (.cells #[.int .i64 0, .int .i64 0, .int .i64 0, .int .i64 0, .int .i64 0, .int .i64 0] 103))) := hide ((Below.refl _ _).alloc (Nat.le_refl _) _)
  have HV : Hid (LV (w.alloc (.cells #[.int .i64 0, .int .i64 0, .int .i64 0, .int .i64 0, .int .i64 0, .int .i64 0] 103)) w.heap.size R.zero) := hide (lv_new w R.zero)
  have HR := hide ((hr).below (unhide HA))
  clear hr
  have HT : Hid (∀ j, j < ms.length → (∀ i, i < j → isAd k (ms.getD i R.zero) = false) → isAd k (ms.getD j R.zero) = true → lkF ms k = ms.getD j R.zero ∧ (ms.find? (isAd k)).isSome = true) := hide (fun j hj h1 h2 => by
    have hf := Ri.find_at (z := R.zero) (isAd k) ms j hj h1 h2
    unfold lkF; rw [hf]; exact ⟨rfl, rfl⟩)
  have HN : Hid ((∀ i, i < ms.length → isAd k (ms.getD i R.zero) = false) → lkF ms k = R.zero ∧ (ms.find? (isAd k)).isSome = false) := hide (fun h1 => by
    have hf := Ri.find_no (z := R.zero) (isAd k) ms h1
    unfold lkF; rw [hf]; exact ⟨rfl, rfl⟩)
  obtain ⟨A, hA⟩ : ∃ A, lkF ms k = A := ⟨_, rfl⟩
  obtain ⟨E, hE⟩ : ∃ E, (ms.find? (isAd k)).isSome = E := ⟨_, rfl⟩
  rw [hA, hE] at HT HN ⊢
  clear hA hE
  generalize hN : ms.length = n at *
  have HL := hide hN
  clear hN
  go_enter Tryz.func70, Tryz.ntmps70
  go_wp2_with fail
  generalize hW : w.alloc (.cells #[.int .i64 0, .int .i64 0, .int .i64 0, .int .i64 0, .int .i64 0, .int .i64 0] 103) = W0 at *
  clear hW
  go_loopw [6] (fun i wr => ∃ j : Nat, j ≤ n ∧ i = .int .i64 j ∧ Hid (∀ i, i < j → isAd k (ms.getD i R.zero) = false) ∧ W0 = wr) (fun i _ => n - (intOf i).toNat)
  case atStart => exact ⟨0, by omega, rfl, hide (fun i hi => by omega), rfl⟩
  case round =>
    obtain ⟨j, hj, rfl, hrl, rfl⟩ := hrel
    obtain ⟨x0, x1, x2, x3, x4, x5⟩ := (unhide HV).cells
    simp only [Nat.zero_add] at x1 x2 x3 x4 x5
    have y0 := (unhide HV).free 0
    have y1 := (unhide HV).free 1
    have y2 := (unhide HV).free 2
    have y3 := (unhide HV).free 3
    have y4 := (unhide HV).free 4
    have y5 := (unhide HV).free 5
    unfold R.zero at x0 x1 x2 x3 x4 x5
    dsimp only at x0 x1 x2 x3 x4 x5
    by_cases hlt : (j : Int) < (n : Int)
    · have k0 : (0 : Int) ≤ (j : Int) := by omega
      have hlen : j < ms.length := by rw [unhide HL]; omega
      rcases (unhide HR) with e0 | ⟨g, off, rfl, hc⟩
      · exfalso; rw [e0] at hlen; simp at hlen
      have hA := hc j hlen
      clear hc
      cases hk : isAd k (ms.getD j R.zero)
      · have HST : Hid (∀ i, i < j + 1 → isAd k (ms.getD i R.zero) = false) := hide (fun i hi => by
          by_cases e : i = j
          · subst e; exact hk
          · exact unhide hrl i (by omega))
        have hne : ((ms.getD j R.zero).ad == k) = false := hk
        clear hk
        generalize ms.getD j R.zero = m at *
        obtain ⟨ad, hd, sy, ci, co, wl⟩ := m
        obtain ⟨c0, c1, c2, c3, c4, c5⟩ := hA
        dsimp only at c0 c1 c2 c3 c4 c5 hne
        go_wp2_with fail
        go_roundw
        case rel => exact ⟨j + 1, by omega, by go_num, HST, trivial⟩
        case measure => simp [intOf]; omega
      · have HAE := hide (unhide HT j (by have := unhide HL; omega) (unhide hrl) hk)
        have hne : ((ms.getD j R.zero).ad == k) = true := hk
        clear hk
        generalize ms.getD j R.zero = m at *
        obtain ⟨ad, hd, sy, ci, co, wl⟩ := m
        obtain ⟨c0, c1, c2, c3, c4, c5⟩ := hA
        dsimp only at c0 c1 c2 c3 c4 c5 hne
        go_wp2_with fail
        refine bodyPost_ret (v := .tuple #[.agg #[.int .i64 ad, .int .i64 hd, .int .i64 sy, .int .i64 ci, .int .i64 co, .int .i64 wl], .bool true]) (by simp [results, Tryz.results70, go_sem, x0, x1, x2, x3, x4, x5]) rfl ⟨by rw [(unhide HAE).1, (unhide HAE).2]; rfl, ?_⟩
        have hB := unhide HA
        (repeat (first | (with_reducible exact hB) | (with_reducible refine Below.drew ?_) | (with_reducible refine Below.setCell ?_ ?_ _; rotate_left; (first | exact Nat.le_refl _ | (simp; done) | (dsimp only; omega))) | (with_reducible refine Below.alloc ?_ ?_ _; rotate_left; (first | exact Nat.le_refl _ | omega | (simp [World.setCell]; omega)))))
    · obtain rfl : j = n := by omega
      have HAE := hide (unhide HN (unhide hrl))
      go_wp2_with fail
      refine bodyPost_ret (v := .tuple #[.agg #[.int .i64 0, .int .i64 0, .int .i64 0, .int .i64 0, .int .i64 0, .int .i64 0], .bool false]) (by simp [results, Tryz.results70, go_sem, x0, x1, x2, x3, x4, x5]) rfl ⟨by rw [(unhide HAE).1, (unhide HAE).2]; rfl, ?_⟩
      have hB := unhide HA
      (repeat (first | (with_reducible exact hB) | (with_reducible refine Below.drew ?_) | (with_reducible refine Below.setCell ?_ ?_ _; rotate_left; (first | exact Nat.le_refl _ | (simp; done) | (dsimp only; omega))) | (with_reducible refine Below.alloc ?_ ?_ _; rotate_left; (first | exact Nat.le_refl _ | omega | (simp [World.setCell]; omega)))))
end Ln
end Go.Proofs.YthfcigfgpimimaaGreat
namespace Go.Proofs.YthfcigfgpimimaaGreat
open Go.ChangeShapes Go.WideShapes Go.ChangeAt Go.RowKit
set_option linter.unusedVariables false
set_option linter.unusedSimpArgs false
set_option maxRecDepth 100000
attribute [local go_sem ↓] Go.wp_at_zero Go.wp_at_succ
namespace Rt
open W1
set_option maxHeartbeats 400000 in
theorem l04ExM (n : Int) (h0 : 1 ≤ n) (h1 : n ≤ 16776960) (w : World) : Calls Tryz.prog 72 #[.int .i64 n] w fun e w' => e = .returned (.bool (Av.exM n)) ∧ w' = w := by
  have hk := (Mtr.mcode_is (n := n) (by omega) (by omega)).1
  have E : Hid (Av.exM n = (Mtr.met (Mtr.mcode n) == n)) := hide rfl
  generalize hq : Mtr.mcode n = k at *
  have HQ := hide hq
  clear hq
  cases hx : Mtr.met k == n
  all_goals
    go_enter Tryz.func72, Tryz.ntmps72
    go_wp2_with (first | (go_at_call 96; refine (Mtr.l02MetricCodeE n (by omega) (by omega) _).mono ?_; rintro e w' ⟨rfl, rfl⟩; rw [unhide HQ]) | (go_at_call 95; refine (Mtr.l02Metric k hk _).mono ?_; rintro e w' ⟨rfl, rfl⟩))
    go_ret
    exact ⟨ret_bool (by rw [unhide E, hx]), rfl⟩
def obB (x : Lk.R) : Bool := outB x.co x.sy
theorem lks_found {me : Int} {ls : List Lk.R} (h : (ls.find? (Ln.isAd me)).isSome = true) : lksB me ls = false := by
  obtain ⟨x, hx⟩ := Option.isSome_iff_exists.1 h
  have h1 := List.mem_of_find?_eq_some hx
  have h2 := List.find?_some hx
  unfold lksB
  have : ls.all (lkB me) = false := by
    rw [List.all_eq_false]
    refine ⟨x, h1, ?_⟩
    unfold Ln.isAd at h2
    unfold lkB; rw [h2]; simp
  rw [this, Bool.and_false]
theorem lks_all {me : Int} {ls : List Lk.R} (hl : Ln.linksB ls = true) (h : (ls.find? (Ln.isAd me)).isSome = false) : lksB me ls = ls.all obB := by
  have hn : ∀ x ∈ ls, (x.ad == me) = false := by
    intro x hx
    have h' : ls.find? (Ln.isAd me) = none := by cases e : ls.find? (Ln.isAd me) <;> simp_all
    have := List.find?_eq_none.1 h' x hx
    unfold Ln.isAd at this
    simpa using this
  unfold lksB; rw [hl, Bool.true_and]
  cases e : ls.all obB
  · rw [List.all_eq_false] at e ⊢
    obtain ⟨x, hx, hb⟩ := e
    exact ⟨x, hx, by unfold lkB; unfold obB at hb; rw [hn x hx]; simpa using hb⟩
  · rw [List.all_eq_true] at e ⊢
    intro x hx
    have := e x hx
    unfold obB at this
    unfold lkB; rw [hn x hx, this]; rfl
theorem bel_drewN (w : World) (n : Nat) : Below w.heap.size w (w.drewN n) := by
  have h := Below.refl w.heap.size w
  exact ⟨h.os, h.tape, h.output, h.size, h.block⟩
/-- The ways of a link's numbers. -/
theorem ob_ways {co sy : Int} (h0 : 0 ≤ co) (h1 : co ≤ 16744448) (hs : 0 ≤ sy) :
    (co = 0 ∧ sy = 0 ∧ outB co sy = true) ∨ (co = 0 ∧ 0 < sy ∧ outB co sy = false) ∨ (0 < co ∧ Av.exM co = false ∧ outB co sy = false) ∨ (0 < co ∧ Av.exM co = true ∧ 16744192 < co ∧ outB co sy = false) ∨ (0 < co ∧ Av.exM co = true ∧ ¬ 16744192 < co ∧ outB co sy = true) := by
  by_cases e : co = 0
  · subst e
    by_cases e2 : sy = 0
    · subst e2; exact .inl ⟨rfl, rfl, rfl⟩
    · exact .inr (.inl ⟨rfl, by omega, by unfold outB; simp [e2]⟩)
  · have hc : (co == 0) = false := by simpa using e
    cases ex : Av.exM co
    · exact .inr (.inr (.inl ⟨by omega, rfl, by unfold outB Av.toldB; rw [hc, ex]; simp⟩))
    · by_cases e3 : 16744192 < co
      · exact .inr (.inr (.inr (.inl ⟨by omega, rfl, e3, by unfold outB Av.toldB inB; rw [hc, ex]; simp; omega⟩)))
      · exact .inr (.inr (.inr (.inr ⟨by omega, rfl, e3, by unfold outB Av.toldB inB; rw [hc, ex]; simp; omega⟩)))
set_option maxHeartbeats 32000000 in
theorem specRtr (x1 x2 x3 x4 x5 x6 : Int) (a1 a2 a3 a4 a5 a6 a7 : Option Addr) (c1 c2 c3 c4 c5 c6 c7 : Nat) (ls : List Lk.R) (tw : List Tu.R) (se : List Tu.R) (du : List Tu.R) (ss : List So.R) (es : List Tu.R) (la : List Ed.R) (w : World) (hm1 : ls.length ≤ 1048576) (hm2 : tw.length ≤ 1048576) (hm3 : se.length ≤ 1048576) (hm4 : du.length ≤ 1048576) (hm5 : ss.length ≤ 1048576) (hm6 : es.length ≤ 1048576) (hm7 : la.length ≤ 1048576) (hr1 : Lk.RM w a1 ls) (hr2 : Tu.RM w a2 tw) (hr3 : Tu.RM w a3 se) (hr4 : Tu.RM w a4 du) (hr5 : So.RM w a5 ss) (hr6 : Tu.RM w a6 es) (hr7 : Ed.RM w a7 la) :
    Calls Tryz.prog 38 #[.agg #[.int .i64 x1, .int .i64 x2, .int .i64 x3, .int .i64 x4, .int .i64 x5, .slice a1 ls.length c1, .slice a2 tw.length c2, .slice a3 se.length c3, .slice a4 du.length c4, .slice a5 ss.length c5, .slice a6 es.length c6, .slice a7 la.length c7, .int .i64 x6]] w fun e w' => e = .returned (.bool (rtrB x1 x2 x3 x4 x5 x6 ls tw se du ss es la)) ∧ Below w.heap.size w w' := by
  have HAL : Hid (Al w (w.alloc (.cells #[.int .i64 x1, .int .i64 x2, .int .i64 x3, .int .i64 x4, .int .i64 x5, .slice a1 ls.length c1, .slice a2 tw.length c2, .slice a3 se.length c3, .slice a4 du.length c4, .slice a5 ss.length c5, .slice a6 es.length c6, .slice a7 la.length c7, .int .i64 x6] 80)) (rC x1 x2 x3 x4 x5 (.slice a1 ls.length c1) (.slice a2 tw.length c2) (.slice a3 se.length c3) (.slice a4 du.length c4) (.slice a5 ss.length c5) (.slice a6 es.length c6) (.slice a7 la.length c7) x6)) := hide ⟨(Below.refl _ _).alloc (Nat.le_refl _) _, ra_new w _ rfl _⟩
  have HR1 := hide hr1
  clear hr1
  have HR2 := hide hr2
  clear hr2
  have HR3 := hide hr3
  clear hr3
  have HR4 := hide hr4
  clear hr4
  have HR5 := hide hr5
  clear hr5
  have HR6 := hide hr6
  clear hr6
  have HR7 := hide hr7
  clear hr7
  have K7 := hide (fun W => Ln.specOK a1 ls c1 W hm1)
  have K8 := hide (fun W => Tw.l07OK a2 tw c2 W hm2)
  have K9 := hide (fun W => St.specOK a3 se c3 W hm3)
  have K10 := hide (fun W => St.specOK a4 du c4 W hm4)
  have K11 := hide (fun W => Tp.specOK a5 ss c5 a6 es c6 W hm5 hm6)
  have K12 := hide (fun W => Av.l05Edges a7 la c7 W hm7)
  have K13 := hide (fun W => Ln.l06Find a1 ls c1 x1 W hm1)
  have K14 := hide (fun W => Tp.l09Find a5 ss c5 (.slice a6 es.length c6) x1 W hm5)
  obtain ⟨y1, y2, y3, y4, y5, y6, hy⟩ : ∃ y1 y2 y3 y4 y5 y6, Ln.lkF ls x1 = ⟨y1, y2, y3, y4, y5, y6⟩ := ⟨_, _, _, _, _, _, rfl⟩
  obtain ⟨v1, v2, v3, hu⟩ : ∃ v1 v2 v3, Tp.fS ss x1 = ⟨v1, v2, v3⟩ := ⟨_, _, _, rfl⟩
  rw [hy] at K13
  rw [hu] at K14
  dsimp only [Lk.R.value] at K13
  dsimp only [So.R.value] at K14
  clear hy hu
  cases h1 : inB x1 1 8
  · have hv : rtrB x1 x2 x3 x4 x5 x6 ls tw se du ss es la = false := by unfold rtrB; rw [h1]; rfl
    rw [hv]
    clear hv
    go_enter Tryz.func38, Tryz.ntmps38
    go_wp2_with (first | (go_at_call 64; refine (l01Addr _ _).mono ?_; rintro e w_ ⟨rfl, rfl⟩) | (go_at_call 36; refine (l01In _ _ _ _).mono ?_; rintro e w_ ⟨rfl, rfl⟩))
    go_ret
    exact ⟨rfl, (unhide HAL).1⟩
  cases h2 : inB x2 0 7
  · have hv : rtrB x1 x2 x3 x4 x5 x6 ls tw se du ss es la = false := by unfold rtrB; rw [h1, h2]; rfl
    rw [hv]
    clear hv
    go_enter Tryz.func38, Tryz.ntmps38
    go_wp2_with (first | (go_at_call 64; refine (l01Addr _ _).mono ?_; rintro e w_ ⟨rfl, rfl⟩) | (go_at_call 36; refine (l01In _ _ _ _).mono ?_; rintro e w_ ⟨rfl, rfl⟩))
    go_ret
    exact ⟨rfl, (unhide HAL).1⟩
  cases h3 : inB x3 0 65535
  · have hv : rtrB x1 x2 x3 x4 x5 x6 ls tw se du ss es la = false := by unfold rtrB; rw [h1, h2, h3]; rfl
    rw [hv]
    clear hv
    go_enter Tryz.func38, Tryz.ntmps38
    go_wp2_with (first | (go_at_call 64; refine (l01Addr _ _).mono ?_; rintro e w_ ⟨rfl, rfl⟩) | (go_at_call 36; refine (l01In _ _ _ _).mono ?_; rintro e w_ ⟨rfl, rfl⟩))
    go_ret
    exact ⟨rfl, (unhide HAL).1⟩
  cases h4 : inB x4 0 65535
  · have hv : rtrB x1 x2 x3 x4 x5 x6 ls tw se du ss es la = false := by unfold rtrB; rw [h1, h2, h3, h4]; rfl
    rw [hv]
    clear hv
    go_enter Tryz.func38, Tryz.ntmps38
    go_wp2_with (first | (go_at_call 64; refine (l01Addr _ _).mono ?_; rintro e w_ ⟨rfl, rfl⟩) | (go_at_call 36; refine (l01In _ _ _ _).mono ?_; rintro e w_ ⟨rfl, rfl⟩))
    go_ret
    exact ⟨rfl, (unhide HAL).1⟩
  cases h5 : inB x5 0 100000
  · have hv : rtrB x1 x2 x3 x4 x5 x6 ls tw se du ss es la = false := by unfold rtrB; rw [h1, h2, h3, h4, h5]; rfl
    rw [hv]
    clear hv
    go_enter Tryz.func38, Tryz.ntmps38
    go_wp2_with (first | (go_at_call 64; refine (l01Addr _ _).mono ?_; rintro e w_ ⟨rfl, rfl⟩) | (go_at_call 36; refine (l01In _ _ _ _).mono ?_; rintro e w_ ⟨rfl, rfl⟩))
    go_ret
    exact ⟨rfl, (unhide HAL).1⟩
  cases h6 : inB x6 0 1000000
  · have hv : rtrB x1 x2 x3 x4 x5 x6 ls tw se du ss es la = false := by unfold rtrB; rw [h1, h2, h3, h4, h5, h6]; rfl
    rw [hv]
    clear hv
    go_enter Tryz.func38, Tryz.ntmps38
    go_wp2_with (first | (go_at_call 64; refine (l01Addr _ _).mono ?_; rintro e w_ ⟨rfl, rfl⟩) | (go_at_call 36; refine (l01In _ _ _ _).mono ?_; rintro e w_ ⟨rfl, rfl⟩))
    go_ret
    exact ⟨rfl, (unhide HAL).1⟩
  cases h7 : Ln.linksB ls
  · have e7 : lksB x1 ls = false := by unfold lksB; rw [h7]; rfl
    have hv : rtrB x1 x2 x3 x4 x5 x6 ls tw se du ss es la = false := by unfold rtrB; rw [e7]; simp
    clear e7
    rw [hv]
    clear hv
    rw [h7] at K7
    clear h7
    go_enter Tryz.func38, Tryz.ntmps38
    go_wp2_with (first | (go_at_call 64; refine (l01Addr _ _).mono ?_; rintro e w_ ⟨rfl, rfl⟩) | (go_at_call 36; refine (l01In _ _ _ _).mono ?_; rintro e w_ ⟨rfl, rfl⟩))
    clear h1 h2 h3 h4 h5 h6
    generalize hW0 : w.alloc (.cells #[.int .i64 x1, .int .i64 x2, .int .i64 x3, .int .i64 x4, .int .i64 x5, .slice a1 ls.length c1, .slice a2 tw.length c2, .slice a3 se.length c3, .slice a4 du.length c4, .slice a5 ss.length c5, .slice a6 es.length c6, .slice a7 la.length c7, .int .i64 x6] 80) = W0 at *
    clear hW0
    refine (unhide K7 _ ((unhide HR1).below (unhide HAL).1)).mono ?_
    rintro e V7 ⟨rfl, b_⟩
    replace HAL := hide (al_below (unhide HAL) b_)
    clear b_
    go_wp2_with fail
    go_ret
    exact ⟨rfl, (unhide HAL).1⟩
  cases h8 : Tw.twoB tw
  · have e8 : twoOf x1 tw = false := by unfold twoOf; rw [h8]; rfl
    have hv : rtrB x1 x2 x3 x4 x5 x6 ls tw se du ss es la = false := by unfold rtrB; rw [e8]; simp
    clear e8
    rw [hv]
    clear hv
    rw [h7] at K7
    rw [h8] at K8
    clear h7 h8
    go_enter Tryz.func38, Tryz.ntmps38
    go_wp2_with (first | (go_at_call 64; refine (l01Addr _ _).mono ?_; rintro e w_ ⟨rfl, rfl⟩) | (go_at_call 36; refine (l01In _ _ _ _).mono ?_; rintro e w_ ⟨rfl, rfl⟩))
    clear h1 h2 h3 h4 h5 h6
    generalize hW0 : w.alloc (.cells #[.int .i64 x1, .int .i64 x2, .int .i64 x3, .int .i64 x4, .int .i64 x5, .slice a1 ls.length c1, .slice a2 tw.length c2, .slice a3 se.length c3, .slice a4 du.length c4, .slice a5 ss.length c5, .slice a6 es.length c6, .slice a7 la.length c7, .int .i64 x6] 80) = W0 at *
    clear hW0
    refine (unhide K7 _ ((unhide HR1).below (unhide HAL).1)).mono ?_
    rintro e V7 ⟨rfl, b_⟩
    replace HAL := hide (al_below (unhide HAL) b_)
    clear b_
    have z6 := (unhide HAL).2.at (i := 6) rfl
    go_wp2_with fail
    clear z6
    refine (unhide K8 _ ((unhide HR2).below (unhide HAL).1)).mono ?_
    rintro e V8 ⟨rfl, b_⟩
    replace HAL := hide (al_below (unhide HAL) b_)
    clear b_
    go_wp2_with fail
    go_ret
    exact ⟨rfl, (unhide HAL).1⟩
  cases h9 : St.setB se
  · have hv : rtrB x1 x2 x3 x4 x5 x6 ls tw se du ss es la = false := by unfold rtrB; rw [h9]; simp
    rw [hv]
    clear hv
    rw [h7] at K7
    rw [h8] at K8
    rw [h9] at K9
    clear h7 h8 h9
    go_enter Tryz.func38, Tryz.ntmps38
    go_wp2_with (first | (go_at_call 64; refine (l01Addr _ _).mono ?_; rintro e w_ ⟨rfl, rfl⟩) | (go_at_call 36; refine (l01In _ _ _ _).mono ?_; rintro e w_ ⟨rfl, rfl⟩))
    clear h1 h2 h3 h4 h5 h6
    generalize hW0 : w.alloc (.cells #[.int .i64 x1, .int .i64 x2, .int .i64 x3, .int .i64 x4, .int .i64 x5, .slice a1 ls.length c1, .slice a2 tw.length c2, .slice a3 se.length c3, .slice a4 du.length c4, .slice a5 ss.length c5, .slice a6 es.length c6, .slice a7 la.length c7, .int .i64 x6] 80) = W0 at *
    clear hW0
    refine (unhide K7 _ ((unhide HR1).below (unhide HAL).1)).mono ?_
    rintro e V7 ⟨rfl, b_⟩
    replace HAL := hide (al_below (unhide HAL) b_)
    clear b_
    have z6 := (unhide HAL).2.at (i := 6) rfl
    go_wp2_with fail
    clear z6
    refine (unhide K8 _ ((unhide HR2).below (unhide HAL).1)).mono ?_
    rintro e V8 ⟨rfl, b_⟩
    replace HAL := hide (al_below (unhide HAL) b_)
    clear b_
    have z7 := (unhide HAL).2.at (i := 7) rfl
    go_wp2_with fail
    clear z7
    refine (unhide K9 _ ((unhide HR3).below (unhide HAL).1)).mono ?_
    rintro e V9 ⟨rfl, b_⟩
    replace HAL := hide (al_below (unhide HAL) b_)
    clear b_
    go_wp2_with fail
    go_ret
    exact ⟨rfl, (unhide HAL).1⟩
  cases h10 : St.setB du
  · have hv : rtrB x1 x2 x3 x4 x5 x6 ls tw se du ss es la = false := by unfold rtrB; rw [h10]; simp
    rw [hv]
    clear hv
    rw [h7] at K7
    rw [h8] at K8
    rw [h9] at K9
    rw [h10] at K10
    clear h7 h8 h9 h10
    go_enter Tryz.func38, Tryz.ntmps38
    go_wp2_with (first | (go_at_call 64; refine (l01Addr _ _).mono ?_; rintro e w_ ⟨rfl, rfl⟩) | (go_at_call 36; refine (l01In _ _ _ _).mono ?_; rintro e w_ ⟨rfl, rfl⟩))
    clear h1 h2 h3 h4 h5 h6
    generalize hW0 : w.alloc (.cells #[.int .i64 x1, .int .i64 x2, .int .i64 x3, .int .i64 x4, .int .i64 x5, .slice a1 ls.length c1, .slice a2 tw.length c2, .slice a3 se.length c3, .slice a4 du.length c4, .slice a5 ss.length c5, .slice a6 es.length c6, .slice a7 la.length c7, .int .i64 x6] 80) = W0 at *
    clear hW0
    refine (unhide K7 _ ((unhide HR1).below (unhide HAL).1)).mono ?_
    rintro e V7 ⟨rfl, b_⟩
    replace HAL := hide (al_below (unhide HAL) b_)
    clear b_
    have z6 := (unhide HAL).2.at (i := 6) rfl
    go_wp2_with fail
    clear z6
    refine (unhide K8 _ ((unhide HR2).below (unhide HAL).1)).mono ?_
    rintro e V8 ⟨rfl, b_⟩
    replace HAL := hide (al_below (unhide HAL) b_)
    clear b_
    have z7 := (unhide HAL).2.at (i := 7) rfl
    go_wp2_with fail
    clear z7
    refine (unhide K9 _ ((unhide HR3).below (unhide HAL).1)).mono ?_
    rintro e V9 ⟨rfl, b_⟩
    replace HAL := hide (al_below (unhide HAL) b_)
    clear b_
    have z8 := (unhide HAL).2.at (i := 8) rfl
    go_wp2_with fail
    clear z8
    refine (unhide K10 _ ((unhide HR4).below (unhide HAL).1)).mono ?_
    rintro e V10 ⟨rfl, b_⟩
    replace HAL := hide (al_below (unhide HAL) b_)
    clear b_
    go_wp2_with fail
    go_ret
    exact ⟨rfl, (unhide HAL).1⟩
  cases h11 : Tp.topB ss es
  · have hv : rtrB x1 x2 x3 x4 x5 x6 ls tw se du ss es la = false := by unfold rtrB; rw [h11]; simp
    rw [hv]
    clear hv
    rw [h7] at K7
    rw [h8] at K8
    rw [h9] at K9
    rw [h10] at K10
    rw [h11] at K11
    clear h7 h8 h9 h10 h11
    go_enter Tryz.func38, Tryz.ntmps38
    go_wp2_with (first | (go_at_call 64; refine (l01Addr _ _).mono ?_; rintro e w_ ⟨rfl, rfl⟩) | (go_at_call 36; refine (l01In _ _ _ _).mono ?_; rintro e w_ ⟨rfl, rfl⟩))
    clear h1 h2 h3 h4 h5 h6
    generalize hW0 : w.alloc (.cells #[.int .i64 x1, .int .i64 x2, .int .i64 x3, .int .i64 x4, .int .i64 x5, .slice a1 ls.length c1, .slice a2 tw.length c2, .slice a3 se.length c3, .slice a4 du.length c4, .slice a5 ss.length c5, .slice a6 es.length c6, .slice a7 la.length c7, .int .i64 x6] 80) = W0 at *
    clear hW0
    refine (unhide K7 _ ((unhide HR1).below (unhide HAL).1)).mono ?_
    rintro e V7 ⟨rfl, b_⟩
    replace HAL := hide (al_below (unhide HAL) b_)
    clear b_
    have z6 := (unhide HAL).2.at (i := 6) rfl
    go_wp2_with fail
    clear z6
    refine (unhide K8 _ ((unhide HR2).below (unhide HAL).1)).mono ?_
    rintro e V8 ⟨rfl, b_⟩
    replace HAL := hide (al_below (unhide HAL) b_)
    clear b_
    have z7 := (unhide HAL).2.at (i := 7) rfl
    go_wp2_with fail
    clear z7
    refine (unhide K9 _ ((unhide HR3).below (unhide HAL).1)).mono ?_
    rintro e V9 ⟨rfl, b_⟩
    replace HAL := hide (al_below (unhide HAL) b_)
    clear b_
    have z8 := (unhide HAL).2.at (i := 8) rfl
    go_wp2_with fail
    clear z8
    refine (unhide K10 _ ((unhide HR4).below (unhide HAL).1)).mono ?_
    rintro e V10 ⟨rfl, b_⟩
    replace HAL := hide (al_below (unhide HAL) b_)
    clear b_
    have z9 := (unhide HAL).2.at (i := 9) rfl
    have z10 := (unhide HAL).2.at (i := 10) rfl
    go_wp2_with fail
    clear z9 z10
    refine (unhide K11 _ ((unhide HR5).below (unhide HAL).1) ((unhide HR6).below (unhide HAL).1)).mono ?_
    rintro e V11 ⟨rfl, b_⟩
    replace HAL := hide (al_below (unhide HAL) b_)
    clear b_
    go_wp2_with fail
    go_ret
    exact ⟨rfl, (unhide HAL).1⟩
  cases h12 : Av.allN la la.length
  · have hv : rtrB x1 x2 x3 x4 x5 x6 ls tw se du ss es la = false := by unfold rtrB; rw [h12]; simp
    rw [hv]
    clear hv
    rw [h7] at K7
    rw [h8] at K8
    rw [h9] at K9
    rw [h10] at K10
    rw [h11] at K11
    rw [h12] at K12
    clear h7 h8 h9 h10 h11 h12
    go_enter Tryz.func38, Tryz.ntmps38
    go_wp2_with (first | (go_at_call 64; refine (l01Addr _ _).mono ?_; rintro e w_ ⟨rfl, rfl⟩) | (go_at_call 36; refine (l01In _ _ _ _).mono ?_; rintro e w_ ⟨rfl, rfl⟩))
    clear h1 h2 h3 h4 h5 h6
    generalize hW0 : w.alloc (.cells #[.int .i64 x1, .int .i64 x2, .int .i64 x3, .int .i64 x4, .int .i64 x5, .slice a1 ls.length c1, .slice a2 tw.length c2, .slice a3 se.length c3, .slice a4 du.length c4, .slice a5 ss.length c5, .slice a6 es.length c6, .slice a7 la.length c7, .int .i64 x6] 80) = W0 at *
    clear hW0
    refine (unhide K7 _ ((unhide HR1).below (unhide HAL).1)).mono ?_
    rintro e V7 ⟨rfl, b_⟩
    replace HAL := hide (al_below (unhide HAL) b_)
    clear b_
    have z6 := (unhide HAL).2.at (i := 6) rfl
    go_wp2_with fail
    clear z6
    refine (unhide K8 _ ((unhide HR2).below (unhide HAL).1)).mono ?_
    rintro e V8 ⟨rfl, b_⟩
    replace HAL := hide (al_below (unhide HAL) b_)
    clear b_
    have z7 := (unhide HAL).2.at (i := 7) rfl
    go_wp2_with fail
    clear z7
    refine (unhide K9 _ ((unhide HR3).below (unhide HAL).1)).mono ?_
    rintro e V9 ⟨rfl, b_⟩
    replace HAL := hide (al_below (unhide HAL) b_)
    clear b_
    have z8 := (unhide HAL).2.at (i := 8) rfl
    go_wp2_with fail
    clear z8
    refine (unhide K10 _ ((unhide HR4).below (unhide HAL).1)).mono ?_
    rintro e V10 ⟨rfl, b_⟩
    replace HAL := hide (al_below (unhide HAL) b_)
    clear b_
    have z9 := (unhide HAL).2.at (i := 9) rfl
    have z10 := (unhide HAL).2.at (i := 10) rfl
    go_wp2_with fail
    clear z9 z10
    refine (unhide K11 _ ((unhide HR5).below (unhide HAL).1) ((unhide HR6).below (unhide HAL).1)).mono ?_
    rintro e V11 ⟨rfl, b_⟩
    replace HAL := hide (al_below (unhide HAL) b_)
    clear b_
    have z11 := (unhide HAL).2.at (i := 11) rfl
    go_wp2_with fail
    clear z11
    refine (unhide K12 _ ((unhide HR7).below (unhide HAL).1)).mono ?_
    rintro e V12 ⟨rfl, q_, hq_⟩
    have b_ : Below V11.heap.size V11 V12 := by rw [hq_]; exact bel_drewN _ _
    replace HAL := hide (al_below (unhide HAL) b_)
    clear hq_ q_ b_
    go_wp2_with fail
    go_ret
    exact ⟨rfl, (unhide HAL).1⟩
  cases h13 : (ls.find? (Ln.isAd x1)).isSome
  rotate_left
  · have e7 : lksB x1 ls = false := by exact lks_found h13
    have hv : rtrB x1 x2 x3 x4 x5 x6 ls tw se du ss es la = false := by unfold rtrB; rw [e7]; simp
    clear e7
    rw [hv]
    clear hv
    rw [h7] at K7
    rw [h8] at K8
    rw [h9] at K9
    rw [h10] at K10
    rw [h11] at K11
    rw [h12] at K12
    rw [h13] at K13
    clear h7 h8 h9 h10 h11 h12 h13
    go_enter Tryz.func38, Tryz.ntmps38
    go_wp2_with (first | (go_at_call 64; refine (l01Addr _ _).mono ?_; rintro e w_ ⟨rfl, rfl⟩) | (go_at_call 36; refine (l01In _ _ _ _).mono ?_; rintro e w_ ⟨rfl, rfl⟩))
    clear h1 h2 h3 h4 h5 h6
    generalize hW0 : w.alloc (.cells #[.int .i64 x1, .int .i64 x2, .int .i64 x3, .int .i64 x4, .int .i64 x5, .slice a1 ls.length c1, .slice a2 tw.length c2, .slice a3 se.length c3, .slice a4 du.length c4, .slice a5 ss.length c5, .slice a6 es.length c6, .slice a7 la.length c7, .int .i64 x6] 80) = W0 at *
    clear hW0
    refine (unhide K7 _ ((unhide HR1).below (unhide HAL).1)).mono ?_
    rintro e V7 ⟨rfl, b_⟩
    replace HAL := hide (al_below (unhide HAL) b_)
    clear b_
    have z6 := (unhide HAL).2.at (i := 6) rfl
    go_wp2_with fail
    clear z6
    refine (unhide K8 _ ((unhide HR2).below (unhide HAL).1)).mono ?_
    rintro e V8 ⟨rfl, b_⟩
    replace HAL := hide (al_below (unhide HAL) b_)
    clear b_
    have z7 := (unhide HAL).2.at (i := 7) rfl
    go_wp2_with fail
    clear z7
    refine (unhide K9 _ ((unhide HR3).below (unhide HAL).1)).mono ?_
    rintro e V9 ⟨rfl, b_⟩
    replace HAL := hide (al_below (unhide HAL) b_)
    clear b_
    have z8 := (unhide HAL).2.at (i := 8) rfl
    go_wp2_with fail
    clear z8
    refine (unhide K10 _ ((unhide HR4).below (unhide HAL).1)).mono ?_
    rintro e V10 ⟨rfl, b_⟩
    replace HAL := hide (al_below (unhide HAL) b_)
    clear b_
    have z9 := (unhide HAL).2.at (i := 9) rfl
    have z10 := (unhide HAL).2.at (i := 10) rfl
    go_wp2_with fail
    clear z9 z10
    refine (unhide K11 _ ((unhide HR5).below (unhide HAL).1) ((unhide HR6).below (unhide HAL).1)).mono ?_
    rintro e V11 ⟨rfl, b_⟩
    replace HAL := hide (al_below (unhide HAL) b_)
    clear b_
    have z11 := (unhide HAL).2.at (i := 11) rfl
    go_wp2_with fail
    clear z11
    refine (unhide K12 _ ((unhide HR7).below (unhide HAL).1)).mono ?_
    rintro e V12 ⟨rfl, q_, hq_⟩
    have b_ : Below V11.heap.size V11 V12 := by rw [hq_]; exact bel_drewN _ _
    replace HAL := hide (al_below (unhide HAL) b_)
    clear hq_ q_ b_
    have z5 := (unhide HAL).2.at (i := 5) rfl
    have z0 := (unhide HAL).2.at (i := 0) rfl
    go_wp2_with fail
    clear z5 z0
    refine (unhide K13 _ ((unhide HR1).below (unhide HAL).1)).mono ?_
    rintro e V13 ⟨rfl, b_⟩
    replace HAL := hide (al_below (unhide HAL) b_)
    clear b_
    have HAL2 := hide (al_below (unhide HAL) ((Below.refl _ _).alloc (Nat.le_refl _) (.cells #[.int .i64 y1, .int .i64 y2, .int .i64 y3, .int .i64 y4, .int .i64 y5, .int .i64 y6] 103)))
    go_wp2_with fail
    go_ret
    exact ⟨rfl, (unhide HAL2).1⟩
  cases h14 : Tp.hasS ss x1
  rotate_left
  · have hv : rtrB x1 x2 x3 x4 x5 x6 ls tw se du ss es la = false := by unfold rtrB; rw [h14]; simp
    rw [hv]
    clear hv
    rw [h7] at K7
    rw [h8] at K8
    rw [h9] at K9
    rw [h10] at K10
    rw [h11] at K11
    rw [h12] at K12
    rw [h13] at K13
    rw [h14] at K14
    clear h7 h8 h9 h10 h11 h12 h13 h14
    go_enter Tryz.func38, Tryz.ntmps38
    go_wp2_with (first | (go_at_call 64; refine (l01Addr _ _).mono ?_; rintro e w_ ⟨rfl, rfl⟩) | (go_at_call 36; refine (l01In _ _ _ _).mono ?_; rintro e w_ ⟨rfl, rfl⟩))
    clear h1 h2 h3 h4 h5 h6
    generalize hW0 : w.alloc (.cells #[.int .i64 x1, .int .i64 x2, .int .i64 x3, .int .i64 x4, .int .i64 x5, .slice a1 ls.length c1, .slice a2 tw.length c2, .slice a3 se.length c3, .slice a4 du.length c4, .slice a5 ss.length c5, .slice a6 es.length c6, .slice a7 la.length c7, .int .i64 x6] 80) = W0 at *
    clear hW0
    refine (unhide K7 _ ((unhide HR1).below (unhide HAL).1)).mono ?_
    rintro e V7 ⟨rfl, b_⟩
    replace HAL := hide (al_below (unhide HAL) b_)
    clear b_
    have z6 := (unhide HAL).2.at (i := 6) rfl
    go_wp2_with fail
    clear z6
    refine (unhide K8 _ ((unhide HR2).below (unhide HAL).1)).mono ?_
    rintro e V8 ⟨rfl, b_⟩
    replace HAL := hide (al_below (unhide HAL) b_)
    clear b_
    have z7 := (unhide HAL).2.at (i := 7) rfl
    go_wp2_with fail
    clear z7
    refine (unhide K9 _ ((unhide HR3).below (unhide HAL).1)).mono ?_
    rintro e V9 ⟨rfl, b_⟩
    replace HAL := hide (al_below (unhide HAL) b_)
    clear b_
    have z8 := (unhide HAL).2.at (i := 8) rfl
    go_wp2_with fail
    clear z8
    refine (unhide K10 _ ((unhide HR4).below (unhide HAL).1)).mono ?_
    rintro e V10 ⟨rfl, b_⟩
    replace HAL := hide (al_below (unhide HAL) b_)
    clear b_
    have z9 := (unhide HAL).2.at (i := 9) rfl
    have z10 := (unhide HAL).2.at (i := 10) rfl
    go_wp2_with fail
    clear z9 z10
    refine (unhide K11 _ ((unhide HR5).below (unhide HAL).1) ((unhide HR6).below (unhide HAL).1)).mono ?_
    rintro e V11 ⟨rfl, b_⟩
    replace HAL := hide (al_below (unhide HAL) b_)
    clear b_
    have z11 := (unhide HAL).2.at (i := 11) rfl
    go_wp2_with fail
    clear z11
    refine (unhide K12 _ ((unhide HR7).below (unhide HAL).1)).mono ?_
    rintro e V12 ⟨rfl, q_, hq_⟩
    have b_ : Below V11.heap.size V11 V12 := by rw [hq_]; exact bel_drewN _ _
    replace HAL := hide (al_below (unhide HAL) b_)
    clear hq_ q_ b_
    have z5 := (unhide HAL).2.at (i := 5) rfl
    have z0 := (unhide HAL).2.at (i := 0) rfl
    go_wp2_with fail
    clear z5 z0
    refine (unhide K13 _ ((unhide HR1).below (unhide HAL).1)).mono ?_
    rintro e V13 ⟨rfl, b_⟩
    replace HAL := hide (al_below (unhide HAL) b_)
    clear b_
    have HAL2 := hide (al_below (unhide HAL) ((Below.refl _ _).alloc (Nat.le_refl _) (.cells #[.int .i64 y1, .int .i64 y2, .int .i64 y3, .int .i64 y4, .int .i64 y5, .int .i64 y6] 103)))
    skip
    have z9 := (unhide HAL2).2.at (i := 9) rfl
    have z10 := (unhide HAL2).2.at (i := 10) rfl
    have z0 := (unhide HAL2).2.at (i := 0) rfl
    go_wp2_with fail
    clear z9 z10 z0
    generalize hW13 : V13.alloc (.cells #[.int .i64 y1, .int .i64 y2, .int .i64 y3, .int .i64 y4, .int .i64 y5, .int .i64 y6] 103) = W13 at *
    clear hW13
    replace HAL := HAL2
    clear HAL2
    refine (unhide K14 _ ((unhide HR5).below (unhide HAL).1)).mono ?_
    rintro e V14 ⟨rfl, b_⟩
    replace HAL := hide (al_below (unhide HAL) b_)
    clear b_
    have HAL2 := hide (al_below (unhide HAL) ((Below.refl _ _).alloc (Nat.le_refl _) (.cells #[.int .i64 v1, .int .i64 v2, .int .i64 v3] 107)))
    go_wp2_with fail
    go_ret
    exact ⟨rfl, (unhide HAL2).1⟩
  have HE : Hid (rtrB x1 x2 x3 x4 x5 x6 ls tw se du ss es la = (tw.all (twB x1) && ls.all obB)) := hide (by
    have e8 : twoOf x1 tw = tw.all (twB x1) := by unfold twoOf; rw [h8]; rfl
    unfold rtrB; rw [h1, h2, h3, h4, h5, h6, lks_all h7 h13, e8, h9, h10, h11, h14, h12]; simp [Bool.and_comm])
  obtain ⟨A, hA⟩ : ∃ A, rtrB x1 x2 x3 x4 x5 x6 ls tw se du ss es la = A := ⟨_, rfl⟩
  rw [hA] at HE ⊢
  clear hA
  have hl8 := Ln.links_len h7
  have hl62 := Tw.two_len h8
  have HLB := hide h7
  have HTW := hide h8
  rw [h7] at K7
  rw [h8] at K8
  rw [h9] at K9
  rw [h10] at K10
  rw [h11] at K11
  rw [h12] at K12
  rw [h13] at K13
  rw [h14] at K14
  clear h7 h8 h9 h10 h11 h12 h13 h14
  go_enter Tryz.func38, Tryz.ntmps38
  go_wp2_with (first | (go_at_call 64; refine (l01Addr _ _).mono ?_; rintro e w_ ⟨rfl, rfl⟩) | (go_at_call 36; refine (l01In _ _ _ _).mono ?_; rintro e w_ ⟨rfl, rfl⟩))
  clear h1 h2 h3 h4 h5 h6
  generalize hW0 : w.alloc (.cells #[.int .i64 x1, .int .i64 x2, .int .i64 x3, .int .i64 x4, .int .i64 x5, .slice a1 ls.length c1, .slice a2 tw.length c2, .slice a3 se.length c3, .slice a4 du.length c4, .slice a5 ss.length c5, .slice a6 es.length c6, .slice a7 la.length c7, .int .i64 x6] 80) = W0 at *
  clear hW0
  refine (unhide K7 _ ((unhide HR1).below (unhide HAL).1)).mono ?_
  rintro e V7 ⟨rfl, b_⟩
  replace HAL := hide (al_below (unhide HAL) b_)
  clear b_
  have z6 := (unhide HAL).2.at (i := 6) rfl
  go_wp2_with fail
  clear z6
  refine (unhide K8 _ ((unhide HR2).below (unhide HAL).1)).mono ?_
  rintro e V8 ⟨rfl, b_⟩
  replace HAL := hide (al_below (unhide HAL) b_)
  clear b_
  have z7 := (unhide HAL).2.at (i := 7) rfl
  go_wp2_with fail
  clear z7
  refine (unhide K9 _ ((unhide HR3).below (unhide HAL).1)).mono ?_
  rintro e V9 ⟨rfl, b_⟩
  replace HAL := hide (al_below (unhide HAL) b_)
  clear b_
  have z8 := (unhide HAL).2.at (i := 8) rfl
  go_wp2_with fail
  clear z8
  refine (unhide K10 _ ((unhide HR4).below (unhide HAL).1)).mono ?_
  rintro e V10 ⟨rfl, b_⟩
  replace HAL := hide (al_below (unhide HAL) b_)
  clear b_
  have z9 := (unhide HAL).2.at (i := 9) rfl
  have z10 := (unhide HAL).2.at (i := 10) rfl
  go_wp2_with fail
  clear z9 z10
  refine (unhide K11 _ ((unhide HR5).below (unhide HAL).1) ((unhide HR6).below (unhide HAL).1)).mono ?_
  rintro e V11 ⟨rfl, b_⟩
  replace HAL := hide (al_below (unhide HAL) b_)
  clear b_
  have z11 := (unhide HAL).2.at (i := 11) rfl
  go_wp2_with fail
  clear z11
  refine (unhide K12 _ ((unhide HR7).below (unhide HAL).1)).mono ?_
  rintro e V12 ⟨rfl, q_, hq_⟩
  have b_ : Below V11.heap.size V11 V12 := by rw [hq_]; exact bel_drewN _ _
  replace HAL := hide (al_below (unhide HAL) b_)
  clear hq_ q_ b_
  have z5 := (unhide HAL).2.at (i := 5) rfl
  have z0 := (unhide HAL).2.at (i := 0) rfl
  go_wp2_with fail
  clear z5 z0
  refine (unhide K13 _ ((unhide HR1).below (unhide HAL).1)).mono ?_
  rintro e V13 ⟨rfl, b_⟩
  replace HAL := hide (al_below (unhide HAL) b_)
  clear b_
  have HAL2 := hide (al_below (unhide HAL) ((Below.refl _ _).alloc (Nat.le_refl _) (.cells #[.int .i64 y1, .int .i64 y2, .int .i64 y3, .int .i64 y4, .int .i64 y5, .int .i64 y6] 103)))
  skip
  have z9 := (unhide HAL2).2.at (i := 9) rfl
  have z10 := (unhide HAL2).2.at (i := 10) rfl
  have z0 := (unhide HAL2).2.at (i := 0) rfl
  go_wp2_with fail
  clear z9 z10 z0
  generalize hW13 : V13.alloc (.cells #[.int .i64 y1, .int .i64 y2, .int .i64 y3, .int .i64 y4, .int .i64 y5, .int .i64 y6] 103) = W13 at *
  clear hW13
  replace HAL := HAL2
  clear HAL2
  refine (unhide K14 _ ((unhide HR5).below (unhide HAL).1)).mono ?_
  rintro e V14 ⟨rfl, b_⟩
  replace HAL := hide (al_below (unhide HAL) b_)
  clear b_
  have HAL2 := hide (al_below (unhide HAL) ((Below.refl _ _).alloc (Nat.le_refl _) (.cells #[.int .i64 v1, .int .i64 v2, .int .i64 v3] 107)))
  skip
  have z6 := (unhide HAL2).2.at (i := 6) rfl
  go_wp2_with fail
  clear z6
  generalize hW14 : V14.alloc (.cells #[.int .i64 v1, .int .i64 v2, .int .i64 v3] 107) = W14 at *
  clear hW14
  replace HAL := HAL2
  clear HAL2
  go_loopw [7] (fun i wr => ∃ j : Nat, j ≤ tw.length ∧ i = .int .i64 j ∧ Hid ((tw.take j).all (twB x1) = true) ∧ Hid (Al w wr (rC x1 x2 x3 x4 x5 (.slice a1 ls.length c1) (.slice a2 tw.length c2) (.slice a3 se.length c3) (.slice a4 du.length c4) (.slice a5 ss.length c5) (.slice a6 es.length c6) (.slice a7 la.length c7) x6))) (fun i _ => tw.length - (intOf i).toNat)
  case atStart => exact ⟨0, by omega, rfl, hide rfl, HAL⟩
  case round =>
    obtain ⟨j, hj, rfl, hal, hAl⟩ := hrel
    have z6 := (unhide hAl).2.at (i := 6) rfl
    have z0 := (unhide hAl).2.at (i := 0) rfl
    by_cases hlt : (j : Int) < (tw.length : Int)
    · have k0 : (0 : Int) ≤ (j : Int) := by omega
      have hlen : j < tw.length := by omega
      obtain ⟨g, off, ha2⟩ := (unhide HR2).form (by omega)
      have HC := (unhide HR2).below (unhide hAl).1
      rw [ha2] at HC z6
      have hA := HC.at hlen
      have HY : Hid (twB x1 (tw.getD j Tu.R.zero) = true → (tw.take (j + 1)).all (twB x1) = true) := hide (fun h => all_step hlen (unhide hal) h)
      have HZ : Hid (twB x1 (tw.getD j Tu.R.zero) = false → A = false) := hide (fun h => by rw [unhide HE, all_no hlen h]; rfl)
      have hbd := St.ok_bounds (St.setB_ok (Tw.two_set (unhide HTW)) hlen)
      generalize tw.getD j Tu.R.zero = m at *
      obtain ⟨key, til, val⟩ := m
      obtain ⟨t0, t1, t2⟩ := hA
      dsimp only at t0 t1 t2 hbd
      obtain ⟨hb0, hb1, _⟩ := hbd
      have EK : Hid (twB x1 ⟨key, til, val⟩ = (!(key / 100 == x1) && !(key % 100 == x1))) := hide (by unfold twB Tw.hv Tw.ha; dsimp only; rw [Int.tdiv_eq_ediv_of_nonneg hb0, Int.tmod_eq_emod_of_nonneg hb0])
      have HAD : Hid (∀ n, Al w (wr.drewN n) (rC x1 x2 x3 x4 x5 (.slice a1 ls.length c1) (.slice a2 tw.length c2) (.slice a3 se.length c3) (.slice a4 du.length c4) (.slice a5 ss.length c5) (.slice a6 es.length c6) (.slice a7 la.length c7) x6)) := hide (fun n => al_below (unhide hAl) (bel_drewN _ _))
      clear HC
      cases q1 : (key / 100 == x1)
      · cases q2 : (key % 100 == x1)
        · have hy := hide (unhide HY (by rw [unhide EK, q1, q2]; rfl))
          clear HY HZ EK
          go_wp2_with fail
          go_quiet (fail)
          go_wp2_with fail
          go_roundw
          case rel => exact ⟨j + 1, by omega, by go_num, hy, hide (unhide HAD _)⟩
          case measure => simp [intOf]; omega
        · have hf := hide (unhide HZ (by rw [unhide EK, q1, q2]; rfl))
          clear HY HZ EK
          go_wp2_with fail
          go_quiet (fail)
          go_wp2_with fail
          go_ret
          exact ⟨ret_bool (unhide hf).symm, (unhide HAD _).1⟩
      · have hf := hide (unhide HZ (by rw [unhide EK, q1]; rfl))
        clear HY HZ EK
        go_wp2_with fail
        go_quiet (fail)
        go_wp2_with fail
        go_ret
        exact ⟨ret_bool (unhide hf).symm, (unhide HAD _).1⟩
    · obtain rfl : j = tw.length := by omega
      have HE2 : Hid (A = ls.all obB) := hide (by have e := unhide hal; rw [List.take_length] at e; rw [unhide HE, e]; rfl)
      have z5 := (unhide hAl).2.at (i := 5) rfl
      go_wp2_with fail
      clear z5 z6 z0
      go_loopw [8] (fun i wr => ∃ j : Nat, j ≤ ls.length ∧ i = .int .i64 j ∧ Hid ((ls.take j).all obB = true) ∧ Hid (Al w wr (rC x1 x2 x3 x4 x5 (.slice a1 ls.length c1) (.slice a2 tw.length c2) (.slice a3 se.length c3) (.slice a4 du.length c4) (.slice a5 ss.length c5) (.slice a6 es.length c6) (.slice a7 la.length c7) x6))) (fun i _ => ls.length - (intOf i).toNat)
      case atStart => exact ⟨0, by omega, rfl, hide rfl, hAl⟩
      case round =>
        obtain ⟨k, hk, rfl, hal2, hAl2⟩ := hrel
        have z5 := (unhide hAl2).2.at (i := 5) rfl
        by_cases hlt2 : (k : Int) < (ls.length : Int)
        · have k0 : (0 : Int) ≤ (k : Int) := by omega
          have hlen : k < ls.length := by omega
          obtain ⟨g, off, ha1⟩ := (unhide HR1).form (by omega)
          have HC := (unhide HR1).below (unhide hAl2).1
          rw [ha1] at HC z5
          have hA := HC.at hlen
          clear ha1
          have HY : Hid (obB (ls.getD k Lk.R.zero) = true → (ls.take (k + 1)).all obB = true) := hide (fun h => all_step hlen (unhide hal2) h)
          have HZ : Hid (obB (ls.getD k Lk.R.zero) = false → A = false) := hide (fun h => by rw [unhide HE2]; exact all_no hlen h)
          have hco := Ln.ok_co (Ri.all_ok (unhide HLB) hlen)
          have hsy := Ln.ok_sy (Ri.all_ok (unhide HLB) hlen)
          generalize ls.getD k Lk.R.zero = m at *
          obtain ⟨ad, hd, sy, ci, co, wl⟩ := m
          obtain ⟨t0, t1, t2, t3, t4, t5⟩ := hA
          dsimp only at t0 t1 t2 t3 t4 t5 hco hsy
          have hw := ob_ways hco.1 hco.2 hsy.1
          have EK : Hid (obB ⟨ad, hd, sy, ci, co, wl⟩ = outB co sy) := hide rfl
          have HA3 := hide (al_below (unhide hAl2) ((Below.refl _ _).alloc (Nat.le_refl _) (.cells #[.int .i64 ad, .int .i64 hd, .int .i64 sy, .int .i64 ci, .int .i64 co, .int .i64 wl] 103)))
          clear HC
          rcases hw with ⟨rfl, rfl, e⟩ | ⟨rfl, q2, e⟩ | ⟨q1, q2, e⟩ | ⟨q1, q2, q3, e⟩ | ⟨q1, q2, q3, e⟩
          · have hy := hide (unhide HY ((unhide EK).trans e))
            clear HY HZ EK e
            go_wp2_with fail
            go_roundw
            case rel => exact ⟨k + 1, by omega, by go_num, hy, HA3⟩
            case measure => simp [intOf]; omega
          · have hf := hide (unhide HZ ((unhide EK).trans e))
            clear HY HZ EK e
            go_wp2_with fail
            go_ret
            exact ⟨ret_bool (unhide hf).symm, (unhide HA3).1⟩
          · have hf := hide (unhide HZ ((unhide EK).trans e))
            clear HY HZ EK e
            go_wp2_with (go_at_call 72; refine (l04ExM co (by omega) (by omega) _).mono ?_; rintro e w_ ⟨rfl, rfl⟩)
            go_ret
            exact ⟨ret_bool (unhide hf).symm, (unhide HA3).1⟩
          · have hf := hide (unhide HZ ((unhide EK).trans e))
            clear HY HZ EK e
            go_wp2_with (go_at_call 72; refine (l04ExM co (by omega) (by omega) _).mono ?_; rintro e w_ ⟨rfl, rfl⟩)
            go_ret
            exact ⟨ret_bool (unhide hf).symm, (unhide HA3).1⟩
          · have hy := hide (unhide HY ((unhide EK).trans e))
            have q4 : (co == 0) = false := by simp; omega
            clear HY HZ EK e
            go_wp2_with (go_at_call 72; refine (l04ExM co (by omega) (by omega) _).mono ?_; rintro e w_ ⟨rfl, rfl⟩)
            go_roundw
            case rel => exact ⟨k + 1, by omega, by go_num, hy, HA3⟩
            case measure => simp [intOf]; omega
        · obtain rfl : k = ls.length := by omega
          have hf := hide (show A = true by have e := unhide hal2; rw [List.take_length] at e; rw [unhide HE2, e])
          go_wp2_with fail
          go_ret
          exact ⟨ret_bool (unhide hf).symm, (unhide hAl2).1⟩
end Rt
end Go.Proofs.YthfcigfgpimimaaGreat
namespace Go.Proofs.YthfcigfgpimimaaGreat
open Go.ChangeShapes Go.WideShapes Go.ChangeAt Go.RowKit
set_option linter.unusedVariables false
set_option linter.unusedSimpArgs false
set_option maxRecDepth 100000
attribute [local go_sem ↓] Go.wp_at_zero Go.wp_at_succ
namespace Nt
open W1 Rt
theorem specOkM (m : Rm) (p : Pl) (w : World) (hs : Sm m) (hr : Rd w m p) : Calls Tryz.prog 38 #[.agg (cl m p).toArray] w fun e w' => e = .returned (.bool (okM m)) ∧ Below w.heap.size w w' := by
  obtain ⟨s1, s2, s3, s4, s5, s6, s7⟩ := hs
  obtain ⟨r1, r2, r3, r4, r5, r6, r7⟩ := hr
  exact specRtr m.x1 m.x2 m.x3 m.x4 m.x5 m.x6 p.a1 p.a2 p.a3 p.a4 p.a5 p.a6 p.a7 p.c1 p.c2 p.c3 p.c4 p.c5 p.c6 p.c7 m.ls m.tw m.se m.du m.ss m.es m.la w s1 s2 s3 s4 s5 s6 s7 r1 r2 r3 r4 r5 r6 r7
theorem sNet {w : World} {g o p : Nat} {m : Rm} {pl : Pl} {y1 y5 t : Int} {v1 v2 v3 : Value} (hn : NB w p v1 v2 v3 t) (hA : w.rangeAt g o (cl m pl)) (e1 : m.x1 = y1) (e5 : m.x5 = y5) :
    (NB w p v1 v2 v3 t ∧ w.rangeAt g o (cl m pl)) ∧ w.cell? ⟨p, 0, none⟩ = some v1 ∧ w.cell? ⟨p, 3, none⟩ = some (.int .i64 t) ∧ w.cell? ⟨g, o, none⟩ = some (.int .i64 y1) ∧ w.cell? ⟨g, o + 4, none⟩ = some (.int .i64 y5) :=
  ⟨⟨hn, hA⟩, hn.1, hn.2.2.2, by rw [← e1]; exact hA 0 _ rfl, by rw [← e5]; exact hA 4 _ rfl⟩
set_option maxHeartbeats 32000000 in
theorem specNet (a b d : Option Addr) (ca cb cd : Nat) (t : Int) (ms : List Rm) (ps : List Pl) (cs : List Int) (fs : List Fm.R) (w : World) (hm : ms.length ≤ 1048576) (hc : cs.length ≤ 1048576) (hf : fs.length ≤ 1048576) (hs : ∀ i, i < ms.length → Sm (ms.getD i Rm.zero)) (hg : ∀ i, i < fs.length → (fs.getD i Fm.R.zero).bs.size ≤ maxLen) (hr : NR w a ms ps) (hi : In.RM w b cs) (hz : Fm.RM w d fs) :
    Calls Tryz.prog 17 #[.agg #[.slice a ms.length ca, .slice b cs.length cb, .slice d fs.length cd, .int .i64 t]] w fun e w' => e = .returned (.bool (netB ms cs fs t)) ∧ Below w.heap.size w w' := by
  have HX0 := hide (nb_new w (.slice a ms.length ca) (.slice b cs.length cb) (.slice d fs.length cd) t 32)
  have b0 := bel_new w (.cells #[.slice a ms.length ca, .slice b cs.length cb, .slice d fs.length cd, .int .i64 t] 32)
  have HR := hide (hr.below b0)
  have HI := hide (hi.below b0)
  have HZ := hide (hz.below b0)
  have HB0 := hide b0
  have HS := hide hs
  have HG := hide hg
  have E0 : Hid (netB ms cs fs t = (inB t 0 100000 && (inB ms.length 1 6 && ((allI ms.length fun i => rok (ms.getD i Rm.zero) i t) && (costB cs ms.length && (decide (fs.length ≤ 200) && allI fs.length fun i => fok (fs.getD i Fm.R.zero) ms.length t)))))) := hide rfl
  have HAN : Hid (∀ j, j < ms.length → rok (ms.getD j Rm.zero) j t = false → (allI ms.length fun i => rok (ms.getD i Rm.zero) i t) = false) := hide (fun j h h' => allI_no (p := fun i => rok (ms.getD i Rm.zero) i t) h h')
  have HAY : Hid ((∀ i, i < ms.length → rok (ms.getD i Rm.zero) i t = true) → (allI ms.length fun i => rok (ms.getD i Rm.zero) i t) = true) := hide (fun h => allI_yes h)
  have HFN : Hid (∀ j, j < fs.length → fok (fs.getD j Fm.R.zero) ms.length t = false → (allI fs.length fun i => fok (fs.getD i Fm.R.zero) ms.length t) = false) := hide (fun j h h' => allI_no (p := fun i => fok (fs.getD i Fm.R.zero) ms.length t) h h')
  have HFY : Hid ((∀ i, i < fs.length → fok (fs.getD i Fm.R.zero) ms.length t = true) → (allI fs.length fun i => fok (fs.getD i Fm.R.zero) ms.length t) = true) := hide (fun h => allI_yes h)
  generalize (allI ms.length fun i => rok (ms.getD i Rm.zero) i t) = AA at *
  generalize (allI fs.length fun i => fok (fs.getD i Fm.R.zero) ms.length t) = FF at *
  obtain ⟨N, hN⟩ : ∃ N, ms.length = N := ⟨_, rfl⟩
  obtain ⟨K, hK⟩ : ∃ K, fs.length = K := ⟨_, rfl⟩
  rw [hN, hK] at HX0 HB0 HR HI HZ E0 ⊢
  rw [hN] at hm HAY HFN HFY
  rw [hK] at hf HFY
  have HN := hide hN
  have HKK := hide hK
  clear hN hK hr hi hz hs hg b0
  have KN := hide (fun W => l01In (N : Int) 1 6 W)
  have KT := hide (fun W => l01In t 0 100000 W)
  cases h1 : inB (N : Int) 1 6
  · rw [h1] at KN E0
    clear h1
    go_enter Tryz.func17, Tryz.ntmps17
    go_wp2_with (go_at_call 36; refine (unhide KN _).mono ?_; rintro e w_ ⟨rfl, rfl⟩)
    go_ret
    exact ⟨ret_bool (by rw [unhide E0]; simp), unhide HB0⟩
  have hn1 : 1 ≤ N := by simp [inB] at h1; omega
  have hn6 : N ≤ 6 := by simp [inB] at h1; omega
  rw [h1] at KN E0
  clear h1
  go_enter Tryz.func17, Tryz.ntmps17
  go_wp2_with (go_at_call 36; refine (unhide KN _).mono ?_; rintro e w_ ⟨rfl, hw_⟩; subst w_)
  clear KN
  generalize w.alloc (.cells #[.slice a N ca, .slice b cs.length cb, .slice d K cd, .int .i64 t] 32) = w0 at *
  refine (l13Costs _ cs _ N _ hc hn1 hn6 (unhide HI)).mono ?_
  rintro e w1 ⟨rfl, b1⟩
  have HX1 := hide ((unhide HX0).below b1)
  have HR1 := hide ((unhide HR).below b1)
  have HZ1 := hide ((unhide HZ).below b1)
  have HB1 := hide ((unhide HB0).trans (b1.mono (unhide HB0).size))
  clear HX0 HI HZ HR HB0 b1
  cases h3 : costB cs N
  · rw [h3] at E0
    go_wp2_with fail
    go_ret
    exact ⟨ret_bool (by rw [unhide E0]; simp), unhide HB1⟩
  rw [h3] at E0
  clear h3
  cases h2 : inB t 0 100000
  · rw [h2] at E0 KT
    clear h2
    obtain ⟨p0, p1, p2, p3⟩ := unhide HX1
    go_wp2_with (go_at_call 36; refine (unhide KT _).mono ?_; rintro e w_ ⟨rfl, rfl⟩)
    go_ret
    exact ⟨ret_bool (by rw [unhide E0]; simp), unhide HB1⟩
  have ht0 : 0 ≤ t := by simp [inB] at h2; omega
  have ht1 : t ≤ 100000 := by simp [inB] at h2; omega
  rw [h2] at E0 KT
  clear h2
  by_cases h200 : (200 : Int) < (K : Int)
  · obtain ⟨p0, p1, p2, p3⟩ := unhide HX1
    go_wp2_with (go_at_call 36; refine (unhide KT _).mono ?_; rintro e w_ ⟨rfl, rfl⟩)
    go_ret
    exact ⟨ret_bool (by rw [unhide E0]; have : decide (K ≤ 200) = false := (by simp; omega); rw [this]; simp), unhide HB1⟩
  have E : Hid (netB ms cs fs t = (AA && FF)) := hide (by rw [unhide E0]; have : decide (K ≤ 200) = true := (by simp; omega); rw [this]; simp)
  clear E0
  obtain ⟨p0, p1, p2, p3⟩ := unhide HX1
  go_wp2_with (go_at_call 36; refine (unhide KT _).mono ?_; rintro e w_ ⟨rfl, hw_⟩; subst w_)
  clear p0 p1 p2 p3 KT
  go_loopw [3] (fun i wr => ∃ j : Nat, j ≤ N ∧ i = .int .i64 j ∧ Hid (∀ i, i < j → rok (ms.getD i Rm.zero) i t = true) ∧ Hid (Below w.heap.size w wr) ∧ Hid (NB wr w.heap.size (.slice a N ca) (.slice b cs.length cb) (.slice d K cd) t) ∧ Hid (NR wr a ms ps) ∧ Hid (Fm.RM wr d fs)) (fun i _ => N - (intOf i).toNat)
  case atStart => exact ⟨0, by omega, rfl, hide (fun i hi => absurd hi (Nat.not_lt_zero i)), HB1, HX1, HR1, HZ1⟩
  case round =>
    obtain ⟨j, hj, rfl, hall, hbl, HNB, HRR, HFF⟩ := hrel
    by_cases hlt : (j : Int) < (N : Int)
    · have k0 : (0 : Int) ≤ (j : Int) := by omega
      have hwj : IntKind.i64.wrap ((j : Int) + 1) = (j : Int) + 1 := by rw [IntKind.wrap_i64]; omega
      have hlen : j < ms.length := by rw [unhide HN]; omega
      obtain ⟨g, off, rfl, hA, hD⟩ := (unhide HRR).at hlen
      have HA := hide hA
      have HD := hide hD
      have HM := hide ((unhide HS) j hlen)
      have HNO := hide (unhide HAN j hlen)
      have HUP := hide (fun h => up_to (p := fun i => rok (ms.getD i Rm.zero) i t) (j := j) (unhide hall) h)
      have HRK : Hid (rok (ms.getD j Rm.zero) j t = (okM (ms.getD j Rm.zero) && ((ms.getD j Rm.zero).x1 == (j : Int) + 1 && decide ((ms.getD j Rm.zero).x5 ≤ t)))) := hide rfl
      try dsimp only at HUP
      clear hlen hA hD
      generalize hmj : ms.getD j Rm.zero = m at HA HD HM HNO HUP HRK
      clear hmj
      generalize hpj : ps.getD j Pl.zero = p at HA HD
      clear hpj
      obtain ⟨y1, hy1⟩ : ∃ y, m.x1 = y := ⟨_, rfl⟩
      obtain ⟨y5, hy5⟩ : ∃ y, m.x5 = y := ⟨_, rfl⟩
      rw [hy1, hy5] at HRK
      have HY1 := hide hy1
      have HY5 := hide hy5
      clear hy1 hy5
      obtain ⟨p0, p1, p2, p3⟩ := unhide HNB
      cases hk : okM m
      · have EB := hide (unhide HNO (by rw [unhide HRK, hk]; rfl))
        have HK := hide hk
        clear hk
        go_wp2_with fail
        refine wp_region_noPanic ?_
        refine wp_region_held_drew (S := fun w' => (NB w' w.heap.size (.slice (some ⟨g, off, none⟩) N ca) (.slice b cs.length cb) (.slice d K cd) t ∧ w'.rangeAt g (off + j * 13) (cl m p)) ∧ w'.cell? ⟨w.heap.size, 0, none⟩ = some (.slice (some ⟨g, off, none⟩) N ca) ∧ w'.cell? ⟨w.heap.size, 3, none⟩ = some (.int .i64 t) ∧ w'.cell? ⟨g, off + j * 13, none⟩ = some (.int .i64 y1) ∧ w'.cell? ⟨g, off + j * 13 + 4, none⟩ = some (.int .i64 y5)) (by kernel_rfl) (sNet (unhide HNB).drew (unhide HA) (unhide HY1) (unhide HY5)) (fun hHeld => ?_)
        refine Rg.t 0 39 ?_
        refine Rg.t 1 40 ?_
        refine Rg.t 2 41 ?_
        refine Rg.t 3 42 ?_
        refine Rg.t (v := .agg (cl m p).toArray) 4 43 ?_ (hv := fun w0 hSw => execI _ rfl rfl hSw.1.2)
        (refine Rg.o 5 (fun K hK => ?_); go_simp)
        refine (specOkM m p wr.drew (unhide HM) (unhide HD).drew).mono ?_
        rintro e w1 ⟨rfl, b1⟩
        rw [unhide HK]
        refine hK.out _ _ (sNet ((unhide HNB).drew.below b1) (rng_below (w := wr.drew) (unhide HA) b1) (unhide HY1) (unhide HY5)) (fun hHeld => ?_)
        clear hK K
        (try simp only [Act.put, List.setIfInBounds_toArray, List.set_cons_zero, List.set_cons_succ])
        refine Rg.t 6 45 ?_
        refine Rg.t 7 46 ?_
        refine Rg.s 8 47 ?_
        refine Rg.s 9 48 ?_
        refine Rg.s 10 49 ?_
        refine Rg.s 11 50 ?_
        refine Rg.s 12 51 ?_
        refine Rg.s 13 52 ?_
        refine Rg.s 14 53 ?_
        refine Rg.s 15 54 ?_
        refine Rg.s 16 55 ?_
        refine Rg.t 17 56 ?_
        refine Rg.t 18 57 ?_
        refine Rg.s 19 58 ?_
        refine Rg.s 20 59 ?_
        refine Rg.s 21 60 ?_
        refine Rg.s 22 61 ?_
        refine Rg.s 23 62 ?_
        refine Rg.s 24 63 ?_
        refine Rg.s 25 64 ?_
        refine Rg.s 26 65 ?_
        refine Rg.s 27 66 ?_
        refine Rg.t 28 67 ?_
        refine wpAnyH_done (by kernel_rfl) (NoPanic.normal ?_) _
        have HB1 := hide ((unhide hbl).drew.trans (b1.mono (by show w.heap.size ≤ wr.heap.size; exact (unhide hbl).size)))
        have HN1 := hide ((unhide HNB).drew.below b1)
        have HR1 := hide ((unhide HRR).drew.below b1)
        have HI1 := hide (Fm.RM.below (w := wr.drew) (unhide HFF) b1)
        clear hHeld b1 HA HD
        go_wp2_with fail
        go_ret
        exact ⟨ret_bool (by rw [unhide E, unhide EB]; simp), unhide HB1⟩
      have HK := hide hk
      rw [hk] at HRK
      clear hk
      cases hx : (y1 != (j : Int) + 1)
      rotate_left
      · have EB := hide (unhide HNO (by rw [unhide HRK]; have : (y1 == (j : Int) + 1) = false := (by simpa using hx); rw [this]; rfl))
        go_wp2_with fail
        refine wp_region_noPanic ?_
        refine wp_region_held_drew (S := fun w' => (NB w' w.heap.size (.slice (some ⟨g, off, none⟩) N ca) (.slice b cs.length cb) (.slice d K cd) t ∧ w'.rangeAt g (off + j * 13) (cl m p)) ∧ w'.cell? ⟨w.heap.size, 0, none⟩ = some (.slice (some ⟨g, off, none⟩) N ca) ∧ w'.cell? ⟨w.heap.size, 3, none⟩ = some (.int .i64 t) ∧ w'.cell? ⟨g, off + j * 13, none⟩ = some (.int .i64 y1) ∧ w'.cell? ⟨g, off + j * 13 + 4, none⟩ = some (.int .i64 y5)) (by kernel_rfl) (sNet (unhide HNB).drew (unhide HA) (unhide HY1) (unhide HY5)) (fun hHeld => ?_)
        refine Rg.t 0 39 ?_
        refine Rg.t 1 40 ?_
        refine Rg.t 2 41 ?_
        refine Rg.t 3 42 ?_
        refine Rg.t (v := .agg (cl m p).toArray) 4 43 ?_ (hv := fun w0 hSw => execI _ rfl rfl hSw.1.2)
        (refine Rg.o 5 (fun K hK => ?_); go_simp)
        refine (specOkM m p wr.drew (unhide HM) (unhide HD).drew).mono ?_
        rintro e w1 ⟨rfl, b1⟩
        rw [unhide HK]
        refine hK.out _ _ (sNet ((unhide HNB).drew.below b1) (rng_below (w := wr.drew) (unhide HA) b1) (unhide HY1) (unhide HY5)) (fun hHeld => ?_)
        clear hK K
        (try simp only [Act.put, List.setIfInBounds_toArray, List.set_cons_zero, List.set_cons_succ])
        refine Rg.t 6 45 ?_
        refine Rg.t 7 46 ?_
        refine Rg.t 8 47 ?_
        refine Rg.t 9 48 ?_
        refine Rg.t 10 49 ?_
        refine Rg.t 11 50 ?_
        refine Rg.t 12 51 ?_
        refine Rg.t 13 52 ?_
        refine Rg.t 14 53 ?_
        refine Rg.t 15 54 ?_
        refine Rg.t 16 55 ?_
        refine Rg.t 17 56 ?_
        refine Rg.t 18 57 ?_
        refine Rg.s 19 58 ?_
        refine Rg.s 20 59 ?_
        refine Rg.s 21 60 ?_
        refine Rg.s 22 61 ?_
        refine Rg.s 23 62 ?_
        refine Rg.s 24 63 ?_
        refine Rg.s 25 64 ?_
        refine Rg.s 26 65 ?_
        refine Rg.s 27 66 ?_
        refine Rg.t 28 67 ?_
        refine wpAnyH_done (by kernel_rfl) (NoPanic.normal ?_) _
        have HB1 := hide ((unhide hbl).drew.trans (b1.mono (by show w.heap.size ≤ wr.heap.size; exact (unhide hbl).size)))
        have HN1 := hide ((unhide HNB).drew.below b1)
        have HR1 := hide ((unhide HRR).drew.below b1)
        have HI1 := hide (Fm.RM.below (w := wr.drew) (unhide HFF) b1)
        clear hHeld b1 HA HD
        go_wp2_with fail
        go_ret
        exact ⟨ret_bool (by rw [unhide E, unhide EB]; simp), unhide HB1⟩
      by_cases h5 : t < y5
      · have EB := hide (unhide HNO (by rw [unhide HRK]; have : decide (y5 ≤ t) = false := (by simp; omega); rw [this]; simp))
        go_wp2_with fail
        refine wp_region_noPanic ?_
        refine wp_region_held_drew (S := fun w' => (NB w' w.heap.size (.slice (some ⟨g, off, none⟩) N ca) (.slice b cs.length cb) (.slice d K cd) t ∧ w'.rangeAt g (off + j * 13) (cl m p)) ∧ w'.cell? ⟨w.heap.size, 0, none⟩ = some (.slice (some ⟨g, off, none⟩) N ca) ∧ w'.cell? ⟨w.heap.size, 3, none⟩ = some (.int .i64 t) ∧ w'.cell? ⟨g, off + j * 13, none⟩ = some (.int .i64 y1) ∧ w'.cell? ⟨g, off + j * 13 + 4, none⟩ = some (.int .i64 y5)) (by kernel_rfl) (sNet (unhide HNB).drew (unhide HA) (unhide HY1) (unhide HY5)) (fun hHeld => ?_)
        refine Rg.t 0 39 ?_
        refine Rg.t 1 40 ?_
        refine Rg.t 2 41 ?_
        refine Rg.t 3 42 ?_
        refine Rg.t (v := .agg (cl m p).toArray) 4 43 ?_ (hv := fun w0 hSw => execI _ rfl rfl hSw.1.2)
        (refine Rg.o 5 (fun K hK => ?_); go_simp)
        refine (specOkM m p wr.drew (unhide HM) (unhide HD).drew).mono ?_
        rintro e w1 ⟨rfl, b1⟩
        rw [unhide HK]
        refine hK.out _ _ (sNet ((unhide HNB).drew.below b1) (rng_below (w := wr.drew) (unhide HA) b1) (unhide HY1) (unhide HY5)) (fun hHeld => ?_)
        clear hK K
        (try simp only [Act.put, List.setIfInBounds_toArray, List.set_cons_zero, List.set_cons_succ])
        refine Rg.t 6 45 ?_
        refine Rg.t 7 46 ?_
        refine Rg.t 8 47 ?_
        refine Rg.t 9 48 ?_
        refine Rg.t 10 49 ?_
        refine Rg.t 11 50 ?_
        refine Rg.t 12 51 ?_
        refine Rg.t 13 52 ?_
        refine Rg.t 14 53 ?_
        refine Rg.t 15 54 ?_
        refine Rg.t 16 55 ?_
        refine Rg.t 17 56 ?_
        refine Rg.t 18 57 ?_
        refine Rg.t 19 58 ?_
        refine Rg.t 20 59 ?_
        refine Rg.t 21 60 ?_
        refine Rg.t 22 61 ?_
        refine Rg.t 23 62 ?_
        refine Rg.t 24 63 ?_
        refine Rg.t 25 64 ?_
        refine Rg.t 26 65 ?_
        refine Rg.t 27 66 ?_
        refine Rg.t 28 67 ?_
        refine wpAnyH_done (by kernel_rfl) (NoPanic.normal ?_) _
        have HB1 := hide ((unhide hbl).drew.trans (b1.mono (by show w.heap.size ≤ wr.heap.size; exact (unhide hbl).size)))
        have HN1 := hide ((unhide HNB).drew.below b1)
        have HR1 := hide ((unhide HRR).drew.below b1)
        have HI1 := hide (Fm.RM.below (w := wr.drew) (unhide HFF) b1)
        clear hHeld b1 HA HD
        go_wp2_with fail
        go_ret
        exact ⟨ret_bool (by rw [unhide E, unhide EB]; simp), unhide HB1⟩
      · have OK := hide (unhide HUP (by rw [unhide HRK]; have h1 : (y1 == (j : Int) + 1) = true := (by simpa using hx); have h2 : decide (y5 ≤ t) = true := (by simp; omega); rw [h1, h2]; rfl))
        clear HRK HNO HUP
        go_wp2_with fail
        refine wp_region_noPanic ?_
        refine wp_region_held_drew (S := fun w' => (NB w' w.heap.size (.slice (some ⟨g, off, none⟩) N ca) (.slice b cs.length cb) (.slice d K cd) t ∧ w'.rangeAt g (off + j * 13) (cl m p)) ∧ w'.cell? ⟨w.heap.size, 0, none⟩ = some (.slice (some ⟨g, off, none⟩) N ca) ∧ w'.cell? ⟨w.heap.size, 3, none⟩ = some (.int .i64 t) ∧ w'.cell? ⟨g, off + j * 13, none⟩ = some (.int .i64 y1) ∧ w'.cell? ⟨g, off + j * 13 + 4, none⟩ = some (.int .i64 y5)) (by kernel_rfl) (sNet (unhide HNB).drew (unhide HA) (unhide HY1) (unhide HY5)) (fun hHeld => ?_)
        refine Rg.t 0 39 ?_
        refine Rg.t 1 40 ?_
        refine Rg.t 2 41 ?_
        refine Rg.t 3 42 ?_
        refine Rg.t (v := .agg (cl m p).toArray) 4 43 ?_ (hv := fun w0 hSw => execI _ rfl rfl hSw.1.2)
        (refine Rg.o 5 (fun K hK => ?_); go_simp)
        refine (specOkM m p wr.drew (unhide HM) (unhide HD).drew).mono ?_
        rintro e w1 ⟨rfl, b1⟩
        rw [unhide HK]
        refine hK.out _ _ (sNet ((unhide HNB).drew.below b1) (rng_below (w := wr.drew) (unhide HA) b1) (unhide HY1) (unhide HY5)) (fun hHeld => ?_)
        clear hK K
        (try simp only [Act.put, List.setIfInBounds_toArray, List.set_cons_zero, List.set_cons_succ])
        refine Rg.t 6 45 ?_
        refine Rg.t 7 46 ?_
        refine Rg.t 8 47 ?_
        refine Rg.t 9 48 ?_
        refine Rg.t 10 49 ?_
        refine Rg.t 11 50 ?_
        refine Rg.t 12 51 ?_
        refine Rg.t 13 52 ?_
        refine Rg.t 14 53 ?_
        refine Rg.t 15 54 ?_
        refine Rg.t 16 55 ?_
        refine Rg.t 17 56 ?_
        refine Rg.t 18 57 ?_
        refine Rg.t 19 58 ?_
        refine Rg.t 20 59 ?_
        refine Rg.t 21 60 ?_
        refine Rg.t 22 61 ?_
        refine Rg.t 23 62 ?_
        refine Rg.t 24 63 ?_
        refine Rg.t 25 64 ?_
        refine Rg.t 26 65 ?_
        refine Rg.t 27 66 ?_
        refine Rg.t 28 67 ?_
        refine wpAnyH_done (by kernel_rfl) (NoPanic.normal ?_) _
        have HB1 := hide ((unhide hbl).drew.trans (b1.mono (by show w.heap.size ≤ wr.heap.size; exact (unhide hbl).size)))
        have HN1 := hide ((unhide HNB).drew.below b1)
        have HR1 := hide ((unhide HRR).drew.below b1)
        have HI1 := hide (Fm.RM.below (w := wr.drew) (unhide HFF) b1)
        clear hHeld b1 HA HD
        clear p0 p1 p2 p3
        go_wp2_with fail
        go_roundw
        case rel => exact ⟨j + 1, by omega, by go_num, OK, HB1, HN1, HR1, HI1⟩
        case measure => simp [intOf]; omega
    · obtain rfl : j = N := by omega
      have EA := hide (unhide HAY (unhide hall))
      have E2 : Hid (netB ms cs fs t = FF) := hide (by rw [unhide E, unhide EA]; rfl)
      clear E EA HAN HAY hall HS
      obtain ⟨p0, p1, p2, p3⟩ := unhide HNB
      go_wp2_with fail
      clear p0 p1 p2 p3
      rename World => wq
      go_loopw [4] (fun i wr => ∃ q : Nat, q ≤ K ∧ i = .int .i64 q ∧ Hid (∀ i, i < q → fok (fs.getD i Fm.R.zero) j t = true) ∧ Hid (Below w.heap.size w wr) ∧ Hid (NB wr w.heap.size (.slice a j ca) (.slice b cs.length cb) (.slice d K cd) t) ∧ Hid (Fm.RM wr d fs)) (fun i _ => K - (intOf i).toNat)
      case atStart => exact ⟨0, by omega, rfl, hide (fun i hi => absurd hi (Nat.not_lt_zero i)), hbl, HNB, HFF⟩
      case round =>
        clear hbl HNB HFF HRR HX1 HR1 HZ1 HB1
        obtain ⟨q, hq, rfl, hall, hbl, hnb, hrm⟩ := hrel
        by_cases hltq : (q : Int) < (K : Int)
        · have k0 : (0 : Int) ≤ (q : Int) := by omega
          have hlen : q < fs.length := by rw [unhide HKK]; omega
          rcases (unhide hrm) with e0 | ⟨g, off, rfl, hc⟩
          · exfalso; rw [e0] at hlen; simp at hlen
          have hA := hc q hlen
          have hzz := (unhide HG) q hlen
          unfold maxLen at hzz
          have HNO := hide (unhide HFN q hlen)
          have HUP := hide (fun h => up_to (p := fun i => fok (fs.getD i Fm.R.zero) j t) (j := q) (unhide hall) h)
          have HFK : Hid (fok (fs.getD q Fm.R.zero) j t = (apB (fs.getD q Fm.R.zero).fr (fs.getD q Fm.R.zero).tt j && (inB (fs.getD q Fm.R.zero).ti t (t + 1) && decide (((fs.getD q Fm.R.zero).bs.size : Int) ≤ 900)))) := hide (by unfold fok apB; simp only [Bool.and_assoc])
          try dsimp only at HUP
          clear hc hlen
          generalize hmj : fs.getD q Fm.R.zero = m at hA hzz HNO HUP HFK
          clear hmj
          obtain ⟨fr, tt, ti, bs⟩ := m
          obtain ⟨c0, c1, c2, c3⟩ := hA
          dsimp only at c0 c1 c2 c3 hzz HFK
          have b1 := bel_new wr (.cells #[.int .i64 fr, .int .i64 tt, .int .i64 ti, .string bs] 49)
          have HN1 := hide ((unhide hnb).below b1)
          have HR1 := hide ((unhide hrm).below b1)
          have HB1 := hide ((unhide hbl).trans (b1.mono (unhide hbl).size))
          have q0 : (wr.alloc (.cells #[.int .i64 fr, .int .i64 tt, .int .i64 ti, .string bs] 49)).cell? ⟨wr.heap.size, 2, none⟩ = some (.int .i64 ti) := by simp [World.cell?_alloc_new]
          have q3 : (wr.alloc (.cells #[.int .i64 fr, .int .i64 tt, .int .i64 ti, .string bs] 49)).cell? ⟨wr.heap.size, 3, none⟩ = some (.string bs) := by simp [World.cell?_alloc_new]
          have hw1 : wr.heap.size < (wr.alloc (.cells #[.int .i64 fr, .int .i64 tt, .int .i64 ti, .string bs] 49)).heap.size := by simp
          have Q0 := hide q0
          have Q3 := hide q3
          have HW1 := hide hw1
          have KA := hide (fun W => l13Pair a b (some ⟨g, off, none⟩) j cs.length K ca cb cd t fr tt W)
          have KI := hide (fun W => l01In ti t (t + 1) W)
          clear q0 q3 hw1 b1
          obtain ⟨p0, p1, p2, p3⟩ := unhide hnb
          go_upto_region 12 with fail
          clear p0 p1 p2 p3 c0 c1 c2 c3
          obtain ⟨p0, p1, p2, p3⟩ := unhide HN1
          go_wp2_with fail
          clear p0 p1 p2 p3
          generalize wr.alloc (.cells #[.int .i64 fr, .int .i64 tt, .int .i64 ti, .string bs] 49) = w1 at *
          refine (unhide KA _).mono ?_
          rintro e w2 ⟨rfl, b2⟩
          have HN2 := hide ((unhide HN1).below b2)
          have HR2 := hide ((unhide HR1).below b2)
          have HB2 := hide ((unhide HB1).trans (b2.mono (unhide HB1).size))
          have q2 := (b2.cell (p := ⟨wr.heap.size, 2, none⟩) (unhide HW1)).trans (unhide Q0)
          have q3 := (b2.cell (p := ⟨wr.heap.size, 3, none⟩) (unhide HW1)).trans (unhide Q3)
          clear Q0 Q3 HW1 HN1 HR1 HB1 b2 KA hnb hrm hbl
          cases hap : apB fr tt j
          · have EB := hide (unhide HNO (by rw [unhide HFK, hap]; rfl))
            clear hap
            obtain ⟨p0, p1, p2, p3⟩ := unhide HN2
            go_wp2_with fail
            go_ret
            exact ⟨ret_bool (by rw [unhide E2, unhide EB]), unhide HB2⟩
          rw [hap] at HFK
          clear hap
          cases hti : inB ti t (t + 1)
          · rw [hti] at KI
            have EB := hide (unhide HNO (by rw [unhide HFK, hti]; rfl))
            clear hti
            obtain ⟨p0, p1, p2, p3⟩ := unhide HN2
            go_wp2_with (go_at_call 36; refine (unhide KI _).mono ?_; rintro e w_ ⟨rfl, rfl⟩)
            go_ret
            exact ⟨ret_bool (by rw [unhide E2, unhide EB]), unhide HB2⟩
          rw [hti] at KI HFK
          clear hti
          by_cases h900 : (900 : Int) < (bs.size : Int)
          · have EB := hide (unhide HNO (by rw [unhide HFK]; have : decide ((bs.size : Int) ≤ 900) = false := (by simp; omega); rw [this]; rfl))
            obtain ⟨p0, p1, p2, p3⟩ := unhide HN2
            go_wp2_with (go_at_call 36; refine (unhide KI _).mono ?_; rintro e w_ ⟨rfl, rfl⟩)
            go_ret
            exact ⟨ret_bool (by rw [unhide E2, unhide EB]), unhide HB2⟩
          · have OK := hide (unhide HUP (by rw [unhide HFK]; have : decide ((bs.size : Int) ≤ 900) = true := (by simp; omega); rw [this]; rfl))
            clear HNO HUP HFK
            obtain ⟨p0, p1, p2, p3⟩ := unhide HN2
            go_wp2_with (go_at_call 36; refine (unhide KI _).mono ?_; rintro e w_ ⟨rfl, rfl⟩)
            clear p0 p1 p2 p3 q2 q3 KI
            go_roundw
            case rel => exact ⟨q + 1, by omega, by go_num, OK, HB2, HN2, HR2⟩
            case measure => simp [intOf]; omega
        · obtain rfl : q = K := by omega
          have EA := hide (unhide HFY (unhide hall))
          obtain ⟨p0, p1, p2, p3⟩ := unhide hnb
          go_wp2_with fail
          go_ret
          exact ⟨ret_bool (by rw [unhide E2, unhide EA]), unhide hbl⟩
end Nt
end Go.Proofs.YthfcigfgpimimaaGreat
namespace Go.Proofs.YthfcigfgpimimaaGreat
open Go.ChangeShapes Go.WideShapes Go.ChangeAt Go.RowKit
set_option linter.unusedVariables false
set_option linter.unusedSimpArgs false
set_option maxRecDepth 100000
attribute [local go_sem ↓] Go.wp_at_zero Go.wp_at_succ
namespace Nt
open W1 Rt
theorem drewI {w : World} {a : Option Addr} {cs : List Int} (h : In.RM w a cs) : In.RM w.drew a cs := h
theorem execNB {op : Oper} {a : Act} {w : World} (x : Operand) (ho : op.op = .load 32 x) {b : Nat} {v1 v2 v3 : Value} {t : Int} (hx : a.eval x = .pointer (some ⟨b, 0, none⟩)) (h : NB w b v1 v2 v3 t) : (execOp a.eval op).run Tryz.prog w = .ok (.value (.agg #[v1, v2, v3, .int .i64 t])) w := by
  unfold execOp
  simp only [ho, hx, Instr.loadAt, Instr.sureAddr, Sem.run_bind, Sem.run_pure, Result.andThen_ok, run_loadVar_mid w b 0 32 [v1, v2, v3, .int .i64 t] _ (nb_range h) infoN.1 infoN.2.1 infoN.2.2]
theorem infoNW : Tryz.prog.underlying 26 = some (Tryz.prog.underlying 26).get! ∧ ((Tryz.prog.underlying 26).get!).isRow = true ∧ (Tryz.prog.info? 26).map (·.size) = some 4 := ⟨by kernel_rfl, by kernel_rfl, by kernel_rfl⟩
theorem execNW {op : Oper} {a : Act} {w : World} (x : Operand) (ho : op.op = .load 26 x) {b : Nat} {v1 v2 v3 : Value} {t : Int} (hx : a.eval x = .pointer (some ⟨b, 0, none⟩)) (h : NB w b v1 v2 v3 t) : (execOp a.eval op).run Tryz.prog w = .ok (.value (.agg #[v1, v2, v3, .int .i64 t])) w := by
  unfold execOp
  simp only [ho, hx, Instr.loadAt, Instr.sureAddr, Sem.run_bind, Sem.run_pure, Result.andThen_ok, run_loadVar_mid w b 0 26 [v1, v2, v3, .int .i64 t] _ (nb_range h) infoNW.1 infoNW.2.1 infoNW.2.2]
end Nt
end Go.Proofs.YthfcigfgpimimaaGreat
namespace Go.Proofs.YthfcigfgpimimaaGreat
open Go.ChangeShapes Go.WideShapes Go.ChangeAt Go.RowKit
set_option linter.unusedVariables false
set_option linter.unusedSimpArgs false
set_option maxRecDepth 100000
attribute [local go_sem ↓] Go.wp_at_zero Go.wp_at_succ
namespace Nt
open W1 Rt
theorem netB_n {ms : List Rm} {cs : List Int} {fs : List Fm.R} {t : Int} (h : netB ms cs fs t = true) : 1 ≤ ms.length ∧ ms.length ≤ 6 ∧ cs.length = ms.length * ms.length ∧ 0 ≤ t ∧ t ≤ 100000 := by
  unfold netB costB at h
  simp only [Bool.and_eq_true, beq_iff_eq] at h
  obtain ⟨ht, hn, _, ⟨hc, _⟩, _⟩ := h
  simp [inB] at ht hn
  exact ⟨by omega, by omega, hc, ht.1, ht.2⟩
end Nt
end Go.Proofs.YthfcigfgpimimaaGreat
namespace Go.Proofs.YthfcigfgpimimaaGreat
open Go.ChangeShapes Go.WideShapes Go.ChangeAt Go.RowKit
set_option linter.unusedVariables false
set_option linter.unusedSimpArgs false
set_option maxRecDepth 100000
attribute [local go_sem ↓] Go.wp_at_zero Go.wp_at_succ
namespace Nt
open W1 Rt
end Nt
namespace Na
open W1 Rt Nt
theorem rtr_all {x1 x2 x3 x4 x5 x6 : Int} {ls : List Lk.R} {tw : List Tu.R} {se : List Tu.R} {du : List Tu.R} {ss : List So.R} {es : List Tu.R} {la : List Ed.R} (h : rtrB x1 x2 x3 x4 x5 x6 ls tw se du ss es la = true) : inB x1 1 8 = true ∧ inB x2 0 7 = true ∧ inB x3 0 65535 = true ∧ inB x4 0 65535 = true ∧ inB x5 0 100000 = true ∧ inB x6 0 1000000 = true ∧ lksB x1 ls = true ∧ twoOf x1 tw = true ∧ St.setB se = true ∧ St.setB du = true ∧ Tp.topB ss es = true ∧ Tp.hasS ss x1 = false ∧ Av.allN la la.length = true := by
  unfold rtrB at h
  simp only [Bool.and_eq_true, Bool.not_eq_true'] at h
  obtain ⟨h1, h2, h3, h4, h5, h6, h7, h8, h9, h10, h11, h12, h13⟩ := h
  exact ⟨h1, h2, h3, h4, h5, h6, h7, h8, h9, h10, h11, h12, h13⟩
theorem rtr_lens {x1 x2 x3 x4 x5 x6 : Int} {ls : List Lk.R} {tw : List Tu.R} {se : List Tu.R} {du : List Tu.R} {ss : List So.R} {es : List Tu.R} {la : List Ed.R} (h : rtrB x1 x2 x3 x4 x5 x6 ls tw se du ss es la = true) : ls.length ≤ 8 ∧ tw.length ≤ 64 ∧ se.length ≤ 64 ∧ du.length ≤ 64 ∧ ss.length ≤ 64 ∧ es.length ≤ 64 ∧ la.length ≤ 8 := by
  obtain ⟨h1, h2, h3, h4, h5, h6, h7, h8, h9, h10, h11, h12, h13⟩ := rtr_all h
  unfold lksB at h7
  unfold twoOf at h8
  unfold Tp.topB at h11
  simp only [Bool.and_eq_true] at h7 h8 h11
  have := Tw.two_len h8.1
  have := Tw.two_len h11.2.1
  exact ⟨Ln.links_len h7.1, by omega, St.setB_len h9, St.setB_len h10, Nat.le_trans (Tp.src_len h11.1) (by omega), by omega, Av.all_len h13⟩
def r64 (m : Rm) : Prop := m.ls.length ≤ 64 ∧ m.tw.length ≤ 64 ∧ m.se.length ≤ 64 ∧ m.du.length ≤ 64 ∧ m.ss.length ≤ 64 ∧ m.es.length ≤ 64 ∧ m.la.length ≤ 64
theorem r64_ok {m : Rm} (h : r64 m) : okL m := by unfold r64 at h; unfold okL; omega
theorem r64_sm {m : Rm} (h : r64 m) : Sm m := by unfold r64 at h; unfold Sm; omega
theorem r64_k {m : Rm} (h : r64 m) : mkK m ≤ 2000 := by unfold r64 at h; unfold mkK; omega
/-- A net as small as a right one. -/
def smN (ms : List Rm) (cs : List Int) (fs : List Fm.R) : Prop := ms.length ≤ 6 ∧ (∀ i, i < ms.length → r64 (ms.getD i Rm.zero)) ∧ cs.length ≤ 36 ∧ fs.length ≤ 200
theorem sumK_small {ms : List Rm} (h : ∀ i, i < ms.length → r64 (ms.getD i Rm.zero)) : ∀ j, j ≤ ms.length → sumK ms j ≤ 2000 * (j : Int)
  | 0, _ => by simp [sumK]
  | j + 1, hj => by have := sumK_small h j (by omega); have := r64_k (h j (by omega)); simp only [sumK]; omega
theorem smN_k {ms : List Rm} {cs : List Int} {fs : List Fm.R} (h : smN ms cs fs) : 1 + totK ms cs fs ≤ 99990 := by
  obtain ⟨h1, h2, h3, h4⟩ := h
  have := sumK_small h2 ms.length (Nat.le_refl _)
  unfold totK; omega
theorem smN_nil : smN [] [] [] := ⟨by simp, fun i hi => absurd hi (Nat.not_lt_zero i), by simp, by simp⟩
theorem netB_sm {ms : List Rm} {cs : List Int} {fs : List Fm.R} {t : Int} (h : netB ms cs fs t = true) : smN ms cs fs := by
  obtain ⟨n1, n6, nc, _, _⟩ := netB_n h
  unfold netB rtsB airB at h
  simp only [Bool.and_eq_true] at h
  obtain ⟨_, _, h3, _, h5⟩ := h
  refine ⟨n6, fun i hi => ?_, ?_, ?_⟩
  · have h1 := allI_at h3 hi
    unfold rok okM at h1
    simp only [Bool.and_eq_true] at h1
    obtain ⟨e1, e2, e3, e4, e5, e6, e7⟩ := rtr_lens h1.1
    unfold r64; omega
  · rw [nc]; exact Nat.le_trans (Nat.mul_le_mul n6 n6) (by decide)
  · exact of_decide_eq_true h5.1
/-- A net that is answered in memory of its own: by the program, by the model. -/
def GotM (v : Value) (w w' : World) (ms : List Rm) (cs : List Int) (fs : List Fm.R) (t : Int) : Prop := ∃ a b d ca cb cd qs, v = .agg #[.slice a ms.length ca, .slice b cs.length cb, .slice d fs.length cd, .int .i64 t] ∧ MT w' w.heap.size w'.heap.size a b d ms qs cs fs
def GotR (v : Value) (w w' : World) (ms : List Rm) (cs : List Int) (fs : List Fm.R) (t : Int) : Prop := ∃ a b d ca cb cd qs, v = .agg #[.slice a ms.length ca, .slice b cs.length cb, .slice d fs.length cd, .int .i64 t] ∧ RT w' w.heap.size w'.heap.size a b d ms qs cs fs
theorem gotM_nil {w w' : World} (h : w.heap.size ≤ w'.heap.size) : GotM (.agg #[.slice none 0 0, .slice none 0 0, .slice none 0 0, .int .i64 0]) w w' [] [] [] 0 := by
  refine ⟨none, none, none, 0, 0, 0, [], rfl, fun _ => 0, w.heap.size, w.heap.size, w.heap.size, w.heap.size, w.heap.size, w.heap.size, ⟨Nat.le_refl _, h⟩, ⟨Nat.le_refl _, h⟩, ⟨Nat.le_refl _, h⟩, .inl (Nat.le_refl _), .inl (Nat.le_refl _), .inl (Nat.le_refl _), .inl rfl, .inl rfl, .inl rfl⟩
theorem gotR_nil (w w' : World) : GotR (.agg #[.slice none 0 0, .slice none 0 0, .slice none 0 0, .int .i64 0]) w w' [] [] [] 0 :=
  ⟨none, none, none, 0, 0, 0, [], rfl, .inl rfl, .inl rfl, .inl rfl⟩
theorem resultsNC {fn : Func} {p q : Tmp} (h : fn.results = #[.cell p 32, .tmp q]) (tmps : Array Value) (w : World) {b : Nat} {v1 v2 v3 : Value} {t : Int} (hp : tmps.getD p undef = .pointer (some ⟨b, 0, none⟩)) (hg : NB w b v1 v2 v3 t) {v : Value} (hv : tmps.getD q undef = v) : (results fn tmps).run Tryz.prog w = .ok (.tuple #[.agg #[v1, v2, v3, .int .i64 t], v]) w := by
  have hp' : tmps[p]?.getD undef = .pointer (some ⟨b, 0, none⟩) := by simpa using hp
  have hv' : tmps[q]?.getD undef = v := by simpa using hv
  simp only [results, h]
  simp [Sem.run_bind, hp', hv', asAddr, run_loadVar_mid w b 0 32 [v1, v2, v3, .int .i64 t] _ (nb_range hg) infoN.1 infoN.2.1 infoN.2.2, Result.andThen]
end Na
namespace Nt
end Nt
end Go.Proofs.YthfcigfgpimimaaGreat
namespace Go.Proofs.YthfcigfgpimimaaGreat
open Go.ChangeShapes Go.WideShapes Go.ChangeAt Go.RowKit
set_option linter.unusedVariables false
set_option linter.unusedSimpArgs false
set_option maxRecDepth 100000
attribute [local go_sem ↓] Go.wp_at_zero Go.wp_at_succ
namespace Nt
open W1 Rt Na
theorem MT.mono {W : World} {lo hi lo' hi' : Nat} {a b d : Option Addr} {ms : List Rm} {qs : List Pl} {cs : List Int} {fs : List Fm.R} (h : MT W lo hi a b d ms qs cs fs) (h1 : lo' ≤ lo) (h2 : hi ≤ hi') : MT W lo' hi' a b d ms qs cs fs := by
  obtain ⟨f, p1, q1, p2, q2, p3, q3, e1, e2, e3, r⟩ := h
  exact ⟨f, p1, q1, p2, q2, p3, q3, by omega, by omega, by omega, r⟩
theorem MT.costs {W : World} {lo hi : Nat} {a b d : Option Addr} {ms : List Rm} {qs : List Pl} {cs : List Int} {fs : List Fm.R} (h : MT W lo hi a b d ms qs cs fs) (h0 : 0 < cs.length) : ∃ g, b = some ⟨g, 0, none⟩ ∧ lo ≤ g ∧ g < hi ∧ g < W.heap.size ∧ ∀ i, i < cs.length → W.cell? ⟨g, i, none⟩ = some (.int .i64 (cs.getD i 0)) ∧ W.frozen? ⟨g, i, none⟩ = false := by
  obtain ⟨f, p1, q1, p2, q2, p3, q3, e1, e2, e3, e4, e5, e6, g1, g2, g3⟩ := h
  rcases g2 with g2 | ⟨g, rfl, h1, h2, h3, h4⟩
  · rw [g2] at h0; simp at h0
  · exact ⟨g, rfl, by omega, by omega, h3, fun i hi => ⟨h4.1 i hi, (h4.2 i hi).2⟩⟩
end Nt
end Go.Proofs.YthfcigfgpimimaaGreat
namespace Go.Proofs.YthfcigfgpimimaaGreat
open Go.ChangeShapes Go.WideShapes Go.ChangeAt Go.RowKit
set_option linter.unusedVariables false
namespace By
open W1
/-- The slice at a reads as these bytes in w. -/
def Reads (w : World) (a : Option Addr) (bs : List UInt8) : Prop :=
  bs = [] ∨ ∃ g off, a = some ⟨g, off, none⟩ ∧ ∀ i, i < bs.length → w.cell? ⟨g, off + i, none⟩ = some (.int .u8 (bs.getD i 0).toNat)

set_option maxHeartbeats 1000000 in
theorem eqSame (a b : Option Addr) (ca cb : Nat) (bs : List UInt8) (w : World) (ha : Reads w a bs) (hb : Reads w b bs) (hm : bs.length ≤ maxLen) :
    Calls Tryz.prog 10 #[.slice a bs.length ca, .slice b bs.length cb] w fun e w' => e = .returned (.bool true) ∧ ∃ n, w' = w.drewN n := by
  unfold maxLen at hm
  rcases ha with h0 | ⟨g, off, rfl, hga⟩
  · subst h0
    go_enter Tryz.func10, Tryz.ntmps10
    go_wp2
    go_loop [5] (fun i => i = .int .i64 0) (fun i => 0)
    case atStart => rfl
    case round =>
      subst hrel
      go_wp2
      go_ret
      exact ⟨rfl, 0, rfl⟩
  rcases hb with h0 | ⟨g', off', rfl, hgb⟩
  · subst h0
    go_enter Tryz.func10, Tryz.ntmps10
    go_wp2
    go_loop [5] (fun i => i = .int .i64 0) (fun i => 0)
    case atStart => rfl
    case round =>
      subst hrel
      go_wp2
      go_ret
      exact ⟨rfl, 0, rfl⟩
  have Hga := hide hga
  have Hgb := hide hgb
  clear hga hgb
  generalize hl : bs.length = n at *
  have HL := hide hl
  clear hl
  go_enter Tryz.func10, Tryz.ntmps10
  go_wp2
  go_loopw [5] (fun i wr => ∃ k : Nat, k ≤ n ∧ i = .int .i64 k ∧ ∃ q, wr = w.drewN q) (fun i _ => n - (intOf i).toNat)
  case atStart => exact ⟨0, by omega, rfl, 0, rfl⟩
  case round =>
    obtain ⟨k, hk, rfl, q, rfl⟩ := hrel
    by_cases hlt : (k : Int) < (n : Int)
    · have c1 := unhide Hga k (by omega)
      have c2 := unhide Hgb k (by omega)
      have k0 : (0 : Int) ≤ (k : Int) := by omega
      go_wp2
      go_quiet (fail)
      go_wp2
      go_roundw
      case rel => exact ⟨k + 1, by omega, by go_num, _, rfl⟩
      case measure => simp [intOf]; omega
    · go_wp2
      go_ret
      exact ⟨rfl, _, rfl⟩

/-- w' is w but for cells of block g. -/
structure Wrote (w w' : World) (g : Nat) : Prop where
  os : w'.os = w.os
  tape : w'.tape = w.tape
  output : w'.output = w.output
  size : w'.heap.size = w.heap.size
  block : ∀ k, k ≠ g → w'.heap[k]? = w.heap[k]?
  frozen : ∀ a, w'.frozen? a = w.frozen? a
  len : ∀ o, (w'.cell? ⟨g, o, none⟩).isSome = (w.cell? ⟨g, o, none⟩).isSome
theorem Wrote.refl (w : World) (g : Nat) : Wrote w w g := ⟨rfl, rfl, rfl, rfl, fun _ _ => rfl, fun _ => rfl, fun _ => rfl⟩
theorem setCell_isSome (w : World) (g o q : Nat) (v : Value) : ((w.setCell ⟨g, o, none⟩ v).cell? ⟨g, q, none⟩).isSome = (w.cell? ⟨g, q, none⟩).isSome := by
  unfold World.setCell World.cell?
  simp only [Array.getElem?_modify]
  cases h : w.heap[g]? with
  | none => simp
  | some x =>
    cases x <;> simp [Array.getElem?_setIfInBounds] <;> split <;> (try simp_all)
    split
    · rename_i hq; rw [Array.getElem?_eq_getElem hq]; rfl
    · rename_i hq; rw [Array.getElem?_eq_none (by omega)]
theorem Wrote.set {w w' : World} {g : Nat} (h : Wrote w w' g) (o : Nat) (v : Value) : Wrote w (w'.setCell ⟨g, o, none⟩ v) g :=
  ⟨h.os, h.tape, h.output, by rw [← h.size]; simp [World.setCell], fun k hk => (Below.heap_setCell _ _ _ _ hk).trans (h.block k hk), fun a => by rw [World.frozen?_setCell]; exact h.frozen a, fun q => (setCell_isSome w' g o q v).trans (h.len q)⟩
theorem Wrote.drewN {w w' : World} {g : Nat} (h : Wrote w w' g) (n : Nat) : Wrote w (w'.drewN n) g := ⟨h.os, h.tape, h.output, h.size, h.block, h.frozen, h.len⟩
theorem Wrote.below {w w' : World} {g B : Nat} (h : Wrote w w' g) (hg : B ≤ g) : Below B w w' :=
  ⟨h.os, h.tape, h.output, by rw [h.size]; exact Nat.le_refl _, fun k hk => h.block k (by omega)⟩
theorem Wrote.cell {w w' : World} {g : Nat} (h : Wrote w w' g) {b : Nat} (hb : b ≠ g) (o : Nat) : w'.cell? ⟨b, o, none⟩ = w.cell? ⟨b, o, none⟩ :=
  World.cell?_of_block (a := ⟨b, o, none⟩) (h.block b hb)

/-- n marks, from k on, at the address. -/
def Marks (w : World) (a : Option Addr) (n : Nat) (k : Int) : Prop :=
  n = 0 ∨ ∃ g off, a = some ⟨g, off, none⟩ ∧ ∀ i : Nat, i < n → w.cell? ⟨g, off + i, none⟩ = some (.int .u8 ((k + i) % 256))
/-- The slice may be written: n cells lie at block g. -/
def Opn (w : World) (a : Option Addr) (g n : Nat) : Prop :=
  n = 0 ∨ ∃ off, a = some ⟨g, off, none⟩ ∧ ∀ i : Nat, i < n → (w.cell? ⟨g, off + i, none⟩).isSome = true ∧ w.frozen? ⟨g, off + i, none⟩ = false

set_option maxHeartbeats 1000000 in
theorem mark (a : Option Addr) (n c g : Nat) (k : Int) (h0 : 0 ≤ k) (h1 : k ≤ 1099511627776) (w : World) (hm : n ≤ 1099511627776) (ho : Opn w a g n) :
    Calls Tryz.prog 12 #[.slice a n c, .int .i64 k] w fun e w' => e = .returned (.int .i64 (k + n)) ∧ Wrote w w' g ∧ Marks w' a n k := by
  rcases ho with rfl | ⟨off, rfl, hc⟩
  · go_enter Tryz.func12, Tryz.ntmps12
    go_wp2
    go_loop [1, 5] (fun q i => q = .int .i64 k ∧ i = .int .i64 0) (fun _ i => 0)
    case atStart => exact ⟨rfl, rfl⟩
    case round =>
      obtain ⟨rfl, rfl⟩ := hrel
      go_wp2
      go_ret
      exact ⟨ret_int (by simp), Wrote.refl _ _, .inl rfl⟩
  have Hc := hide hc
  clear hc
  go_enter Tryz.func12, Tryz.ntmps12
  go_wp2
  go_loopw [1, 5] (fun q i wr => ∃ j : Nat, j ≤ n ∧ i = .int .i64 j ∧ q = .int .i64 (k + j) ∧ Wrote w wr g ∧ (Hid (∀ t : Nat, t < j → wr.cell? ⟨g, off + t, none⟩ = some (.int .u8 ((k + t) % 256)))) ∧ Hid (∀ t : Nat, t < n → (wr.cell? ⟨g, off + t, none⟩).isSome = true)) (fun _ i _ => n - (intOf i).toNat)
  case atStart => exact ⟨0, by omega, rfl, by simp, Wrote.refl _ _, hide (fun t ht => by omega), hide (fun t ht => (unhide Hc t ht).1)⟩
  case round =>
    obtain ⟨j, hj, rfl, rfl, hw, hd, hs⟩ := hrel
    by_cases hlt : (j : Int) < (n : Int)
    · have k0 : (0 : Int) ≤ (j : Int) := by omega
      obtain ⟨v, hv⟩ := Option.isSome_iff_exists.1 (unhide hs j (by omega))
      have hfz := (hw.frozen ⟨g, off + j, none⟩).trans (unhide Hc j (by omega)).2
      go_wp2
      go_roundw
      case rel =>
        refine ⟨j + 1, by omega, by go_num, by go_num, hw.set _ _, hide (fun t ht => ?_), hide (fun t ht => ?_)⟩
        · by_cases e : t = j
          · subst e
            rw [World.cell?_setCell_same _ _ _ hv]
          · rw [World.cell?_setCell_other _ _ _ _ (by simp <;> omega)]
            exact unhide hd t (by omega)
        · by_cases e : t = j
          · subst e
            rw [World.cell?_setCell_same _ _ _ hv]; rfl
          · rw [World.cell?_setCell_other _ _ _ _ (by simp <;> omega)]
            exact unhide hs t ht
      case measure => simp [intOf]; omega
    · obtain rfl : j = n := by omega
      go_wp2
      go_ret
      exact ⟨rfl, hw, .inr ⟨g, off, rfl, unhide hd⟩⟩

end By
end Go.Proofs.YthfcigfgpimimaaGreat
namespace Go.Proofs.YthfcigfgpimimaaGreat
open Go.ChangeShapes Go.WideShapes Go.ChangeAt Go.RowKit
set_option linter.unusedVariables false
attribute [local go_sem ↓] Go.wp_at_zero Go.wp_at_succ
namespace De
open W1 By
/-- The byte at a place, as a number; two bytes from a place on, as one. -/
def fld (bs : List UInt8) (i : Nat) : Int := ((bs.getD i 0).toNat : Int)
def two (bs : List UInt8) (i : Nat) : Int := 256 * fld bs i + fld bs (i + 1)
end De
end Go.Proofs.YthfcigfgpimimaaGreat
namespace Go.Proofs.YthfcigfgpimimaaGreat
open Go.ChangeShapes Go.WideShapes Go.ChangeAt Go.RowKit
set_option linter.unusedVariables false
set_option linter.unusedSimpArgs false
attribute [local go_sem ↓] Go.wp_at_zero Go.wp_at_succ
namespace De
open W1 By

end De
end Go.Proofs.YthfcigfgpimimaaGreat
namespace Go.Proofs.YthfcigfgpimimaaGreat
open Go.ChangeShapes Go.WideShapes Go.ChangeAt Go.RowKit
set_option linter.unusedVariables false
set_option maxRecDepth 100000
set_option linter.unusedSimpArgs false
attribute [local go_sem ↓] Go.wp_at_zero Go.wp_at_succ
namespace De
open W1 By
theorem below_drewN {B : Nat} {w w' : World} (h : Below B w w') (q : Nat) : Below B w (w'.drewN q) := ⟨h.os, h.tape, h.output, h.size, h.block⟩
end De
end Go.Proofs.YthfcigfgpimimaaGreat
namespace Go.Proofs.YthfcigfgpimimaaGreat
open Go.ChangeShapes Go.WideShapes Go.ChangeAt Go.RowKit
set_option linter.unusedVariables false
set_option maxRecDepth 100000
set_option linter.unusedSimpArgs false
namespace De
open W1 By
theorem info5 : ∃ i, Tryz.prog.info? 5 = some i ∧ i.zero = some (.int .u8 0) ∧ i.size = 1 ∧ i.bytes = 1 := by
  have h : (Tryz.prog.info? 5).map (fun i => (i.zero, i.size, i.bytes)) = some (some (.int .u8 0), 1, 1) := by kernel_rfl
  obtain ⟨i, hi, he⟩ := Option.map_eq_some_iff.1 h
  simp only [Prod.mk.injEq] at he
  exact ⟨i, hi, he.1, he.2.1, he.2.2⟩
/-- The first j bytes stand there, and all the cells may be written. -/
def Upto (w : World) (g n j : Nat) (bs : List UInt8) : Prop :=
  (∀ i, i < j → w.cell? ⟨g, i, none⟩ = some (.int .u8 (bs.getD i 0).toNat)) ∧ ∀ i, i < n → (w.cell? ⟨g, i, none⟩).isSome = true ∧ w.frozen? ⟨g, i, none⟩ = false
theorem Upto.step {w : World} {g n j : Nat} {bs : List UInt8} (h : Upto w g n j bs) (hj : j < n) : Upto (w.setCell ⟨g, j, none⟩ (.int .u8 (bs.getD j 0).toNat)) g n (j + 1) bs := by
  obtain ⟨v, hv⟩ := Option.isSome_iff_exists.1 (h.2 j hj).1
  refine ⟨fun i hi => ?_, fun i hi => ⟨?_, by rw [World.frozen?_setCell]; exact (h.2 i hi).2⟩⟩
  · by_cases e : i = j
    · subst e; rw [World.cell?_setCell_same _ _ _ hv]
    · rw [World.cell?_setCell_other _ _ _ _ (by simp <;> omega)]; exact h.1 i (by omega)
  · by_cases e : i = j
    · subst e; rw [World.cell?_setCell_same _ _ _ hv]; rfl
    · rw [World.cell?_setCell_other _ _ _ _ (by simp <;> omega)]; exact (h.2 i hi).1

set_option maxHeartbeats 1000000 in
theorem toByteS (a : Option Addr) (bs : List UInt8) (cap : Nat) (w : World) (hm : bs.length ≤ 1048576) (hr : Reads w a bs) :
    Calls Tryz.prog 7 #[.slice a bs.length cap] w fun e w' => ∃ g, e = .returned (.slice (some ⟨g, 0, none⟩) bs.length bs.length) ∧ Below w.heap.size w w' ∧ w.heap.size ≤ g ∧ Reads w' (some ⟨g, 0, none⟩) bs ∧ Opn w' (some ⟨g, 0, none⟩) g bs.length := by
  obtain ⟨i0, hi, hz0, hz1, hz2⟩ := info5
  have hmk := run_make (P := Tryz.prog) w 27 5 i0 (.int .u8 0) Tryz.underlying27 hi hz0 .i64 .i64 (bs.length : Int) (bs.length : Int) (by omega) (by omega) (by rw [hz2]; omega) (by omega)
  have HR := hide hr
  clear hr
  generalize hN : bs.length = n at *
  have HN := hide hN
  clear hN
  rw [Int.toNat_natCast, hz1, Nat.mul_one] at hmk
  have hcs : (madeCells (Value.int .u8 0).cells n).size = n := size_madeCells _ _
  generalize madeCells (Value.int .u8 0).cells n = cs at *
  have hup0 : Upto (w.alloc (.cells cs 5)) w.heap.size n 0 bs := by
    refine ⟨fun i hi => by omega, fun i hi => ⟨?_, ?_⟩⟩
    · rw [World.cell?_alloc_new]
      rw [Array.getElem?_eq_getElem (by omega)]; rfl
    · simp
  have HU := hide hup0
  clear hup0 hcs hi hz0 hz1 hz2
  go_enter Tryz.func7, Tryz.ntmps7
  go_wp2
  go_loopw [4] (fun i wr => ∃ j : Nat, j ≤ n ∧ i = .int .i64 j ∧ Hid (Below w.heap.size w wr) ∧ Hid (Upto wr w.heap.size n j bs)) (fun i _ => n - (intOf i).toNat)
  case atStart => exact ⟨0, by omega, rfl, hide ((Below.refl _ _).alloc (Nat.le_refl _) _), HU⟩
  case round =>
    obtain ⟨j, hj, rfl, hb, hu⟩ := hrel
    by_cases hlt : (j : Int) < (n : Int)
    · have k0 : (0 : Int) ≤ (j : Int) := by omega
      rcases unhide HR with h0 | ⟨g, off, rfl, hc⟩
      · exfalso
        have := unhide HN
        rw [h0] at this
        simp at this
        omega
      have hgl : g < w.heap.size := World.block_lt_of_cell? _ _ (hc j (by rw [unhide HN]; omega))
      have hcj : wr.cell? ⟨g, off + j, none⟩ = some (.int .u8 (bs.getD j 0).toNat) := ((unhide hb).cell (p := ⟨g, off + j, none⟩) hgl).trans (hc j (by rw [unhide HN]; omega))
      clear hc
      obtain ⟨v, hv⟩ := Option.isSome_iff_exists.1 ((unhide hu).2 j (by omega)).1
      have hfz := ((unhide hu).2 j (by omega)).2
      have hstep := hide ((unhide hu).step (by omega))
      go_wp2
      go_roundw
      case rel => exact ⟨j + 1, by omega, by go_num, hide ((unhide hb).setCell (p := ⟨w.heap.size, j, none⟩) (Nat.le_refl _) _), hstep⟩
      case measure => simp [intOf]; omega
    · obtain rfl : j = n := by omega
      go_wp2
      go_ret
      refine ⟨w.heap.size, rfl, unhide hb, Nat.le_refl _, .inr ⟨w.heap.size, 0, rfl, fun i hi => ?_⟩, .inr ⟨0, rfl, fun i hi => ?_⟩⟩
      · rw [Nat.zero_add]; exact (unhide hu).1 i (by rw [unhide HN] at hi; exact hi)
      · rw [Nat.zero_add]; exact (unhide hu).2 i hi

theorem conv_all {w : World} {g off cap : Nat} {bs : List UInt8} (h : Reads w (some ⟨g, off, none⟩) bs) :
    Sem.run Tryz.prog (convert 27 9 (.slice (some ⟨g, off, none⟩) bs.length cap)) w = .ok (.string ⟨bs.toArray⟩) w := by
  have hb := run_convert_bytes_arg (P := Tryz.prog) w 27 5 Tryz.underlying27 Tryz.underlying5 g off bs.length cap (bs.map fun b => (b.toNat : Int))
    (by rw [List.length_map]) (fun i hi => ?_) 9 Tryz.underlying9
  · rw [hb]
    congr 2
    apply ByteArray.ext
    apply Array.ext'
    rw [strOfNums_data]
    rw [List.map_map]
    have : ((fun n : Int => UInt8.ofNat n.toNat) ∘ fun b : UInt8 => (b.toNat : Int)) = id := by
      funext b
      simp
    rw [this, List.map_id]
  · rcases h with h | ⟨g', off', e, hc⟩
    · subst h; simp at hi
    · cases e
      rw [hc i hi]
      congr 2
      rw [List.getD_eq_getElem?_getD, List.getD_eq_getElem?_getD, List.getElem?_map, List.getElem?_eq_getElem hi]
      rfl




end De
end Go.Proofs.YthfcigfgpimimaaGreat
