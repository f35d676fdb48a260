/-
  Of the texts NetN, LnkA, LnkF, RtrQ, NetP, NetX, NetC, RecRoute: what this claim needs of them. (put together by mkprune.py)
-/
import Derived.Test.YtfooahhdikobeaaGreatQw6
import Derived.Deep.Cut
import Derived.Deep.QuietTactic
import Derived.BigQuiet
import Derived.Deep.RegionHeld3
import Derived.Deep.DrawnRows
import Derived.Deep.Slices
import Derived.Laws.AppendOwn
namespace Go.Proofs.YtfooahhdikobeaaGreat
open Go.ChangeShapes Go.WideShapes Go.ChangeAt Go.RowKit
set_option linter.unusedVariables false
set_option linter.unusedSimpArgs false
set_option maxRecDepth 100000
attribute [local go_sem ↓] Go.wp_at_zero Go.wp_at_succ
namespace Nt
open W1 Rt
/-- A router read whole by an operation with a guard that lets it pass. -/
theorem wpList_loadRg {ops : Array Oper} {rest : List Oper} {op : Oper} {a : Act} {w : World} {Q : Exit → Act → World → Prop} (x : Operand) (hw : Region.wanted op (yielded ops a.tmps) = true) (ho : op.op = .load 83 x) {b : Nat} {cs : List Value} (hx : a.eval x = .pointer (some ⟨b, 0, none⟩)) (h : RA w b cs)
    (hk : wpList Tryz.prog ops Q rest (a.put op.dst (.agg cs.toArray)) w) : wpList Tryz.prog ops Q (op :: rest) a w :=
  wpList_step fun K hK => by rw [if_pos hw]; exact wp_load_mid 83 x ho b 0 hx cs _ h.1 infoR.1 infoR.2.1 (h.2.2 ▸ infoR.2.2) (hK _ _ hk)
theorem implOkM (m : Rm) (p : Pl) (w : World) (hs : Sm m) (hr : Rd w m p) : Calls Tryz.prog 122 #[.agg (cl m p).toArray] w fun e w' => e = .returned (.bool (okM m)) ∧ Below w.heap.size w w' := by
  obtain ⟨s1, s2, s3, s4, s5, s6, s7⟩ := hs
  obtain ⟨r1, r2, r3, r4, r5, r6, r7⟩ := hr
  exact implRtr m.x1 m.x2 m.x3 m.x4 m.x5 m.x6 p.a1 p.a2 p.a3 p.a4 p.a5 p.a6 p.a7 p.c1 p.c2 p.c3 p.c4 p.c5 p.c6 p.c7 m.ls m.tw m.se m.du m.ss m.es m.la w s1 s2 s3 s4 s5 s6 s7 r1 r2 r3 r4 r5 r6 r7
set_option maxHeartbeats 16000000 in
theorem areRouters (a : Option Addr) (ms : List Rm) (ps : List Pl) (cap : Nat) (t : Int) (w : World) (hm : ms.length ≤ 1048576) (hs : ∀ i, i < ms.length → Sm (ms.getD i Rm.zero)) (hr : NR w a ms ps) :
    Calls Tryz.prog 89 #[.slice a ms.length cap, .int .i64 t] w fun e w' => e = .returned (.bool (inB ms.length 1 6 && rtsB ms t)) ∧ Below w.heap.size w w' := by
  have HR := hide hr
  have HS := hide hs
  clear hr hs
  have E : Hid ((inB ms.length 1 6 && rtsB ms t) = (inB ms.length 1 6 && allI ms.length fun i => rok (ms.getD i Rm.zero) i t)) := hide rfl
  rw [unhide E]
  clear E
  have HAN : Hid (∀ j, j < ms.length → rok (ms.getD j Rm.zero) j t = false → (allI ms.length fun i => rok (ms.getD i Rm.zero) i t) = false) := hide (fun j h h' => allI_no (p := fun i => rok (ms.getD i Rm.zero) i t) h h')
  have HAY : Hid ((∀ i, i < ms.length → rok (ms.getD i Rm.zero) i t = true) → (allI ms.length fun i => rok (ms.getD i Rm.zero) i t) = true) := hide (fun h => allI_yes h)
  generalize (allI ms.length fun i => rok (ms.getD i Rm.zero) i t) = AA at *
  obtain ⟨n, hN⟩ : ∃ n, ms.length = n := ⟨_, rfl⟩
  rw [hN] at hm HAY ⊢
  have HN := hide hN
  clear hN
  have KW := hide (fun W => within (n : Int) 1 6 W)
  cases hin : inB (n : Int) 1 6
  · rw [hin] at KW
    clear hin
    go_enter Tryz.func89, Tryz.ntmps89
    go_wp2_with (go_at_call 88; refine (unhide KW _).mono ?_; rintro e w_ ⟨rfl, rfl⟩)
    go_ret
    exact ⟨rfl, Below.refl _ _⟩
  rw [hin] at KW
  have hn6 : (n : Int) ≤ 6 := by simp [inB] at hin; omega
  clear hin
  go_enter Tryz.func89, Tryz.ntmps89
  go_wp2_with (go_at_call 88; refine (unhide KW _).mono ?_; rintro e w_ ⟨rfl, hw_⟩; subst w_)
  clear KW
  go_loopw [13] (fun i wr => ∃ j : Nat, j ≤ n ∧ i = .int .i64 j ∧ Hid (∀ i, i < j → rok (ms.getD i Rm.zero) i t = true) ∧ Hid (Below w.heap.size w wr)) (fun i _ => n - (intOf i).toNat)
  case atStart => exact ⟨0, by omega, rfl, hide (fun i hi => absurd hi (Nat.not_lt_zero i)), hide (Below.refl _ _)⟩
  case round =>
    obtain ⟨j, hj, rfl, hall, hbl⟩ := hrel
    by_cases hlt : (j : Int) < (n : Int)
    · have k0 : (0 : Int) ≤ (j : Int) := by omega
      have hlen : j < ms.length := by rw [unhide HN]; omega
      obtain ⟨g, off, rfl, hA, hD⟩ := ((unhide HR).below (unhide hbl)).at hlen
      have HA := hide hA
      have HD := hide hD
      have HM := hide ((unhide HS) j hlen)
      have HNO := hide (unhide HAN j hlen)
      have HUP := hide (fun h => up_to (p := fun i => rok (ms.getD i Rm.zero) i t) (j := j) (unhide hall) h)
      have HRK : Hid (rok (ms.getD j Rm.zero) j t = (okM (ms.getD j Rm.zero) && ((ms.getD j Rm.zero).x1 == (j : Int) + 1 && decide ((ms.getD j Rm.zero).x5 ≤ t)))) := hide rfl
      try dsimp only at HUP
      clear hlen hA hD
      generalize hmj : ms.getD j Rm.zero = m at HA HD HM HNO HUP HRK
      clear hmj
      generalize ps.getD j Pl.zero = p at *
      obtain ⟨y1, hy1⟩ : ∃ y, m.x1 = y := ⟨_, rfl⟩
      obtain ⟨y5, hy5⟩ : ∃ y, m.x5 = y := ⟨_, rfl⟩
      rw [hy1, hy5] at HRK
      have hsz := (unhide hbl).size
      cases hx : (y1 != (j : Int) + 1)
      rotate_left
      · have EB := hide (unhide HNO (by rw [unhide HRK]; have : (y1 == (j : Int) + 1) = false := (by simpa using hx); rw [this]; simp))
        go_upto_region 6 with (first | (refine loadI _ rfl rfl (unhide HA) rfl ?_) | (refine wpList_storeR _ _ rfl rfl (cl m p) (cl_ones m p) rfl rfl (ra_new wr (rC 0 0 0 0 0 (.slice none 0 0) (.slice none 0 0) (.slice none 0 0) (.slice none 0 0) (.slice none 0 0) (.slice none 0 0) (.slice none 0 0) 0) rfl 83).2.1 ?_; intro w1 ra bb hs1))
        have HB1 := hide (bb _ _ ((unhide hbl).alloc hsz _) hsz)
        have e0 := ra.at (i := 0) (v := .int .i64 y1) (by rw [← hy1]; rfl)
        have e4 := ra.at (i := 4) (v := .int .i64 y5) (by rw [← hy5]; rfl)
        clear ra bb hs1 hy1 hy5 HA HD
        go_wp2_with fail
        go_ret
        exact ⟨ret_bool (by rw [unhide EB, Bool.and_false]), unhide HB1⟩
      by_cases h5 : t < y5
      · have EB := hide (unhide HNO (by rw [unhide HRK]; have : decide (y5 ≤ t) = false := (by simp; omega); rw [this]; simp))
        go_upto_region 6 with (first | (refine loadI _ rfl rfl (unhide HA) rfl ?_) | (refine wpList_storeR _ _ rfl rfl (cl m p) (cl_ones m p) rfl rfl (ra_new wr (rC 0 0 0 0 0 (.slice none 0 0) (.slice none 0 0) (.slice none 0 0) (.slice none 0 0) (.slice none 0 0) (.slice none 0 0) (.slice none 0 0) 0) rfl 83).2.1 ?_; intro w1 ra bb hs1))
        have HB1 := hide (bb _ _ ((unhide hbl).alloc hsz _) hsz)
        have e0 := ra.at (i := 0) (v := .int .i64 y1) (by rw [← hy1]; rfl)
        have e4 := ra.at (i := 4) (v := .int .i64 y5) (by rw [← hy5]; rfl)
        clear ra bb hs1 hy1 hy5 HA HD
        go_wp2_with fail
        go_ret
        exact ⟨ret_bool (by rw [unhide EB, Bool.and_false]), unhide HB1⟩
      have HRK2 : Hid (rok m j t = okM m) := hide (by rw [unhide HRK]; have h1 : (y1 == (j : Int) + 1) = true := (by simpa using hx); have h2 : decide (y5 ≤ t) = true := (by simp; omega); rw [h1, h2]; simp)
      rw [unhide HRK2] at HNO HUP
      clear HRK HRK2
      go_upto_region 6 with (first | (refine loadI _ rfl rfl (unhide HA) rfl ?_) | (refine wpList_storeR _ _ rfl rfl (cl m p) (cl_ones m p) rfl rfl (ra_new wr (rC 0 0 0 0 0 (.slice none 0 0) (.slice none 0 0) (.slice none 0 0) (.slice none 0 0) (.slice none 0 0) (.slice none 0 0) (.slice none 0 0) 0) rfl 83).2.1 ?_; intro w1 ra bb hs1))
      have HB1 := hide (bb _ _ ((unhide hbl).alloc hsz _) hsz)
      have HD1 := hide ((unhide HD).below (w' := w1) (bb _ _ ((Below.refl _ _).alloc (Nat.le_refl _) _) (Nat.le_refl _)))
      have HRA := hide ra
      have e0 := ra.at (i := 0) (v := .int .i64 y1) (by rw [← hy1]; rfl)
      have e4 := ra.at (i := 4) (v := .int .i64 y5) (by rw [← hy5]; rfl)
      clear ra bb hs1 hy1 hy5 HA HD
      have hwj : IntKind.i64.wrap ((j : Int) + 1) = (j : Int) + 1 := by rw [IntKind.wrap_i64]; omega
      refine wp_region_lit ?_
      (refine wpList_plain rfl (fun K hK => ?_); go_simp; refine hK _ _ ?_; clear hK K; (try simp only [Act.put, List.setIfInBounds_toArray, List.set_cons_zero, List.set_cons_succ]))
      (refine wpList_plain rfl (fun K hK => ?_); go_simp; refine hK _ _ ?_; clear hK K; (try simp only [Act.put, List.setIfInBounds_toArray, List.set_cons_zero, List.set_cons_succ]))
      (refine wpList_plain rfl (fun K hK => ?_); go_simp; refine hK _ _ ?_; clear hK K; (try simp only [Act.put, List.setIfInBounds_toArray, List.set_cons_zero, List.set_cons_succ]))
      (refine wpList_plain rfl (fun K hK => ?_); go_simp; refine hK _ _ ?_; clear hK K; (try simp only [Act.put, List.setIfInBounds_toArray, List.set_cons_zero, List.set_cons_succ]))
      (refine wpList_plain rfl (fun K hK => ?_); go_simp; refine hK _ _ ?_; clear hK K; (try simp only [Act.put, List.setIfInBounds_toArray, List.set_cons_zero, List.set_cons_succ]))
      (refine wpList_plain rfl (fun K hK => ?_); go_simp; refine hK _ _ ?_; clear hK K; (try simp only [Act.put, List.setIfInBounds_toArray, List.set_cons_zero, List.set_cons_succ]))
      (refine Rg.y (by simp [Region.wanted, yielded]) (fun K hK => ?_); go_simp; refine hK _ _ ?_; clear hK K; (try simp only [Act.put, List.setIfInBounds_toArray, List.set_cons_zero, List.set_cons_succ]))
      (refine Rg.y (by simp [Region.wanted, yielded]) (fun K hK => ?_); go_simp; refine hK _ _ ?_; clear hK K; (try simp only [Act.put, List.setIfInBounds_toArray, List.set_cons_zero, List.set_cons_succ]))
      (refine Rg.y (by simp [Region.wanted, yielded]) (fun K hK => ?_); go_simp; refine hK _ _ ?_; clear hK K; (try simp only [Act.put, List.setIfInBounds_toArray, List.set_cons_zero, List.set_cons_succ]))
      (refine Rg.y (by simp [Region.wanted, yielded]) (fun K hK => ?_); go_simp; refine hK _ _ ?_; clear hK K; (try simp only [Act.put, List.setIfInBounds_toArray, List.set_cons_zero, List.set_cons_succ]))
      (refine wpList_plain rfl (fun K hK => ?_); go_simp; refine hK _ _ ?_; clear hK K; (try simp only [Act.put, List.setIfInBounds_toArray, List.set_cons_zero, List.set_cons_succ]))
      (refine wpList_plain rfl (fun K hK => ?_); go_simp; refine hK _ _ ?_; clear hK K; (try simp only [Act.put, List.setIfInBounds_toArray, List.set_cons_zero, List.set_cons_succ]))
      refine wpList_loadRg _ (by simp [Region.wanted, yielded]) rfl rfl (unhide HRA) ?_
      (try simp only [Act.put, List.setIfInBounds_toArray, List.set_cons_zero, List.set_cons_succ])
      clear e0 e4
      go_wp2_with fail
      refine (implOkM m p _ (unhide HM) (unhide HD1)).mono ?_
      rintro e w2 ⟨rfl, b2⟩
      have HB2 := hide ((unhide HB1).trans (b2.mono (unhide HB1).size))
      clear b2 HRA HD1
      cases hk : okM m
      · have EB := hide (unhide HNO hk)
        go_wp2_with fail
        go_ret
        exact ⟨ret_bool (by rw [unhide EB, Bool.and_false]), unhide HB2⟩
      · have OK := hide (unhide HUP hk)
        clear hk HNO HUP
        go_wp2_with fail
        go_roundw
        case rel => exact ⟨j + 1, by omega, by go_num, OK, HB2⟩
        case measure => simp [intOf]; omega
    · obtain rfl : j = n := by omega
      have EA := hide (unhide HAY (unhide hall))
      go_wp2_with fail
      go_ret
      exact ⟨ret_bool (by rw [unhide EA]), unhide hbl⟩
set_option maxHeartbeats 16000000 in
theorem areFrames (a b d : Option Addr) (n k ca cb cd : Nat) (t : Int) (fs : List Fm.R) (w : World) (ht : 0 ≤ t) (ht1 : t ≤ 100000) (hm : fs.length ≤ 1048576) (hz : ∀ i, i < fs.length → (fs.getD i Fm.R.zero).bs.size ≤ maxLen) (hr : Fm.RM w d fs) :
    Calls Tryz.prog 91 #[.agg #[.slice a n ca, .slice b k cb, .slice d fs.length cd, .int .i64 t]] w fun e w' => e = .returned (.bool (airB fs n t)) ∧ Below w.heap.size w w' := by
  have HX0 := hide (nb_new w (.slice a n ca) (.slice b k cb) (.slice d fs.length cd) t 31)
  have b0 := bel_new w (.cells #[.slice a n ca, .slice b k cb, .slice d fs.length cd, .int .i64 t] 31)
  have HR := hide (hr.below b0)
  have HB0 := hide b0
  have HZ := hide hz
  clear hr b0 hz
  have E : Hid (airB fs n t = (decide (fs.length ≤ 200) && allI fs.length fun i => fok (fs.getD i Fm.R.zero) n t)) := hide rfl
  have HAN : Hid (∀ j, j < fs.length → fok (fs.getD j Fm.R.zero) n t = false → (allI fs.length fun i => fok (fs.getD i Fm.R.zero) n t) = false) := hide (fun j h h' => allI_no (p := fun i => fok (fs.getD i Fm.R.zero) n t) h h')
  have HAY : Hid ((∀ i, i < fs.length → fok (fs.getD i Fm.R.zero) n t = true) → (allI fs.length fun i => fok (fs.getD i Fm.R.zero) n t) = true) := hide (fun h => allI_yes h)
  rw [unhide E]
  clear E
  generalize (allI fs.length fun i => fok (fs.getD i Fm.R.zero) n t) = AA at *
  obtain ⟨N, hN⟩ : ∃ N, fs.length = N := ⟨_, rfl⟩
  rw [hN] at hm HAY HX0 HB0 HR ⊢
  have HN := hide hN
  clear hN
  by_cases h200 : (200 : Int) < (N : Int)
  · go_enter Tryz.func91, Tryz.ntmps91
    go_wp2_with fail
    go_ret
    exact ⟨ret_bool (by have : decide (N ≤ 200) = false := (by simp; omega); rw [this]; rfl), unhide HB0⟩
  have E2 : Hid ((decide (N ≤ 200) && AA) = AA) := hide (by have : decide (N ≤ 200) = true := (by simp; omega); rw [this]; rfl)
  rw [unhide E2]
  clear E2
  go_enter Tryz.func91, Tryz.ntmps91
  go_wp2_with fail
  generalize w.alloc (.cells #[.slice a n ca, .slice b k cb, .slice d N cd, .int .i64 t] 31) = w0 at *
  go_loopw [12] (fun i wr => ∃ j : Nat, j ≤ N ∧ i = .int .i64 j ∧ Hid (∀ i, i < j → fok (fs.getD i Fm.R.zero) n t = true) ∧ Hid (Below w.heap.size w wr) ∧ Hid (NB wr w.heap.size (.slice a n ca) (.slice b k cb) (.slice d N cd) t) ∧ Hid (Fm.RM wr d fs)) (fun i _ => N - (intOf i).toNat)
  case atStart => exact ⟨0, by omega, rfl, hide (fun i hi => absurd hi (Nat.not_lt_zero i)), HB0, HX0, HR⟩
  case round =>
    obtain ⟨j, hj, rfl, hall, hbl, hnb, hrm⟩ := hrel
    by_cases hlt : (j : Int) < (N : Int)
    · have k0 : (0 : Int) ≤ (j : Int) := by omega
      have hlen : j < fs.length := by rw [unhide HN]; omega
      rcases (unhide hrm) with e0 | ⟨g, off, rfl, hc⟩
      · exfalso; rw [e0] at hlen; simp at hlen
      have hA := hc j hlen
      have hzz := (unhide HZ) j hlen
      unfold maxLen at hzz
      have HNO := hide (unhide HAN j hlen)
      have HUP := hide (fun h => up_to (p := fun i => fok (fs.getD i Fm.R.zero) n t) (j := j) (unhide hall) h)
      have HFK : Hid (fok (fs.getD j Fm.R.zero) n t = (apB (fs.getD j Fm.R.zero).fr (fs.getD j Fm.R.zero).tt n && (inB (fs.getD j Fm.R.zero).ti t (t + 1) && decide (((fs.getD j Fm.R.zero).bs.size : Int) ≤ 900)))) := hide (by unfold fok apB; simp only [Bool.and_assoc])
      try dsimp only at HUP
      clear hc hlen
      generalize hmj : fs.getD j Fm.R.zero = m at hA hzz HNO HUP HFK
      clear hmj
      obtain ⟨fr, tt, ti, bs⟩ := m
      obtain ⟨c0, c1, c2, c3⟩ := hA
      dsimp only at c0 c1 c2 c3 hzz HFK
      have b1 := bel_new wr (.cells #[.int .i64 fr, .int .i64 tt, .int .i64 ti, .string bs] 73)
      have HN1 := hide ((unhide hnb).below b1)
      have HR1 := hide ((unhide hrm).below b1)
      have HB1 := hide ((unhide hbl).trans (b1.mono (unhide hbl).size))
      have q0 : (wr.alloc (.cells #[.int .i64 fr, .int .i64 tt, .int .i64 ti, .string bs] 73)).cell? ⟨wr.heap.size, 2, none⟩ = some (.int .i64 ti) := by simp [World.cell?_alloc_new]
      have q3 : (wr.alloc (.cells #[.int .i64 fr, .int .i64 tt, .int .i64 ti, .string bs] 73)).cell? ⟨wr.heap.size, 3, none⟩ = some (.string bs) := by simp [World.cell?_alloc_new]
      have hw1 : wr.heap.size < (wr.alloc (.cells #[.int .i64 fr, .int .i64 tt, .int .i64 ti, .string bs] 73)).heap.size := by simp
      have Q0 := hide q0
      have Q3 := hide q3
      have HW1 := hide hw1
      have KA := hide (fun W => areApart a b (some ⟨g, off, none⟩) n k N ca cb cd t fr tt W)
      have KI := hide (fun W => within ti t (t + 1) W)
      clear q0 q3 hw1 b1
      obtain ⟨p0, p1, p2, p3⟩ := unhide HN1
      go_wp2_with fail
      clear p0 p1 p2 p3 c0 c1 c2 c3
      generalize wr.alloc (.cells #[.int .i64 fr, .int .i64 tt, .int .i64 ti, .string bs] 73) = w1 at *
      refine (unhide KA _).mono ?_
      rintro e w2 ⟨rfl, b2⟩
      have HN2 := hide ((unhide HN1).below b2)
      have HR2 := hide ((unhide HR1).below b2)
      have HB2 := hide ((unhide HB1).trans (b2.mono (unhide HB1).size))
      have q2 := (b2.cell (p := ⟨wr.heap.size, 2, none⟩) (unhide HW1)).trans (unhide Q0)
      have q3 := (b2.cell (p := ⟨wr.heap.size, 3, none⟩) (unhide HW1)).trans (unhide Q3)
      clear Q0 Q3 HW1 HN1 HR1 HB1 b2 KA hnb hrm hbl
      cases hap : apB fr tt n
      · have EB := hide (unhide HNO (by rw [unhide HFK, hap]; rfl))
        clear hap
        obtain ⟨p0, p1, p2, p3⟩ := unhide HN2
        go_wp2_with fail
        go_ret
        exact ⟨ret_bool (unhide EB).symm, unhide HB2⟩
      rw [hap] at HFK
      clear hap
      cases hti : inB ti t (t + 1)
      · rw [hti] at KI
        have EB := hide (unhide HNO (by rw [unhide HFK, hti]; rfl))
        clear hti
        obtain ⟨p0, p1, p2, p3⟩ := unhide HN2
        go_wp2_with (go_at_call 88; refine (unhide KI _).mono ?_; rintro e w_ ⟨rfl, rfl⟩)
        go_ret
        exact ⟨ret_bool (unhide EB).symm, unhide HB2⟩
      rw [hti] at KI HFK
      clear hti
      by_cases h900 : (900 : Int) < (bs.size : Int)
      · have EB := hide (unhide HNO (by rw [unhide HFK]; have : decide ((bs.size : Int) ≤ 900) = false := (by simp; omega); rw [this]; rfl))
        obtain ⟨p0, p1, p2, p3⟩ := unhide HN2
        go_wp2_with (go_at_call 88; refine (unhide KI _).mono ?_; rintro e w_ ⟨rfl, rfl⟩)
        go_ret
        exact ⟨ret_bool (unhide EB).symm, unhide HB2⟩
      · have OK := hide (unhide HUP (by rw [unhide HFK]; have : decide ((bs.size : Int) ≤ 900) = true := (by simp; omega); rw [this]; rfl))
        clear HNO HUP HFK
        obtain ⟨p0, p1, p2, p3⟩ := unhide HN2
        go_wp2_with (go_at_call 88; refine (unhide KI _).mono ?_; rintro e w_ ⟨rfl, rfl⟩)
        clear p0 p1 p2 p3 q2 q3 KI
        go_roundw
        case rel => exact ⟨j + 1, by omega, by go_num, OK, HB2, HN2, HR2⟩
        case measure => simp [intOf]; omega
    · obtain rfl : j = N := by omega
      have EA := hide (unhide HAY (unhide hall))
      go_wp2_with fail
      go_ret
      exact ⟨ret_bool (unhide EA).symm, unhide hbl⟩
set_option maxHeartbeats 16000000 in
theorem implNet (a b d : Option Addr) (ca cb cd : Nat) (t : Int) (ms : List Rm) (ps : List Pl) (cs : List Int) (fs : List Fm.R) (w : World) (hm : ms.length ≤ 1048576) (hc : cs.length ≤ 1048576) (hf : fs.length ≤ 1048576) (hs : ∀ i, i < ms.length → Sm (ms.getD i Rm.zero)) (hg : ∀ i, i < fs.length → (fs.getD i Fm.R.zero).bs.size ≤ maxLen) (hr : NR w a ms ps) (hi : In.RM w b cs) (hz : Fm.RM w d fs) :
    Calls Tryz.prog 49 #[.agg #[.slice a ms.length ca, .slice b cs.length cb, .slice d fs.length cd, .int .i64 t]] w fun e w' => e = .returned (.bool (netB ms cs fs t)) ∧ Below w.heap.size w w' := by
  have HX0 := hide (nb_new w (.slice a ms.length ca) (.slice b cs.length cb) (.slice d fs.length cd) t 31)
  have b0 := bel_new w (.cells #[.slice a ms.length ca, .slice b cs.length cb, .slice d fs.length cd, .int .i64 t] 31)
  have HR := hide (hr.below b0)
  have HI := hide (hi.below b0)
  have HZ := hide (hz.below b0)
  have HB0 := hide b0
  have HS := hide hs
  have HG := hide hg
  have E : Hid (netB ms cs fs t = (inB t 0 100000 && ((inB ms.length 1 6 && rtsB ms t) && (costB cs ms.length && airB fs ms.length t)))) := hide (by unfold netB; simp only [Bool.and_assoc])
  have KT := hide (fun W => within t 0 100000 W)
  clear b0 hr hi hz hs hg
  cases h1 : inB t 0 100000
  · rw [h1] at KT E
    clear h1
    go_enter Tryz.func49, Tryz.ntmps49
    go_wp2_with (go_at_call 88; refine (unhide KT _).mono ?_; rintro e w_ ⟨rfl, rfl⟩)
    go_ret
    exact ⟨ret_bool (by rw [unhide E]; rfl), unhide HB0⟩
  have ht0 : 0 ≤ t := by simp [inB] at h1; omega
  have ht1 : t ≤ 100000 := by simp [inB] at h1; omega
  rw [h1] at KT E
  clear h1
  go_enter Tryz.func49, Tryz.ntmps49
  go_wp2_with (go_at_call 88; refine (unhide KT _).mono ?_; rintro e w_ ⟨rfl, rfl⟩)
  clear KT
  generalize w.alloc (.cells #[.slice a ms.length ca, .slice b cs.length cb, .slice d fs.length cd, .int .i64 t] 31) = w0 at *
  refine (areRouters _ ms ps _ t _ hm (unhide HS) (unhide HR)).mono ?_
  rintro e w1 ⟨rfl, b1⟩
  have HX1 := hide ((unhide HX0).below b1)
  have HI1 := hide ((unhide HI).below b1)
  have HZ1 := hide ((unhide HZ).below b1)
  have HB1 := hide ((unhide HB0).trans (b1.mono (unhide HB0).size))
  clear HX0 HI HZ HR HB0 b1
  cases h2 : (inB ms.length 1 6 && rtsB ms t)
  · rw [h2] at E
    go_wp2_with fail
    go_ret
    exact ⟨ret_bool (by rw [unhide E]; rfl), unhide HB1⟩
  have hn : 1 ≤ ms.length ∧ ms.length ≤ 6 := by simp [inB] at h2; omega
  rw [h2] at E
  clear h2
  obtain ⟨p0, p1, p2, p3⟩ := unhide HX1
  go_wp2_with fail
  clear p0 p1 p2 p3
  refine (areCosts _ cs _ ms.length _ hc hn.1 hn.2 (unhide HI1)).mono ?_
  rintro e w2 ⟨rfl, b2⟩
  have HX2 := hide ((unhide HX1).below b2)
  have HZ2 := hide ((unhide HZ1).below b2)
  have HB2 := hide ((unhide HB1).trans (b2.mono (unhide HB1).size))
  clear HX1 HI1 HZ1 HB1 b2
  cases h3 : costB cs ms.length
  · rw [h3] at E
    go_wp2_with fail
    go_ret
    exact ⟨ret_bool (by rw [unhide E]; rfl), unhide HB2⟩
  rw [h3] at E
  clear h3
  obtain ⟨p0, p1, p2, p3⟩ := unhide HX2
  go_wp2_with fail
  clear p0 p1 p2 p3
  refine (areFrames a b d ms.length cs.length ca cb cd t fs _ ht0 ht1 hf (unhide HG) (unhide HZ2)).mono ?_
  rintro e w3 ⟨rfl, b3⟩
  have HB3 := hide ((unhide HB2).trans (b3.mono (unhide HB2).size))
  clear b3
  go_wp2_with fail
  go_ret
  exact ⟨ret_bool (by rw [unhide E]; simp), unhide HB3⟩
end Nt
end Go.Proofs.YtfooahhdikobeaaGreat
namespace Go.Proofs.YtfooahhdikobeaaGreat
open Go.ChangeShapes Go.WideShapes Go.ChangeAt Go.RowKit
set_option linter.unusedVariables false
set_option linter.unusedSimpArgs false
attribute [local go_sem ↓] Go.wp_at_zero Go.wp_at_succ
namespace Ln
open W1 Lk
def isAd (k : Int) (m : R) : Bool := m.ad == k
def lkF (ms : List R) (k : Int) : R := (ms.find? (isAd k)).getD R.zero
/-- A link's block that may be written. -/
def LV (w : World) (b : Nat) (m : R) : Prop := w.heap[b]? = some (.cells #[.int .i64 m.ad, .int .i64 m.hd, .int .i64 m.sy, .int .i64 m.ci, .int .i64 m.co, .int .i64 m.wl] 166 (0, 0))
theorem LV.cells {w : World} {b : Nat} {m : R} (h : LV w b m) : At w b 0 m := by
  unfold LV at h; refine ⟨?_, ?_, ?_, ?_, ?_, ?_⟩ <;> simp [World.cell?, h]
theorem LV.free {w : World} {b : Nat} {m : R} (h : LV w b m) (i : Nat) : w.frozen? ⟨b, i, none⟩ = false := by unfold LV at h; simp [World.frozen?, h]
theorem LV.lt {w : World} {b : Nat} {m : R} (h : LV w b m) : b < w.heap.size := by
  rcases Nat.lt_or_ge b w.heap.size with hlt | hge
  · exact hlt
  · unfold LV at h; rw [Array.getElem?_eq_none hge] at h; cases h
theorem LV.below {w w' : World} {b : Nat} {m : R} (h : LV w b m) (hb : Below w.heap.size w w') : LV w' b m := (hb.block b h.lt).trans h
theorem lv_new (w : World) (m : R) : LV (w.alloc (.cells #[.int .i64 m.ad, .int .i64 m.hd, .int .i64 m.sy, .int .i64 m.ci, .int .i64 m.co, .int .i64 m.wl] 166)) w.heap.size m := heap_alloc_new w _
end Ln
end Go.Proofs.YtfooahhdikobeaaGreat
namespace Go.Proofs.YtfooahhdikobeaaGreat
open Go.ChangeShapes Go.WideShapes Go.ChangeAt Go.RowKit
set_option linter.unusedVariables false
set_option linter.unusedSimpArgs false
attribute [local go_sem ↓] Go.wp_at_zero Go.wp_at_succ
namespace Ln
open W1 Lk
set_option maxRecDepth 100000 in
set_option maxHeartbeats 4000000 in
theorem l06Find (a : Option Addr) (ms : List R) (cap : Nat) (k : Int) (w : World) (hm : ms.length ≤ 1048576) (hr : RM w a ms) :
    Calls Tryz.prog 139 #[.slice a ms.length cap, .int .i64 k] w fun e w' => e = .returned (.tuple #[(lkF ms k).value, .bool (ms.find? (isAd k)).isSome]) ∧ Below w.heap.size w w' := by
  have HA : Hid (Below w.heap.size w (w.alloc (.cells #[.int .i64 0, .int .i64 0, .int .i64 0, .int .i64 0, .int .i64 0, .int .i64 0] 166))) := hide ((Below.refl _ _).alloc (Nat.le_refl _) _)
  have HV : Hid (LV (w.alloc (.cells #[.int .i64 0, .int .i64 0, .int .i64 0, .int .i64 0, .int .i64 0, .int .i64 0] 166)) w.heap.size R.zero) := hide (lv_new w R.zero)
  have HR := hide ((hr).below (unhide HA))
  clear hr
  have HT : Hid (∀ j, j < ms.length → (∀ i, i < j → isAd k (ms.getD i R.zero) = false) → isAd k (ms.getD j R.zero) = true → lkF ms k = ms.getD j R.zero ∧ (ms.find? (isAd k)).isSome = true) := hide (fun j hj h1 h2 => by
    have hf := Ri.find_at (z := R.zero) (isAd k) ms j hj h1 h2
    unfold lkF; rw [hf]; exact ⟨rfl, rfl⟩)
  have HN : Hid ((∀ i, i < ms.length → isAd k (ms.getD i R.zero) = false) → lkF ms k = R.zero ∧ (ms.find? (isAd k)).isSome = false) := hide (fun h1 => by
    have hf := Ri.find_no (z := R.zero) (isAd k) ms h1
    unfold lkF; rw [hf]; exact ⟨rfl, rfl⟩)
  obtain ⟨A, hA⟩ : ∃ A, lkF ms k = A := ⟨_, rfl⟩
  obtain ⟨E, hE⟩ : ∃ E, (ms.find? (isAd k)).isSome = E := ⟨_, rfl⟩
  rw [hA, hE] at HT HN ⊢
  clear hA hE
  generalize hN : ms.length = n at *
  have HL := hide hN
  clear hN
  go_enter Tryz.func139, Tryz.ntmps139
  go_wp2_with fail
  generalize hW : w.alloc (.cells #[.int .i64 0, .int .i64 0, .int .i64 0, .int .i64 0, .int .i64 0, .int .i64 0] 166) = W0 at *
  clear hW
  go_loopw [6] (fun i wr => ∃ j : Nat, j ≤ n ∧ i = .int .i64 j ∧ Hid (∀ i, i < j → isAd k (ms.getD i R.zero) = false) ∧ W0 = wr) (fun i _ => n - (intOf i).toNat)
  case atStart => exact ⟨0, by omega, rfl, hide (fun i hi => by omega), rfl⟩
  case round =>
    obtain ⟨j, hj, rfl, hrl, rfl⟩ := hrel
    obtain ⟨x0, x1, x2, x3, x4, x5⟩ := (unhide HV).cells
    simp only [Nat.zero_add] at x1 x2 x3 x4 x5
    have y0 := (unhide HV).free 0
    have y1 := (unhide HV).free 1
    have y2 := (unhide HV).free 2
    have y3 := (unhide HV).free 3
    have y4 := (unhide HV).free 4
    have y5 := (unhide HV).free 5
    unfold R.zero at x0 x1 x2 x3 x4 x5
    dsimp only at x0 x1 x2 x3 x4 x5
    by_cases hlt : (j : Int) < (n : Int)
    · have k0 : (0 : Int) ≤ (j : Int) := by omega
      have hlen : j < ms.length := by rw [unhide HL]; omega
      rcases (unhide HR) with e0 | ⟨g, off, rfl, hc⟩
      · exfalso; rw [e0] at hlen; simp at hlen
      have hA := hc j hlen
      clear hc
      cases hk : isAd k (ms.getD j R.zero)
      · have HST : Hid (∀ i, i < j + 1 → isAd k (ms.getD i R.zero) = false) := hide (fun i hi => by
          by_cases e : i = j
          · subst e; exact hk
          · exact unhide hrl i (by omega))
        have hne : ((ms.getD j R.zero).ad == k) = false := hk
        clear hk
        generalize ms.getD j R.zero = m at *
        obtain ⟨ad, hd, sy, ci, co, wl⟩ := m
        obtain ⟨c0, c1, c2, c3, c4, c5⟩ := hA
        dsimp only at c0 c1 c2 c3 c4 c5 hne
        go_wp2_with fail
        go_roundw
        case rel => exact ⟨j + 1, by omega, by go_num, HST, trivial⟩
        case measure => simp [intOf]; omega
      · have HAE := hide (unhide HT j (by have := unhide HL; omega) (unhide hrl) hk)
        have hne : ((ms.getD j R.zero).ad == k) = true := hk
        clear hk
        generalize ms.getD j R.zero = m at *
        obtain ⟨ad, hd, sy, ci, co, wl⟩ := m
        obtain ⟨c0, c1, c2, c3, c4, c5⟩ := hA
        dsimp only at c0 c1 c2 c3 c4 c5 hne
        go_wp2_with fail
        refine bodyPost_ret (v := .tuple #[.agg #[.int .i64 ad, .int .i64 hd, .int .i64 sy, .int .i64 ci, .int .i64 co, .int .i64 wl], .bool true]) (by simp [results, Tryz.results139, go_sem, x0, x1, x2, x3, x4, x5]) rfl ⟨by rw [(unhide HAE).1, (unhide HAE).2]; rfl, ?_⟩
        have hB := unhide HA
        (repeat (first | (with_reducible exact hB) | (with_reducible refine Below.drew ?_) | (with_reducible refine Below.setCell ?_ ?_ _; rotate_left; (first | exact Nat.le_refl _ | (simp; done) | (dsimp only; omega))) | (with_reducible refine Below.alloc ?_ ?_ _; rotate_left; (first | exact Nat.le_refl _ | omega | (simp [World.setCell]; omega)))))
    · obtain rfl : j = n := by omega
      have HAE := hide (unhide HN (unhide hrl))
      go_wp2_with fail
      refine bodyPost_ret (v := .tuple #[.agg #[.int .i64 0, .int .i64 0, .int .i64 0, .int .i64 0, .int .i64 0, .int .i64 0], .bool false]) (by simp [results, Tryz.results139, go_sem, x0, x1, x2, x3, x4, x5]) rfl ⟨by rw [(unhide HAE).1, (unhide HAE).2]; rfl, ?_⟩
      have hB := unhide HA
      (repeat (first | (with_reducible exact hB) | (with_reducible refine Below.drew ?_) | (with_reducible refine Below.setCell ?_ ?_ _; rotate_left; (first | exact Nat.le_refl _ | (simp; done) | (dsimp only; omega))) | (with_reducible refine Below.alloc ?_ ?_ _; rotate_left; (first | exact Nat.le_refl _ | omega | (simp [World.setCell]; omega)))))
end Ln
end Go.Proofs.YtfooahhdikobeaaGreat
namespace Go.Proofs.YtfooahhdikobeaaGreat
open Go.ChangeShapes Go.WideShapes Go.ChangeAt Go.RowKit
set_option linter.unusedVariables false
set_option linter.unusedSimpArgs false
set_option maxRecDepth 100000
attribute [local go_sem ↓] Go.wp_at_zero Go.wp_at_succ
namespace Rt
open W1
/-- The code of a call with a router: right or not. -/
def rtrC (b : Bool) : Int := if b = true then 0 else 1
set_option maxHeartbeats 400000 in
theorem l04ExM (n : Int) (h0 : 1 ≤ n) (h1 : n ≤ 16776960) (w : World) : Calls Tryz.prog 141 #[.int .i64 n] w fun e w' => e = .returned (.bool (Av.exM n)) ∧ w' = w := by
  have hk := (Mtr.mcode_is (n := n) (by omega) (by omega)).1
  have E : Hid (Av.exM n = (Mtr.met (Mtr.mcode n) == n)) := hide rfl
  generalize hq : Mtr.mcode n = k at *
  have HQ := hide hq
  clear hq
  cases hx : Mtr.met k == n
  all_goals
    go_enter Tryz.func141, Tryz.ntmps141
    go_wp2_with (first | (go_at_call 181; refine (Mtr.l02MetricCodeE n (by omega) (by omega) _).mono ?_; rintro e w' ⟨rfl, rfl⟩; rw [unhide HQ]) | (go_at_call 180; refine (Mtr.l02Metric k hk _).mono ?_; rintro e w' ⟨rfl, rfl⟩))
    go_ret
    exact ⟨ret_bool (by rw [unhide E, hx]), rfl⟩
def obB (x : Lk.R) : Bool := outB x.co x.sy
theorem lks_found {me : Int} {ls : List Lk.R} (h : (ls.find? (Ln.isAd me)).isSome = true) : lksB me ls = false := by
  obtain ⟨x, hx⟩ := Option.isSome_iff_exists.1 h
  have h1 := List.mem_of_find?_eq_some hx
  have h2 := List.find?_some hx
  unfold lksB
  have : ls.all (lkB me) = false := by
    rw [List.all_eq_false]
    refine ⟨x, h1, ?_⟩
    unfold Ln.isAd at h2
    unfold lkB; rw [h2]; simp
  rw [this, Bool.and_false]
theorem lks_all {me : Int} {ls : List Lk.R} (hl : Ln.linksB ls = true) (h : (ls.find? (Ln.isAd me)).isSome = false) : lksB me ls = ls.all obB := by
  have hn : ∀ x ∈ ls, (x.ad == me) = false := by
    intro x hx
    have h' : ls.find? (Ln.isAd me) = none := by cases e : ls.find? (Ln.isAd me) <;> simp_all
    have := List.find?_eq_none.1 h' x hx
    unfold Ln.isAd at this
    simpa using this
  unfold lksB; rw [hl, Bool.true_and]
  cases e : ls.all obB
  · rw [List.all_eq_false] at e ⊢
    obtain ⟨x, hx, hb⟩ := e
    exact ⟨x, hx, by unfold lkB; unfold obB at hb; rw [hn x hx]; simpa using hb⟩
  · rw [List.all_eq_true] at e ⊢
    intro x hx
    have := e x hx
    unfold obB at this
    unfold lkB; rw [hn x hx, this]; rfl
theorem bel_drewN (w : World) (n : Nat) : Below w.heap.size w (w.drewN n) := by
  have h := Below.refl w.heap.size w
  exact ⟨h.os, h.tape, h.output, h.size, h.block⟩
/-- The ways of a link's numbers. -/
theorem ob_ways {co sy : Int} (h0 : 0 ≤ co) (h1 : co ≤ 16744448) (hs : 0 ≤ sy) :
    (co = 0 ∧ sy = 0 ∧ outB co sy = true) ∨ (co = 0 ∧ 0 < sy ∧ outB co sy = false) ∨ (0 < co ∧ Av.exM co = false ∧ outB co sy = false) ∨ (0 < co ∧ Av.exM co = true ∧ 16744192 < co ∧ outB co sy = false) ∨ (0 < co ∧ Av.exM co = true ∧ ¬ 16744192 < co ∧ outB co sy = true) := by
  by_cases e : co = 0
  · subst e
    by_cases e2 : sy = 0
    · subst e2; exact .inl ⟨rfl, rfl, rfl⟩
    · exact .inr (.inl ⟨rfl, by omega, by unfold outB; simp [e2]⟩)
  · have hc : (co == 0) = false := by simpa using e
    cases ex : Av.exM co
    · exact .inr (.inr (.inl ⟨by omega, rfl, by unfold outB Av.toldB; rw [hc, ex]; simp⟩))
    · by_cases e3 : 16744192 < co
      · exact .inr (.inr (.inr (.inl ⟨by omega, rfl, e3, by unfold outB Av.toldB inB; rw [hc, ex]; simp; omega⟩)))
      · exact .inr (.inr (.inr (.inr ⟨by omega, rfl, e3, by unfold outB Av.toldB inB; rw [hc, ex]; simp; omega⟩)))
set_option maxHeartbeats 32000000 in
theorem specRtr (x1 x2 x3 x4 x5 x6 : Int) (a1 a2 a3 a4 a5 a6 a7 : Option Addr) (c1 c2 c3 c4 c5 c6 c7 : Nat) (ls : List Lk.R) (tw : List Tu.R) (se : List Tu.R) (du : List Tu.R) (ss : List So.R) (es : List Tu.R) (la : List Ed.R) (w : World) (hm1 : ls.length ≤ 1048576) (hm2 : tw.length ≤ 1048576) (hm3 : se.length ≤ 1048576) (hm4 : du.length ≤ 1048576) (hm5 : ss.length ≤ 1048576) (hm6 : es.length ≤ 1048576) (hm7 : la.length ≤ 1048576) (hr1 : Lk.RM w a1 ls) (hr2 : Tu.RM w a2 tw) (hr3 : Tu.RM w a3 se) (hr4 : Tu.RM w a4 du) (hr5 : So.RM w a5 ss) (hr6 : Tu.RM w a6 es) (hr7 : Ed.RM w a7 la) :
    Calls Tryz.prog 84 #[.agg #[.int .i64 x1, .int .i64 x2, .int .i64 x3, .int .i64 x4, .int .i64 x5, .slice a1 ls.length c1, .slice a2 tw.length c2, .slice a3 se.length c3, .slice a4 du.length c4, .slice a5 ss.length c5, .slice a6 es.length c6, .slice a7 la.length c7, .int .i64 x6]] w fun e w' => e = .returned (.bool (rtrB x1 x2 x3 x4 x5 x6 ls tw se du ss es la)) ∧ Below w.heap.size w w' := by
  have HAL : Hid (Al w (w.alloc (.cells #[.int .i64 x1, .int .i64 x2, .int .i64 x3, .int .i64 x4, .int .i64 x5, .slice a1 ls.length c1, .slice a2 tw.length c2, .slice a3 se.length c3, .slice a4 du.length c4, .slice a5 ss.length c5, .slice a6 es.length c6, .slice a7 la.length c7, .int .i64 x6] 83)) (rC x1 x2 x3 x4 x5 (.slice a1 ls.length c1) (.slice a2 tw.length c2) (.slice a3 se.length c3) (.slice a4 du.length c4) (.slice a5 ss.length c5) (.slice a6 es.length c6) (.slice a7 la.length c7) x6)) := hide ⟨(Below.refl _ _).alloc (Nat.le_refl _) _, ra_new w _ rfl _⟩
  have HR1 := hide hr1
  clear hr1
  have HR2 := hide hr2
  clear hr2
  have HR3 := hide hr3
  clear hr3
  have HR4 := hide hr4
  clear hr4
  have HR5 := hide hr5
  clear hr5
  have HR6 := hide hr6
  clear hr6
  have HR7 := hide hr7
  clear hr7
  have K7 := hide (fun W => Ln.specOK a1 ls c1 W hm1)
  have K8 := hide (fun W => Tw.l07OK a2 tw c2 W hm2)
  have K9 := hide (fun W => St.specOK a3 se c3 W hm3)
  have K10 := hide (fun W => St.specOK a4 du c4 W hm4)
  have K11 := hide (fun W => Tp.specOK a5 ss c5 a6 es c6 W hm5 hm6)
  have K12 := hide (fun W => Av.l05Edges a7 la c7 W hm7)
  have K13 := hide (fun W => Ln.l06Find a1 ls c1 x1 W hm1)
  have K14 := hide (fun W => Tp.l09Find a5 ss c5 (.slice a6 es.length c6) x1 W hm5)
  obtain ⟨y1, y2, y3, y4, y5, y6, hy⟩ : ∃ y1 y2 y3 y4 y5 y6, Ln.lkF ls x1 = ⟨y1, y2, y3, y4, y5, y6⟩ := ⟨_, _, _, _, _, _, rfl⟩
  obtain ⟨v1, v2, v3, hu⟩ : ∃ v1 v2 v3, Tp.fS ss x1 = ⟨v1, v2, v3⟩ := ⟨_, _, _, rfl⟩
  rw [hy] at K13
  rw [hu] at K14
  dsimp only [Lk.R.value] at K13
  dsimp only [So.R.value] at K14
  clear hy hu
  cases h1 : inB x1 1 8
  · have hv : rtrB x1 x2 x3 x4 x5 x6 ls tw se du ss es la = false := by unfold rtrB; rw [h1]; rfl
    rw [hv]
    clear hv
    go_enter Tryz.func84, Tryz.ntmps84
    go_wp2_with (first | (go_at_call 124; refine (l01Addr _ _).mono ?_; rintro e w_ ⟨rfl, rfl⟩) | (go_at_call 43; refine (l01In _ _ _ _).mono ?_; rintro e w_ ⟨rfl, rfl⟩))
    go_ret
    exact ⟨rfl, (unhide HAL).1⟩
  cases h2 : inB x2 0 7
  · have hv : rtrB x1 x2 x3 x4 x5 x6 ls tw se du ss es la = false := by unfold rtrB; rw [h1, h2]; rfl
    rw [hv]
    clear hv
    go_enter Tryz.func84, Tryz.ntmps84
    go_wp2_with (first | (go_at_call 124; refine (l01Addr _ _).mono ?_; rintro e w_ ⟨rfl, rfl⟩) | (go_at_call 43; refine (l01In _ _ _ _).mono ?_; rintro e w_ ⟨rfl, rfl⟩))
    go_ret
    exact ⟨rfl, (unhide HAL).1⟩
  cases h3 : inB x3 0 65535
  · have hv : rtrB x1 x2 x3 x4 x5 x6 ls tw se du ss es la = false := by unfold rtrB; rw [h1, h2, h3]; rfl
    rw [hv]
    clear hv
    go_enter Tryz.func84, Tryz.ntmps84
    go_wp2_with (first | (go_at_call 124; refine (l01Addr _ _).mono ?_; rintro e w_ ⟨rfl, rfl⟩) | (go_at_call 43; refine (l01In _ _ _ _).mono ?_; rintro e w_ ⟨rfl, rfl⟩))
    go_ret
    exact ⟨rfl, (unhide HAL).1⟩
  cases h4 : inB x4 0 65535
  · have hv : rtrB x1 x2 x3 x4 x5 x6 ls tw se du ss es la = false := by unfold rtrB; rw [h1, h2, h3, h4]; rfl
    rw [hv]
    clear hv
    go_enter Tryz.func84, Tryz.ntmps84
    go_wp2_with (first | (go_at_call 124; refine (l01Addr _ _).mono ?_; rintro e w_ ⟨rfl, rfl⟩) | (go_at_call 43; refine (l01In _ _ _ _).mono ?_; rintro e w_ ⟨rfl, rfl⟩))
    go_ret
    exact ⟨rfl, (unhide HAL).1⟩
  cases h5 : inB x5 0 100000
  · have hv : rtrB x1 x2 x3 x4 x5 x6 ls tw se du ss es la = false := by unfold rtrB; rw [h1, h2, h3, h4, h5]; rfl
    rw [hv]
    clear hv
    go_enter Tryz.func84, Tryz.ntmps84
    go_wp2_with (first | (go_at_call 124; refine (l01Addr _ _).mono ?_; rintro e w_ ⟨rfl, rfl⟩) | (go_at_call 43; refine (l01In _ _ _ _).mono ?_; rintro e w_ ⟨rfl, rfl⟩))
    go_ret
    exact ⟨rfl, (unhide HAL).1⟩
  cases h6 : inB x6 0 1000000
  · have hv : rtrB x1 x2 x3 x4 x5 x6 ls tw se du ss es la = false := by unfold rtrB; rw [h1, h2, h3, h4, h5, h6]; rfl
    rw [hv]
    clear hv
    go_enter Tryz.func84, Tryz.ntmps84
    go_wp2_with (first | (go_at_call 124; refine (l01Addr _ _).mono ?_; rintro e w_ ⟨rfl, rfl⟩) | (go_at_call 43; refine (l01In _ _ _ _).mono ?_; rintro e w_ ⟨rfl, rfl⟩))
    go_ret
    exact ⟨rfl, (unhide HAL).1⟩
  cases h7 : Ln.linksB ls
  · have e7 : lksB x1 ls = false := by unfold lksB; rw [h7]; rfl
    have hv : rtrB x1 x2 x3 x4 x5 x6 ls tw se du ss es la = false := by unfold rtrB; rw [e7]; simp
    clear e7
    rw [hv]
    clear hv
    rw [h7] at K7
    clear h7
    go_enter Tryz.func84, Tryz.ntmps84
    go_wp2_with (first | (go_at_call 124; refine (l01Addr _ _).mono ?_; rintro e w_ ⟨rfl, rfl⟩) | (go_at_call 43; refine (l01In _ _ _ _).mono ?_; rintro e w_ ⟨rfl, rfl⟩))
    clear h1 h2 h3 h4 h5 h6
    generalize hW0 : w.alloc (.cells #[.int .i64 x1, .int .i64 x2, .int .i64 x3, .int .i64 x4, .int .i64 x5, .slice a1 ls.length c1, .slice a2 tw.length c2, .slice a3 se.length c3, .slice a4 du.length c4, .slice a5 ss.length c5, .slice a6 es.length c6, .slice a7 la.length c7, .int .i64 x6] 83) = W0 at *
    clear hW0
    refine (unhide K7 _ ((unhide HR1).below (unhide HAL).1)).mono ?_
    rintro e V7 ⟨rfl, b_⟩
    replace HAL := hide (al_below (unhide HAL) b_)
    clear b_
    go_wp2_with fail
    go_ret
    exact ⟨rfl, (unhide HAL).1⟩
  cases h8 : Tw.twoB tw
  · have e8 : twoOf x1 tw = false := by unfold twoOf; rw [h8]; rfl
    have hv : rtrB x1 x2 x3 x4 x5 x6 ls tw se du ss es la = false := by unfold rtrB; rw [e8]; simp
    clear e8
    rw [hv]
    clear hv
    rw [h7] at K7
    rw [h8] at K8
    clear h7 h8
    go_enter Tryz.func84, Tryz.ntmps84
    go_wp2_with (first | (go_at_call 124; refine (l01Addr _ _).mono ?_; rintro e w_ ⟨rfl, rfl⟩) | (go_at_call 43; refine (l01In _ _ _ _).mono ?_; rintro e w_ ⟨rfl, rfl⟩))
    clear h1 h2 h3 h4 h5 h6
    generalize hW0 : w.alloc (.cells #[.int .i64 x1, .int .i64 x2, .int .i64 x3, .int .i64 x4, .int .i64 x5, .slice a1 ls.length c1, .slice a2 tw.length c2, .slice a3 se.length c3, .slice a4 du.length c4, .slice a5 ss.length c5, .slice a6 es.length c6, .slice a7 la.length c7, .int .i64 x6] 83) = W0 at *
    clear hW0
    refine (unhide K7 _ ((unhide HR1).below (unhide HAL).1)).mono ?_
    rintro e V7 ⟨rfl, b_⟩
    replace HAL := hide (al_below (unhide HAL) b_)
    clear b_
    have z6 := (unhide HAL).2.at (i := 6) rfl
    go_wp2_with fail
    clear z6
    refine (unhide K8 _ ((unhide HR2).below (unhide HAL).1)).mono ?_
    rintro e V8 ⟨rfl, b_⟩
    replace HAL := hide (al_below (unhide HAL) b_)
    clear b_
    go_wp2_with fail
    go_ret
    exact ⟨rfl, (unhide HAL).1⟩
  cases h9 : St.setB se
  · have hv : rtrB x1 x2 x3 x4 x5 x6 ls tw se du ss es la = false := by unfold rtrB; rw [h9]; simp
    rw [hv]
    clear hv
    rw [h7] at K7
    rw [h8] at K8
    rw [h9] at K9
    clear h7 h8 h9
    go_enter Tryz.func84, Tryz.ntmps84
    go_wp2_with (first | (go_at_call 124; refine (l01Addr _ _).mono ?_; rintro e w_ ⟨rfl, rfl⟩) | (go_at_call 43; refine (l01In _ _ _ _).mono ?_; rintro e w_ ⟨rfl, rfl⟩))
    clear h1 h2 h3 h4 h5 h6
    generalize hW0 : w.alloc (.cells #[.int .i64 x1, .int .i64 x2, .int .i64 x3, .int .i64 x4, .int .i64 x5, .slice a1 ls.length c1, .slice a2 tw.length c2, .slice a3 se.length c3, .slice a4 du.length c4, .slice a5 ss.length c5, .slice a6 es.length c6, .slice a7 la.length c7, .int .i64 x6] 83) = W0 at *
    clear hW0
    refine (unhide K7 _ ((unhide HR1).below (unhide HAL).1)).mono ?_
    rintro e V7 ⟨rfl, b_⟩
    replace HAL := hide (al_below (unhide HAL) b_)
    clear b_
    have z6 := (unhide HAL).2.at (i := 6) rfl
    go_wp2_with fail
    clear z6
    refine (unhide K8 _ ((unhide HR2).below (unhide HAL).1)).mono ?_
    rintro e V8 ⟨rfl, b_⟩
    replace HAL := hide (al_below (unhide HAL) b_)
    clear b_
    have z7 := (unhide HAL).2.at (i := 7) rfl
    go_wp2_with fail
    clear z7
    refine (unhide K9 _ ((unhide HR3).below (unhide HAL).1)).mono ?_
    rintro e V9 ⟨rfl, b_⟩
    replace HAL := hide (al_below (unhide HAL) b_)
    clear b_
    go_wp2_with fail
    go_ret
    exact ⟨rfl, (unhide HAL).1⟩
  cases h10 : St.setB du
  · have hv : rtrB x1 x2 x3 x4 x5 x6 ls tw se du ss es la = false := by unfold rtrB; rw [h10]; simp
    rw [hv]
    clear hv
    rw [h7] at K7
    rw [h8] at K8
    rw [h9] at K9
    rw [h10] at K10
    clear h7 h8 h9 h10
    go_enter Tryz.func84, Tryz.ntmps84
    go_wp2_with (first | (go_at_call 124; refine (l01Addr _ _).mono ?_; rintro e w_ ⟨rfl, rfl⟩) | (go_at_call 43; refine (l01In _ _ _ _).mono ?_; rintro e w_ ⟨rfl, rfl⟩))
    clear h1 h2 h3 h4 h5 h6
    generalize hW0 : w.alloc (.cells #[.int .i64 x1, .int .i64 x2, .int .i64 x3, .int .i64 x4, .int .i64 x5, .slice a1 ls.length c1, .slice a2 tw.length c2, .slice a3 se.length c3, .slice a4 du.length c4, .slice a5 ss.length c5, .slice a6 es.length c6, .slice a7 la.length c7, .int .i64 x6] 83) = W0 at *
    clear hW0
    refine (unhide K7 _ ((unhide HR1).below (unhide HAL).1)).mono ?_
    rintro e V7 ⟨rfl, b_⟩
    replace HAL := hide (al_below (unhide HAL) b_)
    clear b_
    have z6 := (unhide HAL).2.at (i := 6) rfl
    go_wp2_with fail
    clear z6
    refine (unhide K8 _ ((unhide HR2).below (unhide HAL).1)).mono ?_
    rintro e V8 ⟨rfl, b_⟩
    replace HAL := hide (al_below (unhide HAL) b_)
    clear b_
    have z7 := (unhide HAL).2.at (i := 7) rfl
    go_wp2_with fail
    clear z7
    refine (unhide K9 _ ((unhide HR3).below (unhide HAL).1)).mono ?_
    rintro e V9 ⟨rfl, b_⟩
    replace HAL := hide (al_below (unhide HAL) b_)
    clear b_
    have z8 := (unhide HAL).2.at (i := 8) rfl
    go_wp2_with fail
    clear z8
    refine (unhide K10 _ ((unhide HR4).below (unhide HAL).1)).mono ?_
    rintro e V10 ⟨rfl, b_⟩
    replace HAL := hide (al_below (unhide HAL) b_)
    clear b_
    go_wp2_with fail
    go_ret
    exact ⟨rfl, (unhide HAL).1⟩
  cases h11 : Tp.topB ss es
  · have hv : rtrB x1 x2 x3 x4 x5 x6 ls tw se du ss es la = false := by unfold rtrB; rw [h11]; simp
    rw [hv]
    clear hv
    rw [h7] at K7
    rw [h8] at K8
    rw [h9] at K9
    rw [h10] at K10
    rw [h11] at K11
    clear h7 h8 h9 h10 h11
    go_enter Tryz.func84, Tryz.ntmps84
    go_wp2_with (first | (go_at_call 124; refine (l01Addr _ _).mono ?_; rintro e w_ ⟨rfl, rfl⟩) | (go_at_call 43; refine (l01In _ _ _ _).mono ?_; rintro e w_ ⟨rfl, rfl⟩))
    clear h1 h2 h3 h4 h5 h6
    generalize hW0 : w.alloc (.cells #[.int .i64 x1, .int .i64 x2, .int .i64 x3, .int .i64 x4, .int .i64 x5, .slice a1 ls.length c1, .slice a2 tw.length c2, .slice a3 se.length c3, .slice a4 du.length c4, .slice a5 ss.length c5, .slice a6 es.length c6, .slice a7 la.length c7, .int .i64 x6] 83) = W0 at *
    clear hW0
    refine (unhide K7 _ ((unhide HR1).below (unhide HAL).1)).mono ?_
    rintro e V7 ⟨rfl, b_⟩
    replace HAL := hide (al_below (unhide HAL) b_)
    clear b_
    have z6 := (unhide HAL).2.at (i := 6) rfl
    go_wp2_with fail
    clear z6
    refine (unhide K8 _ ((unhide HR2).below (unhide HAL).1)).mono ?_
    rintro e V8 ⟨rfl, b_⟩
    replace HAL := hide (al_below (unhide HAL) b_)
    clear b_
    have z7 := (unhide HAL).2.at (i := 7) rfl
    go_wp2_with fail
    clear z7
    refine (unhide K9 _ ((unhide HR3).below (unhide HAL).1)).mono ?_
    rintro e V9 ⟨rfl, b_⟩
    replace HAL := hide (al_below (unhide HAL) b_)
    clear b_
    have z8 := (unhide HAL).2.at (i := 8) rfl
    go_wp2_with fail
    clear z8
    refine (unhide K10 _ ((unhide HR4).below (unhide HAL).1)).mono ?_
    rintro e V10 ⟨rfl, b_⟩
    replace HAL := hide (al_below (unhide HAL) b_)
    clear b_
    have z9 := (unhide HAL).2.at (i := 9) rfl
    have z10 := (unhide HAL).2.at (i := 10) rfl
    go_wp2_with fail
    clear z9 z10
    refine (unhide K11 _ ((unhide HR5).below (unhide HAL).1) ((unhide HR6).below (unhide HAL).1)).mono ?_
    rintro e V11 ⟨rfl, b_⟩
    replace HAL := hide (al_below (unhide HAL) b_)
    clear b_
    go_wp2_with fail
    go_ret
    exact ⟨rfl, (unhide HAL).1⟩
  cases h12 : Av.allN la la.length
  · have hv : rtrB x1 x2 x3 x4 x5 x6 ls tw se du ss es la = false := by unfold rtrB; rw [h12]; simp
    rw [hv]
    clear hv
    rw [h7] at K7
    rw [h8] at K8
    rw [h9] at K9
    rw [h10] at K10
    rw [h11] at K11
    rw [h12] at K12
    clear h7 h8 h9 h10 h11 h12
    go_enter Tryz.func84, Tryz.ntmps84
    go_wp2_with (first | (go_at_call 124; refine (l01Addr _ _).mono ?_; rintro e w_ ⟨rfl, rfl⟩) | (go_at_call 43; refine (l01In _ _ _ _).mono ?_; rintro e w_ ⟨rfl, rfl⟩))
    clear h1 h2 h3 h4 h5 h6
    generalize hW0 : w.alloc (.cells #[.int .i64 x1, .int .i64 x2, .int .i64 x3, .int .i64 x4, .int .i64 x5, .slice a1 ls.length c1, .slice a2 tw.length c2, .slice a3 se.length c3, .slice a4 du.length c4, .slice a5 ss.length c5, .slice a6 es.length c6, .slice a7 la.length c7, .int .i64 x6] 83) = W0 at *
    clear hW0
    refine (unhide K7 _ ((unhide HR1).below (unhide HAL).1)).mono ?_
    rintro e V7 ⟨rfl, b_⟩
    replace HAL := hide (al_below (unhide HAL) b_)
    clear b_
    have z6 := (unhide HAL).2.at (i := 6) rfl
    go_wp2_with fail
    clear z6
    refine (unhide K8 _ ((unhide HR2).below (unhide HAL).1)).mono ?_
    rintro e V8 ⟨rfl, b_⟩
    replace HAL := hide (al_below (unhide HAL) b_)
    clear b_
    have z7 := (unhide HAL).2.at (i := 7) rfl
    go_wp2_with fail
    clear z7
    refine (unhide K9 _ ((unhide HR3).below (unhide HAL).1)).mono ?_
    rintro e V9 ⟨rfl, b_⟩
    replace HAL := hide (al_below (unhide HAL) b_)
    clear b_
    have z8 := (unhide HAL).2.at (i := 8) rfl
    go_wp2_with fail
    clear z8
    refine (unhide K10 _ ((unhide HR4).below (unhide HAL).1)).mono ?_
    rintro e V10 ⟨rfl, b_⟩
    replace HAL := hide (al_below (unhide HAL) b_)
    clear b_
    have z9 := (unhide HAL).2.at (i := 9) rfl
    have z10 := (unhide HAL).2.at (i := 10) rfl
    go_wp2_with fail
    clear z9 z10
    refine (unhide K11 _ ((unhide HR5).below (unhide HAL).1) ((unhide HR6).below (unhide HAL).1)).mono ?_
    rintro e V11 ⟨rfl, b_⟩
    replace HAL := hide (al_below (unhide HAL) b_)
    clear b_
    have z11 := (unhide HAL).2.at (i := 11) rfl
    go_wp2_with fail
    clear z11
    refine (unhide K12 _ ((unhide HR7).below (unhide HAL).1)).mono ?_
    rintro e V12 ⟨rfl, q_, hq_⟩
    have b_ : Below V11.heap.size V11 V12 := by rw [hq_]; exact bel_drewN _ _
    replace HAL := hide (al_below (unhide HAL) b_)
    clear hq_ q_ b_
    go_wp2_with fail
    go_ret
    exact ⟨rfl, (unhide HAL).1⟩
  cases h13 : (ls.find? (Ln.isAd x1)).isSome
  rotate_left
  · have e7 : lksB x1 ls = false := by exact lks_found h13
    have hv : rtrB x1 x2 x3 x4 x5 x6 ls tw se du ss es la = false := by unfold rtrB; rw [e7]; simp
    clear e7
    rw [hv]
    clear hv
    rw [h7] at K7
    rw [h8] at K8
    rw [h9] at K9
    rw [h10] at K10
    rw [h11] at K11
    rw [h12] at K12
    rw [h13] at K13
    clear h7 h8 h9 h10 h11 h12 h13
    go_enter Tryz.func84, Tryz.ntmps84
    go_wp2_with (first | (go_at_call 124; refine (l01Addr _ _).mono ?_; rintro e w_ ⟨rfl, rfl⟩) | (go_at_call 43; refine (l01In _ _ _ _).mono ?_; rintro e w_ ⟨rfl, rfl⟩))
    clear h1 h2 h3 h4 h5 h6
    generalize hW0 : w.alloc (.cells #[.int .i64 x1, .int .i64 x2, .int .i64 x3, .int .i64 x4, .int .i64 x5, .slice a1 ls.length c1, .slice a2 tw.length c2, .slice a3 se.length c3, .slice a4 du.length c4, .slice a5 ss.length c5, .slice a6 es.length c6, .slice a7 la.length c7, .int .i64 x6] 83) = W0 at *
    clear hW0
    refine (unhide K7 _ ((unhide HR1).below (unhide HAL).1)).mono ?_
    rintro e V7 ⟨rfl, b_⟩
    replace HAL := hide (al_below (unhide HAL) b_)
    clear b_
    have z6 := (unhide HAL).2.at (i := 6) rfl
    go_wp2_with fail
    clear z6
    refine (unhide K8 _ ((unhide HR2).below (unhide HAL).1)).mono ?_
    rintro e V8 ⟨rfl, b_⟩
    replace HAL := hide (al_below (unhide HAL) b_)
    clear b_
    have z7 := (unhide HAL).2.at (i := 7) rfl
    go_wp2_with fail
    clear z7
    refine (unhide K9 _ ((unhide HR3).below (unhide HAL).1)).mono ?_
    rintro e V9 ⟨rfl, b_⟩
    replace HAL := hide (al_below (unhide HAL) b_)
    clear b_
    have z8 := (unhide HAL).2.at (i := 8) rfl
    go_wp2_with fail
    clear z8
    refine (unhide K10 _ ((unhide HR4).below (unhide HAL).1)).mono ?_
    rintro e V10 ⟨rfl, b_⟩
    replace HAL := hide (al_below (unhide HAL) b_)
    clear b_
    have z9 := (unhide HAL).2.at (i := 9) rfl
    have z10 := (unhide HAL).2.at (i := 10) rfl
    go_wp2_with fail
    clear z9 z10
    refine (unhide K11 _ ((unhide HR5).below (unhide HAL).1) ((unhide HR6).below (unhide HAL).1)).mono ?_
    rintro e V11 ⟨rfl, b_⟩
    replace HAL := hide (al_below (unhide HAL) b_)
    clear b_
    have z11 := (unhide HAL).2.at (i := 11) rfl
    go_wp2_with fail
    clear z11
    refine (unhide K12 _ ((unhide HR7).below (unhide HAL).1)).mono ?_
    rintro e V12 ⟨rfl, q_, hq_⟩
    have b_ : Below V11.heap.size V11 V12 := by rw [hq_]; exact bel_drewN _ _
    replace HAL := hide (al_below (unhide HAL) b_)
    clear hq_ q_ b_
    have z5 := (unhide HAL).2.at (i := 5) rfl
    have z0 := (unhide HAL).2.at (i := 0) rfl
    go_wp2_with fail
    clear z5 z0
    refine (unhide K13 _ ((unhide HR1).below (unhide HAL).1)).mono ?_
    rintro e V13 ⟨rfl, b_⟩
    replace HAL := hide (al_below (unhide HAL) b_)
    clear b_
    have HAL2 := hide (al_below (unhide HAL) ((Below.refl _ _).alloc (Nat.le_refl _) (.cells #[.int .i64 y1, .int .i64 y2, .int .i64 y3, .int .i64 y4, .int .i64 y5, .int .i64 y6] 166)))
    go_wp2_with fail
    go_ret
    exact ⟨rfl, (unhide HAL2).1⟩
  cases h14 : Tp.hasS ss x1
  rotate_left
  · have hv : rtrB x1 x2 x3 x4 x5 x6 ls tw se du ss es la = false := by unfold rtrB; rw [h14]; simp
    rw [hv]
    clear hv
    rw [h7] at K7
    rw [h8] at K8
    rw [h9] at K9
    rw [h10] at K10
    rw [h11] at K11
    rw [h12] at K12
    rw [h13] at K13
    rw [h14] at K14
    clear h7 h8 h9 h10 h11 h12 h13 h14
    go_enter Tryz.func84, Tryz.ntmps84
    go_wp2_with (first | (go_at_call 124; refine (l01Addr _ _).mono ?_; rintro e w_ ⟨rfl, rfl⟩) | (go_at_call 43; refine (l01In _ _ _ _).mono ?_; rintro e w_ ⟨rfl, rfl⟩))
    clear h1 h2 h3 h4 h5 h6
    generalize hW0 : w.alloc (.cells #[.int .i64 x1, .int .i64 x2, .int .i64 x3, .int .i64 x4, .int .i64 x5, .slice a1 ls.length c1, .slice a2 tw.length c2, .slice a3 se.length c3, .slice a4 du.length c4, .slice a5 ss.length c5, .slice a6 es.length c6, .slice a7 la.length c7, .int .i64 x6] 83) = W0 at *
    clear hW0
    refine (unhide K7 _ ((unhide HR1).below (unhide HAL).1)).mono ?_
    rintro e V7 ⟨rfl, b_⟩
    replace HAL := hide (al_below (unhide HAL) b_)
    clear b_
    have z6 := (unhide HAL).2.at (i := 6) rfl
    go_wp2_with fail
    clear z6
    refine (unhide K8 _ ((unhide HR2).below (unhide HAL).1)).mono ?_
    rintro e V8 ⟨rfl, b_⟩
    replace HAL := hide (al_below (unhide HAL) b_)
    clear b_
    have z7 := (unhide HAL).2.at (i := 7) rfl
    go_wp2_with fail
    clear z7
    refine (unhide K9 _ ((unhide HR3).below (unhide HAL).1)).mono ?_
    rintro e V9 ⟨rfl, b_⟩
    replace HAL := hide (al_below (unhide HAL) b_)
    clear b_
    have z8 := (unhide HAL).2.at (i := 8) rfl
    go_wp2_with fail
    clear z8
    refine (unhide K10 _ ((unhide HR4).below (unhide HAL).1)).mono ?_
    rintro e V10 ⟨rfl, b_⟩
    replace HAL := hide (al_below (unhide HAL) b_)
    clear b_
    have z9 := (unhide HAL).2.at (i := 9) rfl
    have z10 := (unhide HAL).2.at (i := 10) rfl
    go_wp2_with fail
    clear z9 z10
    refine (unhide K11 _ ((unhide HR5).below (unhide HAL).1) ((unhide HR6).below (unhide HAL).1)).mono ?_
    rintro e V11 ⟨rfl, b_⟩
    replace HAL := hide (al_below (unhide HAL) b_)
    clear b_
    have z11 := (unhide HAL).2.at (i := 11) rfl
    go_wp2_with fail
    clear z11
    refine (unhide K12 _ ((unhide HR7).below (unhide HAL).1)).mono ?_
    rintro e V12 ⟨rfl, q_, hq_⟩
    have b_ : Below V11.heap.size V11 V12 := by rw [hq_]; exact bel_drewN _ _
    replace HAL := hide (al_below (unhide HAL) b_)
    clear hq_ q_ b_
    have z5 := (unhide HAL).2.at (i := 5) rfl
    have z0 := (unhide HAL).2.at (i := 0) rfl
    go_wp2_with fail
    clear z5 z0
    refine (unhide K13 _ ((unhide HR1).below (unhide HAL).1)).mono ?_
    rintro e V13 ⟨rfl, b_⟩
    replace HAL := hide (al_below (unhide HAL) b_)
    clear b_
    have HAL2 := hide (al_below (unhide HAL) ((Below.refl _ _).alloc (Nat.le_refl _) (.cells #[.int .i64 y1, .int .i64 y2, .int .i64 y3, .int .i64 y4, .int .i64 y5, .int .i64 y6] 166)))
    skip
    have z9 := (unhide HAL2).2.at (i := 9) rfl
    have z10 := (unhide HAL2).2.at (i := 10) rfl
    have z0 := (unhide HAL2).2.at (i := 0) rfl
    go_wp2_with fail
    clear z9 z10 z0
    generalize hW13 : V13.alloc (.cells #[.int .i64 y1, .int .i64 y2, .int .i64 y3, .int .i64 y4, .int .i64 y5, .int .i64 y6] 166) = W13 at *
    clear hW13
    replace HAL := HAL2
    clear HAL2
    refine (unhide K14 _ ((unhide HR5).below (unhide HAL).1)).mono ?_
    rintro e V14 ⟨rfl, b_⟩
    replace HAL := hide (al_below (unhide HAL) b_)
    clear b_
    have HAL2 := hide (al_below (unhide HAL) ((Below.refl _ _).alloc (Nat.le_refl _) (.cells #[.int .i64 v1, .int .i64 v2, .int .i64 v3] 170)))
    go_wp2_with fail
    go_ret
    exact ⟨rfl, (unhide HAL2).1⟩
  have HE : Hid (rtrB x1 x2 x3 x4 x5 x6 ls tw se du ss es la = (tw.all (twB x1) && ls.all obB)) := hide (by
    have e8 : twoOf x1 tw = tw.all (twB x1) := by unfold twoOf; rw [h8]; rfl
    unfold rtrB; rw [h1, h2, h3, h4, h5, h6, lks_all h7 h13, e8, h9, h10, h11, h14, h12]; simp [Bool.and_comm])
  obtain ⟨A, hA⟩ : ∃ A, rtrB x1 x2 x3 x4 x5 x6 ls tw se du ss es la = A := ⟨_, rfl⟩
  rw [hA] at HE ⊢
  clear hA
  have hl8 := Ln.links_len h7
  have hl62 := Tw.two_len h8
  have HLB := hide h7
  have HTW := hide h8
  rw [h7] at K7
  rw [h8] at K8
  rw [h9] at K9
  rw [h10] at K10
  rw [h11] at K11
  rw [h12] at K12
  rw [h13] at K13
  rw [h14] at K14
  clear h7 h8 h9 h10 h11 h12 h13 h14
  go_enter Tryz.func84, Tryz.ntmps84
  go_wp2_with (first | (go_at_call 124; refine (l01Addr _ _).mono ?_; rintro e w_ ⟨rfl, rfl⟩) | (go_at_call 43; refine (l01In _ _ _ _).mono ?_; rintro e w_ ⟨rfl, rfl⟩))
  clear h1 h2 h3 h4 h5 h6
  generalize hW0 : w.alloc (.cells #[.int .i64 x1, .int .i64 x2, .int .i64 x3, .int .i64 x4, .int .i64 x5, .slice a1 ls.length c1, .slice a2 tw.length c2, .slice a3 se.length c3, .slice a4 du.length c4, .slice a5 ss.length c5, .slice a6 es.length c6, .slice a7 la.length c7, .int .i64 x6] 83) = W0 at *
  clear hW0
  refine (unhide K7 _ ((unhide HR1).below (unhide HAL).1)).mono ?_
  rintro e V7 ⟨rfl, b_⟩
  replace HAL := hide (al_below (unhide HAL) b_)
  clear b_
  have z6 := (unhide HAL).2.at (i := 6) rfl
  go_wp2_with fail
  clear z6
  refine (unhide K8 _ ((unhide HR2).below (unhide HAL).1)).mono ?_
  rintro e V8 ⟨rfl, b_⟩
  replace HAL := hide (al_below (unhide HAL) b_)
  clear b_
  have z7 := (unhide HAL).2.at (i := 7) rfl
  go_wp2_with fail
  clear z7
  refine (unhide K9 _ ((unhide HR3).below (unhide HAL).1)).mono ?_
  rintro e V9 ⟨rfl, b_⟩
  replace HAL := hide (al_below (unhide HAL) b_)
  clear b_
  have z8 := (unhide HAL).2.at (i := 8) rfl
  go_wp2_with fail
  clear z8
  refine (unhide K10 _ ((unhide HR4).below (unhide HAL).1)).mono ?_
  rintro e V10 ⟨rfl, b_⟩
  replace HAL := hide (al_below (unhide HAL) b_)
  clear b_
  have z9 := (unhide HAL).2.at (i := 9) rfl
  have z10 := (unhide HAL).2.at (i := 10) rfl
  go_wp2_with fail
  clear z9 z10
  refine (unhide K11 _ ((unhide HR5).below (unhide HAL).1) ((unhide HR6).below (unhide HAL).1)).mono ?_
  rintro e V11 ⟨rfl, b_⟩
  replace HAL := hide (al_below (unhide HAL) b_)
  clear b_
  have z11 := (unhide HAL).2.at (i := 11) rfl
  go_wp2_with fail
  clear z11
  refine (unhide K12 _ ((unhide HR7).below (unhide HAL).1)).mono ?_
  rintro e V12 ⟨rfl, q_, hq_⟩
  have b_ : Below V11.heap.size V11 V12 := by rw [hq_]; exact bel_drewN _ _
  replace HAL := hide (al_below (unhide HAL) b_)
  clear hq_ q_ b_
  have z5 := (unhide HAL).2.at (i := 5) rfl
  have z0 := (unhide HAL).2.at (i := 0) rfl
  go_wp2_with fail
  clear z5 z0
  refine (unhide K13 _ ((unhide HR1).below (unhide HAL).1)).mono ?_
  rintro e V13 ⟨rfl, b_⟩
  replace HAL := hide (al_below (unhide HAL) b_)
  clear b_
  have HAL2 := hide (al_below (unhide HAL) ((Below.refl _ _).alloc (Nat.le_refl _) (.cells #[.int .i64 y1, .int .i64 y2, .int .i64 y3, .int .i64 y4, .int .i64 y5, .int .i64 y6] 166)))
  skip
  have z9 := (unhide HAL2).2.at (i := 9) rfl
  have z10 := (unhide HAL2).2.at (i := 10) rfl
  have z0 := (unhide HAL2).2.at (i := 0) rfl
  go_wp2_with fail
  clear z9 z10 z0
  generalize hW13 : V13.alloc (.cells #[.int .i64 y1, .int .i64 y2, .int .i64 y3, .int .i64 y4, .int .i64 y5, .int .i64 y6] 166) = W13 at *
  clear hW13
  replace HAL := HAL2
  clear HAL2
  refine (unhide K14 _ ((unhide HR5).below (unhide HAL).1)).mono ?_
  rintro e V14 ⟨rfl, b_⟩
  replace HAL := hide (al_below (unhide HAL) b_)
  clear b_
  have HAL2 := hide (al_below (unhide HAL) ((Below.refl _ _).alloc (Nat.le_refl _) (.cells #[.int .i64 v1, .int .i64 v2, .int .i64 v3] 170)))
  skip
  have z6 := (unhide HAL2).2.at (i := 6) rfl
  go_wp2_with fail
  clear z6
  generalize hW14 : V14.alloc (.cells #[.int .i64 v1, .int .i64 v2, .int .i64 v3] 170) = W14 at *
  clear hW14
  replace HAL := HAL2
  clear HAL2
  go_loopw [7] (fun i wr => ∃ j : Nat, j ≤ tw.length ∧ i = .int .i64 j ∧ Hid ((tw.take j).all (twB x1) = true) ∧ Hid (Al w wr (rC x1 x2 x3 x4 x5 (.slice a1 ls.length c1) (.slice a2 tw.length c2) (.slice a3 se.length c3) (.slice a4 du.length c4) (.slice a5 ss.length c5) (.slice a6 es.length c6) (.slice a7 la.length c7) x6))) (fun i _ => tw.length - (intOf i).toNat)
  case atStart => exact ⟨0, by omega, rfl, hide rfl, HAL⟩
  case round =>
    obtain ⟨j, hj, rfl, hal, hAl⟩ := hrel
    have z6 := (unhide hAl).2.at (i := 6) rfl
    have z0 := (unhide hAl).2.at (i := 0) rfl
    by_cases hlt : (j : Int) < (tw.length : Int)
    · have k0 : (0 : Int) ≤ (j : Int) := by omega
      have hlen : j < tw.length := by omega
      obtain ⟨g, off, ha2⟩ := (unhide HR2).form (by omega)
      have HC := (unhide HR2).below (unhide hAl).1
      rw [ha2] at HC z6
      have hA := HC.at hlen
      have HY : Hid (twB x1 (tw.getD j Tu.R.zero) = true → (tw.take (j + 1)).all (twB x1) = true) := hide (fun h => all_step hlen (unhide hal) h)
      have HZ : Hid (twB x1 (tw.getD j Tu.R.zero) = false → A = false) := hide (fun h => by rw [unhide HE, all_no hlen h]; rfl)
      have hbd := St.ok_bounds (St.setB_ok (Tw.two_set (unhide HTW)) hlen)
      generalize tw.getD j Tu.R.zero = m at *
      obtain ⟨key, til, val⟩ := m
      obtain ⟨t0, t1, t2⟩ := hA
      dsimp only at t0 t1 t2 hbd
      obtain ⟨hb0, hb1, _⟩ := hbd
      have EK : Hid (twB x1 ⟨key, til, val⟩ = (!(key / 100 == x1) && !(key % 100 == x1))) := hide (by unfold twB Tw.hv Tw.ha; dsimp only; rw [Int.tdiv_eq_ediv_of_nonneg hb0, Int.tmod_eq_emod_of_nonneg hb0])
      have HAD : Hid (∀ n, Al w (wr.drewN n) (rC x1 x2 x3 x4 x5 (.slice a1 ls.length c1) (.slice a2 tw.length c2) (.slice a3 se.length c3) (.slice a4 du.length c4) (.slice a5 ss.length c5) (.slice a6 es.length c6) (.slice a7 la.length c7) x6)) := hide (fun n => al_below (unhide hAl) (bel_drewN _ _))
      clear HC
      cases q1 : (key / 100 == x1)
      · cases q2 : (key % 100 == x1)
        · have hy := hide (unhide HY (by rw [unhide EK, q1, q2]; rfl))
          clear HY HZ EK
          go_wp2_with fail
          go_quiet (fail)
          go_wp2_with fail
          go_roundw
          case rel => exact ⟨j + 1, by omega, by go_num, hy, hide (unhide HAD _)⟩
          case measure => simp [intOf]; omega
        · have hf := hide (unhide HZ (by rw [unhide EK, q1, q2]; rfl))
          clear HY HZ EK
          go_wp2_with fail
          go_quiet (fail)
          go_wp2_with fail
          go_ret
          exact ⟨ret_bool (unhide hf).symm, (unhide HAD _).1⟩
      · have hf := hide (unhide HZ (by rw [unhide EK, q1]; rfl))
        clear HY HZ EK
        go_wp2_with fail
        go_quiet (fail)
        go_wp2_with fail
        go_ret
        exact ⟨ret_bool (unhide hf).symm, (unhide HAD _).1⟩
    · obtain rfl : j = tw.length := by omega
      have HE2 : Hid (A = ls.all obB) := hide (by have e := unhide hal; rw [List.take_length] at e; rw [unhide HE, e]; rfl)
      have z5 := (unhide hAl).2.at (i := 5) rfl
      go_wp2_with fail
      clear z5 z6 z0
      go_loopw [8] (fun i wr => ∃ j : Nat, j ≤ ls.length ∧ i = .int .i64 j ∧ Hid ((ls.take j).all obB = true) ∧ Hid (Al w wr (rC x1 x2 x3 x4 x5 (.slice a1 ls.length c1) (.slice a2 tw.length c2) (.slice a3 se.length c3) (.slice a4 du.length c4) (.slice a5 ss.length c5) (.slice a6 es.length c6) (.slice a7 la.length c7) x6))) (fun i _ => ls.length - (intOf i).toNat)
      case atStart => exact ⟨0, by omega, rfl, hide rfl, hAl⟩
      case round =>
        obtain ⟨k, hk, rfl, hal2, hAl2⟩ := hrel
        have z5 := (unhide hAl2).2.at (i := 5) rfl
        by_cases hlt2 : (k : Int) < (ls.length : Int)
        · have k0 : (0 : Int) ≤ (k : Int) := by omega
          have hlen : k < ls.length := by omega
          obtain ⟨g, off, ha1⟩ := (unhide HR1).form (by omega)
          have HC := (unhide HR1).below (unhide hAl2).1
          rw [ha1] at HC z5
          have hA := HC.at hlen
          clear ha1
          have HY : Hid (obB (ls.getD k Lk.R.zero) = true → (ls.take (k + 1)).all obB = true) := hide (fun h => all_step hlen (unhide hal2) h)
          have HZ : Hid (obB (ls.getD k Lk.R.zero) = false → A = false) := hide (fun h => by rw [unhide HE2]; exact all_no hlen h)
          have hco := Ln.ok_co (Ri.all_ok (unhide HLB) hlen)
          have hsy := Ln.ok_sy (Ri.all_ok (unhide HLB) hlen)
          generalize ls.getD k Lk.R.zero = m at *
          obtain ⟨ad, hd, sy, ci, co, wl⟩ := m
          obtain ⟨t0, t1, t2, t3, t4, t5⟩ := hA
          dsimp only at t0 t1 t2 t3 t4 t5 hco hsy
          have hw := ob_ways hco.1 hco.2 hsy.1
          have EK : Hid (obB ⟨ad, hd, sy, ci, co, wl⟩ = outB co sy) := hide rfl
          have HA3 := hide (al_below (unhide hAl2) ((Below.refl _ _).alloc (Nat.le_refl _) (.cells #[.int .i64 ad, .int .i64 hd, .int .i64 sy, .int .i64 ci, .int .i64 co, .int .i64 wl] 166)))
          clear HC
          rcases hw with ⟨rfl, rfl, e⟩ | ⟨rfl, q2, e⟩ | ⟨q1, q2, e⟩ | ⟨q1, q2, q3, e⟩ | ⟨q1, q2, q3, e⟩
          · have hy := hide (unhide HY ((unhide EK).trans e))
            clear HY HZ EK e
            go_wp2_with fail
            go_roundw
            case rel => exact ⟨k + 1, by omega, by go_num, hy, HA3⟩
            case measure => simp [intOf]; omega
          · have hf := hide (unhide HZ ((unhide EK).trans e))
            clear HY HZ EK e
            go_wp2_with fail
            go_ret
            exact ⟨ret_bool (unhide hf).symm, (unhide HA3).1⟩
          · have hf := hide (unhide HZ ((unhide EK).trans e))
            clear HY HZ EK e
            go_wp2_with (go_at_call 141; refine (l04ExM co (by omega) (by omega) _).mono ?_; rintro e w_ ⟨rfl, rfl⟩)
            go_ret
            exact ⟨ret_bool (unhide hf).symm, (unhide HA3).1⟩
          · have hf := hide (unhide HZ ((unhide EK).trans e))
            clear HY HZ EK e
            go_wp2_with (go_at_call 141; refine (l04ExM co (by omega) (by omega) _).mono ?_; rintro e w_ ⟨rfl, rfl⟩)
            go_ret
            exact ⟨ret_bool (unhide hf).symm, (unhide HA3).1⟩
          · have hy := hide (unhide HY ((unhide EK).trans e))
            have q4 : (co == 0) = false := by simp; omega
            clear HY HZ EK e
            go_wp2_with (go_at_call 141; refine (l04ExM co (by omega) (by omega) _).mono ?_; rintro e w_ ⟨rfl, rfl⟩)
            go_roundw
            case rel => exact ⟨k + 1, by omega, by go_num, hy, HA3⟩
            case measure => simp [intOf]; omega
        · obtain rfl : k = ls.length := by omega
          have hf := hide (show A = true by have e := unhide hal2; rw [List.take_length] at e; rw [unhide HE2, e])
          go_wp2_with fail
          go_ret
          exact ⟨ret_bool (unhide hf).symm, (unhide hAl2).1⟩
end Rt
end Go.Proofs.YtfooahhdikobeaaGreat
namespace Go.Proofs.YtfooahhdikobeaaGreat
open Go.ChangeShapes Go.WideShapes Go.ChangeAt Go.RowKit
set_option linter.unusedVariables false
set_option linter.unusedSimpArgs false
set_option maxRecDepth 100000
attribute [local go_sem ↓] Go.wp_at_zero Go.wp_at_succ
namespace Nt
open W1 Rt
theorem specOkM (m : Rm) (p : Pl) (w : World) (hs : Sm m) (hr : Rd w m p) : Calls Tryz.prog 84 #[.agg (cl m p).toArray] w fun e w' => e = .returned (.bool (okM m)) ∧ Below w.heap.size w w' := by
  obtain ⟨s1, s2, s3, s4, s5, s6, s7⟩ := hs
  obtain ⟨r1, r2, r3, r4, r5, r6, r7⟩ := hr
  exact specRtr m.x1 m.x2 m.x3 m.x4 m.x5 m.x6 p.a1 p.a2 p.a3 p.a4 p.a5 p.a6 p.a7 p.c1 p.c2 p.c3 p.c4 p.c5 p.c6 p.c7 m.ls m.tw m.se m.du m.ss m.es m.la w s1 s2 s3 s4 s5 s6 s7 r1 r2 r3 r4 r5 r6 r7
theorem sNet {w : World} {g o p : Nat} {m : Rm} {pl : Pl} {y1 y5 t : Int} {v1 v2 v3 : Value} (hn : NB w p v1 v2 v3 t) (hA : w.rangeAt g o (cl m pl)) (e1 : m.x1 = y1) (e5 : m.x5 = y5) :
    (NB w p v1 v2 v3 t ∧ w.rangeAt g o (cl m pl)) ∧ w.cell? ⟨p, 0, none⟩ = some v1 ∧ w.cell? ⟨p, 3, none⟩ = some (.int .i64 t) ∧ w.cell? ⟨g, o, none⟩ = some (.int .i64 y1) ∧ w.cell? ⟨g, o + 4, none⟩ = some (.int .i64 y5) :=
  ⟨⟨hn, hA⟩, hn.1, hn.2.2.2, by rw [← e1]; exact hA 0 _ rfl, by rw [← e5]; exact hA 4 _ rfl⟩
set_option maxHeartbeats 32000000 in
theorem specNet (a b d : Option Addr) (ca cb cd : Nat) (t : Int) (ms : List Rm) (ps : List Pl) (cs : List Int) (fs : List Fm.R) (w : World) (hm : ms.length ≤ 1048576) (hc : cs.length ≤ 1048576) (hf : fs.length ≤ 1048576) (hs : ∀ i, i < ms.length → Sm (ms.getD i Rm.zero)) (hg : ∀ i, i < fs.length → (fs.getD i Fm.R.zero).bs.size ≤ maxLen) (hr : NR w a ms ps) (hi : In.RM w b cs) (hz : Fm.RM w d fs) :
    Calls Tryz.prog 41 #[.agg #[.slice a ms.length ca, .slice b cs.length cb, .slice d fs.length cd, .int .i64 t]] w fun e w' => e = .returned (.bool (netB ms cs fs t)) ∧ Below w.heap.size w w' := by
  have HX0 := hide (nb_new w (.slice a ms.length ca) (.slice b cs.length cb) (.slice d fs.length cd) t 31)
  have b0 := bel_new w (.cells #[.slice a ms.length ca, .slice b cs.length cb, .slice d fs.length cd, .int .i64 t] 31)
  have HR := hide (hr.below b0)
  have HI := hide (hi.below b0)
  have HZ := hide (hz.below b0)
  have HB0 := hide b0
  have HS := hide hs
  have HG := hide hg
  have E0 : Hid (netB ms cs fs t = (inB t 0 100000 && (inB ms.length 1 6 && ((allI ms.length fun i => rok (ms.getD i Rm.zero) i t) && (costB cs ms.length && (decide (fs.length ≤ 200) && allI fs.length fun i => fok (fs.getD i Fm.R.zero) ms.length t)))))) := hide rfl
  have HAN : Hid (∀ j, j < ms.length → rok (ms.getD j Rm.zero) j t = false → (allI ms.length fun i => rok (ms.getD i Rm.zero) i t) = false) := hide (fun j h h' => allI_no (p := fun i => rok (ms.getD i Rm.zero) i t) h h')
  have HAY : Hid ((∀ i, i < ms.length → rok (ms.getD i Rm.zero) i t = true) → (allI ms.length fun i => rok (ms.getD i Rm.zero) i t) = true) := hide (fun h => allI_yes h)
  have HFN : Hid (∀ j, j < fs.length → fok (fs.getD j Fm.R.zero) ms.length t = false → (allI fs.length fun i => fok (fs.getD i Fm.R.zero) ms.length t) = false) := hide (fun j h h' => allI_no (p := fun i => fok (fs.getD i Fm.R.zero) ms.length t) h h')
  have HFY : Hid ((∀ i, i < fs.length → fok (fs.getD i Fm.R.zero) ms.length t = true) → (allI fs.length fun i => fok (fs.getD i Fm.R.zero) ms.length t) = true) := hide (fun h => allI_yes h)
  generalize (allI ms.length fun i => rok (ms.getD i Rm.zero) i t) = AA at *
  generalize (allI fs.length fun i => fok (fs.getD i Fm.R.zero) ms.length t) = FF at *
  obtain ⟨N, hN⟩ : ∃ N, ms.length = N := ⟨_, rfl⟩
  obtain ⟨K, hK⟩ : ∃ K, fs.length = K := ⟨_, rfl⟩
  rw [hN, hK] at HX0 HB0 HR HI HZ E0 ⊢
  rw [hN] at hm HAY HFN HFY
  rw [hK] at hf HFY
  have HN := hide hN
  have HKK := hide hK
  clear hN hK hr hi hz hs hg b0
  have KN := hide (fun W => l01In (N : Int) 1 6 W)
  have KT := hide (fun W => l01In t 0 100000 W)
  cases h1 : inB (N : Int) 1 6
  · rw [h1] at KN E0
    clear h1
    go_enter Tryz.func41, Tryz.ntmps41
    go_wp2_with (go_at_call 43; refine (unhide KN _).mono ?_; rintro e w_ ⟨rfl, rfl⟩)
    go_ret
    exact ⟨ret_bool (by rw [unhide E0]; simp), unhide HB0⟩
  have hn1 : 1 ≤ N := by simp [inB] at h1; omega
  have hn6 : N ≤ 6 := by simp [inB] at h1; omega
  rw [h1] at KN E0
  clear h1
  go_enter Tryz.func41, Tryz.ntmps41
  go_wp2_with (go_at_call 43; refine (unhide KN _).mono ?_; rintro e w_ ⟨rfl, hw_⟩; subst w_)
  clear KN
  generalize w.alloc (.cells #[.slice a N ca, .slice b cs.length cb, .slice d K cd, .int .i64 t] 31) = w0 at *
  refine (l13Costs _ cs _ N _ hc hn1 hn6 (unhide HI)).mono ?_
  rintro e w1 ⟨rfl, b1⟩
  have HX1 := hide ((unhide HX0).below b1)
  have HR1 := hide ((unhide HR).below b1)
  have HZ1 := hide ((unhide HZ).below b1)
  have HB1 := hide ((unhide HB0).trans (b1.mono (unhide HB0).size))
  clear HX0 HI HZ HR HB0 b1
  cases h3 : costB cs N
  · rw [h3] at E0
    go_wp2_with fail
    go_ret
    exact ⟨ret_bool (by rw [unhide E0]; simp), unhide HB1⟩
  rw [h3] at E0
  clear h3
  cases h2 : inB t 0 100000
  · rw [h2] at E0 KT
    clear h2
    obtain ⟨p0, p1, p2, p3⟩ := unhide HX1
    go_wp2_with (go_at_call 43; refine (unhide KT _).mono ?_; rintro e w_ ⟨rfl, rfl⟩)
    go_ret
    exact ⟨ret_bool (by rw [unhide E0]; simp), unhide HB1⟩
  have ht0 : 0 ≤ t := by simp [inB] at h2; omega
  have ht1 : t ≤ 100000 := by simp [inB] at h2; omega
  rw [h2] at E0 KT
  clear h2
  by_cases h200 : (200 : Int) < (K : Int)
  · obtain ⟨p0, p1, p2, p3⟩ := unhide HX1
    go_wp2_with (go_at_call 43; refine (unhide KT _).mono ?_; rintro e w_ ⟨rfl, rfl⟩)
    go_ret
    exact ⟨ret_bool (by rw [unhide E0]; have : decide (K ≤ 200) = false := (by simp; omega); rw [this]; simp), unhide HB1⟩
  have E : Hid (netB ms cs fs t = (AA && FF)) := hide (by rw [unhide E0]; have : decide (K ≤ 200) = true := (by simp; omega); rw [this]; simp)
  clear E0
  obtain ⟨p0, p1, p2, p3⟩ := unhide HX1
  go_wp2_with (go_at_call 43; refine (unhide KT _).mono ?_; rintro e w_ ⟨rfl, hw_⟩; subst w_)
  clear p0 p1 p2 p3 KT
  go_loopw [3] (fun i wr => ∃ j : Nat, j ≤ N ∧ i = .int .i64 j ∧ Hid (∀ i, i < j → rok (ms.getD i Rm.zero) i t = true) ∧ Hid (Below w.heap.size w wr) ∧ Hid (NB wr w.heap.size (.slice a N ca) (.slice b cs.length cb) (.slice d K cd) t) ∧ Hid (NR wr a ms ps) ∧ Hid (Fm.RM wr d fs)) (fun i _ => N - (intOf i).toNat)
  case atStart => exact ⟨0, by omega, rfl, hide (fun i hi => absurd hi (Nat.not_lt_zero i)), HB1, HX1, HR1, HZ1⟩
  case round =>
    obtain ⟨j, hj, rfl, hall, hbl, HNB, HRR, HFF⟩ := hrel
    by_cases hlt : (j : Int) < (N : Int)
    · have k0 : (0 : Int) ≤ (j : Int) := by omega
      have hwj : IntKind.i64.wrap ((j : Int) + 1) = (j : Int) + 1 := by rw [IntKind.wrap_i64]; omega
      have hlen : j < ms.length := by rw [unhide HN]; omega
      obtain ⟨g, off, rfl, hA, hD⟩ := (unhide HRR).at hlen
      have HA := hide hA
      have HD := hide hD
      have HM := hide ((unhide HS) j hlen)
      have HNO := hide (unhide HAN j hlen)
      have HUP := hide (fun h => up_to (p := fun i => rok (ms.getD i Rm.zero) i t) (j := j) (unhide hall) h)
      have HRK : Hid (rok (ms.getD j Rm.zero) j t = (okM (ms.getD j Rm.zero) && ((ms.getD j Rm.zero).x1 == (j : Int) + 1 && decide ((ms.getD j Rm.zero).x5 ≤ t)))) := hide rfl
      try dsimp only at HUP
      clear hlen hA hD
      generalize hmj : ms.getD j Rm.zero = m at HA HD HM HNO HUP HRK
      clear hmj
      generalize hpj : ps.getD j Pl.zero = p at HA HD
      clear hpj
      obtain ⟨y1, hy1⟩ : ∃ y, m.x1 = y := ⟨_, rfl⟩
      obtain ⟨y5, hy5⟩ : ∃ y, m.x5 = y := ⟨_, rfl⟩
      rw [hy1, hy5] at HRK
      have HY1 := hide hy1
      have HY5 := hide hy5
      clear hy1 hy5
      obtain ⟨p0, p1, p2, p3⟩ := unhide HNB
      cases hk : okM m
      · have EB := hide (unhide HNO (by rw [unhide HRK, hk]; rfl))
        have HK := hide hk
        clear hk
        go_wp2_with fail
        refine wp_region_noPanic ?_
        refine wp_region_held_drew (S := fun w' => (NB w' w.heap.size (.slice (some ⟨g, off, none⟩) N ca) (.slice b cs.length cb) (.slice d K cd) t ∧ w'.rangeAt g (off + j * 13) (cl m p)) ∧ w'.cell? ⟨w.heap.size, 0, none⟩ = some (.slice (some ⟨g, off, none⟩) N ca) ∧ w'.cell? ⟨w.heap.size, 3, none⟩ = some (.int .i64 t) ∧ w'.cell? ⟨g, off + j * 13, none⟩ = some (.int .i64 y1) ∧ w'.cell? ⟨g, off + j * 13 + 4, none⟩ = some (.int .i64 y5)) (by kernel_rfl) (sNet (unhide HNB).drew (unhide HA) (unhide HY1) (unhide HY5)) (fun hHeld => ?_)
        refine Rg.t 0 39 ?_
        refine Rg.t 1 40 ?_
        refine Rg.t 2 41 ?_
        refine Rg.t 3 42 ?_
        refine Rg.t (v := .agg (cl m p).toArray) 4 43 ?_ (hv := fun w0 hSw => execI _ rfl rfl hSw.1.2)
        (refine Rg.o 5 (fun K hK => ?_); go_simp)
        refine (specOkM m p wr.drew (unhide HM) (unhide HD).drew).mono ?_
        rintro e w1 ⟨rfl, b1⟩
        rw [unhide HK]
        refine hK.out _ _ (sNet ((unhide HNB).drew.below b1) (rng_below (w := wr.drew) (unhide HA) b1) (unhide HY1) (unhide HY5)) (fun hHeld => ?_)
        clear hK K
        (try simp only [Act.put, List.setIfInBounds_toArray, List.set_cons_zero, List.set_cons_succ])
        refine Rg.t 6 45 ?_
        refine Rg.t 7 46 ?_
        refine Rg.s 8 47 ?_
        refine Rg.s 9 48 ?_
        refine Rg.s 10 49 ?_
        refine Rg.s 11 50 ?_
        refine Rg.s 12 51 ?_
        refine Rg.s 13 52 ?_
        refine Rg.s 14 53 ?_
        refine Rg.s 15 54 ?_
        refine Rg.s 16 55 ?_
        refine Rg.t 17 56 ?_
        refine Rg.t 18 57 ?_
        refine Rg.s 19 58 ?_
        refine Rg.s 20 59 ?_
        refine Rg.s 21 60 ?_
        refine Rg.s 22 61 ?_
        refine Rg.s 23 62 ?_
        refine Rg.s 24 63 ?_
        refine Rg.s 25 64 ?_
        refine Rg.s 26 65 ?_
        refine Rg.s 27 66 ?_
        refine Rg.t 28 67 ?_
        refine wpAnyH_done (by kernel_rfl) (NoPanic.normal ?_) _
        have HB1 := hide ((unhide hbl).drew.trans (b1.mono (by show w.heap.size ≤ wr.heap.size; exact (unhide hbl).size)))
        have HN1 := hide ((unhide HNB).drew.below b1)
        have HR1 := hide ((unhide HRR).drew.below b1)
        have HI1 := hide (Fm.RM.below (w := wr.drew) (unhide HFF) b1)
        clear hHeld b1 HA HD
        go_wp2_with fail
        go_ret
        exact ⟨ret_bool (by rw [unhide E, unhide EB]; simp), unhide HB1⟩
      have HK := hide hk
      rw [hk] at HRK
      clear hk
      cases hx : (y1 != (j : Int) + 1)
      rotate_left
      · have EB := hide (unhide HNO (by rw [unhide HRK]; have : (y1 == (j : Int) + 1) = false := (by simpa using hx); rw [this]; rfl))
        go_wp2_with fail
        refine wp_region_noPanic ?_
        refine wp_region_held_drew (S := fun w' => (NB w' w.heap.size (.slice (some ⟨g, off, none⟩) N ca) (.slice b cs.length cb) (.slice d K cd) t ∧ w'.rangeAt g (off + j * 13) (cl m p)) ∧ w'.cell? ⟨w.heap.size, 0, none⟩ = some (.slice (some ⟨g, off, none⟩) N ca) ∧ w'.cell? ⟨w.heap.size, 3, none⟩ = some (.int .i64 t) ∧ w'.cell? ⟨g, off + j * 13, none⟩ = some (.int .i64 y1) ∧ w'.cell? ⟨g, off + j * 13 + 4, none⟩ = some (.int .i64 y5)) (by kernel_rfl) (sNet (unhide HNB).drew (unhide HA) (unhide HY1) (unhide HY5)) (fun hHeld => ?_)
        refine Rg.t 0 39 ?_
        refine Rg.t 1 40 ?_
        refine Rg.t 2 41 ?_
        refine Rg.t 3 42 ?_
        refine Rg.t (v := .agg (cl m p).toArray) 4 43 ?_ (hv := fun w0 hSw => execI _ rfl rfl hSw.1.2)
        (refine Rg.o 5 (fun K hK => ?_); go_simp)
        refine (specOkM m p wr.drew (unhide HM) (unhide HD).drew).mono ?_
        rintro e w1 ⟨rfl, b1⟩
        rw [unhide HK]
        refine hK.out _ _ (sNet ((unhide HNB).drew.below b1) (rng_below (w := wr.drew) (unhide HA) b1) (unhide HY1) (unhide HY5)) (fun hHeld => ?_)
        clear hK K
        (try simp only [Act.put, List.setIfInBounds_toArray, List.set_cons_zero, List.set_cons_succ])
        refine Rg.t 6 45 ?_
        refine Rg.t 7 46 ?_
        refine Rg.t 8 47 ?_
        refine Rg.t 9 48 ?_
        refine Rg.t 10 49 ?_
        refine Rg.t 11 50 ?_
        refine Rg.t 12 51 ?_
        refine Rg.t 13 52 ?_
        refine Rg.t 14 53 ?_
        refine Rg.t 15 54 ?_
        refine Rg.t 16 55 ?_
        refine Rg.t 17 56 ?_
        refine Rg.t 18 57 ?_
        refine Rg.s 19 58 ?_
        refine Rg.s 20 59 ?_
        refine Rg.s 21 60 ?_
        refine Rg.s 22 61 ?_
        refine Rg.s 23 62 ?_
        refine Rg.s 24 63 ?_
        refine Rg.s 25 64 ?_
        refine Rg.s 26 65 ?_
        refine Rg.s 27 66 ?_
        refine Rg.t 28 67 ?_
        refine wpAnyH_done (by kernel_rfl) (NoPanic.normal ?_) _
        have HB1 := hide ((unhide hbl).drew.trans (b1.mono (by show w.heap.size ≤ wr.heap.size; exact (unhide hbl).size)))
        have HN1 := hide ((unhide HNB).drew.below b1)
        have HR1 := hide ((unhide HRR).drew.below b1)
        have HI1 := hide (Fm.RM.below (w := wr.drew) (unhide HFF) b1)
        clear hHeld b1 HA HD
        go_wp2_with fail
        go_ret
        exact ⟨ret_bool (by rw [unhide E, unhide EB]; simp), unhide HB1⟩
      by_cases h5 : t < y5
      · have EB := hide (unhide HNO (by rw [unhide HRK]; have : decide (y5 ≤ t) = false := (by simp; omega); rw [this]; simp))
        go_wp2_with fail
        refine wp_region_noPanic ?_
        refine wp_region_held_drew (S := fun w' => (NB w' w.heap.size (.slice (some ⟨g, off, none⟩) N ca) (.slice b cs.length cb) (.slice d K cd) t ∧ w'.rangeAt g (off + j * 13) (cl m p)) ∧ w'.cell? ⟨w.heap.size, 0, none⟩ = some (.slice (some ⟨g, off, none⟩) N ca) ∧ w'.cell? ⟨w.heap.size, 3, none⟩ = some (.int .i64 t) ∧ w'.cell? ⟨g, off + j * 13, none⟩ = some (.int .i64 y1) ∧ w'.cell? ⟨g, off + j * 13 + 4, none⟩ = some (.int .i64 y5)) (by kernel_rfl) (sNet (unhide HNB).drew (unhide HA) (unhide HY1) (unhide HY5)) (fun hHeld => ?_)
        refine Rg.t 0 39 ?_
        refine Rg.t 1 40 ?_
        refine Rg.t 2 41 ?_
        refine Rg.t 3 42 ?_
        refine Rg.t (v := .agg (cl m p).toArray) 4 43 ?_ (hv := fun w0 hSw => execI _ rfl rfl hSw.1.2)
        (refine Rg.o 5 (fun K hK => ?_); go_simp)
        refine (specOkM m p wr.drew (unhide HM) (unhide HD).drew).mono ?_
        rintro e w1 ⟨rfl, b1⟩
        rw [unhide HK]
        refine hK.out _ _ (sNet ((unhide HNB).drew.below b1) (rng_below (w := wr.drew) (unhide HA) b1) (unhide HY1) (unhide HY5)) (fun hHeld => ?_)
        clear hK K
        (try simp only [Act.put, List.setIfInBounds_toArray, List.set_cons_zero, List.set_cons_succ])
        refine Rg.t 6 45 ?_
        refine Rg.t 7 46 ?_
        refine Rg.t 8 47 ?_
        refine Rg.t 9 48 ?_
        refine Rg.t 10 49 ?_
        refine Rg.t 11 50 ?_
        refine Rg.t 12 51 ?_
        refine Rg.t 13 52 ?_
        refine Rg.t 14 53 ?_
        refine Rg.t 15 54 ?_
        refine Rg.t 16 55 ?_
        refine Rg.t 17 56 ?_
        refine Rg.t 18 57 ?_
        refine Rg.t 19 58 ?_
        refine Rg.t 20 59 ?_
        refine Rg.t 21 60 ?_
        refine Rg.t 22 61 ?_
        refine Rg.t 23 62 ?_
        refine Rg.t 24 63 ?_
        refine Rg.t 25 64 ?_
        refine Rg.t 26 65 ?_
        refine Rg.t 27 66 ?_
        refine Rg.t 28 67 ?_
        refine wpAnyH_done (by kernel_rfl) (NoPanic.normal ?_) _
        have HB1 := hide ((unhide hbl).drew.trans (b1.mono (by show w.heap.size ≤ wr.heap.size; exact (unhide hbl).size)))
        have HN1 := hide ((unhide HNB).drew.below b1)
        have HR1 := hide ((unhide HRR).drew.below b1)
        have HI1 := hide (Fm.RM.below (w := wr.drew) (unhide HFF) b1)
        clear hHeld b1 HA HD
        go_wp2_with fail
        go_ret
        exact ⟨ret_bool (by rw [unhide E, unhide EB]; simp), unhide HB1⟩
      · have OK := hide (unhide HUP (by rw [unhide HRK]; have h1 : (y1 == (j : Int) + 1) = true := (by simpa using hx); have h2 : decide (y5 ≤ t) = true := (by simp; omega); rw [h1, h2]; rfl))
        clear HRK HNO HUP
        go_wp2_with fail
        refine wp_region_noPanic ?_
        refine wp_region_held_drew (S := fun w' => (NB w' w.heap.size (.slice (some ⟨g, off, none⟩) N ca) (.slice b cs.length cb) (.slice d K cd) t ∧ w'.rangeAt g (off + j * 13) (cl m p)) ∧ w'.cell? ⟨w.heap.size, 0, none⟩ = some (.slice (some ⟨g, off, none⟩) N ca) ∧ w'.cell? ⟨w.heap.size, 3, none⟩ = some (.int .i64 t) ∧ w'.cell? ⟨g, off + j * 13, none⟩ = some (.int .i64 y1) ∧ w'.cell? ⟨g, off + j * 13 + 4, none⟩ = some (.int .i64 y5)) (by kernel_rfl) (sNet (unhide HNB).drew (unhide HA) (unhide HY1) (unhide HY5)) (fun hHeld => ?_)
        refine Rg.t 0 39 ?_
        refine Rg.t 1 40 ?_
        refine Rg.t 2 41 ?_
        refine Rg.t 3 42 ?_
        refine Rg.t (v := .agg (cl m p).toArray) 4 43 ?_ (hv := fun w0 hSw => execI _ rfl rfl hSw.1.2)
        (refine Rg.o 5 (fun K hK => ?_); go_simp)
        refine (specOkM m p wr.drew (unhide HM) (unhide HD).drew).mono ?_
        rintro e w1 ⟨rfl, b1⟩
        rw [unhide HK]
        refine hK.out _ _ (sNet ((unhide HNB).drew.below b1) (rng_below (w := wr.drew) (unhide HA) b1) (unhide HY1) (unhide HY5)) (fun hHeld => ?_)
        clear hK K
        (try simp only [Act.put, List.setIfInBounds_toArray, List.set_cons_zero, List.set_cons_succ])
        refine Rg.t 6 45 ?_
        refine Rg.t 7 46 ?_
        refine Rg.t 8 47 ?_
        refine Rg.t 9 48 ?_
        refine Rg.t 10 49 ?_
        refine Rg.t 11 50 ?_
        refine Rg.t 12 51 ?_
        refine Rg.t 13 52 ?_
        refine Rg.t 14 53 ?_
        refine Rg.t 15 54 ?_
        refine Rg.t 16 55 ?_
        refine Rg.t 17 56 ?_
        refine Rg.t 18 57 ?_
        refine Rg.t 19 58 ?_
        refine Rg.t 20 59 ?_
        refine Rg.t 21 60 ?_
        refine Rg.t 22 61 ?_
        refine Rg.t 23 62 ?_
        refine Rg.t 24 63 ?_
        refine Rg.t 25 64 ?_
        refine Rg.t 26 65 ?_
        refine Rg.t 27 66 ?_
        refine Rg.t 28 67 ?_
        refine wpAnyH_done (by kernel_rfl) (NoPanic.normal ?_) _
        have HB1 := hide ((unhide hbl).drew.trans (b1.mono (by show w.heap.size ≤ wr.heap.size; exact (unhide hbl).size)))
        have HN1 := hide ((unhide HNB).drew.below b1)
        have HR1 := hide ((unhide HRR).drew.below b1)
        have HI1 := hide (Fm.RM.below (w := wr.drew) (unhide HFF) b1)
        clear hHeld b1 HA HD
        clear p0 p1 p2 p3
        go_wp2_with fail
        go_roundw
        case rel => exact ⟨j + 1, by omega, by go_num, OK, HB1, HN1, HR1, HI1⟩
        case measure => simp [intOf]; omega
    · obtain rfl : j = N := by omega
      have EA := hide (unhide HAY (unhide hall))
      have E2 : Hid (netB ms cs fs t = FF) := hide (by rw [unhide E, unhide EA]; rfl)
      clear E EA HAN HAY hall HS
      obtain ⟨p0, p1, p2, p3⟩ := unhide HNB
      go_wp2_with fail
      clear p0 p1 p2 p3
      rename World => wq
      go_loopw [4] (fun i wr => ∃ q : Nat, q ≤ K ∧ i = .int .i64 q ∧ Hid (∀ i, i < q → fok (fs.getD i Fm.R.zero) j t = true) ∧ Hid (Below w.heap.size w wr) ∧ Hid (NB wr w.heap.size (.slice a j ca) (.slice b cs.length cb) (.slice d K cd) t) ∧ Hid (Fm.RM wr d fs)) (fun i _ => K - (intOf i).toNat)
      case atStart => exact ⟨0, by omega, rfl, hide (fun i hi => absurd hi (Nat.not_lt_zero i)), hbl, HNB, HFF⟩
      case round =>
        clear hbl HNB HFF HRR HX1 HR1 HZ1 HB1
        obtain ⟨q, hq, rfl, hall, hbl, hnb, hrm⟩ := hrel
        by_cases hltq : (q : Int) < (K : Int)
        · have k0 : (0 : Int) ≤ (q : Int) := by omega
          have hlen : q < fs.length := by rw [unhide HKK]; omega
          rcases (unhide hrm) with e0 | ⟨g, off, rfl, hc⟩
          · exfalso; rw [e0] at hlen; simp at hlen
          have hA := hc q hlen
          have hzz := (unhide HG) q hlen
          unfold maxLen at hzz
          have HNO := hide (unhide HFN q hlen)
          have HUP := hide (fun h => up_to (p := fun i => fok (fs.getD i Fm.R.zero) j t) (j := q) (unhide hall) h)
          have HFK : Hid (fok (fs.getD q Fm.R.zero) j t = (apB (fs.getD q Fm.R.zero).fr (fs.getD q Fm.R.zero).tt j && (inB (fs.getD q Fm.R.zero).ti t (t + 1) && decide (((fs.getD q Fm.R.zero).bs.size : Int) ≤ 900)))) := hide (by unfold fok apB; simp only [Bool.and_assoc])
          try dsimp only at HUP
          clear hc hlen
          generalize hmj : fs.getD q Fm.R.zero = m at hA hzz HNO HUP HFK
          clear hmj
          obtain ⟨fr, tt, ti, bs⟩ := m
          obtain ⟨c0, c1, c2, c3⟩ := hA
          dsimp only at c0 c1 c2 c3 hzz HFK
          have b1 := bel_new wr (.cells #[.int .i64 fr, .int .i64 tt, .int .i64 ti, .string bs] 73)
          have HN1 := hide ((unhide hnb).below b1)
          have HR1 := hide ((unhide hrm).below b1)
          have HB1 := hide ((unhide hbl).trans (b1.mono (unhide hbl).size))
          have q0 : (wr.alloc (.cells #[.int .i64 fr, .int .i64 tt, .int .i64 ti, .string bs] 73)).cell? ⟨wr.heap.size, 2, none⟩ = some (.int .i64 ti) := by simp [World.cell?_alloc_new]
          have q3 : (wr.alloc (.cells #[.int .i64 fr, .int .i64 tt, .int .i64 ti, .string bs] 73)).cell? ⟨wr.heap.size, 3, none⟩ = some (.string bs) := by simp [World.cell?_alloc_new]
          have hw1 : wr.heap.size < (wr.alloc (.cells #[.int .i64 fr, .int .i64 tt, .int .i64 ti, .string bs] 73)).heap.size := by simp
          have Q0 := hide q0
          have Q3 := hide q3
          have HW1 := hide hw1
          have KA := hide (fun W => l13Pair a b (some ⟨g, off, none⟩) j cs.length K ca cb cd t fr tt W)
          have KI := hide (fun W => l01In ti t (t + 1) W)
          clear q0 q3 hw1 b1
          obtain ⟨p0, p1, p2, p3⟩ := unhide hnb
          go_upto_region 12 with fail
          clear p0 p1 p2 p3 c0 c1 c2 c3
          obtain ⟨p0, p1, p2, p3⟩ := unhide HN1
          go_wp2_with fail
          clear p0 p1 p2 p3
          generalize wr.alloc (.cells #[.int .i64 fr, .int .i64 tt, .int .i64 ti, .string bs] 73) = w1 at *
          refine (unhide KA _).mono ?_
          rintro e w2 ⟨rfl, b2⟩
          have HN2 := hide ((unhide HN1).below b2)
          have HR2 := hide ((unhide HR1).below b2)
          have HB2 := hide ((unhide HB1).trans (b2.mono (unhide HB1).size))
          have q2 := (b2.cell (p := ⟨wr.heap.size, 2, none⟩) (unhide HW1)).trans (unhide Q0)
          have q3 := (b2.cell (p := ⟨wr.heap.size, 3, none⟩) (unhide HW1)).trans (unhide Q3)
          clear Q0 Q3 HW1 HN1 HR1 HB1 b2 KA hnb hrm hbl
          cases hap : apB fr tt j
          · have EB := hide (unhide HNO (by rw [unhide HFK, hap]; rfl))
            clear hap
            obtain ⟨p0, p1, p2, p3⟩ := unhide HN2
            go_wp2_with fail
            go_ret
            exact ⟨ret_bool (by rw [unhide E2, unhide EB]), unhide HB2⟩
          rw [hap] at HFK
          clear hap
          cases hti : inB ti t (t + 1)
          · rw [hti] at KI
            have EB := hide (unhide HNO (by rw [unhide HFK, hti]; rfl))
            clear hti
            obtain ⟨p0, p1, p2, p3⟩ := unhide HN2
            go_wp2_with (go_at_call 43; refine (unhide KI _).mono ?_; rintro e w_ ⟨rfl, rfl⟩)
            go_ret
            exact ⟨ret_bool (by rw [unhide E2, unhide EB]), unhide HB2⟩
          rw [hti] at KI HFK
          clear hti
          by_cases h900 : (900 : Int) < (bs.size : Int)
          · have EB := hide (unhide HNO (by rw [unhide HFK]; have : decide ((bs.size : Int) ≤ 900) = false := (by simp; omega); rw [this]; rfl))
            obtain ⟨p0, p1, p2, p3⟩ := unhide HN2
            go_wp2_with (go_at_call 43; refine (unhide KI _).mono ?_; rintro e w_ ⟨rfl, rfl⟩)
            go_ret
            exact ⟨ret_bool (by rw [unhide E2, unhide EB]), unhide HB2⟩
          · have OK := hide (unhide HUP (by rw [unhide HFK]; have : decide ((bs.size : Int) ≤ 900) = true := (by simp; omega); rw [this]; rfl))
            clear HNO HUP HFK
            obtain ⟨p0, p1, p2, p3⟩ := unhide HN2
            go_wp2_with (go_at_call 43; refine (unhide KI _).mono ?_; rintro e w_ ⟨rfl, rfl⟩)
            clear p0 p1 p2 p3 q2 q3 KI
            go_roundw
            case rel => exact ⟨q + 1, by omega, by go_num, OK, HB2, HN2, HR2⟩
            case measure => simp [intOf]; omega
        · obtain rfl : q = K := by omega
          have EA := hide (unhide HFY (unhide hall))
          obtain ⟨p0, p1, p2, p3⟩ := unhide hnb
          go_wp2_with fail
          go_ret
          exact ⟨ret_bool (by rw [unhide E2, unhide EA]), unhide hbl⟩
end Nt
end Go.Proofs.YtfooahhdikobeaaGreat
namespace Go.Proofs.YtfooahhdikobeaaGreat
open Go.ChangeShapes Go.WideShapes Go.ChangeAt Go.RowKit
set_option linter.unusedVariables false
set_option linter.unusedSimpArgs false
set_option maxRecDepth 100000
attribute [local go_sem ↓] Go.wp_at_zero Go.wp_at_succ
namespace Nt
open W1 Rt
theorem drewI {w : World} {a : Option Addr} {cs : List Int} (h : In.RM w a cs) : In.RM w.drew a cs := h
theorem execNB {op : Oper} {a : Act} {w : World} (x : Operand) (ho : op.op = .load 31 x) {b : Nat} {v1 v2 v3 : Value} {t : Int} (hx : a.eval x = .pointer (some ⟨b, 0, none⟩)) (h : NB w b v1 v2 v3 t) : (execOp a.eval op).run Tryz.prog w = .ok (.value (.agg #[v1, v2, v3, .int .i64 t])) w := by
  unfold execOp
  simp only [ho, hx, Instr.loadAt, Instr.sureAddr, Sem.run_bind, Sem.run_pure, Result.andThen_ok, run_loadVar_mid w b 0 31 [v1, v2, v3, .int .i64 t] _ (nb_range h) infoN.1 infoN.2.1 infoN.2.2]
theorem infoNW : Tryz.prog.underlying 26 = some (Tryz.prog.underlying 26).get! ∧ ((Tryz.prog.underlying 26).get!).isRow = true ∧ (Tryz.prog.info? 26).map (·.size) = some 4 := ⟨by kernel_rfl, by kernel_rfl, by kernel_rfl⟩
theorem execNW {op : Oper} {a : Act} {w : World} (x : Operand) (ho : op.op = .load 26 x) {b : Nat} {v1 v2 v3 : Value} {t : Int} (hx : a.eval x = .pointer (some ⟨b, 0, none⟩)) (h : NB w b v1 v2 v3 t) : (execOp a.eval op).run Tryz.prog w = .ok (.value (.agg #[v1, v2, v3, .int .i64 t])) w := by
  unfold execOp
  simp only [ho, hx, Instr.loadAt, Instr.sureAddr, Sem.run_bind, Sem.run_pure, Result.andThen_ok, run_loadVar_mid w b 0 26 [v1, v2, v3, .int .i64 t] _ (nb_range h) infoNW.1 infoNW.2.1 infoNW.2.2]
end Nt
end Go.Proofs.YtfooahhdikobeaaGreat
namespace Go.Proofs.YtfooahhdikobeaaGreat
open Go.ChangeShapes Go.WideShapes Go.ChangeAt Go.RowKit
set_option linter.unusedVariables false
set_option linter.unusedSimpArgs false
set_option maxRecDepth 100000
attribute [local go_sem ↓] Go.wp_at_zero Go.wp_at_succ
namespace Nt
open W1 Rt
theorem netB_n {ms : List Rm} {cs : List Int} {fs : List Fm.R} {t : Int} (h : netB ms cs fs t = true) : 1 ≤ ms.length ∧ ms.length ≤ 6 ∧ cs.length = ms.length * ms.length ∧ 0 ≤ t ∧ t ≤ 100000 := by
  unfold netB costB at h
  simp only [Bool.and_eq_true, beq_iff_eq] at h
  obtain ⟨ht, hn, _, ⟨hc, _⟩, _⟩ := h
  simp [inB] at ht hn
  exact ⟨by omega, by omega, hc, ht.1, ht.2⟩
def pcC (ok bx bz : Bool) : Int := if ok = true then (if (bx && bz) = true then 0 else 4) else 1
set_option maxHeartbeats 8000000 in
theorem pairCode (a b d : Option Addr) (ca cb cd : Nat) (t : Int) (ms : List Rm) (ps : List Pl) (cs : List Int) (fs : List Fm.R) (x y : Int) (w : World) (hm : ms.length ≤ 1048576) (hc : cs.length ≤ 1048576) (hf : fs.length ≤ 1048576) (hs : ∀ i, i < ms.length → Sm (ms.getD i Rm.zero)) (hg : ∀ i, i < fs.length → (fs.getD i Fm.R.zero).bs.size ≤ maxLen) (hr : NR w a ms ps) (hi : In.RM w b cs) (hz : Fm.RM w d fs) :
    Calls Tryz.prog 66 #[.agg #[.slice a ms.length ca, .slice b cs.length cb, .slice d fs.length cd, .int .i64 t], .int .i64 x, .int .i64 y] w fun e w' => e = .returned (.int .i64 (pcC (netB ms cs fs t) (inB x 1 ms.length) (inB y 1 ms.length))) ∧ Below w.heap.size w w' := by
  obtain ⟨bx, hbx⟩ : ∃ bx, inB x 1 ms.length = bx := ⟨_, rfl⟩
  obtain ⟨bz, hbz⟩ : ∃ bz, inB y 1 ms.length = bz := ⟨_, rfl⟩
  rw [hbx, hbz]
  have HBX := hide hbx
  have HBZ := hide hbz
  clear hbx hbz
  have HX0 := hide (nb_new w (.slice a ms.length ca) (.slice b cs.length cb) (.slice d fs.length cd) t 31)
  have b0 := bel_new w (.cells #[.slice a ms.length ca, .slice b cs.length cb, .slice d fs.length cd, .int .i64 t] 31)
  have HB0 := hide b0
  have HI0 := hide (hi.below b0)
  have KN := hide (implNet a b d ca cb cd t ms ps cs fs _ hm hc hf hs hg (hr.below b0) (hi.below b0) (hz.below b0))
  have HNN := hide (fun h => netB_n (ms := ms) (cs := cs) (fs := fs) (t := t) h)
  clear b0 hr hi hz hs hg
  generalize netB ms cs fs t = ok at *
  go_enter Tryz.func66, Tryz.ntmps66
  go_wp2_with fail
  generalize w.alloc (.cells #[.slice a ms.length ca, .slice b cs.length cb, .slice d fs.length cd, .int .i64 t] 31) = w0 at *
  refine (unhide KN).mono ?_
  rintro e w1 ⟨rfl, b1⟩
  have HX1 := hide ((unhide HX0).below b1)
  have HI1 := hide ((unhide HI0).below b1)
  have HB1 := hide ((unhide HB0).trans (b1.mono (unhide HB0).size))
  clear HX0 HI0 HB0 KN b1
  cases ok
  · go_wp2_with fail
    go_ret
    exact ⟨rfl, unhide HB1⟩
  obtain ⟨p0, p1, p2, p3⟩ := unhide HX1
  go_wp2_with fail
  clear p0 p1 p2 p3
  refine (isRouter a b d ms.length cs.length fs.length ca cb cd t x _).mono ?_
  rintro e w2 ⟨rfl, b2⟩
  have HX2 := hide ((unhide HX1).below b2)
  have HI2 := hide ((unhide HI1).below b2)
  have HB2 := hide ((unhide HB1).trans (b2.mono (unhide HB1).size))
  clear HX1 HI1 HB1 b2
  rw [unhide HBX]
  cases bx
  · go_wp2_with fail
    go_ret
    exact ⟨rfl, unhide HB2⟩
  obtain ⟨p0, p1, p2, p3⟩ := unhide HX2
  go_wp2_with fail
  clear p0 p1 p2 p3
  refine (isRouter a b d ms.length cs.length fs.length ca cb cd t y _).mono ?_
  rintro e w3 ⟨rfl, b3⟩
  have HX3 := hide ((unhide HX2).below b3)
  have HI3 := hide ((unhide HI2).below b3)
  have HB3 := hide ((unhide HB2).trans (b3.mono (unhide HB2).size))
  clear HX2 HI2 HB2 b3
  rw [unhide HBZ]
  cases bz
  · go_wp2_with fail
    go_ret
    exact ⟨rfl, unhide HB3⟩
  · go_wp2_with fail
    go_ret
    exact ⟨rfl, unhide HB3⟩
end Nt
end Go.Proofs.YtfooahhdikobeaaGreat
namespace Go.Proofs.YtfooahhdikobeaaGreat
open Go.ChangeShapes Go.WideShapes Go.ChangeAt Go.RowKit
set_option linter.unusedVariables false
set_option linter.unusedSimpArgs false
set_option maxRecDepth 100000
attribute [local go_sem ↓] Go.wp_at_zero Go.wp_at_succ
namespace Ro
open W1
structure R where
  ds : Int
  nx : Int
  co : Int
  hp : Int
def R.zero : R := ⟨0, 0, 0, 0⟩
/-- The value of one. -/
def R.value (m : R) : Value := .agg #[.int .i64 m.ds, .int .i64 m.nx, .int .i64 m.co, .int .i64 m.hp]
/-- The cells of one, of a list of them. -/
def R.cells (m : R) : List Value := [.int .i64 m.ds, .int .i64 m.nx, .int .i64 m.co, .int .i64 m.hp]
def flat (ms : List R) : List Value := ms.flatMap R.cells
/-- The cells of one that lies at an address. -/
def At (w : World) (g o : Nat) (m : R) : Prop :=
  w.cell? ⟨g, o, none⟩ = some (.int .i64 m.ds) ∧ w.cell? ⟨g, o + 1, none⟩ = some (.int .i64 m.nx) ∧ w.cell? ⟨g, o + 2, none⟩ = some (.int .i64 m.co) ∧ w.cell? ⟨g, o + 3, none⟩ = some (.int .i64 m.hp)
/-- The slice at a reads as these. -/
def RM (w : World) (a : Option Addr) (ms : List R) : Prop :=
  ms = [] ∨ ∃ g off, a = some ⟨g, off, none⟩ ∧ ∀ i, i < ms.length → At w g (off + i * 4) (ms.getD i R.zero)
theorem At.below {w w' : World} {g o : Nat} {m : R} (h : At w g o m) (hb : Below w.heap.size w w') : At w' g o m := by
  have hg : g < w.heap.size := World.block_lt_of_cell? _ _ h.1
  obtain ⟨h0, h1, h2, h3⟩ := h
  refine ⟨?_, ?_, ?_, ?_⟩ <;> (rw [hb.cell hg]; assumption)
theorem At.drew {w : World} {g o : Nat} {m : R} (h : At w g o m) : At w.drew g o m := h
theorem RM.below {w w' : World} {a : Option Addr} {ms : List R} (h : RM w a ms) (hb : Below w.heap.size w w') : RM w' a ms := by
  rcases h with h | ⟨g, off, rfl, hc⟩
  · exact .inl h
  · exact .inr ⟨g, off, rfl, fun i hi => (hc i hi).below hb⟩
theorem RM.drew {w : World} {a : Option Addr} {ms : List R} (h : RM w a ms) : RM w.drew a ms := h
theorem RM.at {w : World} {g off : Nat} {ms : List R} {i : Nat} (h : RM w (some ⟨g, off, none⟩) ms) (hi : i < ms.length) : At w g (off + i * 4) (ms.getD i R.zero) := by
  rcases h with rfl | ⟨g', off', e, hc⟩
  · simp at hi
  · cases e; exact hc i hi
theorem RM.form {w : World} {a : Option Addr} {ms : List R} (h : RM w a ms) (h0 : 0 < ms.length) : ∃ g off, a = some ⟨g, off, none⟩ := by
  rcases h with rfl | ⟨g, off, e, _⟩
  · simp at h0
  · exact ⟨g, off, e⟩
/-- A part of a list. -/
theorem RM.part {w : World} {g off : Nat} {ms : List R} (h : RM w (some ⟨g, off, none⟩) ms) (i n : Nat) : RM w (some ⟨g, off + i * 4, none⟩) ((ms.drop i).take n) := by
  refine .inr ⟨g, off + i * 4, rfl, fun j hj => ?_⟩
  have hl : j < n ∧ i + j < ms.length := by simp at hj; omega
  have := h.at (i := i + j) hl.2
  rw [show off + (i + j) * 4 = off + i * 4 + j * 4 by omega] at this
  have e : ((ms.drop i).take n).getD j R.zero = ms.getD (i + j) R.zero := by
    rw [List.getD_eq_getElem?_getD, List.getD_eq_getElem?_getD, List.getElem?_take_of_lt hl.1, List.getElem?_drop]
  rw [e]; exact this
theorem getD_mem {ms : List R} {j : Nat} (h : j < ms.length) : ms.getD j R.zero ∈ ms := by rw [List.getD_eq_getElem?_getD, List.getElem?_eq_getElem h]; exact List.getElem_mem h
theorem R.len (m : R) : m.cells.length = 4 := rfl
theorem flat_len (ms : List R) : (flat ms).length = ms.length * 4 := by
  unfold flat
  induction ms with
  | nil => rfl
  | cons m t ih => rw [List.flatMap_cons, List.length_append, ih, R.len, List.length_cons]; omega
theorem flat_append (xs ys : List R) : flat (xs ++ ys) = flat xs ++ flat ys := by unfold flat; rw [List.flatMap_append]
theorem flat_get : ∀ (ms : List R) (i j : Nat), j < 4 → i < ms.length → (flat ms)[i * 4 + j]? = (ms.getD i R.zero).cells[j]?
  | [], i, j, hj, hi => by simp at hi
  | m :: t, 0, j, hj, hi => by
    unfold flat
    rw [List.flatMap_cons, Nat.zero_mul, Nat.zero_add, List.getElem?_append_left (by rw [R.len]; exact hj)]; rfl
  | m :: t, i + 1, j, hj, hi => by
    have ih := flat_get t i j hj (by simpa using hi)
    unfold flat at ih ⊢
    rw [List.flatMap_cons, show (i + 1) * 4 + j = m.cells.length + (i * 4 + j) by rw [R.len]; omega, List.getElem?_append_right (by omega), Nat.add_sub_cancel_left, ih]; rfl
theorem cell_one {m : R} {u : Value} (h : u ∈ m.cells) : u.oneCell' = true := by
  unfold R.cells at h; simp only [List.mem_cons, List.not_mem_nil, or_false] at h
  rcases h with rfl | rfl | rfl | rfl <;> rfl
theorem flat_one_cell {ms : List R} {u : Value} (h : u ∈ flat ms) : u.oneCell' = true := by
  obtain ⟨m, _, hu⟩ := List.mem_flatMap.1 h; exact cell_one hu
theorem at_cells {w : World} {g o : Nat} {m : R} (h : At w g o m) : ∀ j u, m.cells[j]? = some u → w.cell? ⟨g, o + j, none⟩ = some u := by
  intro j u hj
  match j, hj with
  | 0, hj => simp [R.cells] at hj; subst hj; exact h.1
  | 1, hj => simp [R.cells] at hj; subst hj; exact h.2.1
  | 2, hj => simp [R.cells] at hj; subst hj; exact h.2.2.1
  | 3, hj => simp [R.cells] at hj; subst hj; exact h.2.2.2
  | n + 4, hj => simp [R.cells] at hj
theorem plain_add (b off k : Nat) : (⟨b, off, none⟩ : Addr).add k = ⟨b, off + k, none⟩ := by unfold Addr.add; split <;> simp_all
/-- A list that is read, cell by cell. -/
theorem RM.cells {w : World} {g off : Nat} {ms : List R} (h : RM w (some ⟨g, off, none⟩) ms) : ∀ j u, (flat ms)[j]? = some u → w.cell? ((⟨g, off, none⟩ : Addr).add j) = some u := by
  intro j u hj
  have hl : j < ms.length * 4 := by
    rw [← flat_len]; exact (List.getElem?_eq_some_iff.1 hj).1
  have hi : j / 4 < ms.length := by omega
  have e : j / 4 * 4 + j % 4 = j := by omega
  rw [← e, flat_get ms _ _ (by omega) hi] at hj
  rw [plain_add, ← e, ← Nat.add_assoc]
  exact at_cells (h.at hi) _ _ hj
/-- A row of one's own that holds a list. -/
theorem at_own {w : World} {base g n cap : Nat} {ms : List R} (hn : n = ms.length) (h : w.ownsRow base 87 4 (.slice (some ⟨g, 0, none⟩) n cap) n (flat ms)) (i : Nat) (hi : i < ms.length) : At w g (i * 4) (ms.getD i R.zero) := by
  have hc : ∀ j, j < 4 → ∀ u, (ms.getD i R.zero).cells[j]? = some u → w.cell? ⟨g, i * 4 + j, none⟩ = some u := by
    intro j hj u hu
    have := h.cells (g := g) rfl (i * 4 + j) u (by rw [flat_get ms i j hj hi]; exact hu)
    rw [plain_add, Nat.zero_add] at this
    exact this
  exact ⟨hc 0 (by omega) _ rfl, hc 1 (by omega) _ rfl, hc 2 (by omega) _ rfl, hc 3 (by omega) _ rfl⟩

/-- One laid at an address. -/
def put (w : World) (g o : Nat) (m : R) : World := (((w.setCell ⟨g, o, none⟩ (.int .i64 m.ds)).setCell ⟨g, o + 1, none⟩ (.int .i64 m.nx)).setCell ⟨g, o + 2, none⟩ (.int .i64 m.co)).setCell ⟨g, o + 3, none⟩ (.int .i64 m.hp)
theorem put_below {B : Nat} {w0 w : World} {g o : Nat} {m : R} (h : Below B w0 w) (hg : B ≤ g) : Below B w0 (put w g o m) := by
  unfold put
  exact (((h.setCell (p := ⟨g, o, none⟩) hg _).setCell (p := ⟨g, o + 1, none⟩) hg _).setCell (p := ⟨g, o + 2, none⟩) hg _).setCell (p := ⟨g, o + 3, none⟩) hg _
theorem put_size (w : World) (g o : Nat) (m : R) : (put w g o m).heap.size = w.heap.size := by simp [put, World.setCell]
theorem put_frozen (w : World) (g o : Nat) (m : R) (a : Addr) : (put w g o m).frozen? a = w.frozen? a := by
  unfold put; rw [World.frozen?_setCell, World.frozen?_setCell, World.frozen?_setCell, World.frozen?_setCell]
theorem put_far (w : World) (g o : Nat) (m : R) {b q : Nat} (h : b ≠ g ∨ q < o ∨ o + 4 ≤ q) : (put w g o m).cell? ⟨b, q, none⟩ = w.cell? ⟨b, q, none⟩ := by
  unfold put
  rw [World.cell?_setCell_other _ _ _ _ (by intro e; cases e <;> omega), World.cell?_setCell_other _ _ _ _ (by intro e; cases e <;> omega), World.cell?_setCell_other _ _ _ _ (by intro e; cases e <;> omega), World.cell?_setCell_other _ _ _ _ (by intro e; cases e <;> omega)]
theorem put_at (w : World) (g o : Nat) (m : R) (h : ∀ k, k < 4 → (w.cell? ⟨g, o + k, none⟩).isSome = true) : At (put w g o m) g o m := by
  obtain ⟨v0, h0⟩ := Option.isSome_iff_exists.1 (h 0 (by omega))
  obtain ⟨v1, h1⟩ := Option.isSome_iff_exists.1 (h 1 (by omega))
  obtain ⟨v2, h2⟩ := Option.isSome_iff_exists.1 (h 2 (by omega))
  obtain ⟨v3, h3⟩ := Option.isSome_iff_exists.1 (h 3 (by omega))
  rw [Nat.add_zero] at h0
  have n : ∀ {w : World} {v : Value} {a b : Nat}, a ≠ b → (w.setCell ⟨g, a, none⟩ v).cell? ⟨g, b, none⟩ = w.cell? ⟨g, b, none⟩ := fun {w v a b} e => World.cell?_setCell_other _ _ _ _ (by intro h; cases h; exact e rfl)
  unfold put
  refine ⟨?_, ?_, ?_, ?_⟩
  · rw [n (by omega), n (by omega), n (by omega), World.cell?_setCell_same _ _ _ h0]
  · rw [n (by omega), n (by omega), World.cell?_setCell_same _ _ _ ((n (by omega)).trans h1)]
  · rw [n (by omega), World.cell?_setCell_same _ _ _ ((n (by omega)).trans ((n (by omega)).trans h2))]
  · rw [World.cell?_setCell_same _ _ _ ((n (by omega)).trans ((n (by omega)).trans ((n (by omega)).trans h3)))]
theorem put_some (w : World) (g o : Nat) (m : R) (b q : Nat) (h : (w.cell? ⟨b, q, none⟩).isSome = true) : ((put w g o m).cell? ⟨b, q, none⟩).isSome = true := by
  obtain ⟨v, y0⟩ := Option.isSome_iff_exists.1 h
  unfold put
  obtain ⟨v1, y1⟩ := cell?_setCell_some (p := ⟨g, o, none⟩) (x := .int .i64 m.ds) y0
  obtain ⟨v2, y2⟩ := cell?_setCell_some (p := ⟨g, o + 1, none⟩) (x := .int .i64 m.nx) y1
  obtain ⟨v3, y3⟩ := cell?_setCell_some (p := ⟨g, o + 2, none⟩) (x := .int .i64 m.co) y2
  obtain ⟨v4, y4⟩ := cell?_setCell_some (p := ⟨g, o + 3, none⟩) (x := .int .i64 m.hp) y3
  rw [y4]; rfl
/-- The first j stand at the head of block g, whose n times 4 cells may be written. -/
def Upto (w : World) (g n j : Nat) (ms : List R) : Prop :=
  (∀ i, i < j → At w g (i * 4) (ms.getD i R.zero)) ∧ ∀ i, i < n * 4 → (w.cell? ⟨g, i, none⟩).isSome = true ∧ w.frozen? ⟨g, i, none⟩ = false
theorem Upto.step {w : World} {g n j : Nat} {ms : List R} (h : Upto w g n j ms) (hj : j < n) : Upto (put w g (j * 4) (ms.getD j R.zero)) g n (j + 1) ms := by
  refine ⟨fun i hi => ?_, fun i hi => ⟨put_some _ _ _ _ _ _ (h.2 i hi).1, by rw [put_frozen]; exact (h.2 i hi).2⟩⟩
  by_cases e : i = j
  · subst e
    exact put_at _ _ _ _ (fun k hk => (h.2 _ (by omega)).1)
  · obtain ⟨h0, h1, h2, h3⟩ := h.1 i (by omega)
    exact ⟨(put_far _ _ _ _ (by omega)).trans h0, (put_far _ _ _ _ (by omega)).trans h1, (put_far _ _ _ _ (by omega)).trans h2, (put_far _ _ _ _ (by omega)).trans h3⟩
theorem Upto.below {w w' : World} {g n j : Nat} {ms : List R} (h : Upto w g n j ms) (hb : Below w.heap.size w w') (hg : g < w.heap.size) : Upto w' g n j ms :=
  ⟨fun i hi => (h.1 i hi).below hb, fun i hi => ⟨by rw [hb.cell (p := ⟨g, i, none⟩) hg]; exact (h.2 i hi).1, by rw [hb.frozen (p := ⟨g, i, none⟩) hg]; exact (h.2 i hi).2⟩⟩
theorem Upto.of_block {w w' : World} {g n j : Nat} {ms : List R} (h : Upto w g n j ms) (hb : w'.heap[g]? = w.heap[g]?) : Upto w' g n j ms := by
  have c : ∀ q, w'.cell? ⟨g, q, none⟩ = w.cell? ⟨g, q, none⟩ := fun q => World.cell?_of_block (a := ⟨g, q, none⟩) hb
  have f : ∀ q, w'.frozen? ⟨g, q, none⟩ = w.frozen? ⟨g, q, none⟩ := fun q => World.frozen?_of_block (a := ⟨g, q, none⟩) hb
  refine ⟨fun i hi => ?_, fun i hi => ⟨by rw [c]; exact (h.2 i hi).1, by rw [f]; exact (h.2 i hi).2⟩⟩
  obtain ⟨h0, h1, h2, h3⟩ := h.1 i hi
  exact ⟨(c _).trans h0, (c _).trans h1, (c _).trans h2, (c _).trans h3⟩
theorem rm_of {w : World} {g n : Nat} {ms : List R} (h : Upto w g n ms.length ms) : RM w (some ⟨g, 0, none⟩) ms := .inr ⟨g, 0, rfl, fun i hi => by rw [Nat.zero_add]; exact h.1 i hi⟩
theorem upto_own {w : World} {base g cap n : Nat} {ms : List R} (hn : n = ms.length) (h : w.ownsRow base 87 4 (.slice (some ⟨g, 0, none⟩) n cap) n (flat ms)) : Upto w g n n ms := by
  subst hn
  refine ⟨fun i hi => at_own rfl h i hi, fun i hi => ?_⟩
  obtain ⟨_, ⟨e, _⟩ | ⟨g', cap', cur, e, _, hg, h1, _, h3, _⟩⟩ := h
  · cases e
  · cases e
    have hlt : i < cur.size := by rw [h3]; exact Nat.lt_of_lt_of_le hi (Nat.mul_le_mul_right _ h1)
    refine ⟨?_, ?_⟩
    · simp [World.cell?, hg, hlt]
    · simp [World.frozen?, hg]
/-- A list between two bounds of the heap, in memory that may be written. -/
def Lst (W : World) (a : Option Addr) (ms : List R) (lo hi : Nat) : Prop := ms = [] ∨ ∃ g, a = some ⟨g, 0, none⟩ ∧ lo ≤ g ∧ g < hi ∧ g < W.heap.size ∧ Upto W g ms.length ms.length ms
theorem Lst.rm {W : World} {a : Option Addr} {ms : List R} {lo hi : Nat} (h : Lst W a ms lo hi) : RM W a ms := by
  rcases h with rfl | ⟨g, rfl, _, _, _, hu⟩
  · exact .inl rfl
  · exact rm_of hu
theorem Lst.below {W W' : World} {a : Option Addr} {ms : List R} {lo hi : Nat} (h : Lst W a ms lo hi) (hb : Below W.heap.size W W') : Lst W' a ms lo hi := by
  rcases h with rfl | ⟨g, rfl, h1, h2, h3, hu⟩
  · exact .inl rfl
  · exact .inr ⟨g, rfl, h1, h2, Nat.lt_of_lt_of_le h3 hb.size, hu.below hb h3⟩
theorem Lst.mono {W : World} {a : Option Addr} {ms : List R} {lo hi lo' hi' : Nat} (h : Lst W a ms lo hi) (h1 : lo' ≤ lo) (h2 : hi ≤ hi') : Lst W a ms lo' hi' := by
  rcases h with rfl | ⟨g, rfl, h3, h4, h5, hu⟩
  · exact .inl rfl
  · exact .inr ⟨g, rfl, by omega, by omega, h5, hu⟩
theorem Lst.but {W W' : World} {a : Option Addr} {ms : List R} {lo hi : Nat} {p : Nat → Prop} (h : Lst W a ms lo hi) (hs : W.heap.size ≤ W'.heap.size) (hb : ∀ k, k < W.heap.size → p k → W'.heap[k]? = W.heap[k]?) (hp : ∀ k, lo ≤ k → k < hi → p k) : Lst W' a ms lo hi := by
  rcases h with rfl | ⟨g, rfl, h1, h2, h3, hu⟩
  · exact .inl rfl
  · exact .inr ⟨g, rfl, h1, h2, Nat.lt_of_lt_of_le h3 hs, hu.of_block (hb g h3 (hp g h1 h2))⟩
/-- The same of a value. -/
def LstV (W : World) (v : Value) (ms : List R) (lo hi : Nat) : Prop := ∃ a c, v = .slice a ms.length c ∧ Lst W a ms lo hi
theorem LstV.below {W W' : World} {v : Value} {ms : List R} {lo hi : Nat} (h : LstV W v ms lo hi) (hb : Below W.heap.size W W') : LstV W' v ms lo hi := by
  obtain ⟨a, c, e, hl⟩ := h; exact ⟨a, c, e, hl.below hb⟩
theorem LstV.mono {W : World} {v : Value} {ms : List R} {lo hi lo' hi' : Nat} (h : LstV W v ms lo hi) (h1 : lo' ≤ lo) (h2 : hi ≤ hi') : LstV W v ms lo' hi' := by
  obtain ⟨a, c, e, hl⟩ := h; exact ⟨a, c, e, hl.mono h1 h2⟩
theorem lstV_nil (W : World) (a : Option Addr) (c lo hi : Nat) : LstV W (.slice a 0 c) [] lo hi := ⟨a, c, rfl, .inl rfl⟩
/-- A row of one's own as such a list. -/
theorem lst_own {w : World} {base n : Nat} {v : Value} {ms : List R} (hn : n = ms.length) (h : w.ownsRow base 87 4 v n (flat ms)) : LstV w v ms base w.heap.size := by
  unfold LstV
  have h' := h
  obtain ⟨hl, ⟨rfl, h0⟩ | ⟨g, cap, cur, rfl, hb, hg, _, _, _, _⟩⟩ := h
  · exact ⟨none, 0, by rw [← hn, h0], .inl (List.eq_nil_of_length_eq_zero (by omega))⟩
  · have hlt : g < w.heap.size := by
      rcases Nat.lt_or_ge g w.heap.size with h | h
      · exact h
      · rw [Array.getElem?_eq_none h] at hg; cases hg
    refine ⟨_, cap, by rw [hn], .inr ⟨g, rfl, hb, hlt, hlt, ?_⟩⟩
    have := upto_own hn h'
    rw [hn] at this; exact this


theorem infoR : ∃ i, Tryz.prog.info? 87 = some i ∧ i.zero = some (Value.agg #[.int .i64 0, .int .i64 0, .int .i64 0, .int .i64 0]) ∧ i.size = 4 ∧ i.bytes = 32 := by
  have h : (Tryz.prog.info? 87).map (fun i => (i.zero, i.size, i.bytes)) = some (some (Value.agg #[.int .i64 0, .int .i64 0, .int .i64 0, .int .i64 0]), 4, 32) := by kernel_rfl
  obtain ⟨i, hi, he⟩ := Option.map_eq_some_iff.1 h
  simp only [Prod.mk.injEq] at he
  exact ⟨i, hi, he.1, he.2.1, he.2.2⟩

/-- append of a list to a row of one's own, as a walk meets it. -/
theorem wpList_apS {ops : Array Oper} {rest : List Oper} {o : Oper} {a : Act} {Q : Exit → Act → World → Prop} {w : World} {base : Nat} {v : Value} {xs : List R} (hown : w.ownsRow base 87 4 v xs.length (flat xs)) (g off m c : Nat) (ms : List R) (hm : ms.length = m) (hr : RM w (some ⟨g, off, none⟩) ms) (hlen : xs.length + ms.length ≤ 4194304) (hbase : base ≤ w.heap.size)
    (hgd : o.guard = none) (s x : Operand) (ho : o.op = .call { callee := .builtin .append, args := #[s, x], argTypes := #[88, 88] }) (hs : a.eval s = v) (hx : a.eval x = .slice (some ⟨g, off, none⟩) m c)
    (h : ∀ v' w', w'.ownsRow base 87 4 v' (xs ++ ms).length (flat (xs ++ ms)) → w.grownBy w' v.ownBlock → wpList Tryz.prog ops Q rest (a.put o.dst v') w') : wpList Tryz.prog ops Q (o :: rest) a w := by
  subst hm
  obtain ⟨i0, hi, hz0, hz1, hz2⟩ := infoR
  refine wpList_append_own w hgd s x _ ho base 87 i0 _ 4 32 Tryz.underlying88 hi hz0 hz1 hz2 rfl (by decide) v xs.length (flat xs) hs hown ⟨g, off, none⟩ ms.length c (flat ms) hx (flat_len ms) hr.cells (fun u hu => flat_one_cell hu) (by unfold maxLen; omega) (by omega) hbase (fun v' w' h1 h2 _ => ?_)
  refine h v' w' ?_ h2
  rw [List.length_append, flat_append]; exact h1
/-- The same, inside a region that draws its order. -/
theorem wp_apS {o : Oper} {a : Act} {K : Act → World → Prop} {Q : Exit → Act → World → Prop} {w : World} {base d : Nat} {v : Value} {xs : List R} (hown : w.ownsRow base 87 4 v xs.length (flat xs)) (g off m c : Nat) (ms : List R) (hm : ms.length = m) (hr : RM w (some ⟨g, off, none⟩) ms) (hlen : xs.length + ms.length ≤ 4194304) (hbase : base ≤ w.heap.size)
    (s x : Operand) (ho : o.op = .call { callee := .builtin .append, args := #[s, x], argTypes := #[88, 88] }) (hd : o.dst = some d) (hs : a.eval s = v) (hx : a.eval x = .slice (some ⟨g, off, none⟩) m c)
    (h : ∀ v' w', w'.ownsRow base 87 4 v' (xs ++ ms).length (flat (xs ++ ms)) → w.grownBy w' v.ownBlock → K (a.put (some d) v') w') : o.wp Tryz.prog a w K Q := by
  subst hm
  obtain ⟨i0, hi, hz0, hz1, hz2⟩ := infoR
  refine wp_append_own w s x _ ho base 87 i0 _ 4 32 Tryz.underlying88 hi hz0 hz1 hz2 rfl (by decide) v xs.length (flat xs) hs hown ⟨g, off, none⟩ ms.length c (flat ms) hx (flat_len ms) hr.cells (fun u hu => flat_one_cell hu) (by unfold maxLen; omega) (by omega) hbase (fun v' w' h1 h2 _ => ?_)
  rw [hd]
  refine h v' w' ?_ h2
  rw [List.length_append, flat_append]; exact h1
theorem rm_new (w : World) (m : R) : RM (w.alloc (.cells #[.int .i64 m.ds, .int .i64 m.nx, .int .i64 m.co, .int .i64 m.hp] 87)) (some ⟨w.heap.size, 0, none⟩) [m] := by
  refine .inr ⟨_, _, rfl, fun i hi => ?_⟩
  obtain rfl : i = 0 := by simp at hi; omega
  refine ⟨?_, ?_, ?_, ?_⟩ <;> simp [World.cell?_alloc_new]
theorem own_empty (w : World) (base : Nat) (hb : base ≤ w.heap.size) : (w.alloc (.cells #[] 87)).ownsRow base 87 4 (.slice (some ⟨w.heap.size, 0, none⟩) 0 0) ([] : List R).length (flat []) := World.ownsRow_made w #[] 0 hb (Nat.zero_le _) (by simp)
theorem own_nil (w : World) (base : Nat) : w.ownsRow base 87 4 (.slice none 0 0) ([] : List R).length (flat []) := World.ownsRow_nil w base _ _
theorem below_own {B : Nat} {w0 w w' : World} {base : Nat} {v : Value} {n : Nat} {xs : List Value} (h : Below B w0 w) (ho : w.ownsRow base 87 4 v n xs) (hg : w.grownBy w' v.ownBlock) (hb : B ≤ base) (hB : B ≤ w.heap.size) : Below B w0 w' :=
  h.grown hg hB (fun k hk => Nat.le_trans hb (ho.lt k hk).1)



/-- The marks from K on. -/
def markR (K : Int) : R := ⟨K, K + 1, K + 1 + 1, K + 1 + 1 + 1⟩
def marks (K : Int) (n : Nat) : List R := (List.range n).map fun t : Nat => markR (K + 4 * (t : Int))
theorem marks_len (K : Int) (n : Nat) : (marks K n).length = n := by simp [marks]
theorem marks_at (K : Int) (n t : Nat) (h : t < n) : (marks K n).getD t R.zero = markR (K + 4 * (t : Int)) := by
  unfold marks
  rw [List.getD_eq_getElem?_getD, List.getElem?_map, List.getElem?_range h]; rfl
theorem grown_set {w w1 : World} {g o : Nat} {v : Value} (h : w.grownBy w1 (some g)) : w.grownBy (w1.setCell ⟨g, o, none⟩ v) (some g) :=
  ⟨h.os, h.tape, h.output, by have := h.size; simp [World.setCell]; exact this, fun k hk hne => (Below.heap_setCell _ _ _ _ (fun e => hne (by rw [e]))).trans (h.block k hk hne)⟩
theorem grown_put {w w1 : World} {g o : Nat} {m : R} (h : w.grownBy w1 (some g)) : w.grownBy (put w1 g o m) (some g) := grown_set (grown_set (grown_set (grown_set (h))))

end Ro
end Go.Proofs.YtfooahhdikobeaaGreat
