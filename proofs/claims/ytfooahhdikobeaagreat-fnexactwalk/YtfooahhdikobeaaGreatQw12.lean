/-
  Of the texts NetWs, NetWt, NetO, NetE, NetHb, NetHc, ExWalkW: what this claim needs of them. (put together by mkprune.py)
-/
import Derived.Test.YtfooahhdikobeaaGreatQw11
import Derived.Deep.Cut
import Derived.Deep.DeepHandedRow
namespace Go.Proofs.YtfooahhdikobeaaGreat
open Go.ChangeShapes Go.WideShapes Go.ChangeAt Go.RowKit
set_option linter.unusedVariables false
set_option linter.unusedSimpArgs false
set_option maxRecDepth 100000
attribute [local go_sem ↓] Go.wp_at_zero Go.wp_at_succ
namespace Nt
open W1 Rt
def lenW : Value → Nat
  | .slice _ m _ => m
  | _ => 0
theorem own_one (w : World) (x : Int) {base : Nat} (hb : base ≤ w.heap.size) : (w.alloc (.cells #[.int .i64 x] 3)).ownsRow base 3 1 (.slice (some ⟨w.heap.size, 0, none⟩) 1 1) [x].length (In.flat [x]) :=
  ⟨rfl, .inr ⟨w.heap.size, 1, #[.int .i64 x], rfl, hb, heap_alloc_new w _, Nat.le_refl _, by decide, rfl, rfl⟩⟩
theorem pc_yes {ok bx bz : Bool} (h : pcC ok bx bz = 0) : ok = true ∧ bx = true ∧ bz = true := by
  unfold pcC at h
  cases ok <;> cases bx <;> cases bz <;> simp at h ⊢
set_option maxHeartbeats 16000000 in
theorem implWL (a b d : Option Addr) (ca cb cd : Nat) (t : Int) (ms : List Rm) (ps : List Pl) (cs : List Int) (fs : List Fm.R) (x y : Int) (w : World) (hm : ms.length ≤ 1048576) (hc : cs.length ≤ 1048576) (hf : fs.length ≤ 1048576) (hs : ∀ i, i < ms.length → Sm (ms.getD i Rm.zero)) (hg : ∀ i, i < fs.length → (fs.getD i Fm.R.zero).bs.size ≤ maxLen) (hr : NR w a ms ps) (hi : In.RM w b cs) (hz : Fm.RM w d fs) :
    Calls Tryz.prog 37 #[.agg #[.slice a ms.length ca, .slice b cs.length cb, .slice d fs.length cd, .int .i64 t], .int .i64 x, .int .i64 y] w fun e w' => ∃ v, e = .returned (.tuple #[v, .int .i64 (wlE (netB ms cs fs t) (inB x 1 ms.length) (inB y 1 ms.length) ms x y)]) ∧ Below w.heap.size w w' ∧ In.LstV w' v (wlA (netB ms cs fs t) (inB x 1 ms.length) (inB y 1 ms.length) ms x y) w.heap.size w'.heap.size := by
  have HX0 := hide (nb_new w (.slice a ms.length ca) (.slice b cs.length cb) (.slice d fs.length cd) t 31)
  have b0 := bel_new w (.cells #[.slice a ms.length ca, .slice b cs.length cb, .slice d fs.length cd, .int .i64 t] 31)
  have HB0 := hide b0
  have KN := hide (pairCode a b d ca cb cd t ms ps cs fs x y _ hm hc hf hs hg (hr.below b0) (hi.below b0) (hz.below b0))
  obtain ⟨q, hq⟩ : ∃ q, pcC (netB ms cs fs t) (inB x 1 ms.length) (inB y 1 ms.length) = q := ⟨_, rfl⟩
  rw [hq] at KN
  by_cases h0 : q = 0
  rotate_left
  · have e1 : wlA (netB ms cs fs t) (inB x 1 ms.length) (inB y 1 ms.length) ms x y = [] := by unfold wlA; rw [hq, if_neg h0]
    have e2 : wlE (netB ms cs fs t) (inB x 1 ms.length) (inB y 1 ms.length) ms x y = q := by unfold wlE; rw [hq, if_neg h0]
    rw [e1, e2]
    have hne : (q != 0) = true := by simpa using h0
    clear e1 e2 hq h0 b0 hr hi hz hs hg
    go_enter Tryz.func37, Tryz.ntmps37
    obtain ⟨p0, p1, p2, p3⟩ := unhide HX0
    go_wp2_with fail
    clear p0 p1 p2 p3
    (try go_step3)
    (try go_wp2_with fail)
    refine (unhide KN).mono ?_
    rintro e w1 ⟨rfl, b1⟩
    have HB1 := hide ((unhide HB0).trans (b1.mono (unhide HB0).size))
    clear b1
    go_wp2_with fail
    (try rw [Exit.noGoto_ret])
    go_ret2
    exact ⟨_, rfl, unhide HB1, In.lstV_nil _ _ _ _ _⟩
  subst h0
  obtain ⟨hnb, hix, hiy⟩ := pc_yes hq
  obtain ⟨e1, e6, hC_, _, _⟩ := netB_n hnb
  clear hC_
  have hx12 := inB_out hix
  have KW := hide (fun (W : World) (hW : Below w.heap.size w W) => walkOn a b d ca cb cd ms.length t ms ps cs fs y W rfl e6 (fun i hi => (netB_r hnb i hi).1) hs (hr.below hW))
  have z1 : wlA (netB ms cs fs t) (inB x 1 ms.length) (inB y 1 ms.length) ms x y = (wk (okW ms y) (nxW ms y) y ms.length x [x]).1 := by unfold wlA; rw [hq, if_pos rfl]
  have z2 : wlE (netB ms cs fs t) (inB x 1 ms.length) (inB y 1 ms.length) ms x y = (wk (okW ms y) (nxW ms y) y ms.length x [x]).2 := by unfold wlE; rw [hq, if_pos rfl]
  rw [z1, z2]
  obtain ⟨n, hN⟩ : ∃ n, ms.length = n := ⟨_, rfl⟩
  rw [hN] at hm KN HX0 HB0 KW hx12 ⊢
  clear z1 z2 hq hnb hix hiy e1 e6 b0 hr hi hz hs hg hN
  obtain ⟨WK, hWK⟩ : ∃ z, wk (okW ms y) (nxW ms y) y n x [x] = z := ⟨_, rfl⟩
  rw [hWK]
  have HWK := hide hWK
  clear hWK
  have hne : ((0 : Int) != 0) = false := rfl
  go_enter Tryz.func37, Tryz.ntmps37
  obtain ⟨p0, p1, p2, p3⟩ := unhide HX0
  go_wp2_with fail
  clear p0 p1 p2 p3
  (try go_step3)
  (try go_wp2_with fail)
  refine (unhide KN).mono ?_
  rintro e w1 ⟨rfl, b1⟩
  have HX1 := hide ((unhide HX0).below b1)
  have HB1 := hide ((unhide HB0).trans (b1.mono (unhide HB0).size))
  clear b1 HX0 HB0 KN
  obtain ⟨p0, p1, p2, p3⟩ := (unhide HX1).below (bel_new w1 (.cells #[.int .i64 x] 3))
  obtain ⟨y0, y1, y2, y3⟩ := unhide HX1
  go_wp2_with fail
  clear p0 p1 p2 p3 y0 y1 y2 y3
  have KI := unhide KW w1 (unhide HB1) n [x] 0 (.slice (some ⟨w1.heap.size, 0, none⟩) 1 1) x (w1.alloc (.cells #[.int .i64 x] 3)) rfl (by omega) rfl hx12.1 hx12.2 (bel_new _ _) (own_one w1 x (Nat.le_refl _))
  refine KI.mono ?_
  clear KI
  rintro e w2 ⟨v, rfl, hg2, lv⟩
  rw [unhide HWK] at lv ⊢
  have HB2 := hide (bel_gb ((unhide HB1).trans ((bel_new w1 (.cells #[.int .i64 x] 3)).mono (unhide HB1).size)) hg2 (fun k e => by cases e; exact (unhide HB1).size) (by have := (unhide HB1).size; simp; omega))
  have HLV := hide (lv.mono (unhide HB1).size (Nat.le_refl _))
  clear hg2 lv
  go_wp2_with fail
  (try rw [Exit.noGoto_ret])
  go_ret2
  exact ⟨_, rfl, unhide HB2, unhide HLV⟩
set_option maxHeartbeats 32000000 in
theorem l14Walk (a b d : Option Addr) (ca cb cd n : Nat) (t : Int) (ms : List Rm) (ps : List Pl) (cs : List Int) (fs : List Fm.R) (x y : Int) (w : World) (hn : ms.length = n) (hn1 : 1 ≤ n) (h6 : n ≤ 6) (hx1 : 1 ≤ x) (hx2 : x ≤ (n : Int)) (hrt : ∀ i, i < n → okM (ms.getD i Rm.zero) = true) (hs : ∀ i, i < n → Sm (ms.getD i Rm.zero)) (hr : NR w a ms ps) :
    Calls Tryz.prog 79 #[.agg #[.slice a n ca, .slice b cs.length cb, .slice d fs.length cd, .int .i64 t], .int .i64 x, .int .i64 y] w fun e w' => ∃ v, e = .returned (.tuple #[v, .int .i64 (wk (okW ms y) (nxW ms y) y n x [x]).2]) ∧ Below w.heap.size w w' ∧ In.LstV w' v (wk (okW ms y) (nxW ms y) y n x [x]).1 w.heap.size w'.heap.size := by
  have HR := hide hr
  have HN := hide hn
  have HRT := hide hrt
  have HS := hide hs
  clear hr hn hrt hs
  have b0 := bel_new w (.cells #[.slice a n ca, .slice b cs.length cb, .slice d fs.length cd, .int .i64 t] 31)
  have HX0 := hide (nb_new w (.slice a n ca) (.slice b cs.length cb) (.slice d fs.length cd) t 31)
  obtain ⟨W0, hW0⟩ : ∃ V, w.alloc (.cells #[.slice a n ca, .slice b cs.length cb, .slice d fs.length cd, .int .i64 t] 31) = V := ⟨_, rfl⟩
  rw [hW0] at b0 HX0
  have hs0 : w.heap.size < W0.heap.size := by rw [← hW0]; simp
  have HS0 := hide hs0
  have HXW := hide (unhide HX0)
  have HFIN : ∀ V, Below W0.heap.size W0 V → Below w.heap.size w V := fun V h => b0.trans (h.mono b0.size)
  obtain ⟨WK, hWK⟩ : ∃ z, wk (okW ms y) (nxW ms y) y n x [x] = z := ⟨_, rfl⟩
  rw [hWK]
  have HWK := hide hWK
  clear hWK
  have bI := bel_new W0 (.cells #[.int .i64 x] 3)
  have OW0 := hide (own_one W0 x (Nat.le_refl _))
  have HX1 := hide ((unhide HX0).below bI)
  have HB1 := hide bI
  clear HX0 b0 bI
  go_enter Tryz.func79, Tryz.ntmps79
  go_wp2_with fail
  try rw [hW0]
  clear hW0
  go_loopw [1, 8] (fun av v wr => ∃ (j : Nat) (l : List Int) (g c : Nat), j ≤ n ∧ l.length = j + 1 ∧ av = .int .i64 (it (nxW ms y) x j) ∧ v = .slice (some ⟨g, 0, none⟩) l.length c ∧ Hid (wr.ownsRow W0.heap.size 3 1 (.slice (some ⟨g, 0, none⟩) l.length c) l.length (In.flat l)) ∧ Hid (∀ i, i < j → okW ms y (it (nxW ms y) x i) = true) ∧ Hid (∀ i, i ≤ j → 1 ≤ it (nxW ms y) x i ∧ it (nxW ms y) x i ≤ (n : Int)) ∧ Hid (wk (okW ms y) (nxW ms y) y (n - j) (it (nxW ms y) x j) l = WK) ∧ Hid (Below W0.heap.size W0 wr) ∧ Hid (NB wr w.heap.size (.slice a n ca) (.slice b cs.length cb) (.slice d fs.length cd) t)) (fun _ v _ => n + 2 - lenW v)
  case atStart => exact ⟨0, [x], W0.heap.size, 1, by omega, rfl, rfl, rfl, OW0, hide (fun i hi => absurd hi (Nat.not_lt_zero i)), hide (fun i hi => by obtain rfl : i = 0 := (by omega); exact ⟨hx1, hx2⟩), HWK, HB1, HX1⟩
  case round =>
    clear OW0 HB1 HX1 HWK
    obtain ⟨j, l, g, c, hjn, hl, rfl, rfl, how, hok, hin, hwk, hb, hx⟩ := hrel
    obtain ⟨at_, hat⟩ : ∃ z, it (nxW ms y) x j = z := ⟨_, rfl⟩
    have HAT := hide hat
    have har := unhide hin j (Nat.le_refl _)
    rw [hat] at har hwk ⊢
    clear hat
    have HL := hide hl
    have hl2 : (l.length : Int) = (j : Int) + 1 := by omega
    clear hl
    by_cases hay : at_ = y
    · subst hay
      have hz : WK = (l, 0) := by rw [← unhide hwk]; exact wk_here _ _ _ _ _
      subst hz
      have hq : (at_ != at_) = false := by simp
      clear hl2
      go_wp2_with fail
      go_ret2
      exact ⟨_, rfl, HFIN _ (unhide hb), (In.lst_own rfl (unhide how)).mono (by have := unhide HS0; omega) (Nat.le_refl _)⟩
    have hq : (at_ != y) = true := by simpa using hay
    obtain ⟨pp, hpp⟩ : ∃ pp : Nat, at_ - 1 = (pp : Int) := ⟨(at_ - 1).toNat, by omega⟩
    have hpn : pp < n := by omega
    have hpt : (at_ - 1).toNat = pp := by omega
    have n0 : (0 : Int) ≤ (pp : Int) := by omega
    have n1 : (pp : Int) < (n : Int) := by omega
    have n2 : (pp : Int) ≤ 36 := by omega
    have hbw := HFIN _ (unhide hb)
    obtain ⟨ga, off, ea, hA, hD⟩ := ((unhide HR).below hbw).at (i := pp) (by rw [unhide HN]; exact hpn)
    have hokm := unhide HRT pp hpn
    have hsm := unhide HS pp hpn
    have HNX : Hid (nxW ms y at_ = (Rw.fT (hasR (ms.getD pp Rm.zero)) y).nx) := hide (by unfold nxW; rw [hpt])
    have HKW : Hid (okW ms y at_ = (Rw.hasT (hasR (ms.getD pp Rm.zero)) y && inB (nxW ms y at_) 1 n)) := hide (by unfold okW; rw [hpt, unhide HN])
    have HRD : Hid (j = n → okW ms y at_ = true) := hide (fun e => by
      subst e
      rw [← unhide HAT]
      exact ok_round (unhide hin) (unhide hok))
    subst ea
    have HA := hide hA
    have HD := hide hD
    obtain ⟨p0, p1, p2, p3⟩ := unhide hx
    clear hA hD hpt hbw
    generalize hmj : ms.getD pp Rm.zero = m at HA HD hokm hsm HNX HKW
    clear hmj
    generalize hpj : ps.getD pp Pl.zero = p at HA HD
    clear hpj
    have KH : Hid (∀ W, Rd W m p → Calls Tryz.prog 121 #[.agg (cl m p).toArray] W fun e w' => ∃ A c, e = .returned (.slice A (hasR m).length c) ∧ Below W.heap.size W w' ∧ Ro.RM w' A (hasR m)) := hide (fun W h => by
      obtain ⟨h1, h2, h3, h4, h5, h6, h7⟩ := h
      obtain ⟨s1, s2, s3, s4, s5, s6, s7⟩ := hsm
      have hok := hokm
      unfold okM at hok
      obtain ⟨r1, r2, r3⟩ := rtr_parts hok
      refine (l12Routes m.x1 m.x2 m.x3 m.x4 m.x5 m.x6 p.a1 p.a2 p.a3 p.a4 p.a5 p.a6 p.a7 p.c1 p.c2 p.c3 p.c4 p.c5 p.c6 p.c7 m.ls m.tw m.se m.du m.ss m.es m.la W s1 s2 s3 s4 s5 s6 s7 h1 h2 h3 h4 h5 h6 h7 (graph_right r1 r2 r3) (inB_out r1) (Gr.gra_ok r2 r1 r3)).mono ?_
      rintro e w' ⟨v, rfl, bb, lv⟩
      obtain ⟨av, cv, rfl, lst⟩ := lv
      exact ⟨av, cv, rfl, bb, lst.rm⟩)
    have hR8 : (hasR m).length ≤ 1048576 := by have := Wd.rouL_len (Gr.graph m.x1 m.ls m.es m.x5) m.x1; unfold hasR; omega
    clear hokm hsm
    generalize hasR m = R at *
    obtain ⟨F, hfR⟩ : ∃ F, Rw.fT R y = F := ⟨_, rfl⟩
    obtain ⟨z1, z2, z3, z4⟩ := F
    have HFR := hide hfR
    have HNX2 : Hid (nxW ms y at_ = z2) := hide (by rw [unhide HNX, hfR])
    clear HNX hfR
    generalize hhT : Rw.hasT R y = bt at *
    have HHT := hide hhT
    clear hhT
    have no5 : okW ms y at_ = false → WK = (l, 5) := fun h => by
      rw [← unhide hwk]
      have : j ≠ n := fun e => by have := unhide HRD e; rw [h] at this; cases this
      rw [show n - j = (n - j - 1) + 1 by omega]
      exact wk_no hay h
    have NO5 := hide no5
    clear no5
    cases bt
    · have hz := unhide NO5 (by rw [unhide HKW]; rfl)
      subst hz
      clear hl2
      go_wp2_with (refine loadI _ rfl rfl (unhide HA) rfl ?_)
      clear p0 p1 p2 p3
      refine (unhide KH _ (unhide HD)).mono ?_
      rintro e w1 ⟨A, cR, rfl, b1, hrm⟩
      have HX1 := hide ((unhide hx).below b1)
      have HOW1 := hide (ownN_bel' (unhide how) b1)
      have HR1 := hide hrm
      have HB1 := hide ((unhide hb).trans (b1.mono (unhide hb).size))
      clear b1 hrm HA HD KH hx how hb
      go_wp2_with fail
      refine (Rw.l11Find A R cR y _ hR8 (unhide HR1)).mono ?_
      rintro e w2 ⟨rfl, b2⟩
      rw [unhide HFR, unhide HHT]
      have HX2 := hide ((unhide HX1).below b2)
      have HOW2 := hide (ownN_bel' (unhide HOW1) b2)
      have HB2 := hide ((unhide HB1).trans (b2.mono (unhide HB1).size))
      clear b2 HX1 HOW1 HR1 HB1
      rw [show (Ro.R.mk z1 z2 z3 z4).value = Value.agg #[.int .i64 z1, .int .i64 z2, .int .i64 z3, .int .i64 z4] from rfl]
      have bR := bel_new w2 (.cells #[.int .i64 z1, .int .i64 z2, .int .i64 z3, .int .i64 z4] 87)
      obtain ⟨p0, p1, p2, p3⟩ := (unhide HX2).below bR
      have HOWR := hide (ownN_bel' (unhide HOW2) bR)
      have HXR := hide ((unhide HX2).below bR)
      have HBR := hide ((unhide HB2).trans (bR.mono (unhide HB2).size))
      clear HX2 HOW2 HB2
      go_wp2_with fail
      go_ret2
      exact ⟨_, rfl, HFIN _ (unhide HBR), (In.lst_own rfl (unhide HOWR)).mono (by have := unhide HS0; omega) (Nat.le_refl _)⟩
    have HKW2 : Hid (okW ms y at_ = inB z2 1 n) := hide (by rw [unhide HKW, unhide HNX2]; rfl)
    clear HKW
    cases hin2 : inB z2 1 n
    · have hz := unhide NO5 (by rw [unhide HKW2, hin2])
      subst hz
      have HIN := hide hin2
      clear hin2 hl2
      go_wp2_with (refine loadI _ rfl rfl (unhide HA) rfl ?_)
      clear p0 p1 p2 p3
      refine (unhide KH _ (unhide HD)).mono ?_
      rintro e w1 ⟨A, cR, rfl, b1, hrm⟩
      have HX1 := hide ((unhide hx).below b1)
      have HOW1 := hide (ownN_bel' (unhide how) b1)
      have HR1 := hide hrm
      have HB1 := hide ((unhide hb).trans (b1.mono (unhide hb).size))
      clear b1 hrm HA HD KH hx how hb
      go_wp2_with fail
      refine (Rw.l11Find A R cR y _ hR8 (unhide HR1)).mono ?_
      rintro e w2 ⟨rfl, b2⟩
      rw [unhide HFR, unhide HHT]
      have HX2 := hide ((unhide HX1).below b2)
      have HOW2 := hide (ownN_bel' (unhide HOW1) b2)
      have HB2 := hide ((unhide HB1).trans (b2.mono (unhide HB1).size))
      clear b2 HX1 HOW1 HR1 HB1
      rw [show (Ro.R.mk z1 z2 z3 z4).value = Value.agg #[.int .i64 z1, .int .i64 z2, .int .i64 z3, .int .i64 z4] from rfl]
      have bR := bel_new w2 (.cells #[.int .i64 z1, .int .i64 z2, .int .i64 z3, .int .i64 z4] 87)
      obtain ⟨p0, p1, p2, p3⟩ := (unhide HX2).below bR
      have HOWR := hide (ownN_bel' (unhide HOW2) bR)
      have HXR := hide ((unhide HX2).below bR)
      have HBR := hide ((unhide HB2).trans (bR.mono (unhide HB2).size))
      clear HX2 HOW2 HB2
      go_wp2_with fail
      clear p0 p1 p2 p3
      refine (l13Addr _ b d n cs.length fs.length ca cb cd t z2 _).mono ?_
      rintro e w3 ⟨rfl, b3⟩
      rw [unhide HIN]
      have HOW3 := hide (ownN_bel' (unhide HOWR) b3)
      have HB3 := hide ((unhide HBR).trans (b3.mono (unhide HBR).size))
      clear HOWR HBR b3
      go_wp2_with fail
      go_ret2
      exact ⟨_, rfl, HFIN _ (unhide HB3), (In.lst_own rfl (unhide HOW3)).mono (by have := unhide HS0; omega) (Nat.le_refl _)⟩
    have hz12 := inB_out hin2
    have hoky : okW ms y at_ = true := by rw [unhide HKW2, hin2]
    have HOKY := hide hoky
    have HIN := hide hin2
    clear hin2 NO5 hoky
    by_cases hjn2 : j = n
    · have hz : WK = (l, 13) := by rw [← unhide hwk, hjn2, Nat.sub_self]; exact wk_end hay
      subst hz
      have hgt : (n : Int) < (l.length : Int) := by omega
      clear hl2 hz12
      go_wp2_with (refine loadI _ rfl rfl (unhide HA) rfl ?_)
      clear p0 p1 p2 p3
      refine (unhide KH _ (unhide HD)).mono ?_
      rintro e w1 ⟨A, cR, rfl, b1, hrm⟩
      have HX1 := hide ((unhide hx).below b1)
      have HOW1 := hide (ownN_bel' (unhide how) b1)
      have HR1 := hide hrm
      have HB1 := hide ((unhide hb).trans (b1.mono (unhide hb).size))
      clear b1 hrm HA HD KH hx how hb
      go_wp2_with fail
      refine (Rw.l11Find A R cR y _ hR8 (unhide HR1)).mono ?_
      rintro e w2 ⟨rfl, b2⟩
      rw [unhide HFR, unhide HHT]
      have HX2 := hide ((unhide HX1).below b2)
      have HOW2 := hide (ownN_bel' (unhide HOW1) b2)
      have HB2 := hide ((unhide HB1).trans (b2.mono (unhide HB1).size))
      clear b2 HX1 HOW1 HR1 HB1
      rw [show (Ro.R.mk z1 z2 z3 z4).value = Value.agg #[.int .i64 z1, .int .i64 z2, .int .i64 z3, .int .i64 z4] from rfl]
      have bR := bel_new w2 (.cells #[.int .i64 z1, .int .i64 z2, .int .i64 z3, .int .i64 z4] 87)
      obtain ⟨p0, p1, p2, p3⟩ := (unhide HX2).below bR
      have HOWR := hide (ownN_bel' (unhide HOW2) bR)
      have HXR := hide ((unhide HX2).below bR)
      have HBR := hide ((unhide HB2).trans (bR.mono (unhide HB2).size))
      clear HX2 HOW2 HB2
      go_wp2_with fail
      refine (l13Addr _ b d n cs.length fs.length ca cb cd t z2 _).mono ?_
      rintro e w3 ⟨rfl, b3⟩
      rw [unhide HIN]
      clear p0 p1 p2 p3
      obtain ⟨p0, p1, p2, p3⟩ := (unhide HXR).below b3
      have HOW3 := hide (ownN_bel' (unhide HOWR) b3)
      have HB3 := hide ((unhide HBR).trans (b3.mono (unhide HBR).size))
      clear HOWR HBR b3
      go_wp2_with fail
      go_ret2
      exact ⟨_, rfl, HFIN _ (unhide HB3), (In.lst_own rfl (unhide HOW3)).mono (by have := unhide HS0; omega) (Nat.le_refl _)⟩
    have hgt : ¬ (n : Int) < (l.length : Int) := by omega
    have hon := wk_on (nx := nxW ms y) (f := n - (j + 1)) (l := l) hay (unhide HOKY)
    have HWN : Hid (wk (okW ms y) (nxW ms y) y (n - (j + 1)) z2 (l ++ [z2]) = WK) := hide (by
      rw [← unhide hwk, show n - j = n - (j + 1) + 1 by omega, hon, unhide HNX2])
    have HI2 : Hid (it (nxW ms y) x (j + 1) = z2) := hide (by show nxW ms y (it (nxW ms y) x j) = z2; rw [unhide HAT, unhide HNX2])
    clear hon hl2
    go_wp2_with (refine loadI _ rfl rfl (unhide HA) rfl ?_)
    clear p0 p1 p2 p3
    refine (unhide KH _ (unhide HD)).mono ?_
    rintro e w1 ⟨A, cR, rfl, b1, hrm⟩
    have HX1 := hide ((unhide hx).below b1)
    have HOW1 := hide (ownN_bel' (unhide how) b1)
    have HR1 := hide hrm
    have HB1 := hide ((unhide hb).trans (b1.mono (unhide hb).size))
    clear b1 hrm HA HD KH hx how hb
    go_wp2_with fail
    refine (Rw.l11Find A R cR y _ hR8 (unhide HR1)).mono ?_
    rintro e w2 ⟨rfl, b2⟩
    rw [unhide HFR, unhide HHT]
    have HX2 := hide ((unhide HX1).below b2)
    have HOW2 := hide (ownN_bel' (unhide HOW1) b2)
    have HB2 := hide ((unhide HB1).trans (b2.mono (unhide HB1).size))
    clear b2 HX1 HOW1 HR1 HB1
    rw [show (Ro.R.mk z1 z2 z3 z4).value = Value.agg #[.int .i64 z1, .int .i64 z2, .int .i64 z3, .int .i64 z4] from rfl]
    have bR := bel_new w2 (.cells #[.int .i64 z1, .int .i64 z2, .int .i64 z3, .int .i64 z4] 87)
    obtain ⟨p0, p1, p2, p3⟩ := (unhide HX2).below bR
    have HOWR := hide (ownN_bel' (unhide HOW2) bR)
    have HXR := hide ((unhide HX2).below bR)
    have HBR := hide ((unhide HB2).trans (bR.mono (unhide HB2).size))
    clear HX2 HOW2 HB2
    have HCR : Hid ((w2.alloc (.cells #[.int .i64 z1, .int .i64 z2, .int .i64 z3, .int .i64 z4] 87)).cell? ⟨w2.heap.size, 1, none⟩ = some (.int .i64 z2)) := hide (by simp [World.cell?_alloc_new])
    have hsR : w2.heap.size < (w2.alloc (.cells #[.int .i64 z1, .int .i64 z2, .int .i64 z3, .int .i64 z4] 87)).heap.size := by simp
    go_wp2_with fail
    refine (l13Addr _ b d n cs.length fs.length ca cb cd t z2 _).mono ?_
    rintro e w3 ⟨rfl, b3⟩
    rw [unhide HIN]
    clear p0 p1 p2 p3
    obtain ⟨p0, p1, p2, p3⟩ := (unhide HXR).below b3
    have c1 := (b3.cell (p := ⟨w2.heap.size, 1, none⟩) hsR).trans (unhide HCR)
    have HOW3 := hide (ownN_bel' (unhide HOWR) b3)
    have HX3 := hide ((unhide HXR).below b3)
    have HB3 := hide ((unhide HBR).trans (b3.mono (unhide HBR).size))
    clear HOWR HBR HXR HCR b3 hsR
    go_wp2_with (at_builtin; refine In.wpList_apS ((unhide HOW3).alloc _) w3.heap.size 0 1 1 [z2] rfl (In.rm_new w3 z2) (by have := unhide HL; simp only [List.length_cons, List.length_nil]; omega) (by have := (unhide HB3).size; simp; omega) rfl _ _ rfl rfl rfl ?_; intro v' w' ho hg; have HO' := hide ho; have HB' := hide (In.below_own ((unhide HB3).alloc (unhide HB3).size _) ((unhide HOW3).alloc _) hg (Nat.le_refl _) (by have := (unhide HB3).size; simp; omega)); clear ho hg)
    go_roundw
    case rel =>
      have how' := unhide HO'
      obtain ⟨_, ⟨_, e⟩ | ⟨g', c', cur', e, _⟩⟩ := how'
      · simp at e
      · subst e
        exact ⟨j + 1, l ++ [z2], g', c', by omega, by rw [List.length_append, unhide HL]; rfl, by rw [unhide HI2], rfl, HO', hide (fun i hi => by
          by_cases e : i = j
          · rw [e, unhide HAT]; exact unhide HOKY
          · exact unhide hok i (by omega)), hide (fun i hi => by
          by_cases e : i = j + 1
          · rw [e, unhide HI2]; exact hz12
          · exact unhide hin i (by omega)), by rw [unhide HI2]; exact HWN, HB', hide ((unhide HXW).below (unhide HB'))⟩
    case measure =>
      have how' := unhide HO'
      obtain ⟨_, ⟨_, e⟩ | ⟨g', c', cur', e, _⟩⟩ := how'
      · simp at e
      · subst e
        simp [lenW]; have := unhide HL; omega
end Nt
end Go.Proofs.YtfooahhdikobeaaGreat
namespace Go.Proofs.YtfooahhdikobeaaGreat
open Go.ChangeShapes Go.WideShapes Go.ChangeAt Go.RowKit
set_option linter.unusedVariables false
set_option linter.unusedSimpArgs false
set_option maxRecDepth 100000
attribute [local go_sem ↓] Go.wp_at_zero Go.wp_at_succ
namespace Nt
open W1 Rt
set_option maxHeartbeats 16000000 in
theorem specWL (a b d : Option Addr) (ca cb cd : Nat) (t : Int) (ms : List Rm) (ps : List Pl) (cs : List Int) (fs : List Fm.R) (x y : Int) (w : World) (hm : ms.length ≤ 1048576) (hc : cs.length ≤ 1048576) (hf : fs.length ≤ 1048576) (hs : ∀ i, i < ms.length → Sm (ms.getD i Rm.zero)) (hg : ∀ i, i < fs.length → (fs.getD i Fm.R.zero).bs.size ≤ maxLen) (hr : NR w a ms ps) (hi : In.RM w b cs) (hz : Fm.RM w d fs) :
    Calls Tryz.prog 36 #[.agg #[.slice a ms.length ca, .slice b cs.length cb, .slice d fs.length cd, .int .i64 t], .int .i64 x, .int .i64 y] w fun e w' => ∃ v, e = .returned (.tuple #[v, .int .i64 (wlE (netB ms cs fs t) (inB x 1 ms.length) (inB y 1 ms.length) ms x y)]) ∧ Below w.heap.size w w' ∧ In.LstV w' v (wlA (netB ms cs fs t) (inB x 1 ms.length) (inB y 1 ms.length) ms x y) w.heap.size w'.heap.size := by
  have HX0 := hide (nb_new w (.slice a ms.length ca) (.slice b cs.length cb) (.slice d fs.length cd) t 31)
  have b0 := bel_new w (.cells #[.slice a ms.length ca, .slice b cs.length cb, .slice d fs.length cd, .int .i64 t] 31)
  have HB0 := hide b0
  have KN := hide (specNet a b d ca cb cd t ms ps cs fs _ hm hc hf hs hg (hr.below b0) (hi.below b0) (hz.below b0))
  have NN : Hid (netB ms cs fs t = true → 1 ≤ ms.length ∧ ms.length ≤ 6 ∧ ∀ i, i < ms.length → okM (ms.getD i Rm.zero) = true) := hide (fun h => by
    obtain ⟨e1, e6, hC_, _, _⟩ := netB_n h
    exact ⟨e1, e6, fun i hi => (netB_r h i hi).1⟩)
  generalize hok_ : netB ms cs fs t = ok at *
  clear hok_
  generalize hbx_ : inB x 1 ms.length = bx at *
  have HBX := hide hbx_
  clear hbx_
  generalize hby_ : inB y 1 ms.length = bz at *
  have HBZ := hide hby_
  clear hby_
  have HS := hide hs
  have HRT := hide hr
  clear b0 hr hi hz hs hg hm hc hf
  have nn : ms.length = ms.length := rfl
  cases ok
  · have e1 : wlA false bx bz ms x y = [] := by unfold wlA pcC; simp
    have e2 : wlE false bx bz ms x y = 1 := by unfold wlE pcC; simp
    rw [e1, e2]
    clear e1 e2
    go_enter Tryz.func36, Tryz.ntmps36
    obtain ⟨p0, p1, p2, p3⟩ := unhide HX0
    go_wp2_with fail
    clear p0 p1 p2 p3
    (try go_step3)
    (try go_wp2_with fail)
    refine (unhide KN).mono ?_
    rintro e w1 ⟨rfl, b1⟩
    have HB1 := hide ((unhide HB0).trans (b1.mono (unhide HB0).size))
    clear b1
    go_wp2_with fail
    go_ret2
    exact ⟨_, rfl, (unhide HB1).alloc (unhide HB1).size _, In.lstV_nil _ _ _ _ _⟩
  obtain ⟨e1, e6, eo⟩ := unhide NN rfl
  have HEO := hide eo
  clear eo NN
  cases bx
  · have z1 : wlA true false bz ms x y = [] := by unfold wlA pcC; simp
    have z2 : wlE true false bz ms x y = 4 := by unfold wlE pcC; simp
    rw [z1, z2]
    clear z1 z2
    go_enter Tryz.func36, Tryz.ntmps36
    obtain ⟨p0, p1, p2, p3⟩ := unhide HX0
    go_wp2_with fail
    clear p0 p1 p2 p3
    (try go_step3)
    (try go_wp2_with fail)
    refine (unhide KN).mono ?_
    rintro e w1 ⟨rfl, b1⟩
    have HX1 := hide ((unhide HX0).below b1)
    have HB1 := hide ((unhide HB0).trans (b1.mono (unhide HB0).size))
    clear b1 HX0 HB0 KN
    obtain ⟨p0, p1, p2, p3⟩ := unhide HX1
    go_wp2_with fail
    clear p0 p1 p2 p3
    refine (l13Addr a b d ms.length cs.length fs.length ca cb cd t x _).mono ?_
    rintro e w2 ⟨rfl, b2⟩
    rw [unhide HBX]
    have HB2 := hide ((unhide HB1).trans (b2.mono (unhide HB1).size))
    clear b2
    go_wp2_with fail
    go_ret2
    exact ⟨_, rfl, (unhide HB2).alloc (unhide HB2).size _, In.lstV_nil _ _ _ _ _⟩
  cases bz
  · have z1 : wlA true true false ms x y = [] := by unfold wlA pcC; simp
    have z2 : wlE true true false ms x y = 4 := by unfold wlE pcC; simp
    rw [z1, z2]
    clear z1 z2
    go_enter Tryz.func36, Tryz.ntmps36
    obtain ⟨p0, p1, p2, p3⟩ := unhide HX0
    go_wp2_with fail
    clear p0 p1 p2 p3
    (try go_step3)
    (try go_wp2_with fail)
    refine (unhide KN).mono ?_
    rintro e w1 ⟨rfl, b1⟩
    have HX1 := hide ((unhide HX0).below b1)
    have HB1 := hide ((unhide HB0).trans (b1.mono (unhide HB0).size))
    clear b1 HX0 HB0 KN
    obtain ⟨p0, p1, p2, p3⟩ := unhide HX1
    go_wp2_with fail
    clear p0 p1 p2 p3
    refine (l13Addr a b d ms.length cs.length fs.length ca cb cd t x _).mono ?_
    rintro e w2 ⟨rfl, b2⟩
    rw [unhide HBX]
    have HX2 := hide ((unhide HX1).below b2)
    have HB2 := hide ((unhide HB1).trans (b2.mono (unhide HB1).size))
    clear b2 HX1 HB1
    obtain ⟨p0, p1, p2, p3⟩ := unhide HX2
    go_wp2_with fail
    clear p0 p1 p2 p3
    refine (l13Addr a b d ms.length cs.length fs.length ca cb cd t y _).mono ?_
    rintro e w3 ⟨rfl, b3⟩
    rw [unhide HBZ]
    have HB3 := hide ((unhide HB2).trans (b3.mono (unhide HB2).size))
    clear b3
    go_wp2_with fail
    go_ret2
    exact ⟨_, rfl, (unhide HB3).alloc (unhide HB3).size _, In.lstV_nil _ _ _ _ _⟩
  have hx12 := inB_out (unhide HBX)
  have z1 : wlA true true true ms x y = (wk (okW ms y) (nxW ms y) y ms.length x [x]).1 := by unfold wlA pcC; simp
  have z2 : wlE true true true ms x y = (wk (okW ms y) (nxW ms y) y ms.length x [x]).2 := by unfold wlE pcC; simp
  rw [z1, z2]
  clear z1 z2
  have KW := hide (fun (W : World) (hW : Below w.heap.size w W) => l14Walk a b d ca cb cd ms.length t ms ps cs fs x y W rfl e1 e6 hx12.1 hx12.2 (unhide HEO) (unhide HS) ((unhide HRT).below hW))
  clear hx12 HRT HS HEO e1 e6
  obtain ⟨WK, hWK⟩ : ∃ z, wk (okW ms y) (nxW ms y) y ms.length x [x] = z := ⟨_, rfl⟩
  rw [hWK]
  have HWK := hide hWK
  clear hWK
  go_enter Tryz.func36, Tryz.ntmps36
  obtain ⟨p0, p1, p2, p3⟩ := unhide HX0
  go_wp2_with fail
  clear p0 p1 p2 p3
  (try go_step3)
  (try go_wp2_with fail)
  refine (unhide KN).mono ?_
  rintro e w1 ⟨rfl, b1⟩
  have HX1 := hide ((unhide HX0).below b1)
  have HB1 := hide ((unhide HB0).trans (b1.mono (unhide HB0).size))
  clear b1 HX0 HB0 KN
  obtain ⟨p0, p1, p2, p3⟩ := unhide HX1
  go_wp2_with fail
  clear p0 p1 p2 p3
  refine (l13Addr a b d ms.length cs.length fs.length ca cb cd t x _).mono ?_
  rintro e w2 ⟨rfl, b2⟩
  rw [unhide HBX]
  have HX2 := hide ((unhide HX1).below b2)
  have HB2 := hide ((unhide HB1).trans (b2.mono (unhide HB1).size))
  clear b2 HX1 HB1
  obtain ⟨p0, p1, p2, p3⟩ := unhide HX2
  go_wp2_with fail
  clear p0 p1 p2 p3
  refine (l13Addr a b d ms.length cs.length fs.length ca cb cd t y _).mono ?_
  rintro e w3 ⟨rfl, b3⟩
  rw [unhide HBZ]
  have HX3 := hide ((unhide HX2).below b3)
  have HB3 := hide ((unhide HB2).trans (b3.mono (unhide HB2).size))
  clear b3 HX2 HB2
  obtain ⟨p0, p1, p2, p3⟩ := unhide HX3
  go_wp2_with fail
  clear p0 p1 p2 p3
  refine (unhide KW _ (unhide HB3)).mono ?_
  rintro e w4 ⟨v, rfl, b4, lv⟩
  rw [unhide HWK] at lv ⊢
  have HLV := hide (lv.mono (unhide HB3).size (Nat.le_refl _))
  have HB4 := hide ((unhide HB3).trans (b4.mono (unhide HB3).size))
  clear b4 lv HX3 HB3 KW
  go_wp2_with fail
  go_ret2
  exact ⟨_, rfl, unhide HB4, unhide HLV⟩
end Nt
end Go.Proofs.YtfooahhdikobeaaGreat
namespace Go.Proofs.YtfooahhdikobeaaGreat
open Go.ChangeShapes Go.WideShapes Go.ChangeAt Go.RowKit
set_option linter.unusedVariables false
set_option linter.unusedSimpArgs false
set_option maxRecDepth 100000
attribute [local go_sem ↓] Go.wp_at_zero Go.wp_at_succ
namespace Nt
open W1 Rt
set_option maxHeartbeats 4000000 in
/-- The cells that read as a router. -/
theorem open_one {H : Type} {enc : TypeId × Value → H} {W : World} {fuel : Nat} {c : List Value} {y : DataW H × List MemPlace} (hl : c.length = 13)
    (hf : DataW.trod enc Tryz.prog W 0 (fun _ => true) true fuel 114 c = some y) : ∃ (m : Rm) (p : Pl), c = cl m p ∧ Sx m ∧ Rd W m p := by
  obtain ⟨c0, c1, c2, c3, c4, c5, c6, c7, c8, c9, c10, c11, c12, rfl⟩ := list13 hl
  obtain ⟨xs, n, _, _, _, hlen, hf⟩ := DataW.trod_struct Tryz.underlying114 hf
  obtain ⟨x0, x1, x2, x3, x4, x5, x6, x7, x8, x9, x10, x11, rfl⟩ := list12 hlen
  have k0 := hf 0 _ rfl
  have k1 := hf 1 _ rfl
  have k2 := hf 2 _ rfl
  have k3 := hf 3 _ rfl
  have k4 := hf 4 _ rfl
  have k5 := hf 5 _ rfl
  have k6 := hf 6 _ rfl
  have k7 := hf 7 _ rfl
  have k8 := hf 8 _ rfl
  have k9 := hf 9 _ rfl
  have k10 := hf 10 _ rfl
  have k11 := hf 11 _ rfl
  clear hf hlen
  simp [cells_int, cells_lk, cells_tu, cells_ed, cells_top] at k0 k1 k2 k3 k4 k5 k6 k7 k8 k9 k10 k11
  obtain ⟨a0, e0, _, _⟩ := DataW.trod_int Tryz.underlying3 k0
  obtain ⟨a1, e1, _, _⟩ := DataW.trod_int Tryz.underlying3 k1
  obtain ⟨a2, e2, _, _⟩ := DataW.trod_int Tryz.underlying3 k2
  obtain ⟨a3, e3, _, _⟩ := DataW.trod_int Tryz.underlying3 k3
  obtain ⟨a4, e4, _, _⟩ := DataW.trod_int Tryz.underlying3 k4
  obtain ⟨a11, e11, _, _⟩ := DataW.trod_int Tryz.underlying3 k11
  simp at e0 e1 e2 e3 e4 e11
  subst e0 e1 e2 e3 e4 e11
  obtain ⟨ys, n', _, _, _, hlen', hg⟩ := DataW.trod_struct Tryz.underlying111 k9
  obtain ⟨y0, y1, rfl⟩ := Tq.listR hlen'
  have t0 := hg 0 _ rfl
  have t1 := hg 1 _ rfl
  simp [cells_so, cells_tu] at t0 t1
  obtain ⟨g1, l1, p1, m1, rfl, h1, j1, r1⟩ := Lk.open_cell k5
  obtain ⟨g2, l2, p2, m2, rfl, h2, j2, r2⟩ := Tq.open_cellT k6
  obtain ⟨g3, l3, p3, m3, rfl, h3, j3, r3⟩ := Tq.open_cellT k7
  obtain ⟨g4, l4, p4, m4, rfl, h4, j4, r4⟩ := Tq.open_cellT k8
  obtain ⟨g5, l5, p5, m5, rfl, h5, j5, r5⟩ := So.open_cell t0
  obtain ⟨g6, l6, p6, m6, rfl, h6, j6, r6⟩ := Tq.open_cellT t1
  obtain ⟨g7, l7, p7, m7, rfl, h7, j7, r7⟩ := Ed.open_cell k10
  subst h1 h2 h3 h4 h5 h6 h7
  exact ⟨⟨a0, a1, a2, a3, a4, a11, m1, m2, m3, m4, m5, m6, m7⟩, ⟨g1, g2, g3, g4, g5, g6, g7, p1, p2, p3, p4, p5, p6, p7⟩, rfl, ⟨j1, j2, j3, j4, j5, j6, j7⟩, r1, r2, r3, r4, r5, r6, r7⟩
theorem plain_add (b off k : Nat) : (⟨b, off, none⟩ : Addr).add k = ⟨b, off + k, none⟩ := by unfold Addr.add; split <;> simp_all
/-- A row of routers that came in. -/
theorem open_row {H : Type} {enc : TypeId × Value → H} {W : World} {v : Value} {fuel : Nat} {y : DataW H × List MemPlace}
    (hf : DataW.trod enc Tryz.prog W 0 (fun _ => true) true fuel 22 [v] = some y) : ∃ a len cap, ∃ (ms : List Rm) (ps : List Pl), v = .slice a len cap ∧ ms.length = len ∧ len ≤ maxLen ∧ (∀ i, i < ms.length → Sx (ms.getD i Rm.zero)) ∧ NR W a ms ps := by
  rcases Deep.open_slice Tryz.underlying22 hf with ⟨hcs, _⟩ | ⟨x, len, cap, m, n, D, Pc, hcs, _, hl, hm, hmm, _, hx⟩
  · simp only [List.cons.injEq, and_true] at hcs
    subst hcs
    exact ⟨none, 0, 0, [], [], rfl, rfl, Nat.zero_le _, fun i hi => absurd hi (Nat.not_lt_zero i), .inl rfl⟩
  · simp only [List.cons.injEq, and_true] at hcs
    subst hcs
    simp at hmm
    subst hmm
    rw [cells13] at hx
    by_cases h0 : len = 0
    · subst h0; exact ⟨_, _, _, [], [], rfl, rfl, Nat.zero_le _, fun i hi => absurd hi (Nat.not_lt_zero i), .inl rfl⟩
    obtain ⟨b, off, spot⟩ := x
    have hsp : spot = none := by
      obtain ⟨cs', h1, _⟩ := hx 0 (by omega)
      obtain ⟨_, hlen, hc⟩ := World.cells?_some h1
      have h2 := hc 0 (by omega)
      rw [List.getElem?_eq_getElem (by omega)] at h2
      simpa [Addr.add] using World.cell?_spot h2
    subst hsp
    have hex : ∀ i, i < len → ∃ mp : Rm × Pl, W.rangeAt b (off + i * 13) (cl mp.1 mp.2) ∧ Sx mp.1 ∧ Rd W mp.1 mp.2 := by
      intro i hi
      obtain ⟨cs', h1, h2⟩ := hx i (by omega)
      obtain ⟨_, hlen, hc⟩ := World.cells?_some h1
      obtain ⟨m, p, rfl, hs, hr⟩ := open_one hlen h2
      refine ⟨(m, p), fun j u hu => ?_, hs, hr⟩
      have hj : j < 13 := by
        rcases Nat.lt_or_ge j 13 with h | h
        · exact h
        · rw [List.getElem?_eq_none (by rw [cl_len]; exact h)] at hu; cases hu
      have q := hc j hj
      rw [plain_add, plain_add] at q
      rw [q]; exact hu
    have hin : Inhabited (Rm × Pl) := ⟨(Rm.zero, Pl.zero)⟩
    obtain ⟨V, hV⟩ := Deep.choose_lt hex
    have e1 : ∀ i, i < len → ((List.range len).map fun i => (V i).1).getD i Rm.zero = (V i).1 := fun i hi => by
      rw [List.getD_eq_getElem?_getD, List.getElem?_map, List.getElem?_range hi]; rfl
    have e2 : ∀ i, i < len → ((List.range len).map fun i => (V i).2).getD i Pl.zero = (V i).2 := fun i hi => by
      rw [List.getD_eq_getElem?_getD, List.getElem?_map, List.getElem?_range hi]; rfl
    refine ⟨_, _, _, (List.range len).map fun i => (V i).1, (List.range len).map fun i => (V i).2, rfl, by simp, Nat.le_trans hl hm, fun i hi => ?_, .inr ⟨b, off, rfl, fun i hi => ?_⟩⟩
    all_goals have hi' : i < len := by simpa using hi
    · rw [e1 i hi']; exact (hV i hi').2.1
    · rw [e1 i hi', e2 i hi']; exact ⟨(hV i hi').1, (hV i hi').2.2⟩
theorem cellsNet : Tryz.prog.cellsOf 26 = 4 := by kernel_rfl
theorem cells_ro : Tryz.prog.cellsOf 22 = 1 := by kernel_rfl
theorem cells_in : Tryz.prog.cellsOf 23 = 1 := by kernel_rfl
theorem cells_fr : Tryz.prog.cellsOf 24 = 1 := by kernel_rfl
theorem cells_i : Tryz.prog.cellsOf 3 = 1 := by kernel_rfl
theorem list4 {α : Type} {l : List α} (h : l.length = 4) : ∃ c0 c1 c2 c3, l = [c0, c1, c2, c3] := by
  match l, h with
  | [c0, c1, c2, c3], _ => exact ⟨c0, c1, c2, c3, rfl⟩
/-- A list of ints within a struct that came in. -/
theorem open_ints_cell {H : Type} {enc : TypeId × Value → H} {W : World} {v : Value} {fuel : Nat} {y : DataW H × List MemPlace}
    (hf : DataW.trod enc Tryz.prog W 0 (fun _ => true) true fuel 23 [v] = some y) : ∃ a len cap, ∃ zs : List Int, v = .slice a len cap ∧ zs.length = len ∧ len ≤ maxLen ∧ In.RM W a zs := by
  obtain ⟨a, len, cap, hv⟩ : ∃ a len cap, v = .slice a len cap := by
    rcases open_ints Tryz.underlying23 Tryz.underlying3 (by kernel_rfl) hf with ⟨hcs, _⟩ | ⟨x, l, c, zs, hcs, _⟩
    · simp at hcs; exact ⟨_, _, _, hcs⟩
    · simp at hcs; exact ⟨_, _, _, hcs⟩
  subst hv
  obtain ⟨zs, h1, h2, h3⟩ := In.open_list (a := a) (len := len) (cap := cap) (d := y.1) (p := y.2) ⟨fuel, hf⟩
  exact ⟨a, len, cap, zs, rfl, h1, h2, h3⟩
set_option maxHeartbeats 4000000 in
/-- A net that came in by value. -/
theorem open_net {H : Type} {enc : TypeId × Value → H} {W : World} {r : Reach} {b0 : Nat} {v : Value} {d : DataW H} {p : List MemPlace}
    (hv : Value.okWide Tryz.prog W r b0 26 v) (h : DataW.Trod enc Tryz.prog W 0 (fun _ => true) true 26 v d p) :
    ∃ a b d ca cb cd t, ∃ (ms : List Rm) (ps : List Pl) (cs : List Int) (fs : List Fm.R), v = .agg #[.slice a ms.length ca, .slice b cs.length cb, .slice d fs.length cd, .int .i64 t] ∧ (ms.length ≤ maxLen ∧ cs.length ≤ maxLen ∧ fs.length ≤ maxLen ∧ (∀ i, i < ms.length → Sx (ms.getD i Rm.zero)) ∧ ∀ i, i < fs.length → (fs.getD i Fm.R.zero).bs.size ≤ maxLen) ∧ NR W a ms ps ∧ In.RM W b cs ∧ Fm.RM W d fs := by
  obtain ⟨cs, rfl, hsz⟩ := okWide_struct Tryz.underlying26 hv
  obtain ⟨l⟩ := cs
  obtain ⟨c0, c1, c2, c3, rfl⟩ := list4 (hsz.trans cellsNet)
  obtain ⟨fuel, hf⟩ := h
  obtain ⟨xs, n, _, _, _, hlen, hf⟩ := DataW.trod_struct Tryz.underlying26 hf
  obtain ⟨x0, x1, x2, x3, rfl⟩ := list4 hlen
  have k0 := hf 0 _ rfl
  have k1 := hf 1 _ rfl
  have k2 := hf 2 _ rfl
  have k3 := hf 3 _ rfl
  clear hf hsz hv hlen
  simp [Value.cells, cells_ro, cells_in, cells_fr, cells_i] at k0 k1 k2 k3
  obtain ⟨t, e3, _, _⟩ := DataW.trod_int Tryz.underlying3 k3
  simp at e3
  subst e3
  obtain ⟨a, l0, ca, ms, ps, rfl, h0, j0, s0, r0⟩ := open_row k0
  obtain ⟨b, l1, cb, zs, rfl, h1, j1, r1⟩ := open_ints_cell k1
  obtain ⟨d, l2, cd, fs, rfl, h2, j2, r2, s2⟩ := Fm.open_cell k2
  subst h0 h1 h2
  exact ⟨a, b, d, ca, cb, cd, t, ms, ps, zs, fs, rfl, ⟨j0, j1, j2, s0, s2⟩, r0, r1, r2⟩
end Nt
end Go.Proofs.YtfooahhdikobeaaGreat
namespace Go.Proofs.YtfooahhdikobeaaGreat
open Go.ChangeShapes Go.WideShapes Go.ChangeAt Go.RowKit
set_option linter.unusedVariables false
set_option linter.unusedSimpArgs false
set_option maxRecDepth 100000
attribute [local go_sem ↓] Go.wp_at_zero Go.wp_at_succ
namespace Nt
open W1 Rt
set_option maxHeartbeats 8000000 in
theorem eqNS (a b : Option Addr) (ms : List Rm) (ps qs : List Pl) (ca cb : Nat) (w : World) (hm : ms.length ≤ 1048576) (hs : ∀ i, i < ms.length → Sm (ms.getD i Rm.zero)) (hr : NR w a ms ps) (hr' : NR w b ms qs) :
    Calls Tryz.prog 54 #[.slice a ms.length ca, .slice b ms.length cb] w fun e w' => e = .returned (.bool true) ∧ Below w.heap.size w w' := by
  have HR := hide hr
  have HR' := hide hr'
  have HS := hide hs
  clear hr hr' hs
  generalize hN : ms.length = n at *
  have HN := hide hN
  clear hN
  go_enter Tryz.func54, Tryz.ntmps54
  go_wp2
  go_loopw [5] (fun i wr => ∃ j : Nat, j ≤ n ∧ i = .int .i64 j ∧ Hid (Below w.heap.size w wr)) (fun i _ => n - (intOf i).toNat)
  case atStart => exact ⟨0, by omega, rfl, hide (Below.refl _ _)⟩
  case round =>
    obtain ⟨j, hj, rfl, hbl⟩ := hrel
    by_cases hlt : (j : Int) < (n : Int)
    · have k0 : (0 : Int) ≤ (j : Int) := by omega
      have hlen : j < ms.length := by rw [unhide HN]; omega
      obtain ⟨g, off, rfl, hA, hD⟩ := ((unhide HR).below (unhide hbl)).at hlen
      obtain ⟨g', off', rfl, hA', hD'⟩ := ((unhide HR').below (unhide hbl)).at hlen
      have HM := hide ((unhide HS) j (by omega))
      have HA := hide hA
      have HA' := hide hA'
      have HD := hide hD
      have HD' := hide hD'
      clear hlen hA hA' hD hD'
      generalize ms.getD j Rm.zero = m at *
      generalize ps.getD j Pl.zero = p at *
      generalize qs.getD j Pl.zero = q at *
      go_wp2_with fail
      refine wp_region_noPanic ?_
      refine wp_region_held_drew (S := fun w' => w'.rangeAt g (off + j * 13) (cl m p) ∧ w'.rangeAt g' (off' + j * 13) (cl m q)) (by kernel_rfl) (⟨unhide HA, unhide HA'⟩) (fun hHeld => ?_)
      refine Rg.t 0 17 ?_
      refine Rg.t 1 18 ?_
      refine Rg.t 2 19 ?_
      refine Rg.t (v := .agg (cl m p).toArray) 3 20 ?_ (hv := fun w0 hSw => execI _ rfl rfl hSw.1)
      refine Rg.t 4 21 ?_
      refine Rg.t 5 22 ?_
      refine Rg.t 6 23 ?_
      refine Rg.t (v := .agg (cl m q).toArray) 7 24 ?_ (hv := fun w0 hSw => execI _ rfl rfl hSw.2)
      (refine Rg.o 8 (fun K hK => ?_); go_simp)
      refine (eqN m p q wr.drew (unhide HM) (unhide HD).drew (unhide HD').drew).mono ?_
      rintro e w1 ⟨rfl, b1⟩
      refine hK.out _ _ ⟨rng_below (w := wr.drew) (unhide HA) b1, rng_below (w := wr.drew) (unhide HA') b1⟩ (fun hHeld => ?_)
      clear hK K
      (try simp only [Act.put, List.setIfInBounds_toArray, List.set_cons_zero, List.set_cons_succ])
      refine Rg.t 9 26 ?_
      refine wpAnyH_done (by kernel_rfl) (NoPanic.normal ?_) _
      have hb1 := hide ((unhide hbl).drew.trans (b1.mono (by show w.heap.size ≤ wr.heap.size; exact (unhide hbl).size)))
      clear hHeld b1 HA HA' HD HD'
      go_wp2_with fail
      go_roundw
      case rel => exact ⟨j + 1, by omega, by go_num, hb1⟩
      case measure => simp [intOf]; omega
    · go_wp2
      go_ret
      exact ⟨rfl, unhide hbl⟩
set_option maxHeartbeats 8000000 in
theorem eqNt (a b d a' b' d' : Option Addr) (ca cb cd ca' cb' cd' : Nat) (t : Int) (ms : List Rm) (ps qs : List Pl) (cs : List Int) (fs : List Fm.R) (w : World) (hm : ms.length ≤ 1048576) (hc : cs.length ≤ 1048576) (hf : fs.length ≤ 1048576) (hs : ∀ i, i < ms.length → Sm (ms.getD i Rm.zero)) (hr : NR w a ms ps) (hr' : NR w a' ms qs) (hi : In.RM w b cs) (hi' : In.RM w b' cs) (hz : Fm.RM w d fs) (hz' : Fm.RM w d' fs) :
    Calls Tryz.prog 15 #[.agg #[.slice a ms.length ca, .slice b cs.length cb, .slice d fs.length cd, .int .i64 t], .agg #[.slice a' ms.length ca', .slice b' cs.length cb', .slice d' fs.length cd', .int .i64 t]] w fun e w' => e = .returned (.bool true) ∧ Below w.heap.size w w' := by
  have b0 : Below w.heap.size w ((w.alloc (.cells #[.slice a ms.length ca, .slice b cs.length cb, .slice d fs.length cd, .int .i64 t] 31)).alloc (.cells #[.slice a' ms.length ca', .slice b' cs.length cb', .slice d' fs.length cd', .int .i64 t] 31)) := ((Below.refl _ _).alloc (Nat.le_refl _) _).alloc (by simp) _
  have HX0 : Hid (NB _ w.heap.size _ _ _ _) := hide ((nb_new w (.slice a ms.length ca) (.slice b cs.length cb) (.slice d fs.length cd) t 31).below (bel_new _ (.cells #[.slice a' ms.length ca', .slice b' cs.length cb', .slice d' fs.length cd', .int .i64 t] 31)))
  have HY0 : Hid (NB _ (w.heap.size + 1) _ _ _ _) := hide (by have := nb_new (w.alloc (.cells #[.slice a ms.length ca, .slice b cs.length cb, .slice d fs.length cd, .int .i64 t] 31)) (.slice a' ms.length ca') (.slice b' cs.length cb') (.slice d' fs.length cd') t 31; simpa using this)
  have HB0 := hide b0
  have HR := hide (hr.below b0)
  have HR' := hide (hr'.below b0)
  have HI := hide (hi.below b0)
  have HI' := hide (hi'.below b0)
  have HZ := hide (hz.below b0)
  have HZ' := hide (hz'.below b0)
  have HS := hide hs
  have hne : (t != t) = false := by simp
  clear hr hr' hi hi' hz hz' hs b0
  go_enter Tryz.func15, Tryz.ntmps15
  go_wp2_with fail
  generalize (w.alloc (.cells #[.slice a ms.length ca, .slice b cs.length cb, .slice d fs.length cd, .int .i64 t] 31)).alloc (.cells #[.slice a' ms.length ca', .slice b' cs.length cb', .slice d' fs.length cd', .int .i64 t] 31) = w0 at *
  refine (eqNS _ _ ms ps qs _ _ _ hm (unhide HS) (unhide HR) (unhide HR')).mono ?_
  rintro e w1 ⟨rfl, b1⟩
  have HX1 := hide ((unhide HX0).below b1)
  have HY1 := hide ((unhide HY0).below b1)
  have HB1 := hide ((unhide HB0).trans (b1.mono (unhide HB0).size))
  have HI1 := hide ((unhide HI).below b1)
  have HI1' := hide ((unhide HI').below b1)
  have HZ1 := hide ((unhide HZ).below b1)
  have HZ1' := hide ((unhide HZ').below b1)
  clear HX0 HY0 HB0 HI HI' HZ HZ' HR HR' b1
  obtain ⟨p0, p1, p2, p3⟩ := unhide HX1
  obtain ⟨q0, q1, q2, q3⟩ := unhide HY1
  go_wp2_with fail
  clear p0 p1 p2 p3 q0 q1 q2 q3
  refine (In.eqS _ _ cs _ _ _ hc (unhide HI1) (unhide HI1')).mono ?_
  rintro e w2 ⟨rfl, b2⟩
  have HX2 := hide ((unhide HX1).below b2)
  have HY2 := hide ((unhide HY1).below b2)
  have HB2 := hide ((unhide HB1).trans (b2.mono (unhide HB1).size))
  have HZ2 := hide ((unhide HZ1).below b2)
  have HZ2' := hide ((unhide HZ1').below b2)
  clear HX1 HY1 HB1 HI1 HI1' HZ1 HZ1' b2
  obtain ⟨p0, p1, p2, p3⟩ := unhide HX2
  obtain ⟨q0, q1, q2, q3⟩ := unhide HY2
  go_wp2_with fail
  clear p0 p1 p2 p3 q0 q1 q2 q3
  refine (Fm.eqS _ _ fs _ _ _ hf (unhide HZ2) (unhide HZ2')).mono ?_
  rintro e w3 ⟨rfl, b3⟩
  have HX3 := hide ((unhide HX2).below b3)
  have HY3 := hide ((unhide HY2).below b3)
  have HB3 := hide ((unhide HB2).trans (b3.mono (unhide HB2).size))
  clear HX2 HY2 HB2 HZ2 HZ2' b3
  obtain ⟨p0, p1, p2, p3⟩ := unhide HX3
  obtain ⟨q0, q1, q2, q3⟩ := unhide HY3
  go_wp2_with fail
  go_ret
  exact ⟨rfl, unhide HB3⟩
end Nt
end Go.Proofs.YtfooahhdikobeaaGreat
namespace Go.Proofs.YtfooahhdikobeaaGreat
open Go.ChangeShapes Go.WideShapes Go.ChangeAt Go.RowKit
set_option linter.unusedVariables false
set_option linter.unusedSimpArgs false
set_option maxRecDepth 100000
attribute [local go_sem ↓] Go.wp_at_zero Go.wp_at_succ
namespace Nt
open W1 Rt
set_option maxHeartbeats 8000000 in
theorem markNt (a b d : Option Addr) (ca cb cd : Nat) (t : Int) (K : Int) (lo hi : Nat) (ms : List Rm) (qs : List Pl) (cs : List Int) (fs : List Fm.R) (w : World) (hm : ms.length ≤ 1048576) (hc : cs.length ≤ 1048576) (hf : fs.length ≤ 1048576) (hK : 0 ≤ K) (hK1 : K + totK ms cs fs ≤ 99999990) (hs : ∀ i, i < ms.length → Sm (ms.getD i Rm.zero)) (hlo : lo ≤ w.heap.size) (hhi : hi ≤ w.heap.size) (h : MT w lo hi a b d ms qs cs fs) :
    Calls Tryz.prog 16 #[.agg #[.slice a ms.length ca, .slice b cs.length cb, .slice d fs.length cd, .int .i64 t], .int .i64 K] w fun e w' => e = .returned (.int .i64 (K + totK ms cs fs)) ∧ w.heap.size ≤ w'.heap.size ∧ Below lo w w' ∧ MM w' a b d K ms qs cs fs lo hi ∧ ∀ k, k < w.heap.size → (k < lo ∨ hi ≤ k) → w'.heap[k]? = w.heap[k]? := by
  have b0 := bel_new w (.cells #[.slice a ms.length ca, .slice b cs.length cb, .slice d fs.length cd, .int .i64 t] 31)
  have HX0 := hide (nb_new w (.slice a ms.length ca) (.slice b cs.length cb) (.slice d fs.length cd) t 31)
  have HB0 := hide b0
  obtain ⟨f, p1, q1, p2, q2, p3, q3, e1, e2, e3, e4, e5, e6, h1, h2, h3⟩ := h.below b0
  have HL1 := hide h1
  have HL2 := hide h2
  have HL3 := hide h3
  have hz0 : (w.alloc (.cells #[.slice a ms.length ca, .slice b cs.length cb, .slice d fs.length cd, .int .i64 t] 31)).heap.size = w.heap.size + 1 := by simp
  obtain ⟨r, hr⟩ : ∃ r, K + sumK ms ms.length = r := ⟨_, rfl⟩
  have hsp := sumK_pos ms ms.length
  have hr0 : 0 ≤ r := by omega
  have hr1 : r + cs.length + 4 * fs.length ≤ 99999990 := by unfold totK at hK1; omega
  have HTK : Hid (r + (cs.length : Int) + 4 * (fs.length : Int) = K + totK ms cs fs) := hide (by unfold totK; omega)
  have C1 := hide (fun W h => markNF a ca p1 q1 ms.length f K ms (fun i => qs.getD i Pl.zero) W rfl hm hK (by omega) hs h)
  have C2 := hide (fun W h => In.markF b cb p2 q2 r cs W hr0 (by omega) hc h)
  have C3 := hide (fun W h => Fm.mkFF d cd p3 q3 (r + (cs.length : Int)) fs W (by omega) (by omega) hf h)
  rw [hr] at C1
  have HR := hide hr
  clear h h1 h2 h3 b0 hK1 hs hsp hr
  go_enter Tryz.func16, Tryz.ntmps16
  obtain ⟨x0, x1, x2, x3⟩ := unhide HX0
  go_wp2_with fail
  clear x0 x1 x2 x3
  generalize w.alloc (.cells #[.slice a ms.length ca, .slice b cs.length cb, .slice d fs.length cd, .int .i64 t] 31) = w0 at *
  refine (unhide C1 _ (unhide HL1)).mono ?_
  rintro e w1 ⟨rfl, z1, b1, l1, k1⟩
  have HX1 := hide ((unhide HX0).but (k1 w.heap.size (by omega) (.inr (by omega))))
  have HL1' := hide l1
  have HL2' := hide ((unhide HL2).but (p := fun k => k < p1 ∨ q1 ≤ k) z1 (fun k hk h => k1 k hk h) (fun k h1 h2 => by omega))
  have HL3' := hide ((unhide HL3).but (p := fun k => k < p1 ∨ q1 ≤ k) z1 (fun k hk h => k1 k hk h) (fun k h1 h2 => by omega))
  have HB1 := hide (((unhide HB0).mono hlo).trans (b1.mono (by omega)))
  have HO1 : Hid (∀ k, k < w.heap.size → (k < lo ∨ hi ≤ k) → w1.heap[k]? = w.heap[k]?) := hide (fun k hk h => (k1 k (by omega) (by omega)).trans ((unhide HB0).block k hk))
  clear b1 l1 k1 HL1 HL2 HL3 HX0 HB0 C1
  obtain ⟨x0, x1, x2, x3⟩ := unhide HX1
  go_wp2_with fail
  clear x0 x1 x2 x3
  refine (unhide C2 _ (unhide HL2')).mono ?_
  rintro e w2 ⟨rfl, z2, b2, l2, k2⟩
  have HX2 := hide ((unhide HX1).but (k2 w.heap.size (by omega) (.inr (by omega))))
  have HL1 := hide ((unhide HL1').but z2 k2 (by omega))
  have HL2 := hide l2
  have HL3 := hide ((unhide HL3').but (p := fun k => k < p2 ∨ q2 ≤ k) z2 (fun k hk h => k2 k hk h) (fun k h1 h2 => by omega))
  have HB2 := hide ((unhide HB1).trans (b2.mono (by omega)))
  have HO2 : Hid (∀ k, k < w.heap.size → (k < lo ∨ hi ≤ k) → w2.heap[k]? = w.heap[k]?) := hide (fun k hk h => (k2 k (by omega) (by omega)).trans (unhide HO1 k hk h))
  clear b2 l2 k2 HL1' HL2' HL3' HX1 HB1 HO1 C2
  obtain ⟨x0, x1, x2, x3⟩ := unhide HX2
  go_wp2_with fail
  clear x0 x1 x2 x3
  refine (unhide C3 _ (unhide HL3)).mono ?_
  rintro e w3 ⟨rfl, z3, b3, l3, k3⟩
  have HL1' := hide ((unhide HL1).but z3 k3 (by omega))
  have HL2' := hide ((unhide HL2).but (p := fun k => k < p3 ∨ q3 ≤ k) z3 (fun k hk h => k3 k hk h) (fun k h1 h2 => by omega))
  have HL3' := hide l3
  have HB3 := hide ((unhide HB2).trans (b3.mono (by omega)))
  have HO3 : Hid (∀ k, k < w.heap.size → (k < lo ∨ hi ≤ k) → w3.heap[k]? = w.heap[k]?) := hide (fun k hk h => (k3 k (by omega) (by omega)).trans (unhide HO2 k hk h))
  clear b3 l3 k3 HL1 HL2 HL3 HX2 HB2 HO2 C3
  go_wp2_with fail
  go_ret
  refine ⟨by rw [unhide HTK]; rfl, by omega, unhide HB3, ⟨f, p1, q1, p2, q2, p3, q3, ⟨e1, e2, e3⟩, unhide HL1', by rw [unhide HR]; exact unhide HL2', by rw [unhide HR]; exact unhide HL3'⟩, unhide HO3⟩
end Nt
end Go.Proofs.YtfooahhdikobeaaGreat
namespace Go.Proofs.YtfooahhdikobeaaGreat
open Go.ChangeShapes Go.WideShapes Go.ChangeAt Go.RowKit
set_option linter.unusedVariables false
set_option linter.unusedSimpArgs false
set_option maxRecDepth 100000
attribute [local go_sem ↓] Go.wp_at_zero Go.wp_at_succ
namespace Nt
open W1 Rt
end Nt
end Go.Proofs.YtfooahhdikobeaaGreat
namespace Go.Proofs.YtfooahhdikobeaaGreat.fnExactWalk
open Go.ChangeShapes Go.WideShapes Go.ChangeAt Go.RowKit
open W1 Rt Nt
set_option linter.unusedVariables false
set_option linter.unusedSimpArgs false
theorem own : ownKnob Tryz.prog.godebug = none := by kernel_rfl
theorem laidOut : laidOutB Tryz.prog = true := by kernel_rfl
set_option maxRecDepth 100000 in
set_option maxHeartbeats 32000000 in
theorem walk (a b d : Option Addr) (ca cb cd : Nat) (t : Int) (ms : List Rm) (ps : List Pl) (cs : List Int) (fs : List Fm.R) (hx1 : ms.length ≤ maxLen) (hx2 : cs.length ≤ maxLen) (hx3 : fs.length ≤ maxLen) (hx4 : ∀ i, i < ms.length → Sx (ms.getD i Rm.zero)) (hx5 : ∀ i, i < fs.length → (fs.getD i Fm.R.zero).bs.size ≤ maxLen) (x : Int) (wx : (Lit.int .i64 x).wf = true) (y : Int) (wy : (Lit.int .i64 y).wf = true) (w : World) (hr : NR w a ms ps) (hi : In.RM w b cs) (hz : Fm.RM w d fs) :
    Calls Tryz.prog 10 #[.agg #[.slice a ms.length ca, .slice b cs.length cb, .slice d fs.length cd, .int .i64 t], .int .i64 x, .int .i64 y] w fun e w' => e = .returned (.bool true) ∧ Below w.heap.size w w' := by
  have Q0 := hide (nb_new w (.slice a ms.length ca) (.slice b cs.length cb) (.slice d fs.length cd) t 26)
  have B0 := bel_new w (.cells #[.slice a ms.length ca, .slice b cs.length cb, .slice d fs.length cd, .int .i64 t] 26)
  have HR0 := hide (hr.below B0)
  have HI0 := hide (hi.below B0)
  have HZ0 := hide (hz.below B0)
  have HRW := hide hr
  have HIW := hide hi
  have HZW := hide hz
  have hq0 : (w.alloc (.cells #[.slice a ms.length ca, .slice b cs.length cb, .slice d fs.length cd, .int .i64 t] 26)).heap.size = w.heap.size + 1 := by simp
  clear hr hi hz
  go_enter Tryz.func10, Tryz.ntmps10
  obtain ⟨k0_0, k0_1, k0_2, k0_3⟩ := unhide Q0
  go_wp2_with fail
  clear k0_0 k0_1 k0_2 k0_3
  generalize hW_ : w.alloc (.cells #[.slice a ms.length ca, .slice b cs.length cb, .slice d fs.length cd, .int .i64 t] 26) = w0 at *
  clear hW_
  refine (szNt a b d ca cb cd t ms ps cs fs 1048576 _ (by omega) (by omega) hx1 hx2 hx3 hx4 hx5 (unhide HR0) (unhide HZ0)).mono ?_
  rintro e w1 ⟨r1, rfl, b1, hs_⟩
  have B1 := B0.trans (b1.mono B0.size)
  have sz1 : w0.heap.size ≤ w1.heap.size := b1.size
  have Q1 := hide ((unhide Q0).below b1)
  have HR1 := hide ((unhide HR0).below b1)
  have HI1 := hide ((unhide HI0).below b1)
  have HZ1 := hide ((unhide HZ0).below b1)
  clear Q0 HR0 HI0 HZ0
  rcases hs_ with hs_ | ⟨hs0, hs1⟩
  · go_wp2_with fail
    go_ret
    exact ⟨rfl, B1⟩
  have hnn : ¬ r1 < 0 := by omega
  have t0_ := tot_nonneg ms
  have t1_ := totF_nonneg fs
  have hm1 : ms.length ≤ 1048576 := by omega
  have hm2 : cs.length ≤ 1048576 := by omega
  have hm3 : fs.length ≤ 1048576 := by omega
  have HSM := hide (fun i (hi : i < ms.length) => sm_of (m := ms.getD i Rm.zero) (by have := cnt_le hi; omega))
  have HTB := hide (show (ms.length : Int) + tot ms + cs.length + fs.length + totF fs ≤ 1048576 by omega)
  have HGZ := hide hx5
  clear hs0 hs1 t0_ t1_ hx1 hx2 hx3 hx4 hx5
  have HTP := hide (totK_pos ms cs fs)
  have HTK := hide (totK_le (ms := ms) (cs := cs) (fs := fs) (unhide HTB))
  have hol : (wlA (netB ms cs fs t) (inB x 1 ms.length) (inB y 1 ms.length) ms x y).length ≤ 1048576 := (by unfold wlA; split <;> rename_i hq_ <;> (try simp); have l_ := wk_len (okW ms y) (nxW ms y) y ms.length x [x]; have n_ := (netB_n (pc_yes hq_).1).2.1; simp at l_; omega)
  obtain ⟨v2, hv2_⟩ : ∃ v2, wlE (netB ms cs fs t) (inB x 1 ms.length) (inB y 1 ms.length) ms x y = v2 := ⟨_, rfl⟩
  have Hv2 := hide hv2_
  clear hv2_
  have nv2 : (v2 != v2) = false := by simp
  obtain ⟨k0_0, k0_1, k0_2, k0_3⟩ := unhide Q1
  go_wp2_with fail
  clear k0_0 k0_1 k0_2 k0_3
  refine (toNt a b d ca cb cd t ms ps cs fs _ hm1 hm2 hm3 (unhide HSM) (unhide HR1) ((unhide HI1)) (unhide HZ1)).mono ?_
  rintro e w2 ⟨s1, s2, s3, sq, rfl, b2, o_⟩
  have B2 := B1.trans (b2.mono B1.size)
  have sz2 : w1.heap.size ≤ w2.heap.size := b2.size
  have Q2 := hide ((unhide Q1).below b2)
  have HR2 := hide ((unhide HR1).below b2)
  have HI2 := hide ((unhide HI1).below b2)
  have HZ2 := hide ((unhide HZ1).below b2)
  clear Q1 HR1 HI1 HZ1
  have S2 := hide o_
  clear o_
  go_wp2_with fail
  refine (specWL _ _ _ _ _ _ t ms _ cs fs x y _ hm1 hm2 hm3 (unhide HSM) (unhide HGZ) (unhide S2).nr (unhide S2).ri (unhide S2).rf).mono ?_
  rintro e w3 ⟨v_, rfl, b3, l_⟩
  have B3 := B2.trans (b3.mono B2.size)
  have sz3 : w2.heap.size ≤ w3.heap.size := b3.size
  have Q3 := hide ((unhide Q2).below b3)
  have HR3 := hide ((unhide HR2).below b3)
  have HI3 := hide ((unhide HI2).below b3)
  have HZ3 := hide ((unhide HZ2).below b3)
  have S3 := hide ((unhide S2).below b3)
  clear Q2 HR2 HI2 HZ2 S2
  obtain ⟨aW3, cW3, rfl, L_⟩ := l_
  have W3 := hide L_
  clear L_
  obtain ⟨LL, hLL⟩ : ∃ LL, wlA (netB ms cs fs t) (inB x 1 ms.length) (inB y 1 ms.length) ms x y = LL := ⟨_, rfl⟩
  have HLL := hide hLL
  rw [hLL] at hol W3
  clear hLL
  try rw [unhide HLL]
  rw [unhide Hv2]
  clear S3
  obtain ⟨k0_0, k0_1, k0_2, k0_3⟩ := unhide Q3
  go_wp2_with fail
  clear k0_0 k0_1 k0_2 k0_3
  refine (toNt a b d ca cb cd t ms ps cs fs _ hm1 hm2 hm3 (unhide HSM) (unhide HR3) ((unhide HI3)) (unhide HZ3)).mono ?_
  rintro e w4 ⟨x1, x2, x3, xq, rfl, b4, o_⟩
  have B4 := B3.trans (b4.mono B3.size)
  have sz4 : w3.heap.size ≤ w4.heap.size := b4.size
  have Q4 := hide ((unhide Q3).below b4)
  have HR4 := hide ((unhide HR3).below b4)
  have HI4 := hide ((unhide HI3).below b4)
  have HZ4 := hide ((unhide HZ3).below b4)
  have W4 := hide ((unhide W3).below b4)
  clear Q3 HR3 HI3 HZ3 W3
  have X4 := hide o_
  clear o_
  have b5 := bel_new w4 (.cells #[.slice (some ⟨x1, 0, none⟩) ms.length ms.length, .slice (some ⟨x2, 0, none⟩) cs.length cs.length, .slice (some ⟨x3, 0, none⟩) fs.length fs.length, .int .i64 t] 31)
  have B5 := B4.trans (b5.mono B4.size)
  have sz5 : w4.heap.size ≤ (w4.alloc (.cells #[.slice (some ⟨x1, 0, none⟩) ms.length ms.length, .slice (some ⟨x2, 0, none⟩) cs.length cs.length, .slice (some ⟨x3, 0, none⟩) fs.length fs.length, .int .i64 t] 31)).heap.size := b5.size
  have Q5 := hide ((unhide Q4).below b5)
  have HR5 := hide ((unhide HR4).below b5)
  have HI5 := hide ((unhide HI4).below b5)
  have HZ5 := hide ((unhide HZ4).below b5)
  have W5 := hide ((unhide W4).below b5)
  have X5 := hide ((unhide X4).below b5)
  clear Q4 HR4 HI4 HZ4 W4 X4
  have V5 := hide (nb_new w4 (.slice (some ⟨x1, 0, none⟩) ms.length ms.length) (.slice (some ⟨x2, 0, none⟩) cs.length cs.length) (.slice (some ⟨x3, 0, none⟩) fs.length fs.length) t 31)
  obtain ⟨k0_0, k0_1, k0_2, k0_3⟩ := unhide V5
  go_wp2_with fail
  clear k0_0 k0_1 k0_2 k0_3
  generalize hW_ : (w4.alloc (.cells #[.slice (some ⟨x1, 0, none⟩) ms.length ms.length, .slice (some ⟨x2, 0, none⟩) cs.length cs.length, .slice (some ⟨x3, 0, none⟩) fs.length fs.length, .int .i64 t] 31)) = w5 at *
  clear hW_
  refine (implWL _ _ _ _ _ _ t ms _ cs fs x y _ hm1 hm2 hm3 (unhide HSM) (unhide HGZ) (unhide X5).nr (unhide X5).ri (unhide X5).rf).mono ?_
  rintro e w6 ⟨v_, rfl, b6, l_⟩
  have B6 := B5.trans (b6.mono B5.size)
  have sz6 : w5.heap.size ≤ w6.heap.size := b6.size
  have Q6 := hide ((unhide Q5).below b6)
  have HR6 := hide ((unhide HR5).below b6)
  have HI6 := hide ((unhide HI5).below b6)
  have HZ6 := hide ((unhide HZ5).below b6)
  have W6 := hide ((unhide W5).below b6)
  have X6 := hide ((unhide X5).below b6)
  have V6 := hide ((unhide V5).below b6)
  clear Q5 HR5 HI5 HZ5 W5 X5 V5
  obtain ⟨aG6, cG6, rfl, L_⟩ := l_
  have G6 := hide L_
  clear L_
  rw [unhide HLL] at G6
  try rw [unhide HLL]
  rw [unhide Hv2]
  go_wp2_with fail
  refine (In.eqS _ _ LL _ _ _ hol (unhide G6).rm (unhide W6).rm).mono ?_
  rintro e w7 ⟨rfl, b7⟩
  have B7 := B6.trans (b7.mono B6.size)
  have sz7 : w6.heap.size ≤ w7.heap.size := b7.size
  have Q7 := hide ((unhide Q6).below b7)
  have HR7 := hide ((unhide HR6).below b7)
  have HI7 := hide ((unhide HI6).below b7)
  have HZ7 := hide ((unhide HZ6).below b7)
  have W7 := hide ((unhide W6).below b7)
  have X7 := hide ((unhide X6).below b7)
  have V7 := hide ((unhide V6).below b7)
  have G7 := hide ((unhide G6).below b7)
  clear Q6 HR6 HI6 HZ6 W6 X6 V6 G6
  obtain ⟨k0_0, k0_1, k0_2, k0_3⟩ := unhide V7
  obtain ⟨k1_0, k1_1, k1_2, k1_3⟩ := unhide Q7
  go_wp2_with fail
  clear k0_0 k0_1 k0_2 k0_3 k1_0 k1_1 k1_2 k1_3
  refine wp_region_noPanic ?_
  refine wp_region_held_drew (S := fun w' => (w'.cell? ⟨w4.heap.size, 0, none⟩ = some (.slice (some ⟨x1, 0, none⟩) ms.length ms.length) ∧ w'.cell? ⟨w4.heap.size, 1, none⟩ = some (.slice (some ⟨x2, 0, none⟩) cs.length cs.length) ∧ w'.cell? ⟨w4.heap.size, 2, none⟩ = some (.slice (some ⟨x3, 0, none⟩) fs.length fs.length) ∧ w'.cell? ⟨w4.heap.size, 3, none⟩ = some (.int .i64 t)) ∧ (w'.cell? ⟨w.heap.size, 0, none⟩ = some (.slice a ms.length ca) ∧ w'.cell? ⟨w.heap.size, 1, none⟩ = some (.slice b cs.length cb) ∧ w'.cell? ⟨w.heap.size, 2, none⟩ = some (.slice d fs.length cd) ∧ w'.cell? ⟨w.heap.size, 3, none⟩ = some (.int .i64 t))) (by kernel_rfl) (⟨unhide V7, unhide Q7⟩) (fun hHeld => ?_)
  refine Rg.t (v := .agg #[.slice (some ⟨x1, 0, none⟩) ms.length ms.length, .slice (some ⟨x2, 0, none⟩) cs.length cs.length, .slice (some ⟨x3, 0, none⟩) fs.length fs.length, .int .i64 t]) 0 49 ?_ (hv := fun w0 hSw => execNB _ rfl rfl hSw.1)
  refine Rg.t (v := .agg #[.slice a ms.length ca, .slice b cs.length cb, .slice d fs.length cd, .int .i64 t]) 1 50 ?_ (hv := fun w0 hSw => execNW _ rfl rfl hSw.2)
  (refine Rg.o 2 (fun K hK => ?_); go_simp)
  refine (toNt a b d ca cb cd t ms ps cs fs _ hm1 hm2 hm3 (unhide HSM) (unhide HR7).drew (drewI (unhide HI7)) (unhide HZ7).drew).mono ?_
  rintro e w8 ⟨y1, y2, y3, yq, rfl, b8_, o_⟩
  have b8 : Below w7.heap.size w7 w8 := (Below.refl _ _).drew.trans b8_
  have B8 := B7.trans (b8.mono B7.size)
  have sz8 : w7.heap.size ≤ w8.heap.size := b8.size
  have Q8 := hide ((unhide Q7).below b8)
  have HR8 := hide ((unhide HR7).below b8)
  have HI8 := hide ((unhide HI7).below b8)
  have HZ8 := hide ((unhide HZ7).below b8)
  have W8 := hide ((unhide W7).below b8)
  have X8 := hide ((unhide X7).below b8)
  have V8 := hide ((unhide V7).below b8)
  have G8 := hide ((unhide G7).below b8)
  clear Q7 HR7 HI7 HZ7 W7 X7 V7 G7
  have Y8 := hide o_
  clear o_
  refine hK.out _ _ (⟨unhide V8, unhide Q8⟩) (fun hHeld => ?_)
  clear hK K
  (try simp only [Act.put, List.setIfInBounds_toArray, List.set_cons_zero, List.set_cons_succ])
  (refine Rg.o 3 (fun K hK => ?_); go_simp)
  refine (eqNt _ _ _ _ _ _ _ _ _ _ _ _ t ms _ _ cs fs _ hm1 hm2 hm3 (unhide HSM) (unhide X8).nr (unhide Y8).nr (unhide X8).ri (unhide Y8).ri (unhide X8).rf (unhide Y8).rf).mono ?_
  rintro e w9 ⟨rfl, b9⟩
  have B9 := B8.trans (b9.mono B8.size)
  have sz9 : w8.heap.size ≤ w9.heap.size := b9.size
  have Q9 := hide ((unhide Q8).below b9)
  have HR9 := hide ((unhide HR8).below b9)
  have HI9 := hide ((unhide HI8).below b9)
  have HZ9 := hide ((unhide HZ8).below b9)
  have W9 := hide ((unhide W8).below b9)
  have X9 := hide ((unhide X8).below b9)
  have V9 := hide ((unhide V8).below b9)
  have G9 := hide ((unhide G8).below b9)
  have Y9 := hide ((unhide Y8).below b9)
  clear Q8 HR8 HI8 HZ8 W8 X8 V8 G8 Y8
  clear Y9
  refine hK.out _ _ (⟨unhide V9, unhide Q9⟩) (fun hHeld => ?_)
  clear hK K
  (try simp only [Act.put, List.setIfInBounds_toArray, List.set_cons_zero, List.set_cons_succ])
  refine Rg.t 4 53 ?_
  refine wpAnyH_done (by kernel_rfl) (NoPanic.normal ?_) _
  clear hHeld
  obtain ⟨k0_0, k0_1, k0_2, k0_3⟩ := unhide V9
  go_wp2_with fail
  clear k0_0 k0_1 k0_2 k0_3
  refine (markNt _ _ _ _ _ _ t 1 w3.heap.size w4.heap.size ms _ cs fs _ hm1 hm2 hm3 (by omega) (unhide HTK) (unhide HSM) (by omega) (by omega) (unhide X9).mt).mono ?_
  rintro e w10 ⟨rfl, hz_, b_, _, k_⟩
  have sz10 := hz_
  have B10 := B9.trans (b_.mono (by omega))
  clear b_
  have Q10 := hide ((unhide Q9).but (k_ w.heap.size (by omega) (.inl (by omega))))
  have HR10 := hide ((unhide HRW).below B10)
  have HI10 := hide ((unhide HIW).below B10)
  have HZ10 := hide ((unhide HZW).below B10)
  have W10 := hide ((unhide W9).but (p := fun k => k < w3.heap.size ∨ w4.heap.size ≤ k) hz_ (fun k hk h => k_ k hk h) (fun k h1 h2 => by omega))
  have G10 := hide ((unhide G9).but (p := fun k => k < w3.heap.size ∨ w4.heap.size ≤ k) hz_ (fun k hk h => k_ k hk h) (fun k h1 h2 => by omega))
  clear Q9 HR9 HI9 HZ9 W9 G9
  clear V9 X9 k_ hz_
  have hpk : ¬ (1 + totK ms cs fs < 0) := by have := unhide HTP; omega
  go_wp2_with fail
  refine (In.eqS _ _ LL _ _ _ hol (unhide G10).rm (unhide W10).rm).mono ?_
  rintro e w11 ⟨rfl, b11⟩
  have B11 := B10.trans (b11.mono B10.size)
  have sz11 : w10.heap.size ≤ w11.heap.size := b11.size
  have Q11 := hide ((unhide Q10).below b11)
  have HR11 := hide ((unhide HR10).below b11)
  have HI11 := hide ((unhide HI10).below b11)
  have HZ11 := hide ((unhide HZ10).below b11)
  have W11 := hide ((unhide W10).below b11)
  have G11 := hide ((unhide G10).below b11)
  clear Q10 HR10 HI10 HZ10 W10 G10
  go_wp2_with fail
  refine (In.markF _ _ _ _ 1 LL _ (by omega) (by omega) hol (unhide G11)).mono ?_
  rintro e w12 ⟨rfl, hz_, b_, f_, k_⟩
  have sz12 := hz_
  have B12 := B11.trans (b_.mono (by omega))
  have M12 := hide f_
  clear b_ f_
  have Q12 := hide ((unhide Q11).but (k_ w.heap.size (by omega) (.inl (by omega))))
  have HR12 := hide ((unhide HRW).below B12)
  have HI12 := hide ((unhide HIW).below B12)
  have HZ12 := hide ((unhide HZW).below B12)
  have W12 := hide ((unhide W11).but (p := fun k => k < w5.heap.size ∨ w6.heap.size ≤ k) hz_ (fun k hk h => k_ k hk h) (fun k h1 h2 => by omega))
  clear Q11 HR11 HI11 HZ11 W11
  clear G11 k_ hz_
  have hpm : ¬ (1 + 1 * (LL.length : Int) < 0) := by omega
  go_wp2_with fail
  refine (In.heldF _ _ LL.length _ _ 1 _ (by omega) (by omega) hol (unhide M12)).mono ?_
  rintro e wh ⟨rfl, hwh⟩
  rw [hwh]
  clear hwh wh
  obtain ⟨k0_0, k0_1, k0_2, k0_3⟩ := unhide Q12
  go_wp2_with fail
  clear k0_0 k0_1 k0_2 k0_3
  refine (toNt a b d ca cb cd t ms ps cs fs _ hm1 hm2 hm3 (unhide HSM) (unhide HR12) ((unhide HI12)) (unhide HZ12)).mono ?_
  rintro e w13 ⟨z1, z2, z3, zq, rfl, b13, o_⟩
  have B13 := B12.trans (b13.mono B12.size)
  have sz13 : w12.heap.size ≤ w13.heap.size := b13.size
  have Q13 := hide ((unhide Q12).below b13)
  have HR13 := hide ((unhide HR12).below b13)
  have HI13 := hide ((unhide HI12).below b13)
  have HZ13 := hide ((unhide HZ12).below b13)
  have W13 := hide ((unhide W12).below b13)
  have M13 := hide ((unhide M12).below b13)
  clear Q12 HR12 HI12 HZ12 W12 M12
  have Z13 := hide o_
  clear o_
  go_wp2_with fail
  refine (implWL _ _ _ _ _ _ t ms _ cs fs x y _ hm1 hm2 hm3 (unhide HSM) (unhide HGZ) (unhide Z13).nr (unhide Z13).ri (unhide Z13).rf).mono ?_
  rintro e w14 ⟨v_, rfl, b14, l_⟩
  have B14 := B13.trans (b14.mono B13.size)
  have sz14 : w13.heap.size ≤ w14.heap.size := b14.size
  have Q14 := hide ((unhide Q13).below b14)
  have HR14 := hide ((unhide HR13).below b14)
  have HI14 := hide ((unhide HI13).below b14)
  have HZ14 := hide ((unhide HZ13).below b14)
  have W14 := hide ((unhide W13).below b14)
  have M14 := hide ((unhide M13).below b14)
  have Z14 := hide ((unhide Z13).below b14)
  clear Q13 HR13 HI13 HZ13 W13 M13 Z13
  obtain ⟨aH14, cH14, rfl, L_⟩ := l_
  have H14 := hide L_
  clear L_
  rw [unhide HLL] at H14
  try rw [unhide HLL]
  rw [unhide Hv2]
  go_wp2_with fail
  refine (In.eqS _ _ LL _ _ _ hol (unhide H14).rm (unhide W14).rm).mono ?_
  rintro e w15 ⟨rfl, b15⟩
  have B15 := B14.trans (b15.mono B14.size)
  have sz15 : w14.heap.size ≤ w15.heap.size := b15.size
  have Q15 := hide ((unhide Q14).below b15)
  have HR15 := hide ((unhide HR14).below b15)
  have HI15 := hide ((unhide HI14).below b15)
  have HZ15 := hide ((unhide HZ14).below b15)
  have W15 := hide ((unhide W14).below b15)
  have M15 := hide ((unhide M14).below b15)
  have Z15 := hide ((unhide Z14).below b15)
  have H15 := hide ((unhide H14).below b15)
  clear Q14 HR14 HI14 HZ14 W14 M14 Z14 H14
  go_wp2_with fail
  refine (In.heldF _ _ LL.length _ _ 1 _ (by omega) (by omega) hol (unhide M15)).mono ?_
  rintro e wh ⟨rfl, hwh⟩
  rw [hwh]
  clear hwh wh
  have HF := hide B15
  go_wp2_with fail
  go_ret
  exact ⟨rfl, unhide HF⟩

end Go.Proofs.YtfooahhdikobeaaGreat.fnExactWalk
